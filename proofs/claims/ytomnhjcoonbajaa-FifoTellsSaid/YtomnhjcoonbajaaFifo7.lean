/- Contract of the document's All (layer 3). -/
import Derived.Test.YtomnhjcoonbajaaFifo4
import Derived.Test.YtomnhjcoonbajaaFifoV
namespace Go.Proofs.Ytomnhjcoonbajaa
set_option linter.unusedVariables false
set_option linter.unusedSimpArgs false
open Go.ChangeShapes Go.WideShapes Go.ChangeAt Go.RowKit

/-- What the document's All leaves: its values lie where the first ones did, or in new memory. -/
def RetA3 (w : World) (l : List Int) (p0 : Option Addr) (r : Qu × Nat) (e : Ending) (w' : World) : Prop :=
  ∃ (p : Option Addr) (k : Nat), e = .returned (.tuple #[.agg #[.slice p r.1.vals.length k, .int .i64 r.1.cap, .int .i64 r.1.pol, .int .i64 r.1.mode], .int .i64 r.2]) ∧ Sl w' 1 intC r.1.vals (.slice p r.1.vals.length k) ∧ Kept w w' ∧
    (r.1.vals ≠ [] → ∀ x, p = some x → (l ≠ [] ∧ ∃ y, p0 = some y ∧ x.block = y.block) ∨ w.heap.size ≤ x.block)

def RHeld (w : World) (p0 : Option Addr) (a : Qu) (j : Nat) (b : Qu) (wr : World) : Prop :=
  ∃ (ap : Option Addr) (ak : Nat), CellsAt wr [(w.heap.size, 0, .slice ap b.vals.length ak), (w.heap.size, 1, .int .i64 b.cap), (w.heap.size, 2, .int .i64 b.pol), (w.heap.size, 3, .int .i64 b.mode), (w.heap.size + 1, 0, .slice none 0 0), (w.heap.size + 1, 1, .int .i64 0), (w.heap.size + 1, 2, .int .i64 0), (w.heap.size + 1, 3, .int .i64 0)] ∧ (∀ i, wr.frozen? ⟨w.heap.size, i, none⟩ = false) ∧ (∀ i, wr.frozen? ⟨w.heap.size + 1, i, none⟩ = false) ∧ Sl wr 1 intC b.vals (.slice ap b.vals.length ak) ∧
    (b.vals ≠ [] → ∀ x, ap = some x → (a.vals ≠ [] ∧ ∃ y, p0 = some y ∧ x.block = y.block) ∨ w.heap.size + 2 ≤ x.block) ∧ b.vals.length ≤ a.vals.length + j ∧ Below w.heap.size w wr

set_option maxRecDepth 100000 in
set_option maxHeartbeats 8000000 in
theorem rall_any (a : Qu) (es : List En) (p pl : Option Addr) (k kl : Nat) (w : World) (hl : Sl w 1 intC a.vals (.slice p a.vals.length k)) (hes : Sl w 5 En.cells es (.slice pl es.length kl)) (hm : a.vals.length ≤ 200) (hn : es.length ≤ 200) :
    Calls Try.prog 15 #[.agg #[.slice p a.vals.length k, .int .i64 a.cap, .int .i64 a.pol, .int .i64 a.mode], .slice pl es.length kl] w (RetA3 w a.vals p (a.all es)) := by
  obtain ⟨_, _, e1, _, _, _, hec⟩ := hes.is
  cases e1
  have hech := Lib.hid hec
  have hp0 : a.vals ≠ [] → ∀ x, p = some x → x.block < w.heap.size := fun hne x hx => by
    obtain ⟨_, _, e1, _, _, _, h4⟩ := hl.is
    cases e1
    obtain ⟨b, o, h1, h2, _⟩ := h4 hne
    rw [hx] at h1; cases h1
    exact h2
  have hp0h := Lib.hid hp0
  clear hec hp0
  go_enter Try.func15, Try.ntmps15
  go_wp2
  obtain ⟨V0, hV0⟩ : ∃ V0, (w.alloc (.cells #[.slice p a.vals.length k, .int .i64 a.cap, .int .i64 a.pol, .int .i64 a.mode] 24)).alloc (.cells #[.slice none 0 0, .int .i64 0, .int .i64 0, .int .i64 0] 24) = V0 := ⟨_, rfl⟩
  have hcs0 : CellsAt V0 [(w.heap.size, 0, .slice p a.vals.length k), (w.heap.size, 1, .int .i64 a.cap), (w.heap.size, 2, .int .i64 a.pol), (w.heap.size, 3, .int .i64 a.mode), (w.heap.size + 1, 0, .slice none 0 0), (w.heap.size + 1, 1, .int .i64 0), (w.heap.size + 1, 2, .int .i64 0), (w.heap.size + 1, 3, .int .i64 0)] := by rw [← hV0]; (simp only [CellsAt]; (repeat' (first | exact trivial | (refine And.intro ?_ ?_))); all_goals (first | (focus ((try simp only [World.size_setCell, World.size_alloc]); omega)) | (repeat (first | rfl | assumption | (refine (World.cell?_alloc_past _ _ _ ?_).trans ?_; focus ((try simp only [World.size_setCell, World.size_alloc]); omega)) | (refine (World.cell?_alloc_at _ _ _ _ ?_).trans ?_; focus ((try simp only [World.size_setCell, World.size_alloc]); done)) | (refine (World.cell?_setCell_other _ _ _ _ ?_).trans ?_; focus (simp; done)) | (refine (World.cell?_setCell_other _ _ _ _ ?_).trans ?_; focus (simp; omega)) | (refine World.cell?_setCell_same' _ _ _ ?_; focus (first | (simp; done) | (simp [*]; done)))))))
  have hB1 : Below w.heap.size w (w.alloc (.cells #[.slice p a.vals.length k, .int .i64 a.cap, .int .i64 a.pol, .int .i64 a.mode] 24)) := by repeat' (first | (with_reducible exact Below.refl _ _) | (with_reducible assumption) | (with_reducible refine kept_alloc ?_ _) | (with_reducible refine kept_drewN ?_ _) | (with_reducible refine Below.drew ?_) | (with_reducible refine Below.setCell ?_ (by first | omega | (simp; omega) | (simp; done)) _) | (refine kept_trans ?_ (by with_reducible assumption)))
  have hB0 : Below w.heap.size w V0 := by rw [← hV0]; repeat' (first | (with_reducible exact Below.refl _ _) | (with_reducible assumption) | (with_reducible refine kept_alloc ?_ _) | (with_reducible refine kept_drewN ?_ _) | (with_reducible refine Below.drew ?_) | (with_reducible refine Below.setCell ?_ (by first | omega | (simp; omega) | (simp; done)) _) | (refine kept_trans ?_ (by with_reducible assumption)))
  have hfr0 : ∀ j, V0.frozen? ⟨w.heap.size, j, none⟩ = false := by
    intro j
    rw [← hV0]
    exact (((Below.refl _ (w.alloc (.cells #[.slice p a.vals.length k, .int .i64 a.cap, .int .i64 a.pol, .int .i64 a.mode] 24))).alloc (Nat.le_refl _) _).frozen (p := ⟨w.heap.size, j, none⟩) (by simp)).trans (World.frozen?_alloc_at _ _ _ _ rfl)
  have hfr1 : ∀ j, V0.frozen? ⟨w.heap.size + 1, j, none⟩ = false := by intro j; rw [← hV0]; exact World.frozen?_alloc_at _ _ _ _ (by simp)
  have hSl0 : Sl V0 1 intC a.vals (.slice p a.vals.length k) := hl.kept hB0
  rw [hV0]
  clear hV0 hB1
  have hfr0h := Lib.hid hfr0
  have hfr1h := Lib.hid hfr1
  clear hfr0 hfr1
  go_loopw [6] (fun i wr => ∃ (j : Nat) (b : Qu), j ≤ es.length ∧ i = .int .i64 j ∧ Upto a es j b ∧ RHeld w p a j b wr) (fun i _ => es.length - (intOf i).toNat)
  case atStart => exact ⟨0, a, by omega, rfl, upto_zero a es, p, k, hcs0, hfr0h.out, hfr1h.out, hSl0, (fun h x hx => .inl ⟨h, x, hx, rfl⟩), by omega, hB0⟩
  case round =>
    obtain ⟨j, b, hj, rfl, hU, ap, ak, hcs, hfr, hfrr, hS, hal, hbl, hB⟩ := hrel
    have hq0 := hcs.1.2; have hq1 := hcs.2.1.2; have hq2 := hcs.2.2.1.2; have hq3 := hcs.2.2.2.1.2; have hq4 := hcs.2.2.2.2.1.2; have hq5 := hcs.2.2.2.2.2.1.2; have hq6 := hcs.2.2.2.2.2.2.1.2; have hq7 := hcs.2.2.2.2.2.2.2.1.2; have hz0 := hcs.1.1; have hz1 := hcs.2.2.2.2.1.1
    have hfrh := Lib.hid hfr
    have hfrrh := Lib.hid hfrr
    have halh := Lib.hid hal
    have hUh := Lib.hid hU
    clear hfr hfrr hal hU hcs
    by_cases hlt : j < es.length
    · obtain ⟨bl, o, rfl, hblk, hcell⟩ := hech.out (by intro h; subst h; simp at hlt)
      have hx := hcell j es[j] (List.getElem?_eq_getElem hlt)
      have hst := upto_step hlt hUh.out
      have hsp := upto_stop hlt hUh.out
      generalize es[j] = x at hx hst hsp
      have c0 := (hB.cell (p := ⟨bl, _, none⟩) hblk).trans (hx 0 (by omega))
      have c1 := (hB.cell (p := ⟨bl, _, none⟩) hblk).trans (hx 1 (by omega))
      have c2 := (hB.cell (p := ⟨bl, _, none⟩) hblk).trans (hx 2 (by omega))
      have c3 := (hB.cell (p := ⟨bl, _, none⟩) hblk).trans (hx 3 (by omega))
      have c4 := (hB.cell (p := ⟨bl, _, none⟩) hblk).trans (hx 4 (by omega))
      simp [En.cells] at c0 c1 c2 c3 c4
      clear hx hcell
      have hblw : bl < wr.heap.size := Nat.lt_of_lt_of_le hblk hB.size
      have i1 : (0 : Int) ≤ (j : Int) := by omega
      have i2 : (j : Int) < (es.length : Int) := by omega
      have htl := tell_len b x
      obtain ⟨⟨r, may⟩, hrr⟩ : ∃ r, b.tell x = r := ⟨_, rfl⟩
      rw [hrr] at hst hsp htl
      simp only at hst hsp htl
      have hrrh := Lib.hid hrr
      have hsth := Lib.hid hst
      have hsph := Lib.hid hsp
      clear hrr hst hsp
      go_wp2
      go_region_held3 (fun w' => w'.cell? ⟨w.heap.size, 0, none⟩ = some (.slice ap b.vals.length ak) ∧ w'.cell? ⟨w.heap.size, 1, none⟩ = some (.int .i64 b.cap) ∧ w'.cell? ⟨w.heap.size, 2, none⟩ = some (.int .i64 b.pol) ∧ w'.cell? ⟨w.heap.size, 3, none⟩ = some (.int .i64 b.mode) ∧ w'.cell? ⟨bl, o + j * 5, none⟩ = some (.int .i64 x.th) ∧ w'.cell? ⟨bl, o + j * 5 + 1, none⟩ = some (.int .i64 x.ki) ∧ w'.cell? ⟨bl, o + j * 5 + 2, none⟩ = some (.int .i64 x.va) ∧ w'.cell? ⟨bl, o + j * 5 + 3, none⟩ = some (.int .i64 x.re) ∧ w'.cell? ⟨bl, o + j * 5 + 4, none⟩ = some (.int .i64 x.go)) (first | (go_split_ands; refine ⟨?_, ?_, ?_, ?_, ?_, ?_, ?_, ?_, ?_⟩ <;> first | (with_reducible assumption) | (with_reducible (refine (World.cell?_alloc_past _ _ _ (by with_reducible assumption)).trans ?_; assumption)) | (with_reducible (refine (set4_far _ _ _ _ _ _ (by with_reducible assumption)).trans ?_; assumption))) | go_keep) ((go_at_call 12; refine (rdo_any b x ap ak _ (hS.kept (by repeat' (first | (with_reducible exact Below.refl _ _) | (with_reducible assumption) | (with_reducible refine kept_alloc ?_ _) | (with_reducible refine kept_drewN ?_ _) | (with_reducible refine Below.drew ?_) | (with_reducible refine Below.setCell ?_ (by first | omega | (simp; omega) | (simp; done)) _) | (refine kept_trans ?_ (by with_reducible assumption))))) (by omega)).mono ?_; rw [hrrh.out]; rintro e wx ⟨p1, k1, rfl, hS1, hgx, hf1⟩; simp only at hS1 hf1; have hgw : Below wr.heap.size wr wx := kept_trans (by repeat' (first | (with_reducible exact Below.refl _ _) | (with_reducible assumption) | (with_reducible refine kept_alloc ?_ _) | (with_reducible refine kept_drewN ?_ _) | (with_reducible refine Below.drew ?_) | (with_reducible refine Below.setCell ?_ (by first | omega | (simp; omega) | (simp; done)) _) | (refine kept_trans ?_ (by with_reducible assumption)))) hgx; have s0 := (hgw.cell (p := ⟨w.heap.size, 0, none⟩) hz0).trans hq0; have s1 := (hgw.cell (p := ⟨w.heap.size, 1, none⟩) hz0).trans hq1; have s2 := (hgw.cell (p := ⟨w.heap.size, 2, none⟩) hz0).trans hq2; have s3 := (hgw.cell (p := ⟨w.heap.size, 3, none⟩) hz0).trans hq3; have s4 := (hgw.cell (p := ⟨bl, _, none⟩) hblw).trans c0; have s5 := (hgw.cell (p := ⟨bl, _, none⟩) hblw).trans c1; have s6 := (hgw.cell (p := ⟨bl, _, none⟩) hblw).trans c2; have s7 := (hgw.cell (p := ⟨bl, _, none⟩) hblw).trans c3; have s8 := (hgw.cell (p := ⟨bl, _, none⟩) hblw).trans c4; have hzw : w.heap.size < wx.heap.size := (by have := hgw.size; omega); have hbw : bl < wx.heap.size := (by have := hgw.size; omega); (first | (have hlate : Kept wr.drew wx := (by with_reducible exact hgx)) | (obtain ⟨⟨n0, n1, n2, n3⟩, ⟨nf0, nf1, nf2, nf3⟩, hzn⟩ := fresh_nil hgx))))
      all_goals
        first
          | (have hN := next_late (wr := wr) hgx hS1 hf1; generalize wx.alloc (.cells #[.slice p1 r.vals.length k1, .int .i64 r.cap, .int .i64 r.pol, .int .i64 r.mode] 24) = W at hN ⊢; generalize wx.heap.size = xb at hN ⊢)
          | (have hN := next_early (wr := wr) hS hgx hS1 hf1; generalize ((((wx.setCell ⟨wr.heap.size, 0, none⟩ (.slice p1 r.vals.length k1)).setCell ⟨wr.heap.size, 1, none⟩ (.int .i64 r.cap)).setCell ⟨wr.heap.size, 2, none⟩ (.int .i64 r.pol)).setCell ⟨wr.heap.size, 3, none⟩ (.int .i64 r.mode)) = W at hN ⊢; generalize wr.heap.size = xb at hN ⊢)
      all_goals
        obtain ⟨⟨x0, x1, x2, x3⟩, hgW, hSW, hfW, hxb, hxs⟩ := hN
        clear hgx hS1 hf1 hgw s0 s1 s2 s3 s4 s5 s6 s7 s8 hzw hbw
        have t0 := (hgW.cell (p := ⟨w.heap.size, 0, none⟩) hz0).trans hq0
        have t1 := (hgW.cell (p := ⟨w.heap.size, 1, none⟩) hz0).trans hq1
        have t2 := (hgW.cell (p := ⟨w.heap.size, 2, none⟩) hz0).trans hq2
        have t3 := (hgW.cell (p := ⟨w.heap.size, 3, none⟩) hz0).trans hq3
        have r0 := (hgW.cell (p := ⟨w.heap.size + 1, 0, none⟩) hz1).trans hq4
        have r1 := (hgW.cell (p := ⟨w.heap.size + 1, 1, none⟩) hz1).trans hq5
        have r2 := (hgW.cell (p := ⟨w.heap.size + 1, 2, none⟩) hz1).trans hq6
        have r3 := (hgW.cell (p := ⟨w.heap.size + 1, 3, none⟩) hz1).trans hq7
        have tf := fun i => (hgW.frozen (p := ⟨w.heap.size, i, none⟩) hz0).trans (hfrh.out i)
        have rf := fun i => (hgW.frozen (p := ⟨w.heap.size + 1, i, none⟩) hz1).trans (hfrrh.out i)
        have tf0 := tf 0
        have tf1 := tf 1
        have tf2 := tf 2
        have tf3 := tf 3
        have rf0 := rf 0
        have rf1 := rf 1
        have rf2 := rf 2
        have rf3 := rf 3
        have tfh := Lib.hid tf
        have rfh := Lib.hid rf
        have hzW : w.heap.size < W.heap.size := by have := hgW.size; omega
        have hzW1 : w.heap.size + 1 < W.heap.size := by have := hgW.size; omega
        have hne : w.heap.size ≠ xb := by omega
        have hBW : Below w.heap.size w W := hB.trans (hgW.mono hB.size)
        have hSbW := hS.kept hgW
        clear tf rf hq0 hq1 hq2 hq3 hq4 hq5 hq6 hq7 c0 c1 c2 c3 c4
        cases may
        · have hspo := Lib.hid (hsph.out rfl)
          go_wp2
          refine bodyPost_ret (v := .tuple #[.agg #[.slice ap b.vals.length ak, .int .i64 b.cap, .int .i64 b.pol, .int .i64 b.mode], .int .i64 j]) (by simp [results, Try.results15, go_sem, *]) rfl ?_
          rw [hspo.out]
          have hne : b.vals ≠ [] → ∀ x, ap = some x → x.block ≠ w.heap.size + 1 := fun h x hx => by
            rcases halh.out h x hx with ⟨h1, y, hy, e⟩ | h'
            · have := hp0h.out h1 y hy; omega
            · omega
          exact ⟨_, _, rfl, Sl.setFar (Sl.setFar (Sl.setFar (Sl.setFar hSbW hne _) hne _) hne _) hne _, (by repeat' (first | (with_reducible exact Below.refl _ _) | (with_reducible assumption) | (with_reducible refine kept_alloc ?_ _) | (with_reducible refine kept_drewN ?_ _) | (with_reducible refine Below.drew ?_) | (with_reducible refine Below.setCell ?_ (by first | omega | (simp; omega) | (simp; done)) _) | (refine kept_trans ?_ (by with_reducible assumption)))), fun h x hx => (halh.out h x hx).imp id (fun h' => by omega)⟩
        · have hsto := Lib.hid (hsth.out rfl)
          have hfin : RHeld w p a (j + 1) r ((((W.setCell ⟨w.heap.size, 0, none⟩ (.slice p1 r.vals.length k1)).setCell ⟨w.heap.size, 1, none⟩ (.int .i64 r.cap)).setCell ⟨w.heap.size, 2, none⟩ (.int .i64 r.pol)).setCell ⟨w.heap.size, 3, none⟩ (.int .i64 r.mode)) := by
            have hfr : r.vals ≠ [] → ∀ x, p1 = some x → (a.vals ≠ [] ∧ ∃ y, p = some y ∧ x.block = y.block) ∨ w.heap.size + 2 ≤ x.block := fun h x hx => by
              rcases hfW h x hx with ⟨hb', y, hy, e⟩ | h'
              · rw [e]; exact halh.out hb' y hy
              · exact .inr (by omega)
            have hnw : r.vals ≠ [] → ∀ x, p1 = some x → x.block ≠ w.heap.size := fun h x hx => by
              rcases hfr h x hx with ⟨h1, y, hy, e⟩ | h'
              · have := hp0h.out h1 y hy; omega
              · omega
            have hs4 := set4_at (.slice p1 r.vals.length k1) (.int .i64 r.cap) (.int .i64 r.pol) (.int .i64 r.mode) t3
            have hoff : ∀ i, ((((W.setCell ⟨w.heap.size, 0, none⟩ (.slice p1 r.vals.length k1)).setCell ⟨w.heap.size, 1, none⟩ (.int .i64 r.cap)).setCell ⟨w.heap.size, 2, none⟩ (.int .i64 r.pol)).setCell ⟨w.heap.size, 3, none⟩ (.int .i64 r.mode)).cell? ⟨w.heap.size + 1, i, none⟩ = W.cell? ⟨w.heap.size + 1, i, none⟩ := fun i => by
              have g : ∀ (Z : World) (c : Addr) (u : Value), c.block = w.heap.size → (Z.setCell c u).cell? ⟨w.heap.size + 1, i, none⟩ = Z.cell? ⟨w.heap.size + 1, i, none⟩ := fun Z c u hc => World.cell?_of_block (w := Z) (Below.heap_setCell _ _ _ _ (by rw [hc]; show w.heap.size + 1 ≠ _; omega))
              rw [g _ _ _ rfl, g _ _ _ rfl, g _ _ _ rfl, g _ _ _ rfl]
            refine ⟨p1, k1, ⟨⟨?_, hs4.1⟩, ⟨?_, hs4.2.1⟩, ⟨?_, hs4.2.2.1⟩, ⟨?_, hs4.2.2.2⟩, ⟨?_, (hoff 0).trans r0⟩, ⟨?_, (hoff 1).trans r1⟩, ⟨?_, (hoff 2).trans r2⟩, ⟨?_, (hoff 3).trans r3⟩, trivial⟩, fun i => ?_, fun i => ?_, Sl.setFar (Sl.setFar (Sl.setFar (Sl.setFar hSW hnw _) hnw _) hnw _) hnw _, hfr, by omega, ?_⟩
            · simp; omega
            · simp; omega
            · simp; omega
            · simp; omega
            · simp; omega
            · simp; omega
            · simp; omega
            · simp; omega
            · have := tfh.out i; simpa using this
            · have := rfh.out i; simpa using this
            · exact (((hBW.setCell (p := ⟨w.heap.size, 0, none⟩) (Nat.le_refl _) _).setCell (p := ⟨w.heap.size, 1, none⟩) (Nat.le_refl _) _).setCell (p := ⟨w.heap.size, 2, none⟩) (Nat.le_refl _) _).setCell (p := ⟨w.heap.size, 3, none⟩) (Nat.le_refl _) _
          have hfinh := Lib.hid hfin
          clear hfin
          go_wp2
          go_roundw
          case rel => exact ⟨j + 1, r, by omega, by go_num, hsto.out, hfinh.out⟩
          case measure => simp [intOf]; omega
    · have : j = es.length := by omega
      subst this
      have hend := Lib.hid (upto_end hUh.out)
      have hfr := hfrh.out
      have hfrr := hfrrh.out
      have rf0 := hfrr 0
      have rf1 := hfrr 1
      have rf2 := hfrr 2
      have rf3 := hfrr 3
      clear hfr hfrr
      go_wp2
      refine bodyPost_ret (v := .tuple #[.agg #[.slice ap b.vals.length ak, .int .i64 b.cap, .int .i64 b.pol, .int .i64 b.mode], .int .i64 es.length]) (by simp [results, Try.results15, go_sem, *]) rfl ?_
      rw [hend.out]
      have hne : b.vals ≠ [] → ∀ x, ap = some x → x.block ≠ w.heap.size + 1 := fun h x hx => by
        rcases halh.out h x hx with ⟨h1, y, hy, e⟩ | h'
        · have := hp0h.out h1 y hy; omega
        · omega
      exact ⟨_, _, rfl, Sl.setFar (Sl.setFar (Sl.setFar (Sl.setFar hS hne _) hne _) hne _) hne _, (by repeat' (first | (with_reducible exact Below.refl _ _) | (with_reducible assumption) | (with_reducible refine kept_alloc ?_ _) | (with_reducible refine kept_drewN ?_ _) | (with_reducible refine Below.drew ?_) | (with_reducible refine Below.setCell ?_ (by first | omega | (simp; omega) | (simp; done)) _) | (refine kept_trans ?_ (by with_reducible assumption)))), fun h x hx => (halh.out h x hx).imp id (fun h' => by omega)⟩
end Go.Proofs.Ytomnhjcoonbajaa
