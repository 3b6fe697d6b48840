/- Contract of the program's own All (layer 3). -/
import Derived.Test.YtomnhjcoonbajaaFifoU
import Derived.LoopTactic
namespace Go.Proofs.Ytomnhjcoonbajaa
set_option linter.unusedVariables false
set_option linter.unusedSimpArgs false
open Go.ChangeShapes Go.WideShapes Go.ChangeAt Go.RowKit

/-- What a call that hands back a queue and a number leaves. -/
def RetA (w : World) (r : Qu × Nat) (e : Ending) (w' : World) : Prop :=
  ∃ (p : Option Addr) (k : Nat), e = .returned (.tuple #[.agg #[.slice p r.1.vals.length k, .int .i64 r.1.cap, .int .i64 r.1.pol, .int .i64 r.1.mode], .int .i64 r.2]) ∧ Sl w' 1 intC r.1.vals (.slice p r.1.vals.length k) ∧ Kept w w'

/-- The same, its values in memory of the call's own. -/
def RetA2 (w : World) (r : Qu × Nat) (e : Ending) (w' : World) : Prop :=
  ∃ (p : Option Addr) (k : Nat), e = .returned (.tuple #[.agg #[.slice p r.1.vals.length k, .int .i64 r.1.cap, .int .i64 r.1.pol, .int .i64 r.1.mode], .int .i64 r.2]) ∧ Sl w' 1 intC r.1.vals (.slice p r.1.vals.length k) ∧ Kept w w' ∧ ∀ x, p = some x → w.heap.size ≤ x.block

theorem gone_len (a : Qu) (n : Int) : (a.gone n).1.vals.length ≤ a.vals.length := by
  obtain ⟨l, c, p, m⟩ := a
  cases l with
  | nil => simp [Qu.gone]
  | cons v r => simp only [Qu.gone]; split <;> simp [Qu.with]
theorem tell_len (a : Qu) (e : En) : (a.tell e).1.vals.length ≤ a.vals.length + 1 := by
  have := gone_len a e.go
  unfold Qu.tell Qu.send Qu.recv
  repeat' split
  all_goals (simp [Qu.with]; try omega)

/-- How far it is told. -/
def Upto (a : Qu) (es : List En) (j : Nat) (b : Qu) : Prop := a.all es = ((b.all (es.drop j)).1, (b.all (es.drop j)).2 + j)
theorem upto_zero (a : Qu) (es : List En) : Upto a es 0 a := by simp [Upto]
theorem upto_step {a b : Qu} {es : List En} {j : Nat} (hj : j < es.length) (h : Upto a es j b) (ht : (b.tell es[j]).2 = true) : Upto a es (j + 1) (b.tell es[j]).1 := by
  unfold Upto at *
  rw [h, List.drop_eq_getElem_cons hj]
  simp [Qu.all, ht]; omega
theorem upto_stop {a b : Qu} {es : List En} {j : Nat} (hj : j < es.length) (h : Upto a es j b) (ht : (b.tell es[j]).2 = false) : a.all es = (b, j) := by
  unfold Upto at h
  rw [h, List.drop_eq_getElem_cons hj]
  simp [Qu.all, ht]
theorem upto_end {a b : Qu} {es : List En} (h : Upto a es es.length b) : a.all es = (b, es.length) := by
  unfold Upto at h
  rw [h]
  simp [Qu.all]

/-- Who may not tell leaves it. -/
theorem tell_stays (a : Qu) (e : En) (h : (a.tell e).2 = false) : (a.tell e).1 = a := by
  have g : ∀ n, (a.gone n).2 = false → (a.gone n).1 = a := fun n h => by
    obtain ⟨l, c, p, m⟩ := a
    cases l with
    | nil => rfl
    | cons v r => simp only [Qu.gone] at h ⊢; split at h <;> simp_all
  revert h
  unfold Qu.tell Qu.send Qu.recv
  repeat' split
  all_goals first | (intro _; rfl) | (intro h; exact g _ h) | (intro h; cases h)

/-- What stands at the head of a round. -/
def Round (V : World) (base ob mb : Nat) (a : Qu) (es : List En) (j : Nat) (wr : World) : Prop :=
  ∃ (b : Qu) (p' : Option Addr) (k' : Nat), Upto a es j b ∧ b.vals.length ≤ a.vals.length + j ∧ At wr base ob b p' k' ∧ RulesAt wr mb ∧ (∀ x, p' = some x → x.block ≠ mb) ∧ Below base V wr

set_option maxHeartbeats 4000000 in
theorem pall_far (a : Qu) (es : List En) (p pl : Option Addr) (k kl : Nat) (w : World) (hl : Sl w 1 intC a.vals (.slice p a.vals.length k)) (hes : Sl w 5 En.cells es (.slice pl es.length kl)) (hm : a.vals.length ≤ 200) (hn : es.length ≤ 200) :
    Calls Try.prog 14 #[.agg #[.slice p a.vals.length k, .int .i64 a.cap, .int .i64 a.pol, .int .i64 a.mode], .slice pl es.length kl] w (RetA2 w (a.all es)) := by
  obtain ⟨_, _, e1, _, _, _, hec⟩ := hes.is
  cases e1
  have hech := Lib.hid hec
  clear hec
  go_enter Try.func14, Try.ntmps14
  go_wp2_with (first
    | (go_at_call 21; refine (plaid_any a p k _ (hl.kept (by repeat' (first | (with_reducible exact Below.refl _ _) | (with_reducible assumption) | (with_reducible refine kept_alloc ?_ _) | (with_reducible refine kept_drewN ?_ _) | (with_reducible refine Below.drew ?_) | (with_reducible refine Below.setCell ?_ (by first | omega | (simp; omega) | (simp; done)) _) | (refine kept_trans ?_ (by with_reducible assumption))))) (by omega)).mono ?_; rintro e wx hT; obtain ⟨g, rfl, hg, hO, hgx⟩ := hT)
    | (go_at_call 23; refine (prules_any _).mono ?_; rintro e wy hT; obtain ⟨mb, rfl, hmb, hRt, hgy⟩ := hT))
  obtain ⟨V0, hV0⟩ : ∃ V0, (w.alloc (.cells #[.slice p a.vals.length k, .int .i64 a.cap, .int .i64 a.pol, .int .i64 a.mode] 24)).alloc (.cells #[.slice none 0 0, .int .i64 0, .int .i64 0, .int .i64 0] 24) = V0 := ⟨_, rfl⟩
  have hs0 : V0.heap.size = w.heap.size + 2 := by rw [← hV0]; simp
  have hcs0 : CellsAt V0 [(w.heap.size + 1, 0, .slice none 0 0), (w.heap.size + 1, 1, .int .i64 0), (w.heap.size + 1, 2, .int .i64 0), (w.heap.size + 1, 3, .int .i64 0)] := by rw [← hV0]; (simp only [CellsAt]; (repeat' (first | exact trivial | (refine And.intro ?_ ?_))); all_goals (first | (focus ((try simp only [World.size_setCell, World.size_alloc]); omega)) | (repeat (first | rfl | assumption | (refine (World.cell?_alloc_past _ _ _ ?_).trans ?_; focus ((try simp only [World.size_setCell, World.size_alloc]); omega)) | (refine (World.cell?_alloc_at _ _ _ _ ?_).trans ?_; focus ((try simp only [World.size_setCell, World.size_alloc]); done)) | (refine (World.cell?_setCell_other _ _ _ _ ?_).trans ?_; focus (simp; done)) | (refine (World.cell?_setCell_other _ _ _ _ ?_).trans ?_; focus (simp; omega)) | (refine World.cell?_setCell_same' _ _ _ ?_; focus (simp; done))))))
  have hfr0 : ∀ j, V0.frozen? ⟨w.heap.size + 1, j, none⟩ = false := by intro j; rw [← hV0]; exact World.frozen?_alloc_at _ _ _ _ (by simp)
  have hB0 : Below w.heap.size w V0 := by rw [← hV0]; repeat' (first | (with_reducible exact Below.refl _ _) | (with_reducible assumption) | (with_reducible refine kept_alloc ?_ _) | (with_reducible refine kept_drewN ?_ _) | (with_reducible refine Below.drew ?_) | (with_reducible refine Below.setCell ?_ (by first | omega | (simp; omega) | (simp; done)) _) | (refine kept_trans ?_ (by with_reducible assumption)))
  rw [hV0] at hg hO hgx
  clear hV0
  rw [hs0] at hg hO
  obtain ⟨V, hV⟩ : ∃ V, wy.alloc (.cells #[.slice (some ⟨g, 0, none⟩) a.vals.length a.vals.length, .int .i64 a.cap, .int .i64 a.pol, .int .i64 a.mode] 41) = V := ⟨_, rfl⟩
  have hgV : Below V0.heap.size V0 V := by rw [← hV]; exact (hgx.trans (hgy.mono hgx.size)).alloc (Nat.le_trans hgx.size hgy.size) _
  have hglt := (hO.lt _ rfl).2
  have hA : At V (w.heap.size + 2) wy.heap.size a (some ⟨g, 0, none⟩) a.vals.length := by
    rw [← hV]
    refine ⟨?_, obj_at rfl, (hO.kept hgy).kept (by repeat' (first | (with_reducible exact Below.refl _ _) | (with_reducible assumption) | (with_reducible refine kept_alloc ?_ _) | (with_reducible refine kept_drewN ?_ _) | (with_reducible refine Below.drew ?_) | (with_reducible refine Below.setCell ?_ (by first | omega | (simp; omega) | (simp; done)) _) | (refine kept_trans ?_ (by with_reducible assumption)))), fun x hx => ?_⟩
    · have := hgx.size; have := hgy.size; omega
    · cases hx; have := hgy.size; show g ≠ _; simp at hglt; omega
  have hRV : RulesAt V mb := hRt.kept (by rw [← hV]; exact Below.heap_alloc _ _ _ hRt.lt)
  have hne1 : mb ≠ wy.heap.size := by have := hRt.lt; omega
  have hR0 : Round V (w.heap.size + 2) wy.heap.size mb a es 0 V := ⟨a, _, _, upto_zero a es, by omega, hA, hRV, fun x hx => by cases hx; show g ≠ mb; simp at hglt; omega, Below.refl _ _⟩
  rw [hV]
  have hs0h := Lib.hid hs0
  have hfr0h := Lib.hid hfr0
  have hcs0h := Lib.hid hcs0
  clear hV hO hA hs0 hfr0 hcs0 hg hglt hmb hRt hRV
  obtain ⟨ob, hob⟩ : ∃ ob, wy.heap.size = ob := ⟨_, rfl⟩
  have hob1 : ob < V.heap.size := by obtain ⟨b, p', k', _, _, hA, _⟩ := hR0; rw [← hob]; exact hA.lt
  rw [hob] at hR0 hne1 ⊢
  clear hob hgx hgy
  go_loopw [15] (fun i wr => ∃ j : Nat, j ≤ es.length ∧ i = .int .i64 j ∧ Round V (w.heap.size + 2) ob mb a es j wr) (fun i _ => es.length - (intOf i).toNat)
  case atStart => exact ⟨0, by omega, rfl, hR0⟩
  case round =>
    obtain ⟨j, hj, rfl, b, p', k', hU, hbl, hA, hR, hpm, hB⟩ := hrel
    have hs2 := hs0h.out
    have hs3 : w.heap.size + 2 ≤ V.heap.size := by have := hgV.size; omega
    have hs4 : w.heap.size + 2 ≤ wr.heap.size := by have := hB.size; omega
    have hlt := hA.lt
    have hUh := Lib.hid hU
    have hBw : Below w.heap.size w wr := hB0.trans ((hgV.mono (by omega)).trans (hB.mono (by omega)))
    have hres : ∀ W, Below (w.heap.size + 2) V W → (W.cell? ⟨w.heap.size + 1, 0, none⟩ = some (.slice none 0 0) ∧ W.cell? ⟨w.heap.size + 1, 1, none⟩ = some (.int .i64 0) ∧ W.cell? ⟨w.heap.size + 1, 2, none⟩ = some (.int .i64 0) ∧ W.cell? ⟨w.heap.size + 1, 3, none⟩ = some (.int .i64 0)) ∧ ∀ j, W.frozen? ⟨w.heap.size + 1, j, none⟩ = false := fun W hW => by
      have hcs := cells_keep hgV hcs0h.out
      have hc : ∀ j, W.cell? ⟨w.heap.size + 1, j, none⟩ = V.cell? ⟨w.heap.size + 1, j, none⟩ := fun j => hW.cell (p := ⟨w.heap.size + 1, j, none⟩) (by show w.heap.size + 1 < _; omega)
      refine ⟨⟨(hc 0).trans hcs.1.2, (hc 1).trans hcs.2.1.2, (hc 2).trans hcs.2.2.1.2, (hc 3).trans hcs.2.2.2.1.2⟩, fun j => ?_⟩
      exact (hW.frozen (p := ⟨w.heap.size + 1, j, none⟩) (by show w.heap.size + 1 < _; omega)).trans ((hgV.frozen (p := ⟨w.heap.size + 1, j, none⟩) (by show w.heap.size + 1 < _; omega)).trans (hfr0h.out j))
    have hresh := Lib.hid hres
    clear hU hs2 hres
    by_cases hlt' : j < es.length
    · obtain ⟨bl, o, rfl, hblk, hcell⟩ := hech.out (by intro h; subst h; simp at hlt')
      have hx := hcell j es[j] (List.getElem?_eq_getElem hlt')
      have hst := fun h => Lib.hid (upto_step hlt' hUh.out h)
      have hsp := fun h => Lib.hid (upto_stop hlt' hUh.out h)
      generalize es[j] = x at hx hst hsp
      have c0 := (hBw.cell (p := ⟨bl, _, none⟩) hblk).trans (hx 0 (by omega))
      have c1 := (hBw.cell (p := ⟨bl, _, none⟩) hblk).trans (hx 1 (by omega))
      have c2 := (hBw.cell (p := ⟨bl, _, none⟩) hblk).trans (hx 2 (by omega))
      have c3 := (hBw.cell (p := ⟨bl, _, none⟩) hblk).trans (hx 3 (by omega))
      have c4 := (hBw.cell (p := ⟨bl, _, none⟩) hblk).trans (hx 4 (by omega))
      simp [En.cells] at c0 c1 c2 c3 c4
      clear hx hcell
      have hblw : bl < wr.heap.size := Nat.lt_of_lt_of_le hblk hBw.size
      have htl := tell_len b x
      have hts := fun h => Lib.hid (tell_stays b x h)
      cases hmay : (b.tell x).2
      · have hsp := hsp hmay
        have hts := hts hmay
        clear hst
        go_wp2_with ((go_at_call 22; refine (ptell_any (w.heap.size + 2) ob b p' k' _ (hA.kept (by repeat' (first | (with_reducible exact Below.refl _ _) | (with_reducible assumption) | (with_reducible refine kept_alloc ?_ _) | (with_reducible refine kept_drewN ?_ _) | (with_reducible refine Below.drew ?_) | (with_reducible refine Below.setCell ?_ (by first | omega | (simp; omega) | (simp; done)) _) | (refine kept_trans ?_ (by with_reducible assumption))))) x (by omega) mb (hR.kept (Below.heap_alloc _ _ _ hR.lt))).mono ?_; rintro e wt hT; obtain ⟨rfl, p2, k2, hA2, hC, hp2⟩ := hT; rw [hmay]; obtain ⟨⟨t0, t1, t2, t3⟩, -⟩ := hA2.cells; have hlt2 := hA2.lt; have hBt : Below (w.heap.size + 2) V wt := Chg.below (hB.alloc hs4 _) hC hA.ge (fun x hx => (hA.own.lt x hx).1) (by simp; omega); obtain ⟨⟨r0, r1, r2, r3⟩, hfr⟩ := hresh.out wt hBt; have f0 := hfr 0; have f1 := hfr 1; have f2 := hfr 2; have f3 := hfr 3; have hge2 := hA2.ge; have hsz2 : w.heap.size + 1 < wt.heap.size := (by have := hBt.size; omega); clear hfr; have hA2h := Lib.hid hA2; have hCh := Lib.hid hC; have hp2h := Lib.hid hp2; clear hA2 hC hp2))
        go_wp2
        refine bodyPost_ret (v := .tuple #[.agg #[.slice p2 (b.tell x).1.vals.length k2, .int .i64 (b.tell x).1.cap, .int .i64 (b.tell x).1.pol, .int .i64 (b.tell x).1.mode], .int .i64 j]) (by simp [results, Try.results14, go_sem, *]) rfl ?_
        rw [hsp.out]
        have hO := hA2h.out.own
        obtain ⟨y, hy⟩ : ∃ y, p2 = some y := by obtain ⟨g, o, _, h, _⟩ := hO; exact ⟨_, h⟩
        subst hy
        have hly := (hO.lt y rfl).1
        have hF := (Ov.setCell (Ov.setCell (Ov.setCell (Ov.setCell hO (p := ⟨w.heap.size + 1, 0, none⟩) (by show _ ≠ w.heap.size + 1; omega) (.slice (some y) (b.tell x).1.vals.length k2)) (p := ⟨w.heap.size + 1, 1, none⟩) (by show _ ≠ w.heap.size + 1; omega) (.int .i64 (b.tell x).1.cap)) (p := ⟨w.heap.size + 1, 2, none⟩) (by show _ ≠ w.heap.size + 1; omega) (.int .i64 (b.tell x).1.pol)) (p := ⟨w.heap.size + 1, 3, none⟩) (by show _ ≠ w.heap.size + 1; omega) (.int .i64 (b.tell x).1.mode)).sl
        have hs2 := hs0h.out
        have hB1 : Below w.heap.size w wt := hB0.trans ((hgV.mono (by omega)).trans (hBt.mono (by omega)))
        rw [hts.out] at hF ⊢
        exact ⟨_, _, rfl, hF, (by repeat' (first | (with_reducible exact Below.refl _ _) | (with_reducible assumption) | (with_reducible refine kept_alloc ?_ _) | (with_reducible refine kept_drewN ?_ _) | (with_reducible refine Below.drew ?_) | (with_reducible refine Below.setCell ?_ (by first | omega | (simp; omega) | (simp; done)) _) | (refine kept_trans ?_ (by with_reducible assumption)))), fun x hx => by cases hx; omega⟩
      · have hst := hst hmay
        clear hsp hts
        go_wp2_with ((go_at_call 22; refine (ptell_any (w.heap.size + 2) ob b p' k' _ (hA.kept (by repeat' (first | (with_reducible exact Below.refl _ _) | (with_reducible assumption) | (with_reducible refine kept_alloc ?_ _) | (with_reducible refine kept_drewN ?_ _) | (with_reducible refine Below.drew ?_) | (with_reducible refine Below.setCell ?_ (by first | omega | (simp; omega) | (simp; done)) _) | (refine kept_trans ?_ (by with_reducible assumption))))) x (by omega) mb (hR.kept (Below.heap_alloc _ _ _ hR.lt))).mono ?_; rintro e wt hT; obtain ⟨rfl, p2, k2, hA2, hC, hp2⟩ := hT; rw [hmay]; obtain ⟨⟨t0, t1, t2, t3⟩, -⟩ := hA2.cells; have hlt2 := hA2.lt; have hBt : Below (w.heap.size + 2) V wt := Chg.below (hB.alloc hs4 _) hC hA.ge (fun x hx => (hA.own.lt x hx).1) (by simp; omega); obtain ⟨⟨r0, r1, r2, r3⟩, hfr⟩ := hresh.out wt hBt; have f0 := hfr 0; have f1 := hfr 1; have f2 := hfr 2; have f3 := hfr 3; have hge2 := hA2.ge; have hsz2 : w.heap.size + 1 < wt.heap.size := (by have := hBt.size; omega); clear hfr; have hA2h := Lib.hid hA2; have hCh := Lib.hid hC; have hp2h := Lib.hid hp2; clear hA2 hC hp2))
        go_roundw
        case rel =>
          refine ⟨j + 1, by omega, by go_num, (b.tell x).1, p2, k2, hst.out, by omega, hA2h.out, (hR.kept (Below.heap_alloc _ _ _ hR.lt)).kept (hCh.out.block mb (by have := hR.lt; simp; omega) hne1 (fun x hx h => hpm x hx h.symm)), fun y hy h => ?_, hBt⟩
          rcases hp2h.out y hy with ⟨z, hz, e⟩ | h'
          · exact hpm z hz (e.symm.trans h)
          · have := hR.lt; simp at h'; omega
        case measure => simp [intOf]; omega
    · have : j = es.length := by omega
      subst this
      have hend := Lib.hid (upto_end hUh.out)
      obtain ⟨⟨t0, t1, t2, t3⟩, -⟩ := hA.cells
      obtain ⟨⟨r0, r1, r2, r3⟩, hfr⟩ := hresh.out wr hB
      have f0 := hfr 0
      have f1 := hfr 1
      have f2 := hfr 2
      have f3 := hfr 3
      have hsz2 : w.heap.size + 1 < wr.heap.size := by omega
      have hge2 := hA.ge
      clear hfr
      go_wp2
      refine bodyPost_ret (v := .tuple #[.agg #[.slice p' b.vals.length k', .int .i64 b.cap, .int .i64 b.pol, .int .i64 b.mode], .int .i64 es.length]) (by simp [results, Try.results14, go_sem, *]) rfl ?_
      rw [hend.out]
      have hO := hA.own
      obtain ⟨y, hy⟩ : ∃ y, p' = some y := by obtain ⟨g, o, _, h, _⟩ := hO; exact ⟨_, h⟩
      subst hy
      have hly := (hO.lt y rfl).1
      have hF := (Ov.setCell (Ov.setCell (Ov.setCell (Ov.setCell hO (p := ⟨w.heap.size + 1, 0, none⟩) (by show _ ≠ w.heap.size + 1; omega) (.slice (some y) b.vals.length k')) (p := ⟨w.heap.size + 1, 1, none⟩) (by show _ ≠ w.heap.size + 1; omega) (.int .i64 b.cap)) (p := ⟨w.heap.size + 1, 2, none⟩) (by show _ ≠ w.heap.size + 1; omega) (.int .i64 b.pol)) (p := ⟨w.heap.size + 1, 3, none⟩) (by show _ ≠ w.heap.size + 1; omega) (.int .i64 b.mode)).sl
      exact ⟨_, _, rfl, hF, (by repeat' (first | (with_reducible exact Below.refl _ _) | (with_reducible assumption) | (with_reducible refine kept_alloc ?_ _) | (with_reducible refine kept_drewN ?_ _) | (with_reducible refine Below.drew ?_) | (with_reducible refine Below.setCell ?_ (by first | omega | (simp; omega) | (simp; done)) _) | (refine kept_trans ?_ (by with_reducible assumption)))), fun x hx => by cases hx; omega⟩
theorem pall_any (a : Qu) (es : List En) (p pl : Option Addr) (k kl : Nat) (w : World) (hl : Sl w 1 intC a.vals (.slice p a.vals.length k)) (hes : Sl w 5 En.cells es (.slice pl es.length kl)) (hm : a.vals.length ≤ 200) (hn : es.length ≤ 200) :
    Calls Try.prog 14 #[.agg #[.slice p a.vals.length k, .int .i64 a.cap, .int .i64 a.pol, .int .i64 a.mode], .slice pl es.length kl] w (RetA w (a.all es)) :=
  (pall_far a es p pl k kl w hl hes hm hn).mono fun _ _ ⟨p', k', h1, h2, h3, _⟩ => ⟨p', k', h1, h2, h3⟩
end Go.Proofs.Ytomnhjcoonbajaa
