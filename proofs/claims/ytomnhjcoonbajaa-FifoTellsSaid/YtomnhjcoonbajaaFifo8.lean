/- Layer 3: FifoTells holds for every input. -/
import Derived.Test.YtomnhjcoonbajaaFifo7
import Derived.IntWalk
namespace Go.Proofs.Ytomnhjcoonbajaa
set_option linter.unusedVariables false
set_option linter.unusedSimpArgs false
open Go.ChangeShapes Go.WideShapes Go.ChangeAt Go.RowKit

theorem tl_pall {a : Qu} {es : List En} {r : Qu × Nat} (hr : a.all es = r) (p pl : Option Addr) (k kl : Nat) (w : World) (hl : Sl w 1 intC a.vals (.slice p a.vals.length k)) (hes : Sl w 5 En.cells es (.slice pl es.length kl)) (hm : a.vals.length ≤ 200) (hn : es.length ≤ 200) :
    Calls Try.prog 14 #[.agg #[.slice p a.vals.length k, .int .i64 a.cap, .int .i64 a.pol, .int .i64 a.mode], .slice pl es.length kl] w (RetA2 w r) := hr ▸ pall_far a es p pl k kl w hl hes hm hn
theorem tl_rall {a : Qu} {es : List En} {r : Qu × Nat} (hr : a.all es = r) (p pl : Option Addr) (k kl : Nat) (w : World) (hl : Sl w 1 intC a.vals (.slice p a.vals.length k)) (hes : Sl w 5 En.cells es (.slice pl es.length kl)) (hm : a.vals.length ≤ 200) (hn : es.length ≤ 200) :
    Calls Try.prog 15 #[.agg #[.slice p a.vals.length k, .int .i64 a.cap, .int .i64 a.pol, .int .i64 a.mode], .slice pl es.length kl] w (RetA3 w a.vals p r) := hr ▸ rall_any a es p pl k kl w hl hes hm hn
theorem tl_len : ∀ (es : List En) (a : Qu), (a.all es).1.vals.length ≤ a.vals.length + es.length
  | [], a => by simp [Qu.all]
  | e :: l, a => by
    cases h : (a.tell e).2
    · rw [all_cons_no h]; simp
    · rw [all_cons_yes h]
      have := tl_len l (a.tell e).1
      have := tell_len a e
      simp only [List.length_cons]; omega


set_option maxRecDepth 100000 in
set_option maxHeartbeats 8000000 in
theorem fifoTells_walk (q : Qu) (qp : Option Addr) (qk : Nat) (hq : q.ok) (hqm : q.vals.length ≤ maxLen) (l : List En) (lv : Value) (hl : ∀ x ∈ l, x.ok) (hlm : l.length ≤ maxLen) (kind : Int) (hkind : In64 kind) (w : World) (hqs : Sl w 1 intC q.vals (.slice qp q.vals.length qk)) (hls : Sl w En.size En.cells l lv) :
    Calls Try.prog 3 #[.agg #[.slice qp q.vals.length qk, .int .i64 q.cap, .int .i64 q.pol, .int .i64 q.mode], lv, .int .i64 kind] w fun e w' => e = .returned (.bool true) ∧ Kept w w' := by
  by_cases a1 : (100 : Int) < (q.vals.length : Int)
  · obtain ⟨lp, lk, rfl, _⟩ := hls.is
    go_enter Try.func3, Try.ntmps3; go_wp2_with fail; refine (fifoawake_any _).mono ?_; rintro e wy ⟨rfl, hgy⟩; have hcs : CellsAt wy [(w.heap.size, 0, .slice qp q.vals.length qk), (w.heap.size, 1, .int .i64 q.cap), (w.heap.size, 2, .int .i64 q.pol), (w.heap.size, 3, .int .i64 q.mode)] := cells_keep hgy (by (simp only [CellsAt]; (repeat' (first | exact trivial | (refine And.intro ?_ ?_))); all_goals (first | (focus ((try simp only [World.size_setCell, World.size_alloc]); omega)) | (repeat (first | rfl | assumption | (refine (World.cell?_alloc_past _ _ _ ?_).trans ?_; focus ((try simp only [World.size_setCell, World.size_alloc]); omega)) | (refine (World.cell?_alloc_at _ _ _ _ ?_).trans ?_; focus ((try simp only [World.size_setCell, World.size_alloc]); done)) | (refine (World.cell?_setCell_other _ _ _ _ ?_).trans ?_; focus (simp; done)) | (refine (World.cell?_setCell_other _ _ _ _ ?_).trans ?_; focus (simp; omega)) | (refine World.cell?_setCell_same' _ _ _ ?_; focus (first | (simp; done) | (simp [*]; done)))))))); have hq0 := hcs.1.2; have hq1 := hcs.2.1.2; have hq2 := hcs.2.2.1.2; have hq3 := hcs.2.2.2.1.2; have hz0 := hcs.1.1; go_wp2; all_goals (go_ret; exact ⟨rfl, by repeat' (first | (with_reducible exact Below.refl _ _) | (with_reducible assumption) | (with_reducible refine kept_alloc ?_ _) | (with_reducible refine kept_drewN ?_ _) | (with_reducible refine Below.drew ?_) | (with_reducible refine Below.setCell ?_ (by first | omega | (simp; omega) | (simp; done)) _) | (refine kept_trans ?_ (by with_reducible assumption)))⟩)
  by_cases a2 : (100 : Int) < (l.length : Int)
  · obtain ⟨lp, lk, rfl, _⟩ := hls.is
    go_enter Try.func3, Try.ntmps3; go_wp2_with fail; refine (fifoawake_any _).mono ?_; rintro e wy ⟨rfl, hgy⟩; have hcs : CellsAt wy [(w.heap.size, 0, .slice qp q.vals.length qk), (w.heap.size, 1, .int .i64 q.cap), (w.heap.size, 2, .int .i64 q.pol), (w.heap.size, 3, .int .i64 q.mode)] := cells_keep hgy (by (simp only [CellsAt]; (repeat' (first | exact trivial | (refine And.intro ?_ ?_))); all_goals (first | (focus ((try simp only [World.size_setCell, World.size_alloc]); omega)) | (repeat (first | rfl | assumption | (refine (World.cell?_alloc_past _ _ _ ?_).trans ?_; focus ((try simp only [World.size_setCell, World.size_alloc]); omega)) | (refine (World.cell?_alloc_at _ _ _ _ ?_).trans ?_; focus ((try simp only [World.size_setCell, World.size_alloc]); done)) | (refine (World.cell?_setCell_other _ _ _ _ ?_).trans ?_; focus (simp; done)) | (refine (World.cell?_setCell_other _ _ _ _ ?_).trans ?_; focus (simp; omega)) | (refine World.cell?_setCell_same' _ _ _ ?_; focus (first | (simp; done) | (simp [*]; done)))))))); have hq0 := hcs.1.2; have hq1 := hcs.2.1.2; have hq2 := hcs.2.2.1.2; have hq3 := hcs.2.2.2.1.2; have hz0 := hcs.1.1; go_wp2; all_goals (go_ret; exact ⟨rfl, by repeat' (first | (with_reducible exact Below.refl _ _) | (with_reducible assumption) | (with_reducible refine kept_alloc ?_ _) | (with_reducible refine kept_drewN ?_ _) | (with_reducible refine Below.drew ?_) | (with_reducible refine Below.setCell ?_ (by first | omega | (simp; omega) | (simp; done)) _) | (refine kept_trans ?_ (by with_reducible assumption)))⟩)
  have d1 : decide ((100 : Int) < (q.vals.length : Int)) = false := by simp; omega
  have d2 : decide ((100 : Int) < (l.length : Int)) = false := by simp; omega
  have hlen : q.vals.length ≤ 100 := by omega
  have hlen2 : l.length ≤ 100 := by omega
  have hls5 : Sl w 5 En.cells l lv := hls
  obtain ⟨lp, lk, rfl, _, _, _, hec⟩ := hls5.is
  have hech := Lib.hid hec
  have hvl := tl_len l q
  obtain ⟨⟨y, n⟩, hyr⟩ : ∃ r, q.all l = r := ⟨_, rfl⟩
  rw [hyr] at hvl
  simp only at hvl
  have hyrh := Lib.hid hyr
  clear a1 a2 hec hyr
  go_enter Try.func3, Try.ntmps3; go_wp2_with fail; refine (fifoawake_any _).mono ?_; rintro e wy ⟨rfl, hgy⟩; have hcs : CellsAt wy [(w.heap.size, 0, .slice qp q.vals.length qk), (w.heap.size, 1, .int .i64 q.cap), (w.heap.size, 2, .int .i64 q.pol), (w.heap.size, 3, .int .i64 q.mode)] := cells_keep hgy (by (simp only [CellsAt]; (repeat' (first | exact trivial | (refine And.intro ?_ ?_))); all_goals (first | (focus ((try simp only [World.size_setCell, World.size_alloc]); omega)) | (repeat (first | rfl | assumption | (refine (World.cell?_alloc_past _ _ _ ?_).trans ?_; focus ((try simp only [World.size_setCell, World.size_alloc]); omega)) | (refine (World.cell?_alloc_at _ _ _ _ ?_).trans ?_; focus ((try simp only [World.size_setCell, World.size_alloc]); done)) | (refine (World.cell?_setCell_other _ _ _ _ ?_).trans ?_; focus (simp; done)) | (refine (World.cell?_setCell_other _ _ _ _ ?_).trans ?_; focus (simp; omega)) | (refine World.cell?_setCell_same' _ _ _ ?_; focus (first | (simp; done) | (simp [*]; done)))))))); have hq0 := hcs.1.2; have hq1 := hcs.2.1.2; have hq2 := hcs.2.2.1.2; have hq3 := hcs.2.2.2.1.2; have hz0 := hcs.1.1
  have hB0 : Below w.heap.size w wy := kept_trans (by repeat' (first | (with_reducible exact Below.refl _ _) | (with_reducible assumption) | (with_reducible refine kept_alloc ?_ _) | (with_reducible refine kept_drewN ?_ _) | (with_reducible refine Below.drew ?_) | (with_reducible refine Below.setCell ?_ (by first | omega | (simp; omega) | (simp; done)) _) | (refine kept_trans ?_ (by with_reducible assumption)))) hgy
  go_wp2
  go_loopw [8] (fun i wr => ∃ (j : Nat), j ≤ l.length ∧ i = .int .i64 j ∧ CellsAt wr [(w.heap.size, 0, .slice qp q.vals.length qk), (w.heap.size, 1, .int .i64 q.cap), (w.heap.size, 2, .int .i64 q.pol), (w.heap.size, 3, .int .i64 q.mode)] ∧ Below w.heap.size w wr) (fun i _ => l.length - (intOf i).toNat)
  case atStart => exact ⟨0, by omega, rfl, hcs, hB0⟩
  case round =>
    obtain ⟨j, hj, rfl, hcs, hB⟩ := hrel
    clear hq0 hq1 hq2 hq3 hz0
    have hq0 := hcs.1.2; have hq1 := hcs.2.1.2; have hq2 := hcs.2.2.1.2; have hq3 := hcs.2.2.2.1.2; have hz0 := hcs.1.1
    by_cases hlt : j < l.length
    · obtain ⟨bl, o, rfl, hblk, hcell⟩ := hech.out (by intro h; subst h; simp at hlt)
      have hx := hcell j l[j] (List.getElem?_eq_getElem hlt)
      generalize l[j] = x at hx
      have c0 := (hB.cell (p := ⟨bl, _, none⟩) hblk).trans (hx 0 (by omega))
      have c1 := (hB.cell (p := ⟨bl, _, none⟩) hblk).trans (hx 1 (by omega))
      have c2 := (hB.cell (p := ⟨bl, _, none⟩) hblk).trans (hx 2 (by omega))
      have c3 := (hB.cell (p := ⟨bl, _, none⟩) hblk).trans (hx 3 (by omega))
      have c4 := (hB.cell (p := ⟨bl, _, none⟩) hblk).trans (hx 4 (by omega))
      simp [En.cells] at c0 c1 c2 c3 c4
      clear hx hcell hcs
      have hblw : bl < wr.heap.size := Nat.lt_of_lt_of_le hblk hB.size
      have i1 : (0 : Int) ≤ (j : Int) := by omega
      have i2 : (j : Int) < (l.length : Int) := by omega
      have htl := tell_len q x
      obtain ⟨⟨r, may⟩, hrr⟩ : ∃ r, q.tell x = r := ⟨_, rfl⟩
      rw [hrr] at htl
      simp only at htl
      have hrrh := Lib.hid hrr
      have hSr := hqs.kept hB
      clear hrr
      go_wp2
      go_region_held3 (fun w' => w'.cell? ⟨w.heap.size, 0, none⟩ = some (.slice qp q.vals.length qk) ∧ w'.cell? ⟨w.heap.size, 1, none⟩ = some (.int .i64 q.cap) ∧ w'.cell? ⟨w.heap.size, 2, none⟩ = some (.int .i64 q.pol) ∧ w'.cell? ⟨w.heap.size, 3, none⟩ = some (.int .i64 q.mode) ∧ w'.cell? ⟨bl, o + j * 5, none⟩ = some (.int .i64 x.th) ∧ w'.cell? ⟨bl, o + j * 5 + 1, none⟩ = some (.int .i64 x.ki) ∧ w'.cell? ⟨bl, o + j * 5 + 2, none⟩ = some (.int .i64 x.va) ∧ w'.cell? ⟨bl, o + j * 5 + 3, none⟩ = some (.int .i64 x.re) ∧ w'.cell? ⟨bl, o + j * 5 + 4, none⟩ = some (.int .i64 x.go)) (first | (go_split_ands; refine ⟨?_, ?_, ?_, ?_, ?_, ?_, ?_, ?_, ?_⟩ <;> first | (with_reducible assumption) | (with_reducible (refine (World.cell?_alloc_past _ _ _ (by with_reducible assumption)).trans ?_; assumption)) | (with_reducible (refine (set4_far _ _ _ _ _ _ (by with_reducible assumption)).trans ?_; assumption))) | go_keep) ((go_at_call 11; refine (pdo_any q x qp qk _ (hqs.kept (by repeat' (first | (with_reducible exact Below.refl _ _) | (with_reducible assumption) | (with_reducible refine kept_alloc ?_ _) | (with_reducible refine kept_drewN ?_ _) | (with_reducible refine Below.drew ?_) | (with_reducible refine Below.setCell ?_ (by first | omega | (simp; omega) | (simp; done)) _) | (refine kept_trans ?_ (by with_reducible assumption))))) (by omega)).mono ?_; rw [hrrh.out]; rintro e wx ⟨p1, k1, rfl, hS1, hgx, hf1⟩; simp only at hS1 hf1; have hgw : Below wr.heap.size wr wx := kept_trans (by repeat' (first | (with_reducible exact Below.refl _ _) | (with_reducible assumption) | (with_reducible refine kept_alloc ?_ _) | (with_reducible refine kept_drewN ?_ _) | (with_reducible refine Below.drew ?_) | (with_reducible refine Below.setCell ?_ (by first | omega | (simp; omega) | (simp; done)) _) | (refine kept_trans ?_ (by with_reducible assumption)))) hgx; have s0 := (hgw.cell (p := ⟨w.heap.size, 0, none⟩) hz0).trans hq0; have s1 := (hgw.cell (p := ⟨w.heap.size, 1, none⟩) hz0).trans hq1; have s2 := (hgw.cell (p := ⟨w.heap.size, 2, none⟩) hz0).trans hq2; have s3 := (hgw.cell (p := ⟨w.heap.size, 3, none⟩) hz0).trans hq3; have s4 := (hgw.cell (p := ⟨bl, _, none⟩) hblw).trans c0; have s5 := (hgw.cell (p := ⟨bl, _, none⟩) hblw).trans c1; have s6 := (hgw.cell (p := ⟨bl, _, none⟩) hblw).trans c2; have s7 := (hgw.cell (p := ⟨bl, _, none⟩) hblw).trans c3; have s8 := (hgw.cell (p := ⟨bl, _, none⟩) hblw).trans c4; have hzw : w.heap.size < wx.heap.size := (by have := hgw.size; omega); have hbw : bl < wx.heap.size := (by have := hgw.size; omega); (first | (have hlate : Kept wr.drew wx := (by with_reducible exact hgx)) | (obtain ⟨⟨n0, n1, n2, n3⟩, ⟨nf0, nf1, nf2, nf3⟩, hzn⟩ := fresh_nil hgx))))
      all_goals
        first
          | (have hN := next_late (wr := wr) hgx hS1 hf1; generalize wx.alloc (.cells #[.slice p1 r.vals.length k1, .int .i64 r.cap, .int .i64 r.pol, .int .i64 r.mode] 24) = W at hN ⊢; generalize wx.heap.size = ab at hN ⊢)
          | (have hN := next_early (wr := wr) hSr hgx hS1 hf1; generalize ((((wx.setCell ⟨wr.heap.size, 0, none⟩ (.slice p1 r.vals.length k1)).setCell ⟨wr.heap.size, 1, none⟩ (.int .i64 r.cap)).setCell ⟨wr.heap.size, 2, none⟩ (.int .i64 r.pol)).setCell ⟨wr.heap.size, 3, none⟩ (.int .i64 r.mode)) = W at hN ⊢; generalize wr.heap.size = ab at hN ⊢)
      all_goals
        obtain ⟨⟨x0, x1, x2, x3⟩, hgW, hSW, -, hab, has⟩ := hN
        clear hgx hS1 hf1 hgw s0 s1 s2 s3 s4 s5 s6 s7 s8 hzw hbw
        have t0 := (hgW.cell (p := ⟨w.heap.size, 0, none⟩) hz0).trans hq0
        have t1 := (hgW.cell (p := ⟨w.heap.size, 1, none⟩) hz0).trans hq1
        have t2 := (hgW.cell (p := ⟨w.heap.size, 2, none⟩) hz0).trans hq2
        have t3 := (hgW.cell (p := ⟨w.heap.size, 3, none⟩) hz0).trans hq3
        have tc0 := (hgW.cell (p := ⟨bl, _, none⟩) hblw).trans c0
        have tc1 := (hgW.cell (p := ⟨bl, _, none⟩) hblw).trans c1
        have tc2 := (hgW.cell (p := ⟨bl, _, none⟩) hblw).trans c2
        have tc3 := (hgW.cell (p := ⟨bl, _, none⟩) hblw).trans c3
        have tc4 := (hgW.cell (p := ⟨bl, _, none⟩) hblw).trans c4
        have hzW : w.heap.size < W.heap.size := by have := hgW.size; omega
        have hbW : bl < W.heap.size := by have := hgW.size; omega
        have hBW : Below w.heap.size w W := hB.trans (hgW.mono hB.size)
        have hSr := hqs.kept hBW
        clear hq0 hq1 hq2 hq3 c0 c1 c2 c3 c4
        go_wp2
        go_region_held3 (fun w' => w'.cell? ⟨w.heap.size, 0, none⟩ = some (.slice qp q.vals.length qk) ∧ w'.cell? ⟨w.heap.size, 1, none⟩ = some (.int .i64 q.cap) ∧ w'.cell? ⟨w.heap.size, 2, none⟩ = some (.int .i64 q.pol) ∧ w'.cell? ⟨w.heap.size, 3, none⟩ = some (.int .i64 q.mode) ∧ w'.cell? ⟨bl, o + j * 5, none⟩ = some (.int .i64 x.th) ∧ w'.cell? ⟨bl, o + j * 5 + 1, none⟩ = some (.int .i64 x.ki) ∧ w'.cell? ⟨bl, o + j * 5 + 2, none⟩ = some (.int .i64 x.va) ∧ w'.cell? ⟨bl, o + j * 5 + 3, none⟩ = some (.int .i64 x.re) ∧ w'.cell? ⟨bl, o + j * 5 + 4, none⟩ = some (.int .i64 x.go)) (first | (go_split_ands; refine ⟨?_, ?_, ?_, ?_, ?_, ?_, ?_, ?_, ?_⟩ <;> first | (with_reducible assumption) | (with_reducible (refine (World.cell?_alloc_past _ _ _ (by with_reducible assumption)).trans ?_; assumption)) | (with_reducible (refine (set4_far _ _ _ _ _ _ (by with_reducible assumption)).trans ?_; assumption))) | go_keep) ((go_at_call 12; refine (rdo_any q x qp qk _ (hqs.kept (by repeat' (first | (with_reducible exact Below.refl _ _) | (with_reducible assumption) | (with_reducible refine kept_alloc ?_ _) | (with_reducible refine kept_drewN ?_ _) | (with_reducible refine Below.drew ?_) | (with_reducible refine Below.setCell ?_ (by first | omega | (simp; omega) | (simp; done)) _) | (refine kept_trans ?_ (by with_reducible assumption))))) (by omega)).mono ?_; rw [hrrh.out]; rintro e wx ⟨p2, k2, rfl, hS1, hgx, hf1⟩; simp only at hS1 hf1; have hgw : Below W.heap.size W wx := kept_trans (by repeat' (first | (with_reducible exact Below.refl _ _) | (with_reducible assumption) | (with_reducible refine kept_alloc ?_ _) | (with_reducible refine kept_drewN ?_ _) | (with_reducible refine Below.drew ?_) | (with_reducible refine Below.setCell ?_ (by first | omega | (simp; omega) | (simp; done)) _) | (refine kept_trans ?_ (by with_reducible assumption)))) hgx; have s0 := (hgw.cell (p := ⟨w.heap.size, 0, none⟩) hzW).trans t0; have s1 := (hgw.cell (p := ⟨w.heap.size, 1, none⟩) hzW).trans t1; have s2 := (hgw.cell (p := ⟨w.heap.size, 2, none⟩) hzW).trans t2; have s3 := (hgw.cell (p := ⟨w.heap.size, 3, none⟩) hzW).trans t3; have s4 := (hgw.cell (p := ⟨bl, _, none⟩) hbW).trans tc0; have s5 := (hgw.cell (p := ⟨bl, _, none⟩) hbW).trans tc1; have s6 := (hgw.cell (p := ⟨bl, _, none⟩) hbW).trans tc2; have s7 := (hgw.cell (p := ⟨bl, _, none⟩) hbW).trans tc3; have s8 := (hgw.cell (p := ⟨bl, _, none⟩) hbW).trans tc4; have hzw : w.heap.size < wx.heap.size := (by have := hgw.size; omega); have hbw : bl < wx.heap.size := (by have := hgw.size; omega); (first | (have hlate : Kept W.drew wx := (by with_reducible exact hgx)) | (obtain ⟨⟨n0, n1, n2, n3⟩, ⟨nf0, nf1, nf2, nf3⟩, hzn⟩ := fresh_nil hgx))))
        all_goals
          first
            | (have hN := next_late (wr := W) hgx hS1 hf1; generalize wx.alloc (.cells #[.slice p2 r.vals.length k2, .int .i64 r.cap, .int .i64 r.pol, .int .i64 r.mode] 24) = X at hN ⊢; generalize wx.heap.size = cb at hN ⊢)
            | (have hN := next_early (wr := W) hSr hgx hS1 hf1; generalize ((((wx.setCell ⟨W.heap.size, 0, none⟩ (.slice p2 r.vals.length k2)).setCell ⟨W.heap.size, 1, none⟩ (.int .i64 r.cap)).setCell ⟨W.heap.size, 2, none⟩ (.int .i64 r.pol)).setCell ⟨W.heap.size, 3, none⟩ (.int .i64 r.mode)) = X at hN ⊢; generalize W.heap.size = cb at hN ⊢)
        all_goals
          obtain ⟨⟨y0, y1, y2, y3⟩, hgX, hSX, -, hcb, hcsz⟩ := hN
          clear hgx hS1 hf1 hgw s0 s1 s2 s3 s4 s5 s6 s7 s8 hzw hbw
          have u0 := (hgX.cell (p := ⟨w.heap.size, 0, none⟩) hzW).trans t0
          have u1 := (hgX.cell (p := ⟨w.heap.size, 1, none⟩) hzW).trans t1
          have u2 := (hgX.cell (p := ⟨w.heap.size, 2, none⟩) hzW).trans t2
          have u3 := (hgX.cell (p := ⟨w.heap.size, 3, none⟩) hzW).trans t3
          have x0 := (hgX.cell (p := ⟨ab, 0, none⟩) has).trans x0
          have x1 := (hgX.cell (p := ⟨ab, 1, none⟩) has).trans x1
          have x2 := (hgX.cell (p := ⟨ab, 2, none⟩) has).trans x2
          have x3 := (hgX.cell (p := ⟨ab, 3, none⟩) has).trans x3
          have hzX : w.heap.size < X.heap.size := by have := hgX.size; omega
          have haX : ab < X.heap.size := by have := hgX.size; omega
          have hBX : Below w.heap.size w X := hBW.trans (hgX.mono hBW.size)
          have hSX1 := hSW.kept hgX
          clear t0 t1 t2 t3 tc0 tc1 tc2 tc3 tc4
          cases may
          · go_wp2_with fail
            refine (rsame_any r r p1 p2 k1 k2 _ (hSX1.kept (by repeat' (first | (with_reducible exact Below.refl _ _) | (with_reducible assumption) | (with_reducible refine kept_alloc ?_ _) | (with_reducible refine kept_drewN ?_ _) | (with_reducible refine Below.drew ?_) | (with_reducible refine Below.setCell ?_ (by first | omega | (simp; omega) | (simp; done)) _) | (refine kept_trans ?_ (by with_reducible assumption))))) (hSX.kept (by repeat' (first | (with_reducible exact Below.refl _ _) | (with_reducible assumption) | (with_reducible refine kept_alloc ?_ _) | (with_reducible refine kept_drewN ?_ _) | (with_reducible refine Below.drew ?_) | (with_reducible refine Below.setCell ?_ (by first | omega | (simp; omega) | (simp; done)) _) | (refine kept_trans ?_ (by with_reducible assumption))))) (by omega)).mono ?_
            rintro e wz ⟨rfl, hgz⟩
            rw [same_refl r]
            go_wp2
            go_roundw
            case rel => exact ⟨j + 1, by omega, by go_num, ⟨⟨Nat.lt_of_lt_of_le hzX hgz.size, (hgz.cell (p := ⟨w.heap.size, 0, none⟩) hzX).trans u0⟩, ⟨Nat.lt_of_lt_of_le hzX hgz.size, (hgz.cell (p := ⟨w.heap.size, 1, none⟩) hzX).trans u1⟩, ⟨Nat.lt_of_lt_of_le hzX hgz.size, (hgz.cell (p := ⟨w.heap.size, 2, none⟩) hzX).trans u2⟩, ⟨Nat.lt_of_lt_of_le hzX hgz.size, (hgz.cell (p := ⟨w.heap.size, 3, none⟩) hzX).trans u3⟩, trivial⟩, (by repeat' (first | (with_reducible exact Below.refl _ _) | (with_reducible assumption) | (with_reducible refine kept_alloc ?_ _) | (with_reducible refine kept_drewN ?_ _) | (with_reducible refine Below.drew ?_) | (with_reducible refine Below.setCell ?_ (by first | omega | (simp; omega) | (simp; done)) _) | (refine kept_trans ?_ (by with_reducible assumption))))⟩
            case measure => simp [intOf]; omega
          · go_wp2_with fail
            refine (rsame_any r r p1 p2 k1 k2 _ (hSX1.kept (by repeat' (first | (with_reducible exact Below.refl _ _) | (with_reducible assumption) | (with_reducible refine kept_alloc ?_ _) | (with_reducible refine kept_drewN ?_ _) | (with_reducible refine Below.drew ?_) | (with_reducible refine Below.setCell ?_ (by first | omega | (simp; omega) | (simp; done)) _) | (refine kept_trans ?_ (by with_reducible assumption))))) (hSX.kept (by repeat' (first | (with_reducible exact Below.refl _ _) | (with_reducible assumption) | (with_reducible refine kept_alloc ?_ _) | (with_reducible refine kept_drewN ?_ _) | (with_reducible refine Below.drew ?_) | (with_reducible refine Below.setCell ?_ (by first | omega | (simp; omega) | (simp; done)) _) | (refine kept_trans ?_ (by with_reducible assumption))))) (by omega)).mono ?_
            rintro e wz ⟨rfl, hgz⟩
            rw [same_refl r]
            go_wp2
            go_roundw
            case rel => exact ⟨j + 1, by omega, by go_num, ⟨⟨Nat.lt_of_lt_of_le hzX hgz.size, (hgz.cell (p := ⟨w.heap.size, 0, none⟩) hzX).trans u0⟩, ⟨Nat.lt_of_lt_of_le hzX hgz.size, (hgz.cell (p := ⟨w.heap.size, 1, none⟩) hzX).trans u1⟩, ⟨Nat.lt_of_lt_of_le hzX hgz.size, (hgz.cell (p := ⟨w.heap.size, 2, none⟩) hzX).trans u2⟩, ⟨Nat.lt_of_lt_of_le hzX hgz.size, (hgz.cell (p := ⟨w.heap.size, 3, none⟩) hzX).trans u3⟩, trivial⟩, (by repeat' (first | (with_reducible exact Below.refl _ _) | (with_reducible assumption) | (with_reducible refine kept_alloc ?_ _) | (with_reducible refine kept_drewN ?_ _) | (with_reducible refine Below.drew ?_) | (with_reducible refine Below.setCell ?_ (by first | omega | (simp; omega) | (simp; done)) _) | (refine kept_trans ?_ (by with_reducible assumption))))⟩
            case measure => simp [intOf]; omega
    · have : j = l.length := by omega
      subst this
      go_wp2_with fail
      refine (tl_pall hyrh.out qp lp qk lk _ (hqs.kept (by repeat' (first | (with_reducible exact Below.refl _ _) | (with_reducible assumption) | (with_reducible refine kept_alloc ?_ _) | (with_reducible refine kept_drewN ?_ _) | (with_reducible refine Below.drew ?_) | (with_reducible refine Below.setCell ?_ (by first | omega | (simp; omega) | (simp; done)) _) | (refine kept_trans ?_ (by with_reducible assumption))))) (hls5.kept (by repeat' (first | (with_reducible exact Below.refl _ _) | (with_reducible assumption) | (with_reducible refine kept_alloc ?_ _) | (with_reducible refine kept_drewN ?_ _) | (with_reducible refine Below.drew ?_) | (with_reducible refine Below.setCell ?_ (by first | omega | (simp; omega) | (simp; done)) _) | (refine kept_trans ?_ (by with_reducible assumption))))) (by omega) (by omega)).mono ?_
      rintro e wa ⟨p1, k1, rfl, hS1, hga, -⟩
      have hcs := cells_keep hga hcs
      clear hq0 hq1 hq2 hq3 hz0
      have hq0 := hcs.1.2; have hq1 := hcs.2.1.2; have hq2 := hcs.2.2.1.2; have hq3 := hcs.2.2.2.1.2; have hz0 := hcs.1.1
      have hBa : Below w.heap.size w wa := by repeat' (first | (with_reducible exact Below.refl _ _) | (with_reducible assumption) | (with_reducible refine kept_alloc ?_ _) | (with_reducible refine kept_drewN ?_ _) | (with_reducible refine Below.drew ?_) | (with_reducible refine Below.setCell ?_ (by first | omega | (simp; omega) | (simp; done)) _) | (refine kept_trans ?_ (by with_reducible assumption)))
      go_wp2_with fail
      refine (tl_rall hyrh.out qp lp qk lk _ (hqs.kept (by repeat' (first | (with_reducible exact Below.refl _ _) | (with_reducible assumption) | (with_reducible refine kept_alloc ?_ _) | (with_reducible refine kept_drewN ?_ _) | (with_reducible refine Below.drew ?_) | (with_reducible refine Below.setCell ?_ (by first | omega | (simp; omega) | (simp; done)) _) | (refine kept_trans ?_ (by with_reducible assumption))))) (hls5.kept (by repeat' (first | (with_reducible exact Below.refl _ _) | (with_reducible assumption) | (with_reducible refine kept_alloc ?_ _) | (with_reducible refine kept_drewN ?_ _) | (with_reducible refine Below.drew ?_) | (with_reducible refine Below.setCell ?_ (by first | omega | (simp; omega) | (simp; done)) _) | (refine kept_trans ?_ (by with_reducible assumption))))) (by omega) (by omega)).mono ?_
      rintro e wb ⟨p2, k2, rfl, hS2, hgb, -⟩
      have hcs : CellsAt wb [(w.heap.size, 0, .slice qp q.vals.length qk), (w.heap.size, 1, .int .i64 q.cap), (w.heap.size, 2, .int .i64 q.pol), (w.heap.size, 3, .int .i64 q.mode), (wa.heap.size, 0, .slice p1 y.vals.length k1), (wa.heap.size, 1, .int .i64 y.cap), (wa.heap.size, 2, .int .i64 y.pol), (wa.heap.size, 3, .int .i64 y.mode)] := cells_keep hgb (by (simp only [CellsAt]; (repeat' (first | exact trivial | (refine And.intro ?_ ?_))); all_goals (first | (focus ((try simp only [World.size_setCell, World.size_alloc]); omega)) | (repeat (first | rfl | assumption | (refine (World.cell?_alloc_past _ _ _ ?_).trans ?_; focus ((try simp only [World.size_setCell, World.size_alloc]); omega)) | (refine (World.cell?_alloc_at _ _ _ _ ?_).trans ?_; focus ((try simp only [World.size_setCell, World.size_alloc]); done)) | (refine (World.cell?_setCell_other _ _ _ _ ?_).trans ?_; focus (simp; done)) | (refine (World.cell?_setCell_other _ _ _ _ ?_).trans ?_; focus (simp; omega)) | (refine World.cell?_setCell_same' _ _ _ ?_; focus (first | (simp; done) | (simp [*]; done))))))))
      clear hq0 hq1 hq2 hq3 hz0
      have hq0 := hcs.1.2; have hq1 := hcs.2.1.2; have hq2 := hcs.2.2.1.2; have hq3 := hcs.2.2.2.1.2; have hq4 := hcs.2.2.2.2.1.2; have hq5 := hcs.2.2.2.2.2.1.2; have hq6 := hcs.2.2.2.2.2.2.1.2; have hq7 := hcs.2.2.2.2.2.2.2.1.2; have hz0 := hcs.1.1; have hz1 := hcs.2.2.2.2.1.1
      have hBb : Below w.heap.size w wb := by repeat' (first | (with_reducible exact Below.refl _ _) | (with_reducible assumption) | (with_reducible refine kept_alloc ?_ _) | (with_reducible refine kept_drewN ?_ _) | (with_reducible refine Below.drew ?_) | (with_reducible refine Below.setCell ?_ (by first | omega | (simp; omega) | (simp; done)) _) | (refine kept_trans ?_ (by with_reducible assumption)))
      have hS1b := hS1.kept (kept_trans (by repeat' (first | (with_reducible exact Below.refl _ _) | (with_reducible assumption) | (with_reducible refine kept_alloc ?_ _) | (with_reducible refine kept_drewN ?_ _) | (with_reducible refine Below.drew ?_) | (with_reducible refine Below.setCell ?_ (by first | omega | (simp; omega) | (simp; done)) _) | (refine kept_trans ?_ (by with_reducible assumption)))) hgb)
      go_wp2_with fail
      refine (rsame_any y y p1 p2 k1 k2 _ (hS1b.kept (by repeat' (first | (with_reducible exact Below.refl _ _) | (with_reducible assumption) | (with_reducible refine kept_alloc ?_ _) | (with_reducible refine kept_drewN ?_ _) | (with_reducible refine Below.drew ?_) | (with_reducible refine Below.setCell ?_ (by first | omega | (simp; omega) | (simp; done)) _) | (refine kept_trans ?_ (by with_reducible assumption))))) (hS2.kept (by repeat' (first | (with_reducible exact Below.refl _ _) | (with_reducible assumption) | (with_reducible refine kept_alloc ?_ _) | (with_reducible refine kept_drewN ?_ _) | (with_reducible refine Below.drew ?_) | (with_reducible refine Below.setCell ?_ (by first | omega | (simp; omega) | (simp; done)) _) | (refine kept_trans ?_ (by with_reducible assumption))))) (by omega)).mono ?_
      rintro e wz ⟨rfl, hgz⟩
      rw [same_refl y]
      go_wp2_with (first
        | (go_at_call 16; refine (psends_any _ _).mono ?_; rintro e w1 ⟨rfl, hg1⟩)
        | (go_at_call 17; refine (rsends_any _ _).mono ?_; rintro e w2 ⟨rfl, hg2⟩)
        | (go_at_call 18; refine (precvs_any _ _).mono ?_; rintro e w3 ⟨rfl, hg3⟩)
        | (go_at_call 19; refine (rrecvs_any _ _).mono ?_; rintro e w4 ⟨rfl, hg4⟩))
      all_goals (go_ret; exact ⟨rfl, by repeat' (first | (with_reducible exact Below.refl _ _) | (with_reducible assumption) | (with_reducible refine kept_alloc ?_ _) | (with_reducible refine kept_drewN ?_ _) | (with_reducible refine Below.drew ?_) | (with_reducible refine Below.setCell ?_ (by first | omega | (simp; omega) | (simp; done)) _) | (refine kept_trans ?_ (by with_reducible assumption)))⟩)
set_option maxRecDepth 100000 in
theorem fifoTells_lifted (os : Os) (started : os.Started) (H : Type) (enc : TypeId × Value → H) :
    ReturnsInHanded {} Try.checked os 3 .any (Rows.fifoTellsSpec.pre6 enc Try.prog Try.f3 Rows.fifoTellsRow.domain false) (Rows.fifoTellsSpec.post enc Try.prog Try.f3 false true false false) := by
  refine returnsInHanded_of_change (C := Try.checked) own started (by kernel_rfl) Try.func3
    (ChangeSpec.witness6 (enc := enc) (C := Try.checked) false ⟨#[], #[.agg #[.slice none 0 0, .int .i64 0, .int .i64 0, .int .i64 0], .slice none 0 0, .int .i64 0], []⟩ 8 (by kernel_rfl) (by kernel_rfl) (by kernel_rfl) (by kernel_rfl)) ?_
  intro W base args ds gs before hval0 hW hcnd _
  have hval : ∀ (j : Nat) t v, Try.f3.params[j]? = some t → args[j]? = some v → Value.okWide Try.prog W .any base t v := hval0
  have hW' := hW
  obtain ⟨p, q, hA0, hV, rfl, hfz, hnd⟩ := hW
  have hA : DataW.TrodAll enc Try.prog W 0 (fun _ => true) true Try.f3.params.toList args.toList ds p := hA0
  rw [Try.params3] at hA hval
  obtain ⟨v0, vs0, d0, ds0, p0, q0, hargs, rfl, rfl, h0, r0⟩ := trodAll_cons hA
  obtain ⟨v1, vs1, d1, ds1, p1, q1, rfl, rfl, rfl, h1, r1⟩ := trodAll_cons r0
  obtain ⟨v2, vs2, d2, ds2, p2, q2, rfl, rfl, rfl, h2, r2⟩ := trodAll_cons r1
  obtain ⟨rfl, rfl, rfl⟩ := trodAll_nil r2
  obtain rfl : args = #[v0, v1, v2] := by cases args; simp_all
  obtain ⟨rfl, rfl⟩ := trodVars_none hV
  obtain ⟨qcs, rfl, qrd⟩ := open_struct (g := 9) (l := Qu.shape) Try.underlying24 (by kernel_rfl) (hval 0 24 v0 rfl rfl) h0
  obtain ⟨q, qp, qk, hcs0, qsl, qok, qml⟩ := Qu.of_read qrd
  subst hcs0
  obtain ⟨l, lsl, lok, lml⟩ := Sl.of_read En.cells En.ok (by decide) (open_row (g := 9) (l := En.shape) Try.underlying25 (by kernel_rfl) (hval 1 25 v1 rfl rfl) h1) (fun vs h => En.of_read h)
  obtain ⟨kind, rfl, rfl, rfl, wf2⟩ := open_int Try.underlying3 (hval 2 3 v2 rfl rfl) h2
  clear hA0 hval0
  refine (fifoTells_walk q qp qk qok qml l v1 lok lml kind (in64_of_wf wf2) W qsl lsl).mono fun e W' ⟨he, hg⟩ => ?_
  subst he
  exact ⟨_, rfl, law_post laid hW' rfl (by kernel_rfl) rfl Try.underlying4 rfl hg⟩

/-- The statement, whole. -/
theorem fifoTells_holds : Rows.FifoTellsSaid :=
  OpenClaim.holds_of_wide 3 Try.f3 rfl rfl rfl rfl rfl rfl rfl ⟨rfl, rfl, rfl, rfl, rfl⟩ rfl rfl rfl rfl rfl (by kernel_rfl) Try.func3 (by kernel_rfl)
    (of_decide_eq_true (by kernel_rfl)) (by unfold Func.isWrapper; rw [if_neg (of_decide_eq_false (by kernel_rfl))]; exact ⟨rfl, rfl⟩)
    (fun os started H enc _ => fifoTells_lifted os started H enc)
end Go.Proofs.Ytomnhjcoonbajaa
