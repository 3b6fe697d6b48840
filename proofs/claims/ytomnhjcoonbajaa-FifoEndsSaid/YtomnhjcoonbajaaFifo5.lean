/- Layer 3: FifoEnds holds for every input. -/
import Derived.Test.YtomnhjcoonbajaaFifo4
import Derived.IntWalk
namespace Go.Proofs.Ytomnhjcoonbajaa
set_option linter.unusedVariables false
set_option linter.unusedSimpArgs false
open Go.ChangeShapes Go.WideShapes Go.ChangeAt Go.RowKit

set_option maxRecDepth 100000 in
set_option maxHeartbeats 8000000 in
theorem fifoEnds_walk (q : Qu) (qp : Option Addr) (qk : Nat) (hq : q.ok) (hqm : q.vals.length ≤ maxLen) (l : List En) (lv : Value) (hl : ∀ x ∈ l, x.ok) (hlm : l.length ≤ maxLen) (w : World) (hqs : Sl w 1 intC q.vals (.slice qp q.vals.length qk)) (hls : Sl w En.size En.cells l lv) :
    Calls Try.prog 8 #[.agg #[.slice qp q.vals.length qk, .int .i64 q.cap, .int .i64 q.pol, .int .i64 q.mode], lv] w fun e w' => e = .returned (.bool true) ∧ Kept w w' := by
  by_cases a1 : (100 : Int) < (q.vals.length : Int)
  · obtain ⟨lp, lk, rfl, _⟩ := hls.is
    go_enter Try.func8, Try.ntmps8; go_wp2_with fail; refine (fifoawake_any _).mono ?_; rintro e wy ⟨rfl, hgy⟩; have hcs : CellsAt wy [(w.heap.size, 0, .slice qp q.vals.length qk), (w.heap.size, 1, .int .i64 q.cap), (w.heap.size, 2, .int .i64 q.pol), (w.heap.size, 3, .int .i64 q.mode)] := cells_keep hgy (by (simp only [CellsAt]; (repeat' (first | exact trivial | (refine And.intro ?_ ?_))); all_goals (first | (focus ((try simp only [World.size_setCell, World.size_alloc]); omega)) | (repeat (first | rfl | assumption | (refine (World.cell?_alloc_past _ _ _ ?_).trans ?_; focus ((try simp only [World.size_setCell, World.size_alloc]); omega)) | (refine (World.cell?_alloc_at _ _ _ _ ?_).trans ?_; focus ((try simp only [World.size_setCell, World.size_alloc]); done)) | (refine (World.cell?_setCell_other _ _ _ _ ?_).trans ?_; focus (simp; done)) | (refine (World.cell?_setCell_other _ _ _ _ ?_).trans ?_; focus (simp; omega)) | (refine World.cell?_setCell_same' _ _ _ ?_; focus (first | (simp; done) | (simp [*]; done)))))))); have hq0 := hcs.1.2; have hq1 := hcs.2.1.2; have hq2 := hcs.2.2.1.2; have hq3 := hcs.2.2.2.1.2; have hz0 := hcs.1.1; go_wp2; all_goals (go_ret; exact ⟨rfl, by repeat' (first | (with_reducible exact Below.refl _ _) | (with_reducible assumption) | (with_reducible refine kept_alloc ?_ _) | (with_reducible refine kept_drewN ?_ _) | (with_reducible refine Below.drew ?_) | (with_reducible refine Below.setCell ?_ (by first | omega | (simp; omega) | (simp; done)) _) | (refine kept_trans ?_ (by with_reducible assumption)))⟩)
  by_cases a2 : (100 : Int) < (l.length : Int)
  · obtain ⟨lp, lk, rfl, _⟩ := hls.is
    go_enter Try.func8, Try.ntmps8; go_wp2_with fail; refine (fifoawake_any _).mono ?_; rintro e wy ⟨rfl, hgy⟩; have hcs : CellsAt wy [(w.heap.size, 0, .slice qp q.vals.length qk), (w.heap.size, 1, .int .i64 q.cap), (w.heap.size, 2, .int .i64 q.pol), (w.heap.size, 3, .int .i64 q.mode)] := cells_keep hgy (by (simp only [CellsAt]; (repeat' (first | exact trivial | (refine And.intro ?_ ?_))); all_goals (first | (focus ((try simp only [World.size_setCell, World.size_alloc]); omega)) | (repeat (first | rfl | assumption | (refine (World.cell?_alloc_past _ _ _ ?_).trans ?_; focus ((try simp only [World.size_setCell, World.size_alloc]); omega)) | (refine (World.cell?_alloc_at _ _ _ _ ?_).trans ?_; focus ((try simp only [World.size_setCell, World.size_alloc]); done)) | (refine (World.cell?_setCell_other _ _ _ _ ?_).trans ?_; focus (simp; done)) | (refine (World.cell?_setCell_other _ _ _ _ ?_).trans ?_; focus (simp; omega)) | (refine World.cell?_setCell_same' _ _ _ ?_; focus (first | (simp; done) | (simp [*]; done)))))))); have hq0 := hcs.1.2; have hq1 := hcs.2.1.2; have hq2 := hcs.2.2.1.2; have hq3 := hcs.2.2.2.1.2; have hz0 := hcs.1.1; go_wp2; all_goals (go_ret; exact ⟨rfl, by repeat' (first | (with_reducible exact Below.refl _ _) | (with_reducible assumption) | (with_reducible refine kept_alloc ?_ _) | (with_reducible refine kept_drewN ?_ _) | (with_reducible refine Below.drew ?_) | (with_reducible refine Below.setCell ?_ (by first | omega | (simp; omega) | (simp; done)) _) | (refine kept_trans ?_ (by with_reducible assumption)))⟩)
  have hlen : q.vals.length ≤ 100 := by omega
  have hlen2 : l.length ≤ 100 := by omega
  have hls5 : Sl w 5 En.cells l lv := hls
  obtain ⟨lp, lk, rfl, _⟩ := hls5.is
  have hX : Qu.all ⟨q.vals, q.cap, q.pol, 2⟩ l = (⟨q.vals, q.cap, q.pol, 2⟩, (Qu.all ⟨q.vals, q.cap, q.pol, 2⟩ l).2) := Prod.ext (all_halted l _ rfl) rfl
  have hY := all_closed l ⟨q.vals, q.cap, q.pol, 1⟩ (by simp)
  generalize (Qu.all ⟨q.vals, q.cap, q.pol, 2⟩ l).2 = n1 at hX
  obtain ⟨⟨y, n2⟩, hYr⟩ : ∃ r, Qu.all ⟨q.vals, q.cap, q.pol, 1⟩ l = r := ⟨_, rfl⟩
  rw [hYr] at hY
  simp only at hY
  obtain ⟨⟨pre, hpre⟩, hym⟩ := hY
  obtain ⟨hdrop, hyl⟩ := suffix_drop hpre
  have hXh := Lib.hid hX
  have hYh := Lib.hid hYr
  clear hX hYr hpre
  obtain ⟨kk, hkk⟩ : ∃ kk, q.vals.length - y.vals.length = kk := ⟨_, rfl⟩
  rw [hkk] at hdrop
  have hkl : q.vals.length - kk = y.vals.length := by omega
  have hkl2 : kk ≤ q.vals.length := by omega
  have hdroph := Lib.hid hdrop
  have hkkh := Lib.hid hkk
  clear hdrop hkk
  obtain ⟨_, _, e1, hqk, hqkm, hqn, hqc⟩ := hqs.is
  cases e1
  have hqch := Lib.hid hqc
  clear hqc
  have hklh := Lib.hid hkl
  clear hkl
  go_enter Try.func8, Try.ntmps8; go_wp2_with fail; refine (fifoawake_any _).mono ?_; rintro e wy ⟨rfl, hgy⟩; have hcs : CellsAt wy [(w.heap.size, 0, .slice qp q.vals.length qk), (w.heap.size, 1, .int .i64 q.cap), (w.heap.size, 2, .int .i64 q.pol), (w.heap.size, 3, .int .i64 q.mode)] := cells_keep hgy (by (simp only [CellsAt]; (repeat' (first | exact trivial | (refine And.intro ?_ ?_))); all_goals (first | (focus ((try simp only [World.size_setCell, World.size_alloc]); omega)) | (repeat (first | rfl | assumption | (refine (World.cell?_alloc_past _ _ _ ?_).trans ?_; focus ((try simp only [World.size_setCell, World.size_alloc]); omega)) | (refine (World.cell?_alloc_at _ _ _ _ ?_).trans ?_; focus ((try simp only [World.size_setCell, World.size_alloc]); done)) | (refine (World.cell?_setCell_other _ _ _ _ ?_).trans ?_; focus (simp; done)) | (refine (World.cell?_setCell_other _ _ _ _ ?_).trans ?_; focus (simp; omega)) | (refine World.cell?_setCell_same' _ _ _ ?_; focus (first | (simp; done) | (simp [*]; done)))))))); have hq0 := hcs.1.2; have hq1 := hcs.2.1.2; have hq2 := hcs.2.2.1.2; have hq3 := hcs.2.2.2.1.2; have hz0 := hcs.1.1
  have hB0 : Below w.heap.size w wy := kept_trans (by repeat' (first | (with_reducible exact Below.refl _ _) | (with_reducible assumption) | (with_reducible refine kept_alloc ?_ _) | (with_reducible refine kept_drewN ?_ _) | (with_reducible refine Below.drew ?_) | (with_reducible refine Below.setCell ?_ (by first | omega | (simp; omega) | (simp; done)) _) | (refine kept_trans ?_ (by with_reducible assumption)))) hgy
  go_wp2_with fail
  refine (pall_val hXh.out qp lp qk lk _ (hqs.kept (by repeat' (first | (with_reducible exact Below.refl _ _) | (with_reducible assumption) | (with_reducible refine kept_alloc ?_ _) | (with_reducible refine kept_drewN ?_ _) | (with_reducible refine Below.drew ?_) | (with_reducible refine Below.setCell ?_ (by first | omega | (simp; omega) | (simp; done)) _) | (refine kept_trans ?_ (by with_reducible assumption))))) (hls5.kept (by repeat' (first | (with_reducible exact Below.refl _ _) | (with_reducible assumption) | (with_reducible refine kept_alloc ?_ _) | (with_reducible refine kept_drewN ?_ _) | (with_reducible refine Below.drew ?_) | (with_reducible refine Below.setCell ?_ (by first | omega | (simp; omega) | (simp; done)) _) | (refine kept_trans ?_ (by with_reducible assumption))))) (by show q.vals.length ≤ 200; omega) (by omega)).mono ?_
  rintro e wa ⟨p1, k1, rfl, hS1, hga⟩
  have hcs : CellsAt wa [(w.heap.size, 0, .slice qp q.vals.length qk), (w.heap.size, 1, .int .i64 q.cap), (w.heap.size, 2, .int .i64 q.pol), (w.heap.size, 3, .int .i64 q.mode), (wy.heap.size, 0, .slice qp q.vals.length qk), (wy.heap.size, 1, .int .i64 q.cap), (wy.heap.size, 2, .int .i64 q.pol), (wy.heap.size, 3, .int .i64 2), (wy.heap.size + 1, 0, .slice qp q.vals.length qk), (wy.heap.size + 1, 1, .int .i64 q.cap), (wy.heap.size + 1, 2, .int .i64 q.pol), (wy.heap.size + 1, 3, .int .i64 1)] := cells_keep hga (by (simp only [CellsAt]; (repeat' (first | exact trivial | (refine And.intro ?_ ?_))); all_goals (first | (focus ((try simp only [World.size_setCell, World.size_alloc]); omega)) | (repeat (first | rfl | assumption | (refine (World.cell?_alloc_past _ _ _ ?_).trans ?_; focus ((try simp only [World.size_setCell, World.size_alloc]); omega)) | (refine (World.cell?_alloc_at _ _ _ _ ?_).trans ?_; focus ((try simp only [World.size_setCell, World.size_alloc]); done)) | (refine (World.cell?_setCell_other _ _ _ _ ?_).trans ?_; focus (simp; done)) | (refine (World.cell?_setCell_other _ _ _ _ ?_).trans ?_; focus (simp; omega)) | (refine World.cell?_setCell_same' _ _ _ ?_; focus (first | (simp; done) | (simp [*]; done))))))))
  clear hq0 hq1 hq2 hq3 hz0
  have hq0 := hcs.1.2; have hq1 := hcs.2.1.2; have hq2 := hcs.2.2.1.2; have hq3 := hcs.2.2.2.1.2; have hq4 := hcs.2.2.2.2.1.2; have hq5 := hcs.2.2.2.2.2.1.2; have hq6 := hcs.2.2.2.2.2.2.1.2; have hq7 := hcs.2.2.2.2.2.2.2.1.2; have hq8 := hcs.2.2.2.2.2.2.2.2.1.2; have hq9 := hcs.2.2.2.2.2.2.2.2.2.1.2; have hq10 := hcs.2.2.2.2.2.2.2.2.2.2.1.2; have hq11 := hcs.2.2.2.2.2.2.2.2.2.2.2.1.2; have hz0 := hcs.1.1; have hz1 := hcs.2.2.2.2.1.1; have hz2 := hcs.2.2.2.2.2.2.2.2.1.1
  have hBa : Below w.heap.size w wa := by repeat' (first | (with_reducible exact Below.refl _ _) | (with_reducible assumption) | (with_reducible refine kept_alloc ?_ _) | (with_reducible refine kept_drewN ?_ _) | (with_reducible refine Below.drew ?_) | (with_reducible refine Below.setCell ?_ (by first | omega | (simp; omega) | (simp; done)) _) | (refine kept_trans ?_ (by with_reducible assumption)))
  go_wp2_with fail
  refine (pall_val hYh.out qp lp qk lk _ (hqs.kept (by repeat' (first | (with_reducible exact Below.refl _ _) | (with_reducible assumption) | (with_reducible refine kept_alloc ?_ _) | (with_reducible refine kept_drewN ?_ _) | (with_reducible refine Below.drew ?_) | (with_reducible refine Below.setCell ?_ (by first | omega | (simp; omega) | (simp; done)) _) | (refine kept_trans ?_ (by with_reducible assumption))))) (hls5.kept (by repeat' (first | (with_reducible exact Below.refl _ _) | (with_reducible assumption) | (with_reducible refine kept_alloc ?_ _) | (with_reducible refine kept_drewN ?_ _) | (with_reducible refine Below.drew ?_) | (with_reducible refine Below.setCell ?_ (by first | omega | (simp; omega) | (simp; done)) _) | (refine kept_trans ?_ (by with_reducible assumption))))) (by show q.vals.length ≤ 200; omega) (by omega)).mono ?_
  rintro e wb ⟨p2, k2, rfl, hS2, hgb⟩
  have hcs : CellsAt wb [(w.heap.size, 0, .slice qp q.vals.length qk), (w.heap.size, 1, .int .i64 q.cap), (w.heap.size, 2, .int .i64 q.pol), (w.heap.size, 3, .int .i64 q.mode), (wy.heap.size, 0, .slice qp q.vals.length qk), (wy.heap.size, 1, .int .i64 q.cap), (wy.heap.size, 2, .int .i64 q.pol), (wy.heap.size, 3, .int .i64 2), (wa.heap.size, 0, .slice p1 q.vals.length k1), (wa.heap.size, 1, .int .i64 q.cap), (wa.heap.size, 2, .int .i64 q.pol), (wa.heap.size, 3, .int .i64 2)] := cells_keep hgb (by (simp only [CellsAt]; (repeat' (first | exact trivial | (refine And.intro ?_ ?_))); all_goals (first | (focus ((try simp only [World.size_setCell, World.size_alloc]); omega)) | (repeat (first | rfl | assumption | (refine (World.cell?_alloc_past _ _ _ ?_).trans ?_; focus ((try simp only [World.size_setCell, World.size_alloc]); omega)) | (refine (World.cell?_alloc_at _ _ _ _ ?_).trans ?_; focus ((try simp only [World.size_setCell, World.size_alloc]); done)) | (refine (World.cell?_setCell_other _ _ _ _ ?_).trans ?_; focus (simp; done)) | (refine (World.cell?_setCell_other _ _ _ _ ?_).trans ?_; focus (simp; omega)) | (refine World.cell?_setCell_same' _ _ _ ?_; focus (first | (simp; done) | (simp [*]; done))))))))
  clear hq0 hq1 hq2 hq3 hz0 hq4 hq5 hq6 hq7 hz1 hq8 hq9 hq10 hq11 hz2
  have hq0 := hcs.1.2; have hq1 := hcs.2.1.2; have hq2 := hcs.2.2.1.2; have hq3 := hcs.2.2.2.1.2; have hq4 := hcs.2.2.2.2.1.2; have hq5 := hcs.2.2.2.2.2.1.2; have hq6 := hcs.2.2.2.2.2.2.1.2; have hq7 := hcs.2.2.2.2.2.2.2.1.2; have hq8 := hcs.2.2.2.2.2.2.2.2.1.2; have hq9 := hcs.2.2.2.2.2.2.2.2.2.1.2; have hq10 := hcs.2.2.2.2.2.2.2.2.2.2.1.2; have hq11 := hcs.2.2.2.2.2.2.2.2.2.2.2.1.2; have hz0 := hcs.1.1; have hz1 := hcs.2.2.2.2.1.1; have hz2 := hcs.2.2.2.2.2.2.2.2.1.1
  have hBb : Below w.heap.size w wb := by repeat' (first | (with_reducible exact Below.refl _ _) | (with_reducible assumption) | (with_reducible refine kept_alloc ?_ _) | (with_reducible refine kept_drewN ?_ _) | (with_reducible refine Below.drew ?_) | (with_reducible refine Below.setCell ?_ (by first | omega | (simp; omega) | (simp; done)) _) | (refine kept_trans ?_ (by with_reducible assumption)))
  have hS1b := hS1.kept (kept_trans (by repeat' (first | (with_reducible exact Below.refl _ _) | (with_reducible assumption) | (with_reducible refine kept_alloc ?_ _) | (with_reducible refine kept_drewN ?_ _) | (with_reducible refine Below.drew ?_) | (with_reducible refine Below.setCell ?_ (by first | omega | (simp; omega) | (simp; done)) _) | (refine kept_trans ?_ (by with_reducible assumption)))) hgb)
  go_wp2
  (try simp only at hS1b)
  (try simp only at hS2)
  have hcsV : CellsAt (wb.alloc (.cells #[.slice p2 y.vals.length k2, .int .i64 y.cap, .int .i64 y.pol, .int .i64 y.mode] 24)) [(w.heap.size, 0, .slice qp q.vals.length qk), (w.heap.size, 1, .int .i64 q.cap), (w.heap.size, 2, .int .i64 q.pol), (w.heap.size, 3, .int .i64 q.mode), (wy.heap.size, 0, .slice qp q.vals.length qk), (wy.heap.size, 1, .int .i64 q.cap), (wy.heap.size, 2, .int .i64 q.pol), (wy.heap.size, 3, .int .i64 2), (wa.heap.size, 0, .slice p1 q.vals.length k1), (wa.heap.size, 1, .int .i64 q.cap), (wa.heap.size, 2, .int .i64 q.pol), (wa.heap.size, 3, .int .i64 2), (wb.heap.size, 0, .slice p2 y.vals.length k2), (wb.heap.size, 1, .int .i64 y.cap), (wb.heap.size, 2, .int .i64 y.pol), (wb.heap.size, 3, .int .i64 y.mode)] := by (simp only [CellsAt]; (repeat' (first | exact trivial | (refine And.intro ?_ ?_))); all_goals (first | (focus ((try simp only [World.size_setCell, World.size_alloc]); omega)) | (repeat (first | rfl | assumption | (refine (World.cell?_alloc_past _ _ _ ?_).trans ?_; focus ((try simp only [World.size_setCell, World.size_alloc]); omega)) | (refine (World.cell?_alloc_at _ _ _ _ ?_).trans ?_; focus ((try simp only [World.size_setCell, World.size_alloc]); done)) | (refine (World.cell?_setCell_other _ _ _ _ ?_).trans ?_; focus (simp; done)) | (refine (World.cell?_setCell_other _ _ _ _ ?_).trans ?_; focus (simp; omega)) | (refine World.cell?_setCell_same' _ _ _ ?_; focus (first | (simp; done) | (simp [*]; done)))))))
  have hBV : Below w.heap.size w (wb.alloc (.cells #[.slice p2 y.vals.length k2, .int .i64 y.cap, .int .i64 y.pol, .int .i64 y.mode] 24)) := by repeat' (first | (with_reducible exact Below.refl _ _) | (with_reducible assumption) | (with_reducible refine kept_alloc ?_ _) | (with_reducible refine kept_drewN ?_ _) | (with_reducible refine Below.drew ?_) | (with_reducible refine Below.setCell ?_ (by first | omega | (simp; omega) | (simp; done)) _) | (refine kept_trans ?_ (by with_reducible assumption)))
  have hS2V := hS2.kept (W' := (wb.alloc (.cells #[.slice p2 y.vals.length k2, .int .i64 y.cap, .int .i64 y.pol, .int .i64 y.mode] 24))) (by repeat' (first | (with_reducible exact Below.refl _ _) | (with_reducible assumption) | (with_reducible refine kept_alloc ?_ _) | (with_reducible refine kept_drewN ?_ _) | (with_reducible refine Below.drew ?_) | (with_reducible refine Below.setCell ?_ (by first | omega | (simp; omega) | (simp; done)) _) | (refine kept_trans ?_ (by with_reducible assumption))))
  have hS1V := hS1b.kept (W' := (wb.alloc (.cells #[.slice p2 y.vals.length k2, .int .i64 y.cap, .int .i64 y.pol, .int .i64 y.mode] 24))) (by repeat' (first | (with_reducible exact Below.refl _ _) | (with_reducible assumption) | (with_reducible refine kept_alloc ?_ _) | (with_reducible refine kept_drewN ?_ _) | (with_reducible refine Below.drew ?_) | (with_reducible refine Below.setCell ?_ (by first | omega | (simp; omega) | (simp; done)) _) | (refine kept_trans ?_ (by with_reducible assumption))))
  generalize (wb.alloc (.cells #[.slice p2 y.vals.length k2, .int .i64 y.cap, .int .i64 y.pol, .int .i64 y.mode] 24)) = V at hcsV hBV hS2V hS1V ⊢
  have hqV := hqs.kept hBV
  have hsub : IntKind.i64.wrap ((q.vals.length : Int) - (y.vals.length : Int)) = (kk : Int) := by rw [IntWalk.i64_in _ (by omega)]; have := hkkh.out; omega
  have n1 : decide (y.vals.length ≤ q.vals.length) = true := by simp; omega
  have n2 : decide (1 ≤ y.mode) = true := by simp; omega
  have n3 : (0 : Int) ≤ (kk : Int) := by omega
  have n4 : (kk : Int) ≤ (q.vals.length : Int) := by omega
  have n5 : (q.vals.length : Int) ≤ (qk : Int) := by omega
  have hcsVh := Lib.hid hcsV
  clear hcs hq0 hq1 hq2 hq3 hq4 hq5 hq6 hq7 hq8 hq9 hq10 hq11 hcsV hS1 hS2 hS1b
  obtain ⟨L, hL⟩ : ∃ L : List (Nat × Nat × Value), [(w.heap.size, 0, .slice qp q.vals.length qk), (w.heap.size, 1, .int .i64 q.cap), (w.heap.size, 2, .int .i64 q.pol), (w.heap.size, 3, .int .i64 q.mode), (wy.heap.size, 0, .slice qp q.vals.length qk), (wy.heap.size, 1, .int .i64 q.cap), (wy.heap.size, 2, .int .i64 q.pol), (wy.heap.size, 3, .int .i64 2), (wa.heap.size, 0, .slice p1 q.vals.length k1), (wa.heap.size, 1, .int .i64 q.cap), (wa.heap.size, 2, .int .i64 q.pol), (wa.heap.size, 3, .int .i64 2), (wb.heap.size, 0, .slice p2 y.vals.length k2), (wb.heap.size, 1, .int .i64 y.cap), (wb.heap.size, 2, .int .i64 y.pol), (wb.heap.size, 3, .int .i64 y.mode)] = L := ⟨_, rfl⟩
  have hLc : ∀ xwd : Wd V L, CellsAt xwd.at [(w.heap.size, 0, .slice qp q.vals.length qk), (w.heap.size, 1, .int .i64 q.cap), (w.heap.size, 2, .int .i64 q.pol), (w.heap.size, 3, .int .i64 q.mode), (wy.heap.size, 0, .slice qp q.vals.length qk), (wy.heap.size, 1, .int .i64 q.cap), (wy.heap.size, 2, .int .i64 q.pol), (wy.heap.size, 3, .int .i64 2), (wa.heap.size, 0, .slice p1 q.vals.length k1), (wa.heap.size, 1, .int .i64 q.cap), (wa.heap.size, 2, .int .i64 q.pol), (wa.heap.size, 3, .int .i64 2), (wb.heap.size, 0, .slice p2 y.vals.length k2), (wb.heap.size, 1, .int .i64 y.cap), (wb.heap.size, 2, .int .i64 y.pol), (wb.heap.size, 3, .int .i64 y.mode)] := fun x => hL.symm ▸ x.cells
  have hLV : Hid (CellsAt V L) := Lib.hid (hL ▸ hcsVh.out)
  by_cases hk0 : kk = 0
  · subst hk0
    have hyq : y.vals = q.vals := hdroph.out.trans (by simp)
    have hSy : Sl V 1 intC y.vals (.slice qp y.vals.length qk) := by rw [hyq]; exact hqV
    have hyl2 : q.vals.length = y.vals.length := by rw [hyq]
    have hyl2h := Lib.hid hyl2
    have hyqh := Lib.hid hyq
    clear hyq hyl2
    cases qp with
    | none =>
      obtain rfl : qk = 0 := hqn rfl
      have z0 : ∀ xwd : Wd V L, xwd.at.cell? ⟨w.heap.size, 0, none⟩ = some (.slice none q.vals.length 0) := fun xwd => (hLc xwd).1.2
      have z1 : ∀ xwd : Wd V L, xwd.at.cell? ⟨w.heap.size, 1, none⟩ = some (.int .i64 q.cap) := fun xwd => (hLc xwd).2.1.2
      have z2 : ∀ xwd : Wd V L, xwd.at.cell? ⟨w.heap.size, 2, none⟩ = some (.int .i64 q.pol) := fun xwd => (hLc xwd).2.2.1.2
      have z3 : ∀ xwd : Wd V L, xwd.at.cell? ⟨w.heap.size, 3, none⟩ = some (.int .i64 q.mode) := fun xwd => (hLc xwd).2.2.2.1.2
      have z4 : ∀ xwd : Wd V L, xwd.at.cell? ⟨wy.heap.size, 0, none⟩ = some (.slice none q.vals.length 0) := fun xwd => (hLc xwd).2.2.2.2.1.2
      have z5 : ∀ xwd : Wd V L, xwd.at.cell? ⟨wy.heap.size, 1, none⟩ = some (.int .i64 q.cap) := fun xwd => (hLc xwd).2.2.2.2.2.1.2
      have z6 : ∀ xwd : Wd V L, xwd.at.cell? ⟨wy.heap.size, 2, none⟩ = some (.int .i64 q.pol) := fun xwd => (hLc xwd).2.2.2.2.2.2.1.2
      have z7 : ∀ xwd : Wd V L, xwd.at.cell? ⟨wy.heap.size, 3, none⟩ = some (.int .i64 2) := fun xwd => (hLc xwd).2.2.2.2.2.2.2.1.2
      have z8 : ∀ xwd : Wd V L, xwd.at.cell? ⟨wa.heap.size, 0, none⟩ = some (.slice p1 q.vals.length k1) := fun xwd => (hLc xwd).2.2.2.2.2.2.2.2.1.2
      have z9 : ∀ xwd : Wd V L, xwd.at.cell? ⟨wa.heap.size, 1, none⟩ = some (.int .i64 q.cap) := fun xwd => (hLc xwd).2.2.2.2.2.2.2.2.2.1.2
      have z10 : ∀ xwd : Wd V L, xwd.at.cell? ⟨wa.heap.size, 2, none⟩ = some (.int .i64 q.pol) := fun xwd => (hLc xwd).2.2.2.2.2.2.2.2.2.2.1.2
      have z11 : ∀ xwd : Wd V L, xwd.at.cell? ⟨wa.heap.size, 3, none⟩ = some (.int .i64 2) := fun xwd => (hLc xwd).2.2.2.2.2.2.2.2.2.2.2.1.2
      have z12 : ∀ xwd : Wd V L, xwd.at.cell? ⟨wb.heap.size, 0, none⟩ = some (.slice p2 y.vals.length k2) := fun xwd => (hLc xwd).2.2.2.2.2.2.2.2.2.2.2.2.1.2
      have z13 : ∀ xwd : Wd V L, xwd.at.cell? ⟨wb.heap.size, 1, none⟩ = some (.int .i64 y.cap) := fun xwd => (hLc xwd).2.2.2.2.2.2.2.2.2.2.2.2.2.1.2
      have z14 : ∀ xwd : Wd V L, xwd.at.cell? ⟨wb.heap.size, 2, none⟩ = some (.int .i64 y.pol) := fun xwd => (hLc xwd).2.2.2.2.2.2.2.2.2.2.2.2.2.2.1.2
      have z15 : ∀ xwd : Wd V L, xwd.at.cell? ⟨wb.heap.size, 3, none⟩ = some (.int .i64 y.mode) := fun xwd => (hLc xwd).2.2.2.2.2.2.2.2.2.2.2.2.2.2.2.1.2
      have hkl := hklh.out
      have hL2 := Lib.hid hL
      clear hL hLc
      refine wp_region_kept (w := V) L (by kernel_rfl) (by kernel_rfl) (Below.refl _ _) hLV.out (fun hne => ?_)
      repeat (go_big_quiet_step ((first | (go_at_call 13; exact quiet_call ((rsame_any ⟨q.vals, q.cap, q.pol, 2⟩ ⟨q.vals, q.cap, q.pol, 2⟩ p1 none k1 0 _ (hS1V.kept (Wd.kept _)) (hqV.kept (Wd.kept _)) (by show q.vals.length ≤ _; omega)).mono (fun e w' h => ⟨h.1.trans (by rw [same_refl]), h.2⟩))) | (go_at_call 20; exact quiet_call (rints_any y.vals y.vals p2 none k2 _ _ (hS2V.kept (Wd.kept _)) (hSy.kept (Wd.kept _)) (by omega))))))
      refine wpQuiet_nil ?_
      intro wq hwq
      obtain ⟨xwd, hxwd⟩ := hwq
      have hgq : Below w.heap.size w wq := hBV.trans (by rw [hxwd]; exact xwd.kept.mono hBV.size)
      clear hxwd
      clear z0 z1 z2 z3 z4 z5 z6 z7 z8 z9 z10 z11 z12 z13 z14 z15 hsub
      go_wp2
      all_goals (go_ret; exact ⟨rfl, by repeat' (first | (with_reducible exact Below.refl _ _) | (with_reducible assumption) | (with_reducible refine kept_alloc ?_ _) | (with_reducible refine kept_drewN ?_ _) | (with_reducible refine Below.drew ?_) | (with_reducible refine Below.setCell ?_ (by first | omega | (simp; omega) | (simp; done)) _) | (refine kept_trans ?_ (by with_reducible assumption)))⟩)
    | some a =>
      have z0 : ∀ xwd : Wd V L, xwd.at.cell? ⟨w.heap.size, 0, none⟩ = some (.slice (some a) q.vals.length qk) := fun xwd => (hLc xwd).1.2
      have z1 : ∀ xwd : Wd V L, xwd.at.cell? ⟨w.heap.size, 1, none⟩ = some (.int .i64 q.cap) := fun xwd => (hLc xwd).2.1.2
      have z2 : ∀ xwd : Wd V L, xwd.at.cell? ⟨w.heap.size, 2, none⟩ = some (.int .i64 q.pol) := fun xwd => (hLc xwd).2.2.1.2
      have z3 : ∀ xwd : Wd V L, xwd.at.cell? ⟨w.heap.size, 3, none⟩ = some (.int .i64 q.mode) := fun xwd => (hLc xwd).2.2.2.1.2
      have z4 : ∀ xwd : Wd V L, xwd.at.cell? ⟨wy.heap.size, 0, none⟩ = some (.slice (some a) q.vals.length qk) := fun xwd => (hLc xwd).2.2.2.2.1.2
      have z5 : ∀ xwd : Wd V L, xwd.at.cell? ⟨wy.heap.size, 1, none⟩ = some (.int .i64 q.cap) := fun xwd => (hLc xwd).2.2.2.2.2.1.2
      have z6 : ∀ xwd : Wd V L, xwd.at.cell? ⟨wy.heap.size, 2, none⟩ = some (.int .i64 q.pol) := fun xwd => (hLc xwd).2.2.2.2.2.2.1.2
      have z7 : ∀ xwd : Wd V L, xwd.at.cell? ⟨wy.heap.size, 3, none⟩ = some (.int .i64 2) := fun xwd => (hLc xwd).2.2.2.2.2.2.2.1.2
      have z8 : ∀ xwd : Wd V L, xwd.at.cell? ⟨wa.heap.size, 0, none⟩ = some (.slice p1 q.vals.length k1) := fun xwd => (hLc xwd).2.2.2.2.2.2.2.2.1.2
      have z9 : ∀ xwd : Wd V L, xwd.at.cell? ⟨wa.heap.size, 1, none⟩ = some (.int .i64 q.cap) := fun xwd => (hLc xwd).2.2.2.2.2.2.2.2.2.1.2
      have z10 : ∀ xwd : Wd V L, xwd.at.cell? ⟨wa.heap.size, 2, none⟩ = some (.int .i64 q.pol) := fun xwd => (hLc xwd).2.2.2.2.2.2.2.2.2.2.1.2
      have z11 : ∀ xwd : Wd V L, xwd.at.cell? ⟨wa.heap.size, 3, none⟩ = some (.int .i64 2) := fun xwd => (hLc xwd).2.2.2.2.2.2.2.2.2.2.2.1.2
      have z12 : ∀ xwd : Wd V L, xwd.at.cell? ⟨wb.heap.size, 0, none⟩ = some (.slice p2 y.vals.length k2) := fun xwd => (hLc xwd).2.2.2.2.2.2.2.2.2.2.2.2.1.2
      have z13 : ∀ xwd : Wd V L, xwd.at.cell? ⟨wb.heap.size, 1, none⟩ = some (.int .i64 y.cap) := fun xwd => (hLc xwd).2.2.2.2.2.2.2.2.2.2.2.2.2.1.2
      have z14 : ∀ xwd : Wd V L, xwd.at.cell? ⟨wb.heap.size, 2, none⟩ = some (.int .i64 y.pol) := fun xwd => (hLc xwd).2.2.2.2.2.2.2.2.2.2.2.2.2.2.1.2
      have z15 : ∀ xwd : Wd V L, xwd.at.cell? ⟨wb.heap.size, 3, none⟩ = some (.int .i64 y.mode) := fun xwd => (hLc xwd).2.2.2.2.2.2.2.2.2.2.2.2.2.2.2.1.2
      have hkl := hklh.out
      have hL2 := Lib.hid hL
      clear hL hLc
      refine wp_region_kept (w := V) L (by kernel_rfl) (by kernel_rfl) (Below.refl _ _) hLV.out (fun hne => ?_)
      repeat (go_big_quiet_step ((first | (go_at_call 13; exact quiet_call ((rsame_any ⟨q.vals, q.cap, q.pol, 2⟩ ⟨q.vals, q.cap, q.pol, 2⟩ p1 (some a) k1 qk _ (hS1V.kept (Wd.kept _)) (hqV.kept (Wd.kept _)) (by show q.vals.length ≤ _; omega)).mono (fun e w' h => ⟨h.1.trans (by rw [same_refl]), h.2⟩))) | (go_at_call 20; exact quiet_call (rints_any y.vals y.vals p2 (some a) k2 _ _ (hS2V.kept (Wd.kept _)) (hSy.kept (Wd.kept _)) (by omega))))))
      refine wpQuiet_nil ?_
      intro wq hwq
      obtain ⟨xwd, hxwd⟩ := hwq
      have hgq : Below w.heap.size w wq := hBV.trans (by rw [hxwd]; exact xwd.kept.mono hBV.size)
      clear hxwd
      clear z0 z1 z2 z3 z4 z5 z6 z7 z8 z9 z10 z11 z12 z13 z14 z15 hsub
      go_wp2
      all_goals (go_ret; exact ⟨rfl, by repeat' (first | (with_reducible exact Below.refl _ _) | (with_reducible assumption) | (with_reducible refine kept_alloc ?_ _) | (with_reducible refine kept_drewN ?_ _) | (with_reducible refine Below.drew ?_) | (with_reducible refine Below.setCell ?_ (by first | omega | (simp; omega) | (simp; done)) _) | (refine kept_trans ?_ (by with_reducible assumption)))⟩)
  · obtain ⟨b, o, rfl, hb, _⟩ := hqch.out (by intro h; rw [h] at hkl2; simp at hkl2; exact hk0 hkl2)
    by_cases hkc : kk = qk
    · have hy0 : y.vals = [] := List.length_eq_zero_iff.1 (by have := hklh.out; omega)
      have hy0h := Lib.hid hy0
      have hSy : Sl V 1 intC y.vals (.slice (some ⟨b, o, none⟩) y.vals.length 0) := by rw [hy0]; exact ⟨some ⟨b, o, none⟩, 0, rfl, by simp, by simp, (fun h => by cases h), fun h => absurd rfl h⟩
      clear hy0
      subst hkc
      have z0 : ∀ xwd : Wd V L, xwd.at.cell? ⟨w.heap.size, 0, none⟩ = some (.slice (some ⟨b, o, none⟩) q.vals.length kk) := fun xwd => (hLc xwd).1.2
      have z1 : ∀ xwd : Wd V L, xwd.at.cell? ⟨w.heap.size, 1, none⟩ = some (.int .i64 q.cap) := fun xwd => (hLc xwd).2.1.2
      have z2 : ∀ xwd : Wd V L, xwd.at.cell? ⟨w.heap.size, 2, none⟩ = some (.int .i64 q.pol) := fun xwd => (hLc xwd).2.2.1.2
      have z3 : ∀ xwd : Wd V L, xwd.at.cell? ⟨w.heap.size, 3, none⟩ = some (.int .i64 q.mode) := fun xwd => (hLc xwd).2.2.2.1.2
      have z4 : ∀ xwd : Wd V L, xwd.at.cell? ⟨wy.heap.size, 0, none⟩ = some (.slice (some ⟨b, o, none⟩) q.vals.length kk) := fun xwd => (hLc xwd).2.2.2.2.1.2
      have z5 : ∀ xwd : Wd V L, xwd.at.cell? ⟨wy.heap.size, 1, none⟩ = some (.int .i64 q.cap) := fun xwd => (hLc xwd).2.2.2.2.2.1.2
      have z6 : ∀ xwd : Wd V L, xwd.at.cell? ⟨wy.heap.size, 2, none⟩ = some (.int .i64 q.pol) := fun xwd => (hLc xwd).2.2.2.2.2.2.1.2
      have z7 : ∀ xwd : Wd V L, xwd.at.cell? ⟨wy.heap.size, 3, none⟩ = some (.int .i64 2) := fun xwd => (hLc xwd).2.2.2.2.2.2.2.1.2
      have z8 : ∀ xwd : Wd V L, xwd.at.cell? ⟨wa.heap.size, 0, none⟩ = some (.slice p1 q.vals.length k1) := fun xwd => (hLc xwd).2.2.2.2.2.2.2.2.1.2
      have z9 : ∀ xwd : Wd V L, xwd.at.cell? ⟨wa.heap.size, 1, none⟩ = some (.int .i64 q.cap) := fun xwd => (hLc xwd).2.2.2.2.2.2.2.2.2.1.2
      have z10 : ∀ xwd : Wd V L, xwd.at.cell? ⟨wa.heap.size, 2, none⟩ = some (.int .i64 q.pol) := fun xwd => (hLc xwd).2.2.2.2.2.2.2.2.2.2.1.2
      have z11 : ∀ xwd : Wd V L, xwd.at.cell? ⟨wa.heap.size, 3, none⟩ = some (.int .i64 2) := fun xwd => (hLc xwd).2.2.2.2.2.2.2.2.2.2.2.1.2
      have z12 : ∀ xwd : Wd V L, xwd.at.cell? ⟨wb.heap.size, 0, none⟩ = some (.slice p2 y.vals.length k2) := fun xwd => (hLc xwd).2.2.2.2.2.2.2.2.2.2.2.2.1.2
      have z13 : ∀ xwd : Wd V L, xwd.at.cell? ⟨wb.heap.size, 1, none⟩ = some (.int .i64 y.cap) := fun xwd => (hLc xwd).2.2.2.2.2.2.2.2.2.2.2.2.2.1.2
      have z14 : ∀ xwd : Wd V L, xwd.at.cell? ⟨wb.heap.size, 2, none⟩ = some (.int .i64 y.pol) := fun xwd => (hLc xwd).2.2.2.2.2.2.2.2.2.2.2.2.2.2.1.2
      have z15 : ∀ xwd : Wd V L, xwd.at.cell? ⟨wb.heap.size, 3, none⟩ = some (.int .i64 y.mode) := fun xwd => (hLc xwd).2.2.2.2.2.2.2.2.2.2.2.2.2.2.2.1.2
      have hkl := hklh.out
      have hL2 := Lib.hid hL
      clear hL hLc
      refine wp_region_kept (w := V) L (by kernel_rfl) (by kernel_rfl) (Below.refl _ _) hLV.out (fun hne => ?_)
      repeat (go_big_quiet_step ((first | (go_at_call 13; exact quiet_call ((rsame_any ⟨q.vals, q.cap, q.pol, 2⟩ ⟨q.vals, q.cap, q.pol, 2⟩ p1 (some ⟨b, o, none⟩) k1 kk _ (hS1V.kept (Wd.kept _)) (hqV.kept (Wd.kept _)) (by show q.vals.length ≤ _; omega)).mono (fun e w' h => ⟨h.1.trans (by rw [same_refl]), h.2⟩))) | (go_at_call 20; exact quiet_call (rints_any y.vals y.vals p2 _ k2 _ _ (hS2V.kept (Wd.kept _)) (hSy.kept (Wd.kept _)) (by omega))))))
      refine wpQuiet_nil ?_
      intro wq hwq
      obtain ⟨xwd, hxwd⟩ := hwq
      have hgq : Below w.heap.size w wq := hBV.trans (by rw [hxwd]; exact xwd.kept.mono hBV.size)
      clear hxwd
      clear z0 z1 z2 z3 z4 z5 z6 z7 z8 z9 z10 z11 z12 z13 z14 z15 hsub
      go_wp2
      all_goals (go_ret; exact ⟨rfl, by repeat' (first | (with_reducible exact Below.refl _ _) | (with_reducible assumption) | (with_reducible refine kept_alloc ?_ _) | (with_reducible refine kept_drewN ?_ _) | (with_reducible refine Below.drew ?_) | (with_reducible refine Below.setCell ?_ (by first | omega | (simp; omega) | (simp; done)) _) | (refine kept_trans ?_ (by with_reducible assumption)))⟩)
    · have hSy : Sl V 1 intC y.vals (.slice (some ⟨b, o + kk, none⟩) y.vals.length (qk - kk)) := by
        have h := hqV.drop kk hkl2 (a := ⟨b, o + kk, none⟩) (fun _ => by simp) (n' := y.vals.length) (c' := qk - kk) (by have := hkkh.out; omega) rfl
        rw [← hdroph.out] at h
        exact h
      have hkc2 : ((kk : Int) == (qk : Int)) = false := by simp; omega
      have z0 : ∀ xwd : Wd V L, xwd.at.cell? ⟨w.heap.size, 0, none⟩ = some (.slice (some ⟨b, o, none⟩) q.vals.length qk) := fun xwd => (hLc xwd).1.2
      have z1 : ∀ xwd : Wd V L, xwd.at.cell? ⟨w.heap.size, 1, none⟩ = some (.int .i64 q.cap) := fun xwd => (hLc xwd).2.1.2
      have z2 : ∀ xwd : Wd V L, xwd.at.cell? ⟨w.heap.size, 2, none⟩ = some (.int .i64 q.pol) := fun xwd => (hLc xwd).2.2.1.2
      have z3 : ∀ xwd : Wd V L, xwd.at.cell? ⟨w.heap.size, 3, none⟩ = some (.int .i64 q.mode) := fun xwd => (hLc xwd).2.2.2.1.2
      have z4 : ∀ xwd : Wd V L, xwd.at.cell? ⟨wy.heap.size, 0, none⟩ = some (.slice (some ⟨b, o, none⟩) q.vals.length qk) := fun xwd => (hLc xwd).2.2.2.2.1.2
      have z5 : ∀ xwd : Wd V L, xwd.at.cell? ⟨wy.heap.size, 1, none⟩ = some (.int .i64 q.cap) := fun xwd => (hLc xwd).2.2.2.2.2.1.2
      have z6 : ∀ xwd : Wd V L, xwd.at.cell? ⟨wy.heap.size, 2, none⟩ = some (.int .i64 q.pol) := fun xwd => (hLc xwd).2.2.2.2.2.2.1.2
      have z7 : ∀ xwd : Wd V L, xwd.at.cell? ⟨wy.heap.size, 3, none⟩ = some (.int .i64 2) := fun xwd => (hLc xwd).2.2.2.2.2.2.2.1.2
      have z8 : ∀ xwd : Wd V L, xwd.at.cell? ⟨wa.heap.size, 0, none⟩ = some (.slice p1 q.vals.length k1) := fun xwd => (hLc xwd).2.2.2.2.2.2.2.2.1.2
      have z9 : ∀ xwd : Wd V L, xwd.at.cell? ⟨wa.heap.size, 1, none⟩ = some (.int .i64 q.cap) := fun xwd => (hLc xwd).2.2.2.2.2.2.2.2.2.1.2
      have z10 : ∀ xwd : Wd V L, xwd.at.cell? ⟨wa.heap.size, 2, none⟩ = some (.int .i64 q.pol) := fun xwd => (hLc xwd).2.2.2.2.2.2.2.2.2.2.1.2
      have z11 : ∀ xwd : Wd V L, xwd.at.cell? ⟨wa.heap.size, 3, none⟩ = some (.int .i64 2) := fun xwd => (hLc xwd).2.2.2.2.2.2.2.2.2.2.2.1.2
      have z12 : ∀ xwd : Wd V L, xwd.at.cell? ⟨wb.heap.size, 0, none⟩ = some (.slice p2 y.vals.length k2) := fun xwd => (hLc xwd).2.2.2.2.2.2.2.2.2.2.2.2.1.2
      have z13 : ∀ xwd : Wd V L, xwd.at.cell? ⟨wb.heap.size, 1, none⟩ = some (.int .i64 y.cap) := fun xwd => (hLc xwd).2.2.2.2.2.2.2.2.2.2.2.2.2.1.2
      have z14 : ∀ xwd : Wd V L, xwd.at.cell? ⟨wb.heap.size, 2, none⟩ = some (.int .i64 y.pol) := fun xwd => (hLc xwd).2.2.2.2.2.2.2.2.2.2.2.2.2.2.1.2
      have z15 : ∀ xwd : Wd V L, xwd.at.cell? ⟨wb.heap.size, 3, none⟩ = some (.int .i64 y.mode) := fun xwd => (hLc xwd).2.2.2.2.2.2.2.2.2.2.2.2.2.2.2.1.2
      have hkl := hklh.out
      have hL2 := Lib.hid hL
      clear hL hLc
      refine wp_region_kept (w := V) L (by kernel_rfl) (by kernel_rfl) (Below.refl _ _) hLV.out (fun hne => ?_)
      repeat (go_big_quiet_step ((first | (go_at_call 13; exact quiet_call ((rsame_any ⟨q.vals, q.cap, q.pol, 2⟩ ⟨q.vals, q.cap, q.pol, 2⟩ p1 (some ⟨b, o, none⟩) k1 qk _ (hS1V.kept (Wd.kept _)) (hqV.kept (Wd.kept _)) (by show q.vals.length ≤ _; omega)).mono (fun e w' h => ⟨h.1.trans (by rw [same_refl]), h.2⟩))) | (go_at_call 20; exact quiet_call (rints_any y.vals y.vals p2 _ k2 _ _ (hS2V.kept (Wd.kept _)) (hSy.kept (Wd.kept _)) (by omega))))))
      refine wpQuiet_nil ?_
      intro wq hwq
      obtain ⟨xwd, hxwd⟩ := hwq
      have hgq : Below w.heap.size w wq := hBV.trans (by rw [hxwd]; exact xwd.kept.mono hBV.size)
      clear hxwd
      clear z0 z1 z2 z3 z4 z5 z6 z7 z8 z9 z10 z11 z12 z13 z14 z15 hsub
      go_wp2
      all_goals (go_ret; exact ⟨rfl, by repeat' (first | (with_reducible exact Below.refl _ _) | (with_reducible assumption) | (with_reducible refine kept_alloc ?_ _) | (with_reducible refine kept_drewN ?_ _) | (with_reducible refine Below.drew ?_) | (with_reducible refine Below.setCell ?_ (by first | omega | (simp; omega) | (simp; done)) _) | (refine kept_trans ?_ (by with_reducible assumption)))⟩)
set_option maxRecDepth 100000 in
theorem fifoEnds_lifted (os : Os) (started : os.Started) (H : Type) (enc : TypeId × Value → H) :
    ReturnsInHanded {} Try.checked os 8 .any (Rows.fifoEndsSpec.pre6 enc Try.prog Try.f8 Rows.fifoEndsRow.domain false) (Rows.fifoEndsSpec.post enc Try.prog Try.f8 false true false false) := by
  refine returnsInHanded_of_change (C := Try.checked) own started (by kernel_rfl) Try.func8
    (ChangeSpec.witness6 (enc := enc) (C := Try.checked) false ⟨#[], #[.agg #[.slice none 0 0, .int .i64 0, .int .i64 0, .int .i64 0], .slice none 0 0], []⟩ 8 (by kernel_rfl) (by kernel_rfl) (by kernel_rfl) (by kernel_rfl)) ?_
  intro W base args ds gs before hval0 hW hcnd _
  have hval : ∀ (j : Nat) t v, Try.f8.params[j]? = some t → args[j]? = some v → Value.okWide Try.prog W .any base t v := hval0
  have hW' := hW
  obtain ⟨p, q, hA0, hV, rfl, hfz, hnd⟩ := hW
  have hA : DataW.TrodAll enc Try.prog W 0 (fun _ => true) true Try.f8.params.toList args.toList ds p := hA0
  rw [Try.params8] at hA hval
  obtain ⟨v0, vs0, d0, ds0, p0, q0, hargs, rfl, rfl, h0, r0⟩ := trodAll_cons hA
  obtain ⟨v1, vs1, d1, ds1, p1, q1, rfl, rfl, rfl, h1, r1⟩ := trodAll_cons r0
  obtain ⟨rfl, rfl, rfl⟩ := trodAll_nil r1
  obtain rfl : args = #[v0, v1] := by cases args; simp_all
  obtain ⟨rfl, rfl⟩ := trodVars_none hV
  obtain ⟨qcs, rfl, qrd⟩ := open_struct (g := 9) (l := Qu.shape) Try.underlying24 (by kernel_rfl) (hval 0 24 v0 rfl rfl) h0
  obtain ⟨q, qp, qk, hcs0, qsl, qok, qml⟩ := Qu.of_read qrd
  subst hcs0
  obtain ⟨l, lsl, lok, lml⟩ := Sl.of_read En.cells En.ok (by decide) (open_row (g := 9) (l := En.shape) Try.underlying25 (by kernel_rfl) (hval 1 25 v1 rfl rfl) h1) (fun vs h => En.of_read h)
  clear hA0 hval0
  refine (fifoEnds_walk q qp qk qok qml l v1 lok lml W qsl lsl).mono fun e W' ⟨he, hg⟩ => ?_
  subst he
  exact ⟨_, rfl, law_post laid hW' rfl (by kernel_rfl) rfl Try.underlying4 rfl hg⟩

/-- The statement, whole. -/
theorem fifoEnds_holds : Rows.FifoEndsSaid :=
  OpenClaim.holds_of_wide 8 Try.f8 rfl rfl rfl rfl rfl rfl rfl ⟨rfl, rfl, rfl, rfl, rfl⟩ rfl rfl rfl rfl rfl (by kernel_rfl) Try.func8 (by kernel_rfl)
    (of_decide_eq_true (by kernel_rfl)) (by unfold Func.isWrapper; rw [if_neg (of_decide_eq_false (by kernel_rfl))]; exact ⟨rfl, rfl⟩)
    (fun os started H enc _ => fifoEnds_lifted os started H enc)
end Go.Proofs.Ytomnhjcoonbajaa
