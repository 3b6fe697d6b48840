/- Texts merged: OpCQ, ThCQ, ThDQ, FabCQ, AbsQ, FabDQ, OutQ, ObjQ, LdsQ, FabEQ. -/
import Derived.Test.YtjbcfjfnobklkaaGreatZb4
import Derived.Test.YtjbcfjfnobklkaaGreatZb3
import Derived.Deep.RegionHeld3
import Derived.Lib.Hide
import Derived.Test.YtjbcfjfnobklkaaGreatZb5
import Derived.Deep.Cut
import Derived.Deep.MidRow
import Derived.Laws.CopyRow
import Derived.Laws.Rows
/- Layer 11: what each small call returns, as the plain functions say; what was there is kept. -/
namespace Go.Proofs.YtjbcfjfnobklkaaGreat
set_option linter.unusedVariables false
set_option linter.unusedSimpArgs false
open Go.ChangeShapes Go.WideShapes Go.ChangeAt Go.RowKit

theorem oside_any (k : Int) (w : World) : Calls Tryz.prog 85 #[.int .i64 k] w fun e w' => e = .returned (.int .i64 (opSide k)) ∧ Kept w w' := by
  by_cases h : 1 ≤ k ∧ k ≤ 8
  · obtain rfl | rfl | rfl | rfl | rfl | rfl | rfl | rfl : k = 1 ∨ k = 2 ∨ k = 3 ∨ k = 4 ∨ k = 5 ∨ k = 6 ∨ k = 7 ∨ k = 8 := by omega
    all_goals
      go_enter Tryz.func85, Tryz.ntmps85
      go_wp2
      all_goals (go_ret; exact ⟨ret_int (by decide), by repeat' (first | (with_reducible exact Below.refl _ _) | (with_reducible assumption) | (with_reducible refine kept_alloc ?_ _) | (with_reducible refine kept_drewN ?_ _) | (with_reducible refine Below.drew ?_) | (with_reducible refine Below.setCell ?_ (by first | omega | (simp; omega) | (simp; done)) _) | (refine kept_trans ?_ (by with_reducible assumption)))⟩)
  · (have e1 : (k == 1) = false := by simp; omega); (have e2 : (k == 2) = false := by simp; omega); (have e3 : (k == 3) = false := by simp; omega); (have e4 : (k == 4) = false := by simp; omega); (have e5 : (k == 5) = false := by simp; omega); (have e6 : (k == 6) = false := by simp; omega); (have e7 : (k == 7) = false := by simp; omega); (have e8 : (k == 8) = false := by simp; omega)
    have e0 : opSide k = 0 := by have := side_is k; omega
    go_enter Tryz.func85, Tryz.ntmps85
    go_wp2
    all_goals (go_ret; exact ⟨ret_int (by first | rfl | exact e0.symm), by repeat' (first | (with_reducible exact Below.refl _ _) | (with_reducible assumption) | (with_reducible refine kept_alloc ?_ _) | (with_reducible refine kept_drewN ?_ _) | (with_reducible refine Below.drew ?_) | (with_reducible refine Below.setCell ?_ (by first | omega | (simp; omega) | (simp; done)) _) | (refine kept_trans ?_ (by with_reducible assumption)))⟩)
theorem ocheck_any (k : Int) (w : World) : Calls Tryz.prog 125 #[.int .i64 k] w fun e w' => e = .returned (.bool (opB k)) ∧ Kept w w' := by
  go_enter Tryz.func125, Tryz.ntmps125
  go_wp2_with (first | (go_at_call 85; refine (oside_any _ _).mono ?_; rintro e wx ⟨rfl, hgx⟩))
  all_goals (go_ret; exact ⟨ret_bool (by rw [opB_side]; first | rfl | simp), by repeat' (first | (with_reducible exact Below.refl _ _) | (with_reducible assumption) | (with_reducible refine kept_alloc ?_ _) | (with_reducible refine kept_drewN ?_ _) | (with_reducible refine Below.drew ?_) | (with_reducible refine Below.setCell ?_ (by first | omega | (simp; omega) | (simp; done)) _) | (refine kept_trans ?_ (by with_reducible assumption)))⟩)
theorem otimed_any (k : Int) (w : World) : Calls Tryz.prog 127 #[.int .i64 k] w fun e w' => e = .returned (.bool (opTimed k)) ∧ Kept w w' := by
  go_enter Tryz.func127, Tryz.ntmps127
  go_wp2
  all_goals (go_ret; exact ⟨ret_bool (by first | (rw [Bool.eq_iff_iff]; simp [opTimed]; omega) | (simp [opTimed, *]; done) | (simp [opTimed, *]; omega) | (simp [opTimed, *]; intros; omega)), by repeat' (first | (with_reducible exact Below.refl _ _) | (with_reducible assumption) | (with_reducible refine kept_alloc ?_ _) | (with_reducible refine kept_drewN ?_ _) | (with_reducible refine Below.drew ?_) | (with_reducible refine Below.setCell ?_ (by first | omega | (simp; omega) | (simp; done)) _) | (refine kept_trans ?_ (by with_reducible assumption)))⟩)
theorem oonce_any (k : Int) (w : World) : Calls Tryz.prog 202 #[.int .i64 k] w fun e w' => e = .returned (.bool (opOnce k)) ∧ Kept w w' := by
  go_enter Tryz.func202, Tryz.ntmps202
  go_wp2
  all_goals (go_ret; exact ⟨ret_bool (by first | (rw [Bool.eq_iff_iff]; simp [opOnce]; omega) | (simp [opOnce, *]; done) | (simp [opOnce, *]; omega) | (simp [opOnce, *]; intros; omega)), by repeat' (first | (with_reducible exact Below.refl _ _) | (with_reducible assumption) | (with_reducible refine kept_alloc ?_ _) | (with_reducible refine kept_drewN ?_ _) | (with_reducible refine Below.drew ?_) | (with_reducible refine Below.setCell ?_ (by first | omega | (simp; omega) | (simp; done)) _) | (refine kept_trans ?_ (by with_reducible assumption)))⟩)
set_option maxHeartbeats 1000000 in
theorem omay_any (lg th po wt sp yi : Int) (si : Bool) (i k : Int) (w : World) : Calls Tryz.prog 60 #[.agg #[.int .i64 lg, .int .i64 th, .int .i64 po, .int .i64 wt, .int .i64 sp, .int .i64 yi, .bool si], .int .i64 i, .int .i64 k] w fun e w' => e = .returned (.int .i64 (opMay th si i k)) ∧ Kept w w' := by
  by_cases a1 : i < 0
  · have e0 : opMay th si i k = 123 := by unfold opMay; rw [if_pos (by omega)]
    go_enter Tryz.func60, Tryz.ntmps60
    go_wp2
    all_goals (go_ret; exact ⟨ret_int (by first | rfl | exact e0.symm), by repeat' (first | (with_reducible exact Below.refl _ _) | (with_reducible assumption) | (with_reducible refine kept_alloc ?_ _) | (with_reducible refine kept_drewN ?_ _) | (with_reducible refine Below.drew ?_) | (with_reducible refine Below.setCell ?_ (by first | omega | (simp; omega) | (simp; done)) _) | (refine kept_trans ?_ (by with_reducible assumption)))⟩)
  by_cases a2 : th ≤ i
  · have e0 : opMay th si i k = 123 := by unfold opMay; rw [if_pos (by omega)]
    go_enter Tryz.func60, Tryz.ntmps60
    go_wp2
    all_goals (go_ret; exact ⟨ret_int (by first | rfl | exact e0.symm), by repeat' (first | (with_reducible exact Below.refl _ _) | (with_reducible assumption) | (with_reducible refine kept_alloc ?_ _) | (with_reducible refine kept_drewN ?_ _) | (with_reducible refine Below.drew ?_) | (with_reducible refine Below.setCell ?_ (by first | omega | (simp; omega) | (simp; done)) _) | (refine kept_trans ?_ (by with_reducible assumption)))⟩)
  cases b1 : opB k
  · have e0 : opMay th si i k = 190 := by unfold opMay; rw [if_neg (by omega), if_pos b1]
    go_enter Tryz.func60, Tryz.ntmps60
    go_wp2_with (first | (go_at_call 125; refine (ocheck_any _ _).mono ?_; rintro e wx ⟨rfl, hgx⟩; obtain ⟨hcx, hfx⟩ := bcell hgx; have hz0 : w.heap.size < wx.heap.size := (by have := hgx.size; (try simp at this); omega)) | (go_at_call 85; refine (oside_any _ _).mono ?_; rintro e wx ⟨rfl, hgx⟩; obtain ⟨hcx, hfx⟩ := bcell hgx; have hz0 : w.heap.size < wx.heap.size := (by have := hgx.size; (try simp at this); omega)))
    all_goals (go_ret; exact ⟨ret_int (by first | rfl | exact e0.symm), by repeat' (first | (with_reducible exact Below.refl _ _) | (with_reducible assumption) | (with_reducible refine kept_alloc ?_ _) | (with_reducible refine kept_drewN ?_ _) | (with_reducible refine Below.drew ?_) | (with_reducible refine Below.setCell ?_ (by first | omega | (simp; omega) | (simp; done)) _) | (refine kept_trans ?_ (by with_reducible assumption)))⟩)
  cases si
  · have e0 : opMay th false i k = 0 := by unfold opMay; rw [if_neg (by omega), if_neg (by simp [b1])]; simp
    go_enter Tryz.func60, Tryz.ntmps60
    go_wp2_with (first | (go_at_call 125; refine (ocheck_any _ _).mono ?_; rintro e wx ⟨rfl, hgx⟩; obtain ⟨hcx, hfx⟩ := bcell hgx; have hz0 : w.heap.size < wx.heap.size := (by have := hgx.size; (try simp at this); omega)) | (go_at_call 85; refine (oside_any _ _).mono ?_; rintro e wx ⟨rfl, hgx⟩; obtain ⟨hcx, hfx⟩ := bcell hgx; have hz0 : w.heap.size < wx.heap.size := (by have := hgx.size; (try simp at this); omega)))
    all_goals (go_ret; exact ⟨ret_int (by first | rfl | exact e0.symm), by repeat' (first | (with_reducible exact Below.refl _ _) | (with_reducible assumption) | (with_reducible refine kept_alloc ?_ _) | (with_reducible refine kept_drewN ?_ _) | (with_reducible refine Below.drew ?_) | (with_reducible refine Below.setCell ?_ (by first | omega | (simp; omega) | (simp; done)) _) | (refine kept_trans ?_ (by with_reducible assumption)))⟩)
  cases b2 : opSide k == 2
  · have e0 : opMay th true i k = 0 := by unfold opMay; rw [if_neg (by omega), if_neg (by simp [b1])]; simp at b2; simp [b2]
    go_enter Tryz.func60, Tryz.ntmps60
    go_wp2_with (first | (go_at_call 125; refine (ocheck_any _ _).mono ?_; rintro e wx ⟨rfl, hgx⟩; obtain ⟨hcx, hfx⟩ := bcell hgx; have hz0 : w.heap.size < wx.heap.size := (by have := hgx.size; (try simp at this); omega)) | (go_at_call 85; refine (oside_any _ _).mono ?_; rintro e wx ⟨rfl, hgx⟩; obtain ⟨hcx, hfx⟩ := bcell hgx; have hz0 : w.heap.size < wx.heap.size := (by have := hgx.size; (try simp at this); omega)))
    all_goals (go_ret; exact ⟨ret_int (by first | rfl | exact e0.symm), by repeat' (first | (with_reducible exact Below.refl _ _) | (with_reducible assumption) | (with_reducible refine kept_alloc ?_ _) | (with_reducible refine kept_drewN ?_ _) | (with_reducible refine Below.drew ?_) | (with_reducible refine Below.setCell ?_ (by first | omega | (simp; omega) | (simp; done)) _) | (refine kept_trans ?_ (by with_reducible assumption)))⟩)
  by_cases b3 : i = 0
  · have e0 : opMay th true i k = 0 := by unfold opMay; rw [if_neg (by omega), if_neg (by simp [b1])]; simp [b3]
    subst b3
    go_enter Tryz.func60, Tryz.ntmps60
    go_wp2_with (first | (go_at_call 125; refine (ocheck_any _ _).mono ?_; rintro e wx ⟨rfl, hgx⟩; obtain ⟨hcx, hfx⟩ := bcell hgx; have hz0 : w.heap.size < wx.heap.size := (by have := hgx.size; (try simp at this); omega)) | (go_at_call 85; refine (oside_any _ _).mono ?_; rintro e wx ⟨rfl, hgx⟩; obtain ⟨hcx, hfx⟩ := bcell hgx; have hz0 : w.heap.size < wx.heap.size := (by have := hgx.size; (try simp at this); omega)))
    all_goals (go_ret; exact ⟨ret_int (by first | rfl | exact e0.symm), by repeat' (first | (with_reducible exact Below.refl _ _) | (with_reducible assumption) | (with_reducible refine kept_alloc ?_ _) | (with_reducible refine kept_drewN ?_ _) | (with_reducible refine Below.drew ?_) | (with_reducible refine Below.setCell ?_ (by first | omega | (simp; omega) | (simp; done)) _) | (refine kept_trans ?_ (by with_reducible assumption)))⟩)
  · have e0 : opMay th true i k = 123 := by unfold opMay; rw [if_neg (by omega), if_neg (by simp [b1]), if_pos ⟨rfl, by simpa using b2, b3⟩]
    have d3 : (i == 0) = false := by simpa using b3
    go_enter Tryz.func60, Tryz.ntmps60
    go_wp2_with (first | (go_at_call 125; refine (ocheck_any _ _).mono ?_; rintro e wx ⟨rfl, hgx⟩; obtain ⟨hcx, hfx⟩ := bcell hgx; have hz0 : w.heap.size < wx.heap.size := (by have := hgx.size; (try simp at this); omega)) | (go_at_call 85; refine (oside_any _ _).mono ?_; rintro e wx ⟨rfl, hgx⟩; obtain ⟨hcx, hfx⟩ := bcell hgx; have hz0 : w.heap.size < wx.heap.size := (by have := hgx.size; (try simp at this); omega)))
    all_goals (go_ret; exact ⟨ret_int (by first | rfl | exact e0.symm), by repeat' (first | (with_reducible exact Below.refl _ _) | (with_reducible assumption) | (with_reducible refine kept_alloc ?_ _) | (with_reducible refine kept_drewN ?_ _) | (with_reducible refine Below.drew ?_) | (with_reducible refine Below.setCell ?_ (by first | omega | (simp; omega) | (simp; done)) _) | (refine kept_trans ?_ (by with_reducible assumption)))⟩)

end Go.Proofs.YtjbcfjfnobklkaaGreat

/- Layer 12: what each small call returns, as the plain functions say; what was there is kept. -/
namespace Go.Proofs.YtjbcfjfnobklkaaGreat
set_option linter.unusedVariables false
set_option linter.unusedSimpArgs false
open Go.ChangeShapes Go.WideShapes Go.ChangeAt Go.RowKit

theorem twithin_any (n l h : Int) (w : World) : Calls Tryz.prog 128 #[.int .i64 n, .int .i64 l, .int .i64 h] w fun e w' => e = .returned (.bool (thIn n l h)) ∧ Kept w w' := by
  go_enter Tryz.func128, Tryz.ntmps128
  go_wp2
  all_goals (go_ret; exact ⟨ret_bool (by first | (rw [Bool.eq_iff_iff]; simp [thIn]; omega) | (simp [thIn, *]; done) | (simp [thIn, *]; omega) | (simp [thIn, *]; intros; omega)), by repeat' (first | (with_reducible exact Below.refl _ _) | (with_reducible assumption) | (with_reducible refine kept_alloc ?_ _) | (with_reducible refine kept_drewN ?_ _) | (with_reducible refine Below.drew ?_) | (with_reducible refine Below.setCell ?_ (by first | omega | (simp; omega) | (simp; done)) _) | (refine kept_trans ?_ (by with_reducible assumption)))⟩)
theorem tidle_any {st ki va un pc re se tr rs go : Int} {la : Bool} (w : World) : Calls Tryz.prog 126 #[.agg #[.int .i64 st, .int .i64 ki, .int .i64 va, .int .i64 un, .int .i64 pc, .int .i64 re, .int .i64 se, .int .i64 tr, .bool la, .int .i64 rs, .int .i64 go]] w fun e w' => e = .returned (.bool (st == 0)) ∧ Kept w w' := by
  go_enter Tryz.func126, Tryz.ntmps126
  go_wp2
  all_goals (go_ret; exact ⟨ret_bool (by first | rfl | simp), by repeat' (first | (with_reducible exact Below.refl _ _) | (with_reducible assumption) | (with_reducible refine kept_alloc ?_ _) | (with_reducible refine kept_drewN ?_ _) | (with_reducible refine Below.drew ?_) | (with_reducible refine Below.setCell ?_ (by first | omega | (simp; omega) | (simp; done)) _) | (refine kept_trans ?_ (by with_reducible assumption)))⟩)
theorem ttimed_any {st ki va un pc re se tr rs go : Int} {la : Bool} (w : World) : Calls Tryz.prog 223 #[.agg #[.int .i64 st, .int .i64 ki, .int .i64 va, .int .i64 un, .int .i64 pc, .int .i64 re, .int .i64 se, .int .i64 tr, .bool la, .int .i64 rs, .int .i64 go]] w fun e w' => e = .returned (.bool (opTimed ki)) ∧ Kept w w' := by
  go_enter Tryz.func223, Tryz.ntmps223
  go_wp2_with (first | (go_at_call 127; refine (otimed_any _ _).mono ?_; rintro e wx ⟨rfl, hgx⟩; obtain ⟨hcx, hfx⟩ := bcell hgx; have hz0 : w.heap.size < wx.heap.size := (by have := hgx.size; (try simp at this); omega)))
  all_goals (go_ret; exact ⟨ret_bool (by first | rfl | simp), by repeat' (first | (with_reducible exact Below.refl _ _) | (with_reducible assumption) | (with_reducible refine kept_alloc ?_ _) | (with_reducible refine kept_drewN ?_ _) | (with_reducible refine Below.drew ?_) | (with_reducible refine Below.setCell ?_ (by first | omega | (simp; omega) | (simp; done)) _) | (refine kept_trans ?_ (by with_reducible assumption)))⟩)
theorem tdoes_any {st ki va un pc re se tr rs go : Int} {la : Bool} (w : World) : Calls Tryz.prog 174 #[.agg #[.int .i64 st, .int .i64 ki, .int .i64 va, .int .i64 un, .int .i64 pc, .int .i64 re, .int .i64 se, .int .i64 tr, .bool la, .int .i64 rs, .int .i64 go]] w fun e w' => e = .returned (.bool (thDoes st ki)) ∧ Kept w w' := by
  have hcs : CellsAt (w.alloc (.cells #[.int .i64 st, .int .i64 ki, .int .i64 va, .int .i64 un, .int .i64 pc, .int .i64 re, .int .i64 se, .int .i64 tr, .bool la, .int .i64 rs, .int .i64 go] 147)) [(w.heap.size, 0, .int .i64 st), (w.heap.size, 1, .int .i64 ki), (w.heap.size, 2, .int .i64 va), (w.heap.size, 3, .int .i64 un), (w.heap.size, 4, .int .i64 pc), (w.heap.size, 5, .int .i64 re), (w.heap.size, 6, .int .i64 se), (w.heap.size, 7, .int .i64 tr), (w.heap.size, 8, .bool la), (w.heap.size, 9, .int .i64 rs), (w.heap.size, 10, .int .i64 go)] := by (simp only [CellsAt]; (repeat' (first | exact trivial | (refine And.intro ?_ ?_))); all_goals (first | (focus ((try simp only [World.size_setCell, World.size_alloc]); omega)) | (repeat (first | rfl | assumption | (refine (World.cell?_alloc_past _ _ _ ?_).trans ?_; focus ((try simp only [World.size_setCell, World.size_alloc]); omega)) | (refine (World.cell?_alloc_at _ _ _ _ ?_).trans ?_; focus ((try simp only [World.size_setCell, World.size_alloc]); done)) | (refine (World.cell?_setCell_other _ _ _ _ ?_).trans ?_; focus (simp; done)) | (refine (World.cell?_setCell_other _ _ _ _ ?_).trans ?_; focus (simp; omega)) | (refine World.cell?_setCell_same' _ _ _ ?_; focus (simp; done))))))
  go_enter Tryz.func174, Tryz.ntmps174
  go_wp2_with (first | (go_at_call 126; refine (tidle_any _).mono ?_; rintro e wx ⟨rfl, hgx⟩; try (have hcs := cells_keep hgx hcs; have hq0 := hcs.1.2; have hq1 := hcs.2.1.2; have hq2 := hcs.2.2.1.2; have hq3 := hcs.2.2.2.1.2; have hq4 := hcs.2.2.2.2.1.2; have hq5 := hcs.2.2.2.2.2.1.2; have hq6 := hcs.2.2.2.2.2.2.1.2; have hq7 := hcs.2.2.2.2.2.2.2.1.2; have hq8 := hcs.2.2.2.2.2.2.2.2.1.2; have hq9 := hcs.2.2.2.2.2.2.2.2.2.1.2; have hq10 := hcs.2.2.2.2.2.2.2.2.2.2.1.2; have hz0 := hcs.1.1)) | (go_at_call 128; refine (twithin_any _ _ _ _).mono ?_; rintro e wx ⟨rfl, hgx⟩; try (have hcs := cells_keep hgx hcs; have hq0 := hcs.1.2; have hq1 := hcs.2.1.2; have hq2 := hcs.2.2.1.2; have hq3 := hcs.2.2.2.1.2; have hq4 := hcs.2.2.2.2.1.2; have hq5 := hcs.2.2.2.2.2.1.2; have hq6 := hcs.2.2.2.2.2.2.1.2; have hq7 := hcs.2.2.2.2.2.2.2.1.2; have hq8 := hcs.2.2.2.2.2.2.2.2.1.2; have hq9 := hcs.2.2.2.2.2.2.2.2.2.1.2; have hq10 := hcs.2.2.2.2.2.2.2.2.2.2.1.2; have hz0 := hcs.1.1)) | (go_at_call 125; refine (ocheck_any _ _).mono ?_; rintro e wx ⟨rfl, hgx⟩; try (have hcs := cells_keep hgx hcs; have hq0 := hcs.1.2; have hq1 := hcs.2.1.2; have hq2 := hcs.2.2.1.2; have hq3 := hcs.2.2.2.1.2; have hq4 := hcs.2.2.2.2.1.2; have hq5 := hcs.2.2.2.2.2.1.2; have hq6 := hcs.2.2.2.2.2.2.1.2; have hq7 := hcs.2.2.2.2.2.2.2.1.2; have hq8 := hcs.2.2.2.2.2.2.2.2.1.2; have hq9 := hcs.2.2.2.2.2.2.2.2.2.1.2; have hq10 := hcs.2.2.2.2.2.2.2.2.2.2.1.2; have hz0 := hcs.1.1)))
  all_goals (go_ret; exact ⟨ret_bool (by simp [thDoes, *]), by repeat' (first | (with_reducible exact Below.refl _ _) | (with_reducible assumption) | (with_reducible refine kept_alloc ?_ _) | (with_reducible refine kept_drewN ?_ _) | (with_reducible refine Below.drew ?_) | (with_reducible refine Below.setCell ?_ (by first | omega | (simp; omega) | (simp; done)) _) | (refine kept_trans ?_ (by with_reducible assumption)))⟩)
theorem twaits_any {st ki va un pc re se tr rs go : Int} {la : Bool} (w : World) : Calls Tryz.prog 175 #[.agg #[.int .i64 st, .int .i64 ki, .int .i64 va, .int .i64 un, .int .i64 pc, .int .i64 re, .int .i64 se, .int .i64 tr, .bool la, .int .i64 rs, .int .i64 go]] w fun e w' => e = .returned (.bool (thWaits ki un la)) ∧ Kept w w' := by
  have hcs : CellsAt (w.alloc (.cells #[.int .i64 st, .int .i64 ki, .int .i64 va, .int .i64 un, .int .i64 pc, .int .i64 re, .int .i64 se, .int .i64 tr, .bool la, .int .i64 rs, .int .i64 go] 147)) [(w.heap.size, 0, .int .i64 st), (w.heap.size, 1, .int .i64 ki), (w.heap.size, 2, .int .i64 va), (w.heap.size, 3, .int .i64 un), (w.heap.size, 4, .int .i64 pc), (w.heap.size, 5, .int .i64 re), (w.heap.size, 6, .int .i64 se), (w.heap.size, 7, .int .i64 tr), (w.heap.size, 8, .bool la), (w.heap.size, 9, .int .i64 rs), (w.heap.size, 10, .int .i64 go)] := by (simp only [CellsAt]; (repeat' (first | exact trivial | (refine And.intro ?_ ?_))); all_goals (first | (focus ((try simp only [World.size_setCell, World.size_alloc]); omega)) | (repeat (first | rfl | assumption | (refine (World.cell?_alloc_past _ _ _ ?_).trans ?_; focus ((try simp only [World.size_setCell, World.size_alloc]); omega)) | (refine (World.cell?_alloc_at _ _ _ _ ?_).trans ?_; focus ((try simp only [World.size_setCell, World.size_alloc]); done)) | (refine (World.cell?_setCell_other _ _ _ _ ?_).trans ?_; focus (simp; done)) | (refine (World.cell?_setCell_other _ _ _ _ ?_).trans ?_; focus (simp; omega)) | (refine World.cell?_setCell_same' _ _ _ ?_; focus (simp; done))))))
  go_enter Tryz.func175, Tryz.ntmps175
  go_wp2_with (first | (go_at_call 223; refine (ttimed_any _).mono ?_; rintro e wx ⟨rfl, hgx⟩; try (have hcs := cells_keep hgx hcs; have hq0 := hcs.1.2; have hq1 := hcs.2.1.2; have hq2 := hcs.2.2.1.2; have hq3 := hcs.2.2.2.1.2; have hq4 := hcs.2.2.2.2.1.2; have hq5 := hcs.2.2.2.2.2.1.2; have hq6 := hcs.2.2.2.2.2.2.1.2; have hq7 := hcs.2.2.2.2.2.2.2.1.2; have hq8 := hcs.2.2.2.2.2.2.2.2.1.2; have hq9 := hcs.2.2.2.2.2.2.2.2.2.1.2; have hq10 := hcs.2.2.2.2.2.2.2.2.2.2.1.2; have hz0 := hcs.1.1)) | (go_at_call 128; refine (twithin_any _ _ _ _).mono ?_; rintro e wx ⟨rfl, hgx⟩; try (have hcs := cells_keep hgx hcs; have hq0 := hcs.1.2; have hq1 := hcs.2.1.2; have hq2 := hcs.2.2.1.2; have hq3 := hcs.2.2.2.1.2; have hq4 := hcs.2.2.2.2.1.2; have hq5 := hcs.2.2.2.2.2.1.2; have hq6 := hcs.2.2.2.2.2.2.1.2; have hq7 := hcs.2.2.2.2.2.2.2.1.2; have hq8 := hcs.2.2.2.2.2.2.2.2.1.2; have hq9 := hcs.2.2.2.2.2.2.2.2.2.1.2; have hq10 := hcs.2.2.2.2.2.2.2.2.2.2.1.2; have hz0 := hcs.1.1)))
  all_goals (go_ret; exact ⟨ret_bool (by simp [thWaits, *]), by repeat' (first | (with_reducible exact Below.refl _ _) | (with_reducible assumption) | (with_reducible refine kept_alloc ?_ _) | (with_reducible refine kept_drewN ?_ _) | (with_reducible refine Below.drew ?_) | (with_reducible refine Below.setCell ?_ (by first | omega | (simp; omega) | (simp; done)) _) | (refine kept_trans ?_ (by with_reducible assumption)))⟩)
theorem tcounts_any {st ki va un pc re se tr rs go : Int} {la : Bool} (w : World) : Calls Tryz.prog 176 #[.agg #[.int .i64 st, .int .i64 ki, .int .i64 va, .int .i64 un, .int .i64 pc, .int .i64 re, .int .i64 se, .int .i64 tr, .bool la, .int .i64 rs, .int .i64 go]] w fun e w' => e = .returned (.bool (thCounts pc re se tr rs)) ∧ Kept w w' := by
  have hcs : CellsAt (w.alloc (.cells #[.int .i64 st, .int .i64 ki, .int .i64 va, .int .i64 un, .int .i64 pc, .int .i64 re, .int .i64 se, .int .i64 tr, .bool la, .int .i64 rs, .int .i64 go] 147)) [(w.heap.size, 0, .int .i64 st), (w.heap.size, 1, .int .i64 ki), (w.heap.size, 2, .int .i64 va), (w.heap.size, 3, .int .i64 un), (w.heap.size, 4, .int .i64 pc), (w.heap.size, 5, .int .i64 re), (w.heap.size, 6, .int .i64 se), (w.heap.size, 7, .int .i64 tr), (w.heap.size, 8, .bool la), (w.heap.size, 9, .int .i64 rs), (w.heap.size, 10, .int .i64 go)] := by (simp only [CellsAt]; (repeat' (first | exact trivial | (refine And.intro ?_ ?_))); all_goals (first | (focus ((try simp only [World.size_setCell, World.size_alloc]); omega)) | (repeat (first | rfl | assumption | (refine (World.cell?_alloc_past _ _ _ ?_).trans ?_; focus ((try simp only [World.size_setCell, World.size_alloc]); omega)) | (refine (World.cell?_alloc_at _ _ _ _ ?_).trans ?_; focus ((try simp only [World.size_setCell, World.size_alloc]); done)) | (refine (World.cell?_setCell_other _ _ _ _ ?_).trans ?_; focus (simp; done)) | (refine (World.cell?_setCell_other _ _ _ _ ?_).trans ?_; focus (simp; omega)) | (refine World.cell?_setCell_same' _ _ _ ?_; focus (simp; done))))))
  go_enter Tryz.func176, Tryz.ntmps176
  go_wp2_with (first | (go_at_call 128; refine (twithin_any _ _ _ _).mono ?_; rintro e wx ⟨rfl, hgx⟩; try (have hcs := cells_keep hgx hcs; have hq0 := hcs.1.2; have hq1 := hcs.2.1.2; have hq2 := hcs.2.2.1.2; have hq3 := hcs.2.2.2.1.2; have hq4 := hcs.2.2.2.2.1.2; have hq5 := hcs.2.2.2.2.2.1.2; have hq6 := hcs.2.2.2.2.2.2.1.2; have hq7 := hcs.2.2.2.2.2.2.2.1.2; have hq8 := hcs.2.2.2.2.2.2.2.2.1.2; have hq9 := hcs.2.2.2.2.2.2.2.2.2.1.2; have hq10 := hcs.2.2.2.2.2.2.2.2.2.2.1.2; have hz0 := hcs.1.1)))
  all_goals (go_ret; exact ⟨ret_bool (by simp [thCounts, *]), by repeat' (first | (with_reducible exact Below.refl _ _) | (with_reducible assumption) | (with_reducible refine kept_alloc ?_ _) | (with_reducible refine kept_drewN ?_ _) | (with_reducible refine Below.drew ?_) | (with_reducible refine Below.setCell ?_ (by first | omega | (simp; omega) | (simp; done)) _) | (refine kept_trans ?_ (by with_reducible assumption)))⟩)
theorem tended_any {st ki va un pc re se tr rs go : Int} {la : Bool} (w : World) : Calls Tryz.prog 217 #[.agg #[.int .i64 st, .int .i64 ki, .int .i64 va, .int .i64 un, .int .i64 pc, .int .i64 re, .int .i64 se, .int .i64 tr, .bool la, .int .i64 rs, .int .i64 go]] w fun e w' => e = .returned (.agg #[.int .i64 0, .int .i64 ki, .int .i64 va, .int .i64 un, .int .i64 0, .int .i64 0, .int .i64 0, .int .i64 0, .bool false, .int .i64 rs, .int .i64 go]) ∧ Kept w w' := by
  go_enter Tryz.func217, Tryz.ntmps217
  go_wp2
  refine bodyPost_ret (v := (.agg #[.int .i64 0, .int .i64 ki, .int .i64 va, .int .i64 un, .int .i64 0, .int .i64 0, .int .i64 0, .int .i64 0, .bool false, .int .i64 rs, .int .i64 go])) (by simp [results, Tryz.results217, go_sem, *]) rfl ?_
  exact ⟨rfl, by repeat' (first | (with_reducible exact Below.refl _ _) | (with_reducible assumption) | (with_reducible refine kept_alloc ?_ _) | (with_reducible refine kept_drewN ?_ _) | (with_reducible refine Below.drew ?_) | (with_reducible refine Below.setCell ?_ (by first | omega | (simp; omega) | (simp; done)) _) | (refine kept_trans ?_ (by with_reducible assumption)))⟩
theorem rests_dec (st ki va un pc re se tr rs go : Int) (la : Bool) : decide ((⟨st, ki, va, un, pc, re, se, tr, la, rs, go⟩ : Th) = ⟨0, ki, va, un, 0, 0, 0, 0, false, rs, go⟩) = thRests st pc re se tr la := by
  rw [Bool.eq_iff_iff]; simp [thRests]
theorem trests_any {st ki va un pc re se tr rs go : Int} {la : Bool} (w : World) : Calls Tryz.prog 177 #[.agg #[.int .i64 st, .int .i64 ki, .int .i64 va, .int .i64 un, .int .i64 pc, .int .i64 re, .int .i64 se, .int .i64 tr, .bool la, .int .i64 rs, .int .i64 go]] w fun e w' => e = .returned (.bool (thRests st pc re se tr la)) ∧ Kept w w' := by
  have hcmp : ∀ w : World, (binOp .eql 44 (.agg #[.int .i64 st, .int .i64 ki, .int .i64 va, .int .i64 un, .int .i64 pc, .int .i64 re, .int .i64 se, .int .i64 tr, .bool la, .int .i64 rs, .int .i64 go]) (.agg #[.int .i64 0, .int .i64 ki, .int .i64 va, .int .i64 un, .int .i64 0, .int .i64 0, .int .i64 0, .int .i64 0, .bool false, .int .i64 rs, .int .i64 go])).run Tryz.prog w = .ok (.bool (thRests st pc re se tr la)) w := fun w => (th_eql ⟨st, ki, va, un, pc, re, se, tr, la, rs, go⟩ ⟨0, ki, va, un, 0, 0, 0, 0, false, rs, go⟩ w).trans (by rw [rests_dec])
  go_enter Tryz.func177, Tryz.ntmps177
  go_wp2
  (refine wp_region_kept (w := w) [(w.heap.size, 0, .int .i64 st), (w.heap.size, 1, .int .i64 ki), (w.heap.size, 2, .int .i64 va), (w.heap.size, 3, .int .i64 un), (w.heap.size, 4, .int .i64 pc), (w.heap.size, 5, .int .i64 re), (w.heap.size, 6, .int .i64 se), (w.heap.size, 7, .int .i64 tr), (w.heap.size, 8, .bool la), (w.heap.size, 9, .int .i64 rs), (w.heap.size, 10, .int .i64 go)] (by kernel_rfl) (by kernel_rfl) (by repeat' (first | (with_reducible exact Below.refl _ _) | (with_reducible assumption) | (with_reducible refine kept_alloc ?_ _) | (with_reducible refine kept_drewN ?_ _) | (with_reducible refine Below.drew ?_) | (with_reducible refine Below.setCell ?_ (by first | omega | (simp; omega) | (simp; done)) _) | (refine kept_trans ?_ (by with_reducible assumption)))) (by first | exact hcs | (simp only [CellsAt]; (repeat' (first | exact trivial | (refine And.intro ?_ ?_))); all_goals (first | (focus ((try simp only [World.size_setCell, World.size_alloc]); omega)) | (repeat (first | rfl | assumption | (refine (World.cell?_alloc_past _ _ _ ?_).trans ?_; focus ((try simp only [World.size_setCell, World.size_alloc]); omega)) | (refine (World.cell?_alloc_at _ _ _ _ ?_).trans ?_; focus ((try simp only [World.size_setCell, World.size_alloc]); done)) | (refine (World.cell?_setCell_other _ _ _ _ ?_).trans ?_; focus (simp; done)) | (refine (World.cell?_setCell_other _ _ _ _ ?_).trans ?_; focus (simp; omega)) | (refine World.cell?_setCell_same' _ _ _ ?_; focus (simp; done))))))) (fun hne => ?_); (have hq0 : ∀ xwd : Wd w [(w.heap.size, 0, .int .i64 st), (w.heap.size, 1, .int .i64 ki), (w.heap.size, 2, .int .i64 va), (w.heap.size, 3, .int .i64 un), (w.heap.size, 4, .int .i64 pc), (w.heap.size, 5, .int .i64 re), (w.heap.size, 6, .int .i64 se), (w.heap.size, 7, .int .i64 tr), (w.heap.size, 8, .bool la), (w.heap.size, 9, .int .i64 rs), (w.heap.size, 10, .int .i64 go)], xwd.at.cell? ⟨w.heap.size, 0, none⟩ = some (.int .i64 st) := fun xwd => xwd.cells.1.2; have hq1 : ∀ xwd : Wd w [(w.heap.size, 0, .int .i64 st), (w.heap.size, 1, .int .i64 ki), (w.heap.size, 2, .int .i64 va), (w.heap.size, 3, .int .i64 un), (w.heap.size, 4, .int .i64 pc), (w.heap.size, 5, .int .i64 re), (w.heap.size, 6, .int .i64 se), (w.heap.size, 7, .int .i64 tr), (w.heap.size, 8, .bool la), (w.heap.size, 9, .int .i64 rs), (w.heap.size, 10, .int .i64 go)], xwd.at.cell? ⟨w.heap.size, 1, none⟩ = some (.int .i64 ki) := fun xwd => xwd.cells.2.1.2; have hq2 : ∀ xwd : Wd w [(w.heap.size, 0, .int .i64 st), (w.heap.size, 1, .int .i64 ki), (w.heap.size, 2, .int .i64 va), (w.heap.size, 3, .int .i64 un), (w.heap.size, 4, .int .i64 pc), (w.heap.size, 5, .int .i64 re), (w.heap.size, 6, .int .i64 se), (w.heap.size, 7, .int .i64 tr), (w.heap.size, 8, .bool la), (w.heap.size, 9, .int .i64 rs), (w.heap.size, 10, .int .i64 go)], xwd.at.cell? ⟨w.heap.size, 2, none⟩ = some (.int .i64 va) := fun xwd => xwd.cells.2.2.1.2; have hq3 : ∀ xwd : Wd w [(w.heap.size, 0, .int .i64 st), (w.heap.size, 1, .int .i64 ki), (w.heap.size, 2, .int .i64 va), (w.heap.size, 3, .int .i64 un), (w.heap.size, 4, .int .i64 pc), (w.heap.size, 5, .int .i64 re), (w.heap.size, 6, .int .i64 se), (w.heap.size, 7, .int .i64 tr), (w.heap.size, 8, .bool la), (w.heap.size, 9, .int .i64 rs), (w.heap.size, 10, .int .i64 go)], xwd.at.cell? ⟨w.heap.size, 3, none⟩ = some (.int .i64 un) := fun xwd => xwd.cells.2.2.2.1.2; have hq4 : ∀ xwd : Wd w [(w.heap.size, 0, .int .i64 st), (w.heap.size, 1, .int .i64 ki), (w.heap.size, 2, .int .i64 va), (w.heap.size, 3, .int .i64 un), (w.heap.size, 4, .int .i64 pc), (w.heap.size, 5, .int .i64 re), (w.heap.size, 6, .int .i64 se), (w.heap.size, 7, .int .i64 tr), (w.heap.size, 8, .bool la), (w.heap.size, 9, .int .i64 rs), (w.heap.size, 10, .int .i64 go)], xwd.at.cell? ⟨w.heap.size, 4, none⟩ = some (.int .i64 pc) := fun xwd => xwd.cells.2.2.2.2.1.2; have hq5 : ∀ xwd : Wd w [(w.heap.size, 0, .int .i64 st), (w.heap.size, 1, .int .i64 ki), (w.heap.size, 2, .int .i64 va), (w.heap.size, 3, .int .i64 un), (w.heap.size, 4, .int .i64 pc), (w.heap.size, 5, .int .i64 re), (w.heap.size, 6, .int .i64 se), (w.heap.size, 7, .int .i64 tr), (w.heap.size, 8, .bool la), (w.heap.size, 9, .int .i64 rs), (w.heap.size, 10, .int .i64 go)], xwd.at.cell? ⟨w.heap.size, 5, none⟩ = some (.int .i64 re) := fun xwd => xwd.cells.2.2.2.2.2.1.2; have hq6 : ∀ xwd : Wd w [(w.heap.size, 0, .int .i64 st), (w.heap.size, 1, .int .i64 ki), (w.heap.size, 2, .int .i64 va), (w.heap.size, 3, .int .i64 un), (w.heap.size, 4, .int .i64 pc), (w.heap.size, 5, .int .i64 re), (w.heap.size, 6, .int .i64 se), (w.heap.size, 7, .int .i64 tr), (w.heap.size, 8, .bool la), (w.heap.size, 9, .int .i64 rs), (w.heap.size, 10, .int .i64 go)], xwd.at.cell? ⟨w.heap.size, 6, none⟩ = some (.int .i64 se) := fun xwd => xwd.cells.2.2.2.2.2.2.1.2; have hq7 : ∀ xwd : Wd w [(w.heap.size, 0, .int .i64 st), (w.heap.size, 1, .int .i64 ki), (w.heap.size, 2, .int .i64 va), (w.heap.size, 3, .int .i64 un), (w.heap.size, 4, .int .i64 pc), (w.heap.size, 5, .int .i64 re), (w.heap.size, 6, .int .i64 se), (w.heap.size, 7, .int .i64 tr), (w.heap.size, 8, .bool la), (w.heap.size, 9, .int .i64 rs), (w.heap.size, 10, .int .i64 go)], xwd.at.cell? ⟨w.heap.size, 7, none⟩ = some (.int .i64 tr) := fun xwd => xwd.cells.2.2.2.2.2.2.2.1.2; have hq8 : ∀ xwd : Wd w [(w.heap.size, 0, .int .i64 st), (w.heap.size, 1, .int .i64 ki), (w.heap.size, 2, .int .i64 va), (w.heap.size, 3, .int .i64 un), (w.heap.size, 4, .int .i64 pc), (w.heap.size, 5, .int .i64 re), (w.heap.size, 6, .int .i64 se), (w.heap.size, 7, .int .i64 tr), (w.heap.size, 8, .bool la), (w.heap.size, 9, .int .i64 rs), (w.heap.size, 10, .int .i64 go)], xwd.at.cell? ⟨w.heap.size, 8, none⟩ = some (.bool la) := fun xwd => xwd.cells.2.2.2.2.2.2.2.2.1.2; have hq9 : ∀ xwd : Wd w [(w.heap.size, 0, .int .i64 st), (w.heap.size, 1, .int .i64 ki), (w.heap.size, 2, .int .i64 va), (w.heap.size, 3, .int .i64 un), (w.heap.size, 4, .int .i64 pc), (w.heap.size, 5, .int .i64 re), (w.heap.size, 6, .int .i64 se), (w.heap.size, 7, .int .i64 tr), (w.heap.size, 8, .bool la), (w.heap.size, 9, .int .i64 rs), (w.heap.size, 10, .int .i64 go)], xwd.at.cell? ⟨w.heap.size, 9, none⟩ = some (.int .i64 rs) := fun xwd => xwd.cells.2.2.2.2.2.2.2.2.2.1.2; have hq10 : ∀ xwd : Wd w [(w.heap.size, 0, .int .i64 st), (w.heap.size, 1, .int .i64 ki), (w.heap.size, 2, .int .i64 va), (w.heap.size, 3, .int .i64 un), (w.heap.size, 4, .int .i64 pc), (w.heap.size, 5, .int .i64 re), (w.heap.size, 6, .int .i64 se), (w.heap.size, 7, .int .i64 tr), (w.heap.size, 8, .bool la), (w.heap.size, 9, .int .i64 rs), (w.heap.size, 10, .int .i64 go)], xwd.at.cell? ⟨w.heap.size, 10, none⟩ = some (.int .i64 go) := fun xwd => xwd.cells.2.2.2.2.2.2.2.2.2.2.1.2); (try simp only [List.append_eq, List.cons_append, List.nil_append]); (repeat (go_big_quiet_step ((first | (go_at_call 217; exact quiet_call (tended_any _)))))); (refine wpQuiet_nil ?_); intro wq hwq; obtain ⟨xwd, hxwd⟩ := hwq; have hgx : Below w.heap.size w wq := (by rw [hxwd]; exact xwd.kept); have hcs := (show CellsAt wq [(w.heap.size, 0, .int .i64 st), (w.heap.size, 1, .int .i64 ki), (w.heap.size, 2, .int .i64 va), (w.heap.size, 3, .int .i64 un), (w.heap.size, 4, .int .i64 pc), (w.heap.size, 5, .int .i64 re), (w.heap.size, 6, .int .i64 se), (w.heap.size, 7, .int .i64 tr), (w.heap.size, 8, .bool la), (w.heap.size, 9, .int .i64 rs), (w.heap.size, 10, .int .i64 go)] by rw [hxwd]; exact xwd.cells); clear hxwd xwd hne)
  all_goals go_wp2
  all_goals (go_ret; exact ⟨rfl, by repeat' (first | (with_reducible exact Below.refl _ _) | (with_reducible assumption) | (with_reducible refine kept_alloc ?_ _) | (with_reducible refine kept_drewN ?_ _) | (with_reducible refine Below.drew ?_) | (with_reducible refine Below.setCell ?_ (by first | omega | (simp; omega) | (simp; done)) _) | (refine kept_trans ?_ (by with_reducible assumption)))⟩)
end Go.Proofs.YtjbcfjfnobklkaaGreat

/- Layer 12: whether a thread may be, and whether it is late: the program's, and the document's. -/
namespace Go.Proofs.YtjbcfjfnobklkaaGreat
set_option linter.unusedVariables false
set_option linter.unusedSimpArgs false
open Go.ChangeShapes Go.WideShapes Go.ChangeAt Go.RowKit
set_option maxHeartbeats 2000000 in
theorem tcheck_any {st ki va un pc re se tr rs go : Int} {la : Bool} (w : World) : Calls Tryz.prog 114 #[.agg #[.int .i64 st, .int .i64 ki, .int .i64 va, .int .i64 un, .int .i64 pc, .int .i64 re, .int .i64 se, .int .i64 tr, .bool la, .int .i64 rs, .int .i64 go]] w fun e w' => e = .returned (.bool (thB ⟨st, ki, va, un, pc, re, se, tr, la, rs, go⟩)) ∧ Kept w w' := by
  go_enter Tryz.func114, Tryz.ntmps114
  go_wp2_with fail; refine (tdoes_any _).mono ?_; rintro e w1 ⟨rfl, hw1⟩
  have hcs : CellsAt w1 [(w.heap.size + 1, 0, .int .i64 st), (w.heap.size + 1, 1, .int .i64 ki), (w.heap.size + 1, 2, .int .i64 va), (w.heap.size + 1, 3, .int .i64 un), (w.heap.size + 1, 4, .int .i64 pc), (w.heap.size + 1, 5, .int .i64 re), (w.heap.size + 1, 6, .int .i64 se), (w.heap.size + 1, 7, .int .i64 tr), (w.heap.size + 1, 8, .bool la), (w.heap.size + 1, 9, .int .i64 rs), (w.heap.size + 1, 10, .int .i64 go)] := cells_keep hw1 (by (simp only [CellsAt]; (repeat' (first | exact trivial | (refine And.intro ?_ ?_))); all_goals (first | (focus ((try simp only [World.size_setCell, World.size_alloc]); omega)) | (repeat (first | rfl | assumption | (refine (World.cell?_alloc_past _ _ _ ?_).trans ?_; focus ((try simp only [World.size_setCell, World.size_alloc]); omega)) | (refine (World.cell?_alloc_at _ _ _ _ ?_).trans ?_; focus ((try simp only [World.size_setCell, World.size_alloc]); done)) | (refine (World.cell?_setCell_other _ _ _ _ ?_).trans ?_; focus (simp; done)) | (refine (World.cell?_setCell_other _ _ _ _ ?_).trans ?_; focus (simp; omega)) | (refine World.cell?_setCell_same' _ _ _ ?_; focus (simp; done)))))))
  have hq0 := hcs.1.2; have hq1 := hcs.2.1.2; have hq2 := hcs.2.2.1.2; have hq3 := hcs.2.2.2.1.2; have hq4 := hcs.2.2.2.2.1.2; have hq5 := hcs.2.2.2.2.2.1.2; have hq6 := hcs.2.2.2.2.2.2.1.2; have hq7 := hcs.2.2.2.2.2.2.2.1.2; have hq8 := hcs.2.2.2.2.2.2.2.2.1.2; have hq9 := hcs.2.2.2.2.2.2.2.2.2.1.2; have hq10 := hcs.2.2.2.2.2.2.2.2.2.2.1.2; have hz0 := hcs.1.1
  have hB : Below w.heap.size w w1 := by repeat' (first | (with_reducible exact Below.refl _ _) | (with_reducible assumption) | (with_reducible refine kept_alloc ?_ _) | (with_reducible refine kept_drewN ?_ _) | (with_reducible refine Below.drew ?_) | (with_reducible refine Below.setCell ?_ (by first | omega | (simp; omega) | (simp; done)) _) | (refine kept_trans ?_ (by with_reducible assumption)))
  clear hw1
  go_wp2_with (first | (go_at_call 175; refine (twaits_any _).mono ?_; rintro e wx ⟨rfl, hgx⟩; try (have hcs := cells_keep hgx hcs; have hq0 := hcs.1.2; have hq1 := hcs.2.1.2; have hq2 := hcs.2.2.1.2; have hq3 := hcs.2.2.2.1.2; have hq4 := hcs.2.2.2.2.1.2; have hq5 := hcs.2.2.2.2.2.1.2; have hq6 := hcs.2.2.2.2.2.2.1.2; have hq7 := hcs.2.2.2.2.2.2.2.1.2; have hq8 := hcs.2.2.2.2.2.2.2.2.1.2; have hq9 := hcs.2.2.2.2.2.2.2.2.2.1.2; have hq10 := hcs.2.2.2.2.2.2.2.2.2.2.1.2; have hz0 := hcs.1.1)) | (go_at_call 176; refine (tcounts_any _).mono ?_; rintro e wx ⟨rfl, hgx⟩; try (have hcs := cells_keep hgx hcs; have hq0 := hcs.1.2; have hq1 := hcs.2.1.2; have hq2 := hcs.2.2.1.2; have hq3 := hcs.2.2.2.1.2; have hq4 := hcs.2.2.2.2.1.2; have hq5 := hcs.2.2.2.2.2.1.2; have hq6 := hcs.2.2.2.2.2.2.1.2; have hq7 := hcs.2.2.2.2.2.2.2.1.2; have hq8 := hcs.2.2.2.2.2.2.2.2.1.2; have hq9 := hcs.2.2.2.2.2.2.2.2.2.1.2; have hq10 := hcs.2.2.2.2.2.2.2.2.2.2.1.2; have hz0 := hcs.1.1)) | (go_at_call 126; refine (tidle_any _).mono ?_; rintro e wx ⟨rfl, hgx⟩; try (have hcs := cells_keep hgx hcs; have hq0 := hcs.1.2; have hq1 := hcs.2.1.2; have hq2 := hcs.2.2.1.2; have hq3 := hcs.2.2.2.1.2; have hq4 := hcs.2.2.2.2.1.2; have hq5 := hcs.2.2.2.2.2.1.2; have hq6 := hcs.2.2.2.2.2.2.1.2; have hq7 := hcs.2.2.2.2.2.2.2.1.2; have hq8 := hcs.2.2.2.2.2.2.2.2.1.2; have hq9 := hcs.2.2.2.2.2.2.2.2.2.1.2; have hq10 := hcs.2.2.2.2.2.2.2.2.2.2.1.2; have hz0 := hcs.1.1)) | (go_at_call 177; refine (trests_any _).mono ?_; rintro e wx ⟨rfl, hgx⟩; try (have hcs := cells_keep hgx hcs; have hq0 := hcs.1.2; have hq1 := hcs.2.1.2; have hq2 := hcs.2.2.1.2; have hq3 := hcs.2.2.2.1.2; have hq4 := hcs.2.2.2.2.1.2; have hq5 := hcs.2.2.2.2.2.1.2; have hq6 := hcs.2.2.2.2.2.2.1.2; have hq7 := hcs.2.2.2.2.2.2.2.1.2; have hq8 := hcs.2.2.2.2.2.2.2.2.1.2; have hq9 := hcs.2.2.2.2.2.2.2.2.2.1.2; have hq10 := hcs.2.2.2.2.2.2.2.2.2.2.1.2; have hz0 := hcs.1.1)))
  all_goals (go_ret; exact ⟨ret_bool (by simp_all [thB]), by repeat' (first | (with_reducible exact Below.refl _ _) | (with_reducible assumption) | (with_reducible refine kept_alloc ?_ _) | (with_reducible refine kept_drewN ?_ _) | (with_reducible refine Below.drew ?_) | (with_reducible refine Below.setCell ?_ (by first | omega | (simp; omega) | (simp; done)) _) | (refine kept_trans ?_ (by with_reducible assumption)))⟩)
end Go.Proofs.YtjbcfjfnobklkaaGreat

/- Layer 13: lists copied; the library's looks at threads; whether lines may stand, the ring may be, threads may be. -/
namespace Go.Proofs.YtjbcfjfnobklkaaGreat
set_option linter.unusedVariables false
set_option linter.unusedSimpArgs false
open Go.ChangeShapes Go.WideShapes Go.ChangeAt Go.RowKit

/-! ### Threads in a list -/
theorem sth_at {W : World} {l : List Th} {b o n c : Nat} (h : Sl W 11 Th.cells l (.slice (some ⟨b, o, none⟩) n c)) {j : Nat} (hj : j < l.length) : W.cell? ⟨b, o + j * 11, none⟩ = some (.int .i64 (gth l j).st) ∧ W.cell? ⟨b, o + j * 11 + 1, none⟩ = some (.int .i64 (gth l j).ki) ∧ W.cell? ⟨b, o + j * 11 + 2, none⟩ = some (.int .i64 (gth l j).va) ∧ W.cell? ⟨b, o + j * 11 + 3, none⟩ = some (.int .i64 (gth l j).un) ∧ W.cell? ⟨b, o + j * 11 + 4, none⟩ = some (.int .i64 (gth l j).pc) ∧ W.cell? ⟨b, o + j * 11 + 5, none⟩ = some (.int .i64 (gth l j).re) ∧ W.cell? ⟨b, o + j * 11 + 6, none⟩ = some (.int .i64 (gth l j).se) ∧ W.cell? ⟨b, o + j * 11 + 7, none⟩ = some (.int .i64 (gth l j).tr) ∧ W.cell? ⟨b, o + j * 11 + 8, none⟩ = some (.bool (gth l j).la) ∧ W.cell? ⟨b, o + j * 11 + 9, none⟩ = some (.int .i64 (gth l j).rs) ∧ W.cell? ⟨b, o + j * 11 + 10, none⟩ = some (.int .i64 (gth l j).go) := by
  obtain ⟨p, k, e, _, _, _, h4⟩ := h.is
  cases e
  obtain ⟨b', o', e, _, h5⟩ := h4 (by intro h; subst h; simp at hj)
  cases e
  have h6 := h5 j (gth l j) (gth_some hj)
  have k0 := h6 0 (by omega); have k1 := h6 1 (by omega); have k2 := h6 2 (by omega); have k3 := h6 3 (by omega); have k4 := h6 4 (by omega); have k5 := h6 5 (by omega); have k6 := h6 6 (by omega); have k7 := h6 7 (by omega); have k8 := h6 8 (by omega); have k9 := h6 9 (by omega); have k10 := h6 10 (by omega)
  exact ⟨by simpa [Th.cells] using k0, by simpa [Th.cells] using k1, by simpa [Th.cells] using k2, by simpa [Th.cells] using k3, by simpa [Th.cells] using k4, by simpa [Th.cells] using k5, by simpa [Th.cells] using k6, by simpa [Th.cells] using k7, by simpa [Th.cells] using k8, by simpa [Th.cells] using k9, by simpa [Th.cells] using k10⟩
/-- What a function value tells of each thread, in each world that keeps w. -/
def TellsT (g : Nat) (lb : Array Value) (f : Th → Bool) (w : World) : Prop := ∀ (W : World) (t : Th), Below w.heap.size w W → Calls Tryz.prog g (#[.agg #[.int .i64 t.st, .int .i64 t.ki, .int .i64 t.va, .int .i64 t.un, .int .i64 t.pc, .int .i64 t.re, .int .i64 t.se, .int .i64 t.tr, .bool t.la, .int .i64 t.rs, .int .i64 t.go]] ++ lb) W fun e W' => e = .returned (.bool (f t)) ∧ Kept W W'
theorem TellsT.kept {g : Nat} {lb : Array Value} {f : Th → Bool} {w w' : World} (h : TellsT g lb f w) (hk : Below w.heap.size w w') : TellsT g lb f w' := fun W x hW => h W x (kept_trans hk hW)
theorem any_take {l : List Th} {f : Th → Bool} {j : Nat} (hj : j < l.length) (hf : f (gth l j) = false) (h : (l.take j).any f = false) : (l.take (j + 1)).any f = false := by
  rw [gth_eq hj] at hf
  rw [List.take_succ_eq_append_getElem hj, List.any_append, h]
  simp [hf]

set_option maxHeartbeats 1000000 in
theorem indexFuncT_any (l : List Th) (f : Th → Bool) (g : Nat) (lb : Array Value) (eg : ∀ args w, (callFunc g args).run Tryz.prog w = .ok (.enter g args) w) (p : Option Addr) (k : Nat) (w : World) (hl : Sl w 11 Th.cells l (.slice p l.length k)) (hg : TellsT g lb f w) :
    Calls Tryz.prog 178 #[.slice p l.length k, .func (.func g) #[] lb] w fun e w' => ∃ r : Int, e = .returned (.int .i64 r) ∧ decide (0 ≤ r) = l.any f ∧ Kept w w' := by
  have H := Lib.hid hl
  obtain ⟨_, _, e1, hlk, hkm, _, hne⟩ := hl.is
  cases e1
  have hbig : l.length ≤ 9223372036854775807 := by unfold maxLen at hkm; omega
  clear hl hkm
  obtain ⟨N, hN⟩ : ∃ N, l.length = N := ⟨_, rfl⟩
  rw [hN] at hbig hlk ⊢
  have HN := Lib.hid hN
  have HNE := Lib.hid hne
  have HG := Lib.hid hg
  clear hN hne hg
  go_enter Tryz.func178, Tryz.ntmps178
  go_wp2
  go_loopw [5, 8] (fun _ s8 wr => ∃ j : Nat, j ≤ N ∧ s8 = .int .i64 j ∧ Hid ((l.take j).any f = false) ∧ Below w.heap.size w wr) (fun _ s8 _ => N - (intOf s8).toNat)
  case atStart => exact ⟨0, by omega, rfl, Lib.hid (by simp), Below.refl _ _⟩
  case round =>
    obtain ⟨j, hj, rfl, T, hB⟩ := hrel
    by_cases hlt : j < N
    · have hlt' : j < l.length := by rw [HN.out]; exact hlt
      obtain ⟨b, o, rfl, hb, -⟩ := HNE.out (by intro h; subst h; simp at hlt')
      obtain ⟨c0, c1, c2, c3, c4, c5, c6, c7, c8, c9, c10⟩ := sth_at (H.out.kept hB) hlt'
      have hbw : b < wr.heap.size := Nat.lt_of_lt_of_le hb hB.size
      have i1 : (0 : Int) ≤ (j : Int) := by omega
      have i2 : (j : Int) < (N : Int) := by omega
      have Hh : Hid (f (gth l j) = true → l.any f = true) := fun h => List.any_eq_true.2 ⟨_, by rw [gth_eq hlt']; exact List.getElem_mem hlt', h⟩
      have Hn : Hid (f (gth l j) = false → (l.take (j + 1)).any f = false) := fun h => any_take hlt' h T.out
      have hcall := HG.out wr (gth l j) hB
      generalize gth l j = y at *
      cases hxy : f y
      · have hn := Lib.hid (Hn.out hxy)
        rw [hxy] at hcall
        clear Hh Hn hxy
        go_wp2_with (go_at_fn g; refine hcall.mono ?_; rintro e w1 ⟨rfl, hg1⟩)
        exact ⟨⟨j + 1, by omega, by go_num, hn.out, by repeat' (first | (with_reducible exact Below.refl _ _) | (with_reducible assumption) | (with_reducible refine kept_alloc ?_ _) | (with_reducible refine kept_drewN ?_ _) | (with_reducible refine Below.drew ?_) | (with_reducible refine Below.setCell ?_ (by first | omega | (simp; omega) | (simp; done)) _) | (refine kept_trans ?_ (by with_reducible assumption)))⟩, by simp [intOf]; omega⟩
      · have hn := Lib.hid (Hh.out hxy)
        rw [hxy] at hcall
        clear Hh Hn hxy
        go_wp2_with (go_at_fn g; refine hcall.mono ?_; rintro e w1 ⟨rfl, hg1⟩)
        go_ret
        exact ⟨j, rfl, by rw [hn.out]; simp, by repeat' (first | (with_reducible exact Below.refl _ _) | (with_reducible assumption) | (with_reducible refine kept_alloc ?_ _) | (with_reducible refine kept_drewN ?_ _) | (with_reducible refine Below.drew ?_) | (with_reducible refine Below.setCell ?_ (by first | omega | (simp; omega) | (simp; done)) _) | (refine kept_trans ?_ (by with_reducible assumption)))⟩
    · have : j = N := by omega
      subst this
      have hn : Hid (l.any f = false) := Lib.hid (by have := T.out; rw [← HN.out, List.take_length] at this; exact this)
      clear T
      go_wp2
      go_ret
      exact ⟨-1, rfl, by rw [hn.out]; rfl, by repeat' (first | (with_reducible exact Below.refl _ _) | (with_reducible assumption) | (with_reducible refine kept_alloc ?_ _) | (with_reducible refine kept_drewN ?_ _) | (with_reducible refine Below.drew ?_) | (with_reducible refine Below.setCell ?_ (by first | omega | (simp; omega) | (simp; done)) _) | (refine kept_trans ?_ (by with_reducible assumption)))⟩
theorem containsFuncT_any (l : List Th) (f : Th → Bool) (g : Nat) (lb : Array Value) (eg : ∀ args w, (callFunc g args).run Tryz.prog w = .ok (.enter g args) w) (p : Option Addr) (k : Nat) (w : World) (hl : Sl w 11 Th.cells l (.slice p l.length k)) (hg : TellsT g lb f w) :
    Calls Tryz.prog 115 #[.slice p l.length k, .func (.func g) #[] lb] w fun e w' => e = .returned (.bool (l.any f)) ∧ Kept w w' := by
  have H := Lib.hid hl
  have HG := Lib.hid hg
  clear hl hg
  go_enter Tryz.func115, Tryz.ntmps115
  go_wp2_with fail
  refine (indexFuncT_any l f g lb eg p k _ (H.out.kept (by repeat' (first | (with_reducible exact Below.refl _ _) | (with_reducible assumption) | (with_reducible refine kept_alloc ?_ _) | (with_reducible refine kept_drewN ?_ _) | (with_reducible refine Below.drew ?_) | (with_reducible refine Below.setCell ?_ (by first | omega | (simp; omega) | (simp; done)) _) | (refine kept_trans ?_ (by with_reducible assumption))))) (HG.out.kept (by repeat' (first | (with_reducible exact Below.refl _ _) | (with_reducible assumption) | (with_reducible refine kept_alloc ?_ _) | (with_reducible refine kept_drewN ?_ _) | (with_reducible refine Below.drew ?_) | (with_reducible refine Below.setCell ?_ (by first | omega | (simp; omega) | (simp; done)) _) | (refine kept_trans ?_ (by with_reducible assumption)))))).mono ?_
  rintro e w1 ⟨r, rfl, hr, hg1⟩
  have HR := Lib.hid hr
  clear hr
  go_wp2
  go_ret
  exact ⟨ret_bool HR.out, by repeat' (first | (with_reducible exact Below.refl _ _) | (with_reducible assumption) | (with_reducible refine kept_alloc ?_ _) | (with_reducible refine kept_drewN ?_ _) | (with_reducible refine Below.drew ?_) | (with_reducible refine Below.setCell ?_ (by first | omega | (simp; omega) | (simp; done)) _) | (refine kept_trans ?_ (by with_reducible assumption)))⟩
theorem threads1_enters : ∀ args w, (callFunc 113 args).run Tryz.prog w = .ok (.enter 113 args) w := enters_of Tryz.func113 (by kernel_rfl) rfl
theorem threads1_tells (w : World) : TellsT 113 #[] notTh w := by
  intro W t hW
  show Calls Tryz.prog 113 #[.agg #[.int .i64 t.st, .int .i64 t.ki, .int .i64 t.va, .int .i64 t.un, .int .i64 t.pc, .int .i64 t.re, .int .i64 t.se, .int .i64 t.tr, .bool t.la, .int .i64 t.rs, .int .i64 t.go]] W _
  go_enter Tryz.func113, Tryz.ntmps113
  go_wp2_with fail
  refine (tcheck_any _).mono ?_
  rintro e w1 ⟨rfl, hg1⟩
  go_wp2
  go_ret
  exact ⟨rfl, by repeat' (first | (with_reducible exact Below.refl _ _) | (with_reducible assumption) | (with_reducible refine kept_alloc ?_ _) | (with_reducible refine kept_drewN ?_ _) | (with_reducible refine Below.drew ?_) | (with_reducible refine Below.setCell ?_ (by first | omega | (simp; omega) | (simp; done)) _) | (refine kept_trans ?_ (by with_reducible assumption)))⟩

/-! ### Lines that stand -/
theorem stand1_enters : ∀ args w, (callFunc 110 args).run Tryz.prog w = .ok (.enter 110 args) w := enters_of Tryz.func110 (by kernel_rfl) rfl
theorem stand1_tells (th : Int) (b : Nat) (w : World) (hb : b < w.heap.size) (hc : w.cell? ⟨b, 0, none⟩ = some (.int .i64 th)) : Tells 110 #[.pointer (some ⟨b, 0, none⟩)] (overB th) w := by
  intro W x hW
  have c1 := (hW.cell (p := ⟨b, 0, none⟩) hb).trans hc
  show Calls Tryz.prog 110 #[.int .i64 x, .pointer (some ⟨b, 0, none⟩)] W _
  go_enter Tryz.func110, Tryz.ntmps110
  go_wp2
  all_goals (go_ret; exact ⟨ret_bool (by simp [overB, *]), by repeat' (first | (with_reducible exact Below.refl _ _) | (with_reducible assumption) | (with_reducible refine kept_alloc ?_ _) | (with_reducible refine kept_drewN ?_ _) | (with_reducible refine Below.drew ?_) | (with_reducible refine Below.setCell ?_ (by first | omega | (simp; omega) | (simp; done)) _) | (refine kept_trans ?_ (by with_reducible assumption)))⟩)
/-- A line, and where it lies. -/
structure Ln where
  p : Option Addr
  k : Nat
  l : List Int
def Ln.cells (x : Ln) : List Value := [.slice x.p x.l.length x.k]
theorem Ln.enc : Enc 1 Ln.cells := ⟨fun _ => rfl, fun x c hc => by simp [Ln.cells] at hc; subst hc; rfl⟩
theorem all_take {l : List Ln} {f : Ln → Bool} {j : Nat} (hj : j < l.length) (hf : f l[j] = true) (h : (l.take j).all f = true) : (l.take (j + 1)).all f = true := by
  rw [List.take_succ_eq_append_getElem hj, List.all_append, h]
  simp [hf]
theorem all_miss {l : List Ln} {f : Ln → Bool} {j : Nat} (hj : j < l.length) (hf : f l[j] = false) : l.all f = false := by
  rw [List.all_eq_false]
  exact ⟨_, List.getElem_mem hj, by simp [hf]⟩
theorem sln_at {W : World} {l : List Ln} {b o n c : Nat} (h : Sl W 1 Ln.cells l (.slice (some ⟨b, o, none⟩) n c)) {j : Nat} (hj : j < l.length) : W.cell? ⟨b, o + j, none⟩ = some (.slice l[j].p l[j].l.length l[j].k) := by
  obtain ⟨p, k, e, _, _, _, h4⟩ := h.is
  cases e
  obtain ⟨b', o', e, _, h5⟩ := h4 (by intro h; subst h; simp at hj)
  cases e
  have h6 := h5 j l[j] (List.getElem?_eq_getElem hj) 0 (by omega)
  simpa [Ln.cells] using h6

set_option maxHeartbeats 1000000 in
theorem fstand_any (m : Int) (l : List Ln) (p : Option Addr) (k : Nat) (w : World) (hl : Sl w 1 Ln.cells l (.slice p l.length k)) (hq : ∀ x ∈ l, Sl w 1 intC x.l (.slice x.p x.l.length x.k)) :
    Calls Tryz.prog 54 #[.int .i64 m, .slice p l.length k] w fun e w' => e = .returned (.bool (l.all fun x => stnB m x.l)) ∧ Kept w w' := by
  have H := Lib.hid hl
  obtain ⟨_, _, e1, hlk, hkm, _, hne⟩ := hl.is
  cases e1
  have hbig : l.length ≤ 9223372036854775807 := by unfold maxLen at hkm; omega
  clear hl hkm
  obtain ⟨N, hN⟩ : ∃ N, l.length = N := ⟨_, rfl⟩
  rw [hN] at hbig hlk ⊢
  have HN := Lib.hid hN
  have HNE := Lib.hid hne
  have HQ := Lib.hid hq
  clear hN hne hq
  go_enter Tryz.func54, Tryz.ntmps54
  go_wp2
  go_loopw [7, 11] (fun _ s11 wr => ∃ j : Nat, j ≤ N ∧ s11 = .int .i64 j ∧ Hid ((l.take j).all (fun x => stnB m x.l) = true) ∧ Below w.heap.size w wr ∧ wr.cell? ⟨w.heap.size, 0, none⟩ = some (.int .i64 m) ∧ w.heap.size < wr.heap.size) (fun _ s11 _ => N - (intOf s11).toNat)
  case atStart => exact ⟨0, by omega, rfl, Lib.hid (by simp), by repeat' (first | (with_reducible exact Below.refl _ _) | (with_reducible assumption) | (with_reducible refine kept_alloc ?_ _) | (with_reducible refine kept_drewN ?_ _) | (with_reducible refine Below.drew ?_) | (with_reducible refine Below.setCell ?_ (by first | omega | (simp; omega) | (simp; done)) _) | (refine kept_trans ?_ (by with_reducible assumption))), by simp, by simp⟩
  case round =>
    obtain ⟨j, hj, rfl, T, hB, hcm, hsz⟩ := hrel
    by_cases hlt : j < N
    · have hlt' : j < l.length := by rw [HN.out]; exact hlt
      obtain ⟨b, o, rfl, hb, -⟩ := HNE.out (by intro h; subst h; simp at hlt')
      have c1 := (hB.cell (p := ⟨b, o + j, none⟩) hb).trans (sln_at H.out hlt')
      have hbw : b < wr.heap.size := Nat.lt_of_lt_of_le hb hB.size
      have i1 : (0 : Int) ≤ (j : Int) := by omega
      have i2 : (j : Int) < (N : Int) := by omega
      have Hy : Hid (l.all (fun x => stnB m x.l) = false ∨ stnB m l[j].l = true) := by
        cases h : stnB m l[j].l
        · exact Lib.hid (.inl (all_miss (f := fun x => stnB m x.l) hlt' h))
        · exact Lib.hid (.inr rfl)
      have Hn : Hid (stnB m l[j].l = true → (l.take (j + 1)).all (fun x => stnB m x.l) = true) := fun h => all_take (f := fun x => stnB m x.l) hlt' h T.out
      have HS : Hid (Sl wr 1 intC l[j].l (.slice l[j].p l[j].l.length l[j].k)) := Lib.hid ((HQ.out l[j] (List.getElem_mem hlt')).kept hB)
      have HT := Lib.hid (stand1_tells m w.heap.size wr hsz hcm)
      generalize l[j] = y at *
      obtain ⟨q, c, r⟩ := y
      simp only at c1 Hy Hn HS
      obtain ⟨A, hA⟩ : ∃ A, okLn r = A := ⟨_, rfl⟩
      have HA := Lib.hid hA
      clear hA
      go_wp2_with fail
      refine (lcheck_any r q c _ (HS.out.kept (by repeat' (first | (with_reducible exact Below.refl _ _) | (with_reducible assumption) | (with_reducible refine kept_alloc ?_ _) | (with_reducible refine kept_drewN ?_ _) | (with_reducible refine Below.drew ?_) | (with_reducible refine Below.setCell ?_ (by first | omega | (simp; omega) | (simp; done)) _) | (refine kept_trans ?_ (by with_reducible assumption)))))).mono ?_
      rintro e w1 ⟨rfl, hg1⟩
      rw [HA.out]
      have hcm1 := ((bcell hg1).1 _ 0 hsz).trans hcm
      have hsz1 : w.heap.size < w1.heap.size := Nat.lt_of_lt_of_le hsz hg1.size
      cases A
      · have hf : Hid (l.all (fun x => stnB m x.l) = false) := Lib.hid (by
          rcases Hy.out with h | h
          · exact h
          · simp [stnB, HA.out] at h)
        clear Hy Hn
        go_wp2
        go_ret
        exact ⟨ret_bool hf.out.symm, by repeat' (first | (with_reducible exact Below.refl _ _) | (with_reducible assumption) | (with_reducible refine kept_alloc ?_ _) | (with_reducible refine kept_drewN ?_ _) | (with_reducible refine Below.drew ?_) | (with_reducible refine Below.setCell ?_ (by first | omega | (simp; omega) | (simp; done)) _) | (refine kept_trans ?_ (by with_reducible assumption)))⟩
      · obtain ⟨B, hBB⟩ : ∃ B, r.any (overB m) = B := ⟨_, rfl⟩
        have HBB := Lib.hid hBB
        clear hBB
        go_wp2_with fail
        refine (containsFunc_any r _ _ _ stand1_enters q c _ (HS.out.kept (by repeat' (first | (with_reducible exact Below.refl _ _) | (with_reducible assumption) | (with_reducible refine kept_alloc ?_ _) | (with_reducible refine kept_drewN ?_ _) | (with_reducible refine Below.drew ?_) | (with_reducible refine Below.setCell ?_ (by first | omega | (simp; omega) | (simp; done)) _) | (refine kept_trans ?_ (by with_reducible assumption))))) (HT.out.kept (by repeat' (first | (with_reducible exact Below.refl _ _) | (with_reducible assumption) | (with_reducible refine kept_alloc ?_ _) | (with_reducible refine kept_drewN ?_ _) | (with_reducible refine Below.drew ?_) | (with_reducible refine Below.setCell ?_ (by first | omega | (simp; omega) | (simp; done)) _) | (refine kept_trans ?_ (by with_reducible assumption)))))).mono ?_
        rintro e w2 ⟨rfl, hg2⟩
        rw [HBB.out]
        have hcm2 := ((bcell hg2).1 _ 0 hsz1).trans hcm1
        have hsz2 : w.heap.size < w2.heap.size := Nat.lt_of_lt_of_le hsz1 hg2.size
        cases B
        · have hn := Lib.hid (Hn.out (by simp [stnB, HA.out, HBB.out]))
          clear Hy Hn
          go_wp2
          exact ⟨⟨j + 1, by omega, by go_num, hn.out, by repeat' (first | (with_reducible exact Below.refl _ _) | (with_reducible assumption) | (with_reducible refine kept_alloc ?_ _) | (with_reducible refine kept_drewN ?_ _) | (with_reducible refine Below.drew ?_) | (with_reducible refine Below.setCell ?_ (by first | omega | (simp; omega) | (simp; done)) _) | (refine kept_trans ?_ (by with_reducible assumption))), by assumption, by assumption⟩, by simp [intOf]; omega⟩
        · have hf : Hid (l.all (fun x => stnB m x.l) = false) := Lib.hid (by
            rcases Hy.out with h | h
            · exact h
            · simp [stnB, HA.out, HBB.out] at h)
          clear Hy Hn
          go_wp2
          go_ret
          exact ⟨ret_bool hf.out.symm, by repeat' (first | (with_reducible exact Below.refl _ _) | (with_reducible assumption) | (with_reducible refine kept_alloc ?_ _) | (with_reducible refine kept_drewN ?_ _) | (with_reducible refine Below.drew ?_) | (with_reducible refine Below.setCell ?_ (by first | omega | (simp; omega) | (simp; done)) _) | (refine kept_trans ?_ (by with_reducible assumption)))⟩
    · have : j = N := by omega
      subst this
      have hn : Hid (l.all (fun x => stnB m x.l) = true) := Lib.hid (by have := T.out; rw [← HN.out, List.take_length] at this; exact this)
      clear T
      go_wp2
      go_ret
      exact ⟨ret_bool hn.out.symm, by repeat' (first | (with_reducible exact Below.refl _ _) | (with_reducible assumption) | (with_reducible refine kept_alloc ?_ _) | (with_reducible refine kept_drewN ?_ _) | (with_reducible refine Below.drew ?_) | (with_reducible refine Below.setCell ?_ (by first | omega | (simp; omega) | (simp; done)) _) | (refine kept_trans ?_ (by with_reducible assumption)))⟩
end Go.Proofs.YtjbcfjfnobklkaaGreat

/- A WORLD FORGOTTEN AT A REGION's HEAD: what is known of it goes on alone. -/
namespace Go.Proofs.YtjbcfjfnobklkaaGreat
set_option linter.unusedVariables false
set_option linter.unusedSimpArgs false
open Go.ChangeShapes Go.WideShapes Go.ChangeAt Go.RowKit
/-- No cell of these blocks is frozen. -/
def FrozAt (W : World) : List Nat → Prop
  | [] => True
  | b :: r => (b < W.heap.size ∧ ∀ j, W.frozen? ⟨b, j, none⟩ = false) ∧ FrozAt W r
theorem froz_keep {W w1 : World} (hg : Below W.heap.size W w1) : ∀ {l : List Nat}, FrozAt W l → FrozAt w1 l
  | [], _ => trivial
  | _ :: _, h => ⟨⟨Nat.lt_of_lt_of_le h.1.1 hg.size, fun j => ((bcell hg).2 _ _ h.1.1).trans (h.1.2 j)⟩, froz_keep hg h.2⟩
theorem set_same {W : World} {a : Addr} {u v : Value} (h : W.cell? a = some u) : (W.setCell a v).cell? a = some v := World.cell?_setCell_same' W a v (by rw [h]; rfl)
theorem wp_abs {P : Program} {c : Code} {Q : Exit → Act → World → Prop} {a : Act} {W : World} (F : World → Prop) (h : F W) (k : ∀ W', F W' → c.wp P Q a W') : c.wp P Q a W := k W h
end Go.Proofs.YtjbcfjfnobklkaaGreat

/- Layer 13: whether a state may be; whether it has a thread; what lies at a position. -/
namespace Go.Proofs.YtjbcfjfnobklkaaGreat
set_option linter.unusedVariables false
set_option linter.unusedSimpArgs false
open Go.ChangeShapes Go.WideShapes Go.ChangeAt Go.RowKit

theorem room_in (c : Cf) : In64 (cfR c) := by have := cf_bd c; exact ⟨by omega, by omega⟩
set_option maxHeartbeats 1000000 in
theorem fring_any (s : St) (z : Pz) (w : World) (hs : StAt w s z) (ho : s.ok) : Calls Tryz.prog 53 #[.agg #[.int .i64 s.cf.lg, .int .i64 s.cf.th, .int .i64 s.cf.po, .int .i64 s.cf.wt, .int .i64 s.cf.sp, .int .i64 s.cf.yi, .bool s.cf.si, .int .i64 s.hd, .int .i64 s.tl, .int .i64 s.md, .slice z.p1 s.sl.length z.k1, .slice z.p2 s.sn.length z.k2, .slice z.p3 s.rc.length z.k3, .int .i64 s.fe, .slice z.p4 s.fl.length z.k4, .int .i64 s.ee, .slice z.p5 s.el.length z.k5, .int .i64 s.nw, .slice z.p6 s.th.length z.k6, .slice z.p7 s.lg.length z.k7]] w fun e w' => e = .returned (.bool (ringSt s)) ∧ Kept w w' := by
  have HS := Lib.hid hs
  have HO := Lib.hid ho
  obtain ⟨R, hR⟩ : ∃ R, cfR s.cf = R := ⟨_, rfl⟩
  have HR := Lib.hid hR
  have hRi : Hid (In64 R) := Lib.hid (hR ▸ room_in s.cf)
  have hRb : Hid (0 ≤ R ∧ R ≤ 64) := Lib.hid (hR ▸ cf_bd s.cf)
  obtain ⟨A, hA⟩ : ∃ A, checkB s.hd s.tl s.md R = A := ⟨_, rfl⟩
  have HA := Lib.hid hA
  obtain ⟨L, hL⟩ : ∃ L, ((s.sl.length : Int) == R) = L := ⟨_, rfl⟩
  have HL := Lib.hid hL
  clear hs ho hR hA hL
  go_enter Tryz.func53, Tryz.ntmps53
  go_wp2_with fail; refine (croom_any _ _ _ _ _ _ _ _).mono ?_; rintro e w1 ⟨rfl, hgx⟩; have hBx : Below w.heap.size w w1 := (by repeat' (first | (with_reducible exact Below.refl _ _) | (with_reducible assumption) | (with_reducible refine kept_alloc ?_ _) | (with_reducible refine kept_drewN ?_ _) | (with_reducible refine Below.drew ?_) | (with_reducible refine Below.setCell ?_ (by first | omega | (simp; omega) | (simp; done)) _) | (refine kept_trans ?_ (by with_reducible assumption)))); have hcsx : CellsAt w1 [(w.heap.size, 0, .int .i64 s.cf.lg), (w.heap.size, 1, .int .i64 s.cf.th), (w.heap.size, 2, .int .i64 s.cf.po), (w.heap.size, 3, .int .i64 s.cf.wt), (w.heap.size, 4, .int .i64 s.cf.sp), (w.heap.size, 5, .int .i64 s.cf.yi), (w.heap.size, 6, .bool s.cf.si), (w.heap.size, 7, .int .i64 s.hd), (w.heap.size, 8, .int .i64 s.tl), (w.heap.size, 9, .int .i64 s.md), (w.heap.size, 10, .slice z.p1 s.sl.length z.k1), (w.heap.size, 11, .slice z.p2 s.sn.length z.k2), (w.heap.size, 12, .slice z.p3 s.rc.length z.k3), (w.heap.size, 13, .int .i64 s.fe), (w.heap.size, 14, .slice z.p4 s.fl.length z.k4), (w.heap.size, 15, .int .i64 s.ee), (w.heap.size, 16, .slice z.p5 s.el.length z.k5), (w.heap.size, 17, .int .i64 s.nw), (w.heap.size, 18, .slice z.p6 s.th.length z.k6), (w.heap.size, 19, .slice z.p7 s.lg.length z.k7)] := cells_keep hgx (by first | (with_reducible exact hcs) | (simp only [CellsAt]; (repeat' (first | exact trivial | (refine And.intro ?_ ?_))); all_goals (first | (focus ((try simp only [World.size_setCell, World.size_alloc]); omega)) | (repeat (first | (with_reducible assumption) | (with_reducible refine (World.cell?_setCell_other _ _ _ _ ?_).trans ?_; focus (first | (simp; done) | (simp; omega))) | (with_reducible apply set_same) | (with_reducible refine (World.cell?_alloc_past _ _ _ ?_).trans ?_; focus ((try simp only [World.size_setCell, World.size_alloc]); omega)) | (refine (World.cell?_alloc_at _ _ _ _ (by focus ((try simp only [World.size_setCell, World.size_alloc]); done))).trans ?_; exact rfl)))))); have hfsx : FrozAt w1 [w.heap.size] := froz_keep hgx (by first | (with_reducible exact hfs) | (simp only [FrozAt]; (repeat' (first | exact trivial | (refine And.intro ?_ ?_))); all_goals (first | (focus ((try simp only [World.size_setCell, World.size_alloc]); omega)) | (intro j; (repeat (first | (with_reducible exact hf0 j) | (with_reducible exact hf1 j) | (with_reducible exact hf2 j) | (with_reducible exact hf3 j) | (with_reducible exact hf4 j) | (with_reducible exact hf5 j) | (with_reducible refine (World.frozen?_setCell _ _ _ _).trans ?_) | (with_reducible refine (World.frozen?_alloc_past _ _ _ ?_).trans ?_; focus ((try simp only [World.size_setCell, World.size_alloc]); omega)) | (with_reducible exact World.frozen?_alloc_at _ _ _ _ (by (try simp only [World.size_setCell, World.size_alloc]))))))))); clear hgx; (try clear hB); (try clear hcs); (try clear hfs); have hB := hBx; have hcs := hcsx; have hfs := hfsx; clear hBx hcsx hfsx; (try clear hq0); (try clear hq1); (try clear hq2); (try clear hq3); (try clear hq4); (try clear hq5); (try clear hq6); (try clear hq7); (try clear hq8); (try clear hq9); (try clear hq10); (try clear hq11); (try clear hq12); (try clear hq13); (try clear hq14); (try clear hq15); (try clear hq16); (try clear hq17); (try clear hq18); (try clear hq19); (try clear hq20); (try clear hq21); (try clear hq22); (try clear hq23); (try clear hq24); (try clear hq25); (try clear hq26); (try clear hq27); (try clear hq28); (try clear hq29); (try clear hq30); (try clear hq31); (try clear hq32); (try clear hq33); (try clear hq34); (try clear hq35); (try clear hq36); (try clear hq37); (try clear hq38); (try clear hq39); (try clear hq40); (try clear hq41); (try clear hq42); (try clear hq43); (try clear hq44); (try clear hq45); (try clear hq46); (try clear hq47); (try clear hq48); (try clear hq49); (try clear hq50); (try clear hq51); (try clear hq52); (try clear hq53); (try clear hq54); (try clear hq55); (try clear hq56); (try clear hq57); (try clear hq58); (try clear hq59); (try clear hq60); (try clear hq61); (try clear hq62); (try clear hq63); (try clear hq64); (try clear hq65); (try clear hq66); (try clear hq67); (try clear hq68); (try clear hq69); (try clear hq70); (try clear hq71); (try clear hq72); (try clear hq73); (try clear hq74); (try clear hq75); (try clear hq76); (try clear hq77); (try clear hq78); (try clear hq79); (try clear hq80); (try clear hq81); (try clear hq82); (try clear hq83); (try clear hq84); (try clear hq85); (try clear hq86); (try clear hq87); (try clear hq88); (try clear hq89); (try clear hq90); (try clear hq91); (try clear hq92); (try clear hq93); (try clear hq94); (try clear hq95); (try clear hq96); (try clear hq97); (try clear hq98); (try clear hq99); (try clear hq100); (try clear hq101); (try clear hq102); (try clear hq103); (try clear hq104); (try clear hq105); (try clear hq106); (try clear hq107); (try clear hq108); (try clear hq109); (try clear hq110); (try clear hq111); (try clear hq112); (try clear hq113); (try clear hq114); (try clear hq115); (try clear hq116); (try clear hq117); (try clear hq118); (try clear hq119); (try clear hz0); (try clear hf0); (try clear hz1); (try clear hf1); (try clear hz2); (try clear hf2); (try clear hz3); (try clear hf3); (try clear hz4); (try clear hf4); (try clear hz5); (try clear hf5); (try clear hz6); (try clear hf6); (try clear hz7); (try clear hf7); have hq0 := hcs.1.2; have hq1 := hcs.2.1.2; have hq2 := hcs.2.2.1.2; have hq3 := hcs.2.2.2.1.2; have hq4 := hcs.2.2.2.2.1.2; have hq5 := hcs.2.2.2.2.2.1.2; have hq6 := hcs.2.2.2.2.2.2.1.2; have hq7 := hcs.2.2.2.2.2.2.2.1.2; have hq8 := hcs.2.2.2.2.2.2.2.2.1.2; have hq9 := hcs.2.2.2.2.2.2.2.2.2.1.2; have hq10 := hcs.2.2.2.2.2.2.2.2.2.2.1.2; have hq11 := hcs.2.2.2.2.2.2.2.2.2.2.2.1.2; have hq12 := hcs.2.2.2.2.2.2.2.2.2.2.2.2.1.2; have hq13 := hcs.2.2.2.2.2.2.2.2.2.2.2.2.2.1.2; have hq14 := hcs.2.2.2.2.2.2.2.2.2.2.2.2.2.2.1.2; have hq15 := hcs.2.2.2.2.2.2.2.2.2.2.2.2.2.2.2.1.2; have hq16 := hcs.2.2.2.2.2.2.2.2.2.2.2.2.2.2.2.2.1.2; have hq17 := hcs.2.2.2.2.2.2.2.2.2.2.2.2.2.2.2.2.2.1.2; have hq18 := hcs.2.2.2.2.2.2.2.2.2.2.2.2.2.2.2.2.2.2.1.2; have hq19 := hcs.2.2.2.2.2.2.2.2.2.2.2.2.2.2.2.2.2.2.2.1.2; have hz0 := hcs.1.1; have hf0 := hfs.1.2
  rw [show roomI s.cf.lg s.cf.th s.cf.po s.cf.wt s.cf.sp s.cf.yi = R from HR.out]
  go_wp2_with fail; refine (check_any _ _ _ _ HO.out.hd HO.out.tl HO.out.md hRi.out _).mono ?_; rintro e w2 ⟨rfl, hgx⟩; have hBx : Below w.heap.size w w2 := (by repeat' (first | (with_reducible exact Below.refl _ _) | (with_reducible assumption) | (with_reducible refine kept_alloc ?_ _) | (with_reducible refine kept_drewN ?_ _) | (with_reducible refine Below.drew ?_) | (with_reducible refine Below.setCell ?_ (by first | omega | (simp; omega) | (simp; done)) _) | (refine kept_trans ?_ (by with_reducible assumption)))); have hcsx : CellsAt w2 [(w.heap.size, 0, .int .i64 s.cf.lg), (w.heap.size, 1, .int .i64 s.cf.th), (w.heap.size, 2, .int .i64 s.cf.po), (w.heap.size, 3, .int .i64 s.cf.wt), (w.heap.size, 4, .int .i64 s.cf.sp), (w.heap.size, 5, .int .i64 s.cf.yi), (w.heap.size, 6, .bool s.cf.si), (w.heap.size, 7, .int .i64 s.hd), (w.heap.size, 8, .int .i64 s.tl), (w.heap.size, 9, .int .i64 s.md), (w.heap.size, 10, .slice z.p1 s.sl.length z.k1), (w.heap.size, 11, .slice z.p2 s.sn.length z.k2), (w.heap.size, 12, .slice z.p3 s.rc.length z.k3), (w.heap.size, 13, .int .i64 s.fe), (w.heap.size, 14, .slice z.p4 s.fl.length z.k4), (w.heap.size, 15, .int .i64 s.ee), (w.heap.size, 16, .slice z.p5 s.el.length z.k5), (w.heap.size, 17, .int .i64 s.nw), (w.heap.size, 18, .slice z.p6 s.th.length z.k6), (w.heap.size, 19, .slice z.p7 s.lg.length z.k7)] := cells_keep hgx (by first | (with_reducible exact hcs) | (simp only [CellsAt]; (repeat' (first | exact trivial | (refine And.intro ?_ ?_))); all_goals (first | (focus ((try simp only [World.size_setCell, World.size_alloc]); omega)) | (repeat (first | (with_reducible assumption) | (with_reducible refine (World.cell?_setCell_other _ _ _ _ ?_).trans ?_; focus (first | (simp; done) | (simp; omega))) | (with_reducible apply set_same) | (with_reducible refine (World.cell?_alloc_past _ _ _ ?_).trans ?_; focus ((try simp only [World.size_setCell, World.size_alloc]); omega)) | (refine (World.cell?_alloc_at _ _ _ _ (by focus ((try simp only [World.size_setCell, World.size_alloc]); done))).trans ?_; exact rfl)))))); have hfsx : FrozAt w2 [w.heap.size] := froz_keep hgx (by first | (with_reducible exact hfs) | (simp only [FrozAt]; (repeat' (first | exact trivial | (refine And.intro ?_ ?_))); all_goals (first | (focus ((try simp only [World.size_setCell, World.size_alloc]); omega)) | (intro j; (repeat (first | (with_reducible exact hf0 j) | (with_reducible exact hf1 j) | (with_reducible exact hf2 j) | (with_reducible exact hf3 j) | (with_reducible exact hf4 j) | (with_reducible exact hf5 j) | (with_reducible refine (World.frozen?_setCell _ _ _ _).trans ?_) | (with_reducible refine (World.frozen?_alloc_past _ _ _ ?_).trans ?_; focus ((try simp only [World.size_setCell, World.size_alloc]); omega)) | (with_reducible exact World.frozen?_alloc_at _ _ _ _ (by (try simp only [World.size_setCell, World.size_alloc]))))))))); clear hgx; (try clear hB); (try clear hcs); (try clear hfs); have hB := hBx; have hcs := hcsx; have hfs := hfsx; clear hBx hcsx hfsx; (try clear hq0); (try clear hq1); (try clear hq2); (try clear hq3); (try clear hq4); (try clear hq5); (try clear hq6); (try clear hq7); (try clear hq8); (try clear hq9); (try clear hq10); (try clear hq11); (try clear hq12); (try clear hq13); (try clear hq14); (try clear hq15); (try clear hq16); (try clear hq17); (try clear hq18); (try clear hq19); (try clear hq20); (try clear hq21); (try clear hq22); (try clear hq23); (try clear hq24); (try clear hq25); (try clear hq26); (try clear hq27); (try clear hq28); (try clear hq29); (try clear hq30); (try clear hq31); (try clear hq32); (try clear hq33); (try clear hq34); (try clear hq35); (try clear hq36); (try clear hq37); (try clear hq38); (try clear hq39); (try clear hq40); (try clear hq41); (try clear hq42); (try clear hq43); (try clear hq44); (try clear hq45); (try clear hq46); (try clear hq47); (try clear hq48); (try clear hq49); (try clear hq50); (try clear hq51); (try clear hq52); (try clear hq53); (try clear hq54); (try clear hq55); (try clear hq56); (try clear hq57); (try clear hq58); (try clear hq59); (try clear hq60); (try clear hq61); (try clear hq62); (try clear hq63); (try clear hq64); (try clear hq65); (try clear hq66); (try clear hq67); (try clear hq68); (try clear hq69); (try clear hq70); (try clear hq71); (try clear hq72); (try clear hq73); (try clear hq74); (try clear hq75); (try clear hq76); (try clear hq77); (try clear hq78); (try clear hq79); (try clear hq80); (try clear hq81); (try clear hq82); (try clear hq83); (try clear hq84); (try clear hq85); (try clear hq86); (try clear hq87); (try clear hq88); (try clear hq89); (try clear hq90); (try clear hq91); (try clear hq92); (try clear hq93); (try clear hq94); (try clear hq95); (try clear hq96); (try clear hq97); (try clear hq98); (try clear hq99); (try clear hq100); (try clear hq101); (try clear hq102); (try clear hq103); (try clear hq104); (try clear hq105); (try clear hq106); (try clear hq107); (try clear hq108); (try clear hq109); (try clear hq110); (try clear hq111); (try clear hq112); (try clear hq113); (try clear hq114); (try clear hq115); (try clear hq116); (try clear hq117); (try clear hq118); (try clear hq119); (try clear hz0); (try clear hf0); (try clear hz1); (try clear hf1); (try clear hz2); (try clear hf2); (try clear hz3); (try clear hf3); (try clear hz4); (try clear hf4); (try clear hz5); (try clear hf5); (try clear hz6); (try clear hf6); (try clear hz7); (try clear hf7); have hq0 := hcs.1.2; have hq1 := hcs.2.1.2; have hq2 := hcs.2.2.1.2; have hq3 := hcs.2.2.2.1.2; have hq4 := hcs.2.2.2.2.1.2; have hq5 := hcs.2.2.2.2.2.1.2; have hq6 := hcs.2.2.2.2.2.2.1.2; have hq7 := hcs.2.2.2.2.2.2.2.1.2; have hq8 := hcs.2.2.2.2.2.2.2.2.1.2; have hq9 := hcs.2.2.2.2.2.2.2.2.2.1.2; have hq10 := hcs.2.2.2.2.2.2.2.2.2.2.1.2; have hq11 := hcs.2.2.2.2.2.2.2.2.2.2.2.1.2; have hq12 := hcs.2.2.2.2.2.2.2.2.2.2.2.2.1.2; have hq13 := hcs.2.2.2.2.2.2.2.2.2.2.2.2.2.1.2; have hq14 := hcs.2.2.2.2.2.2.2.2.2.2.2.2.2.2.1.2; have hq15 := hcs.2.2.2.2.2.2.2.2.2.2.2.2.2.2.2.1.2; have hq16 := hcs.2.2.2.2.2.2.2.2.2.2.2.2.2.2.2.2.1.2; have hq17 := hcs.2.2.2.2.2.2.2.2.2.2.2.2.2.2.2.2.2.1.2; have hq18 := hcs.2.2.2.2.2.2.2.2.2.2.2.2.2.2.2.2.2.2.1.2; have hq19 := hcs.2.2.2.2.2.2.2.2.2.2.2.2.2.2.2.2.2.2.2.1.2; have hz0 := hcs.1.1; have hf0 := hfs.1.2
  rw [HA.out]
  cases A
  · go_wp2; go_ret; exact ⟨ret_bool (by simp [ringSt, HR.out, HA.out]), by repeat' (first | (with_reducible exact Below.refl _ _) | (with_reducible assumption) | (with_reducible refine kept_alloc ?_ _) | (with_reducible refine kept_drewN ?_ _) | (with_reducible refine Below.drew ?_) | (with_reducible refine Below.setCell ?_ (by first | omega | (simp; omega) | (simp; done)) _) | (refine kept_trans ?_ (by with_reducible assumption)))⟩
  · have hL := HL.out
    cases L
    · have hL' : Hid (¬ (s.sl.length : Int) = R) := Lib.hid (by simpa using hL)
      go_wp2
      go_ret
      exact ⟨ret_bool (by simp [ringSt, HR.out, HA.out, hL'.out]), by repeat' (first | (with_reducible exact Below.refl _ _) | (with_reducible assumption) | (with_reducible refine kept_alloc ?_ _) | (with_reducible refine kept_drewN ?_ _) | (with_reducible refine Below.drew ?_) | (with_reducible refine Below.setCell ?_ (by first | omega | (simp; omega) | (simp; done)) _) | (refine kept_trans ?_ (by with_reducible assumption)))⟩
    · have hL' : Hid ((s.sl.length : Int) = R) := Lib.hid (by simpa using hL)
      go_wp2_with fail; refine (scheck_any _ _ _ _ (HS.out.sl.kept hB) (by have := hL'.out; have := hRb.out; omega)).mono ?_; rintro e w3 ⟨rfl, hgx⟩; have hBx : Below w.heap.size w w3 := (by repeat' (first | (with_reducible exact Below.refl _ _) | (with_reducible assumption) | (with_reducible refine kept_alloc ?_ _) | (with_reducible refine kept_drewN ?_ _) | (with_reducible refine Below.drew ?_) | (with_reducible refine Below.setCell ?_ (by first | omega | (simp; omega) | (simp; done)) _) | (refine kept_trans ?_ (by with_reducible assumption)))); have hcsx : CellsAt w3 [(w.heap.size, 0, .int .i64 s.cf.lg), (w.heap.size, 1, .int .i64 s.cf.th), (w.heap.size, 2, .int .i64 s.cf.po), (w.heap.size, 3, .int .i64 s.cf.wt), (w.heap.size, 4, .int .i64 s.cf.sp), (w.heap.size, 5, .int .i64 s.cf.yi), (w.heap.size, 6, .bool s.cf.si), (w.heap.size, 7, .int .i64 s.hd), (w.heap.size, 8, .int .i64 s.tl), (w.heap.size, 9, .int .i64 s.md), (w.heap.size, 10, .slice z.p1 s.sl.length z.k1), (w.heap.size, 11, .slice z.p2 s.sn.length z.k2), (w.heap.size, 12, .slice z.p3 s.rc.length z.k3), (w.heap.size, 13, .int .i64 s.fe), (w.heap.size, 14, .slice z.p4 s.fl.length z.k4), (w.heap.size, 15, .int .i64 s.ee), (w.heap.size, 16, .slice z.p5 s.el.length z.k5), (w.heap.size, 17, .int .i64 s.nw), (w.heap.size, 18, .slice z.p6 s.th.length z.k6), (w.heap.size, 19, .slice z.p7 s.lg.length z.k7)] := cells_keep hgx (by first | (with_reducible exact hcs) | (simp only [CellsAt]; (repeat' (first | exact trivial | (refine And.intro ?_ ?_))); all_goals (first | (focus ((try simp only [World.size_setCell, World.size_alloc]); omega)) | (repeat (first | (with_reducible assumption) | (with_reducible refine (World.cell?_setCell_other _ _ _ _ ?_).trans ?_; focus (first | (simp; done) | (simp; omega))) | (with_reducible apply set_same) | (with_reducible refine (World.cell?_alloc_past _ _ _ ?_).trans ?_; focus ((try simp only [World.size_setCell, World.size_alloc]); omega)) | (refine (World.cell?_alloc_at _ _ _ _ (by focus ((try simp only [World.size_setCell, World.size_alloc]); done))).trans ?_; exact rfl)))))); have hfsx : FrozAt w3 [w.heap.size] := froz_keep hgx (by first | (with_reducible exact hfs) | (simp only [FrozAt]; (repeat' (first | exact trivial | (refine And.intro ?_ ?_))); all_goals (first | (focus ((try simp only [World.size_setCell, World.size_alloc]); omega)) | (intro j; (repeat (first | (with_reducible exact hf0 j) | (with_reducible exact hf1 j) | (with_reducible exact hf2 j) | (with_reducible exact hf3 j) | (with_reducible exact hf4 j) | (with_reducible exact hf5 j) | (with_reducible refine (World.frozen?_setCell _ _ _ _).trans ?_) | (with_reducible refine (World.frozen?_alloc_past _ _ _ ?_).trans ?_; focus ((try simp only [World.size_setCell, World.size_alloc]); omega)) | (with_reducible exact World.frozen?_alloc_at _ _ _ _ (by (try simp only [World.size_setCell, World.size_alloc]))))))))); clear hgx; (try clear hB); (try clear hcs); (try clear hfs); have hB := hBx; have hcs := hcsx; have hfs := hfsx; clear hBx hcsx hfsx; (try clear hq0); (try clear hq1); (try clear hq2); (try clear hq3); (try clear hq4); (try clear hq5); (try clear hq6); (try clear hq7); (try clear hq8); (try clear hq9); (try clear hq10); (try clear hq11); (try clear hq12); (try clear hq13); (try clear hq14); (try clear hq15); (try clear hq16); (try clear hq17); (try clear hq18); (try clear hq19); (try clear hq20); (try clear hq21); (try clear hq22); (try clear hq23); (try clear hq24); (try clear hq25); (try clear hq26); (try clear hq27); (try clear hq28); (try clear hq29); (try clear hq30); (try clear hq31); (try clear hq32); (try clear hq33); (try clear hq34); (try clear hq35); (try clear hq36); (try clear hq37); (try clear hq38); (try clear hq39); (try clear hq40); (try clear hq41); (try clear hq42); (try clear hq43); (try clear hq44); (try clear hq45); (try clear hq46); (try clear hq47); (try clear hq48); (try clear hq49); (try clear hq50); (try clear hq51); (try clear hq52); (try clear hq53); (try clear hq54); (try clear hq55); (try clear hq56); (try clear hq57); (try clear hq58); (try clear hq59); (try clear hq60); (try clear hq61); (try clear hq62); (try clear hq63); (try clear hq64); (try clear hq65); (try clear hq66); (try clear hq67); (try clear hq68); (try clear hq69); (try clear hq70); (try clear hq71); (try clear hq72); (try clear hq73); (try clear hq74); (try clear hq75); (try clear hq76); (try clear hq77); (try clear hq78); (try clear hq79); (try clear hq80); (try clear hq81); (try clear hq82); (try clear hq83); (try clear hq84); (try clear hq85); (try clear hq86); (try clear hq87); (try clear hq88); (try clear hq89); (try clear hq90); (try clear hq91); (try clear hq92); (try clear hq93); (try clear hq94); (try clear hq95); (try clear hq96); (try clear hq97); (try clear hq98); (try clear hq99); (try clear hq100); (try clear hq101); (try clear hq102); (try clear hq103); (try clear hq104); (try clear hq105); (try clear hq106); (try clear hq107); (try clear hq108); (try clear hq109); (try clear hq110); (try clear hq111); (try clear hq112); (try clear hq113); (try clear hq114); (try clear hq115); (try clear hq116); (try clear hq117); (try clear hq118); (try clear hq119); (try clear hz0); (try clear hf0); (try clear hz1); (try clear hf1); (try clear hz2); (try clear hf2); (try clear hz3); (try clear hf3); (try clear hz4); (try clear hf4); (try clear hz5); (try clear hf5); (try clear hz6); (try clear hf6); (try clear hz7); (try clear hf7); have hq0 := hcs.1.2; have hq1 := hcs.2.1.2; have hq2 := hcs.2.2.1.2; have hq3 := hcs.2.2.2.1.2; have hq4 := hcs.2.2.2.2.1.2; have hq5 := hcs.2.2.2.2.2.1.2; have hq6 := hcs.2.2.2.2.2.2.1.2; have hq7 := hcs.2.2.2.2.2.2.2.1.2; have hq8 := hcs.2.2.2.2.2.2.2.2.1.2; have hq9 := hcs.2.2.2.2.2.2.2.2.2.1.2; have hq10 := hcs.2.2.2.2.2.2.2.2.2.2.1.2; have hq11 := hcs.2.2.2.2.2.2.2.2.2.2.2.1.2; have hq12 := hcs.2.2.2.2.2.2.2.2.2.2.2.2.1.2; have hq13 := hcs.2.2.2.2.2.2.2.2.2.2.2.2.2.1.2; have hq14 := hcs.2.2.2.2.2.2.2.2.2.2.2.2.2.2.1.2; have hq15 := hcs.2.2.2.2.2.2.2.2.2.2.2.2.2.2.2.1.2; have hq16 := hcs.2.2.2.2.2.2.2.2.2.2.2.2.2.2.2.2.1.2; have hq17 := hcs.2.2.2.2.2.2.2.2.2.2.2.2.2.2.2.2.2.1.2; have hq18 := hcs.2.2.2.2.2.2.2.2.2.2.2.2.2.2.2.2.2.2.1.2; have hq19 := hcs.2.2.2.2.2.2.2.2.2.2.2.2.2.2.2.2.2.2.2.1.2; have hz0 := hcs.1.1; have hf0 := hfs.1.2
      go_wp2
      go_ret
      exact ⟨ret_bool (by simp [ringSt, HR.out, HA.out, hL'.out]), by repeat' (first | (with_reducible exact Below.refl _ _) | (with_reducible assumption) | (with_reducible refine kept_alloc ?_ _) | (with_reducible refine kept_drewN ?_ _) | (with_reducible refine Below.drew ?_) | (with_reducible refine Below.setCell ?_ (by first | omega | (simp; omega) | (simp; done)) _) | (refine kept_trans ?_ (by with_reducible assumption)))⟩
set_option maxHeartbeats 1000000 in
theorem fthreads_any (s : St) (z : Pz) (w : World) (hs : StAt w s z) (ho : s.ok) : Calls Tryz.prog 56 #[.agg #[.int .i64 s.cf.lg, .int .i64 s.cf.th, .int .i64 s.cf.po, .int .i64 s.cf.wt, .int .i64 s.cf.sp, .int .i64 s.cf.yi, .bool s.cf.si, .int .i64 s.hd, .int .i64 s.tl, .int .i64 s.md, .slice z.p1 s.sl.length z.k1, .slice z.p2 s.sn.length z.k2, .slice z.p3 s.rc.length z.k3, .int .i64 s.fe, .slice z.p4 s.fl.length z.k4, .int .i64 s.ee, .slice z.p5 s.el.length z.k5, .int .i64 s.nw, .slice z.p6 s.th.length z.k6, .slice z.p7 s.lg.length z.k7]] w fun e w' => e = .returned (.bool (thsSt s)) ∧ Kept w w' := by
  have HS := Lib.hid hs
  clear hs ho
  cases hL : ((s.th.length : Int) == s.cf.th)
  · have hL' : Hid (¬ (s.th.length : Int) = s.cf.th) := Lib.hid (by simpa using hL)
    go_enter Tryz.func56, Tryz.ntmps56
    go_wp2
    go_ret
    exact ⟨ret_bool (by simp [thsSt, hL'.out]), by repeat' (first | (with_reducible exact Below.refl _ _) | (with_reducible assumption) | (with_reducible refine kept_alloc ?_ _) | (with_reducible refine kept_drewN ?_ _) | (with_reducible refine Below.drew ?_) | (with_reducible refine Below.setCell ?_ (by first | omega | (simp; omega) | (simp; done)) _) | (refine kept_trans ?_ (by with_reducible assumption)))⟩
  · have hL' : Hid ((s.th.length : Int) = s.cf.th) := Lib.hid (by simpa using hL)
    go_enter Tryz.func56, Tryz.ntmps56
    go_wp2_with fail; refine (containsFuncT_any _ _ _ _ threads1_enters _ _ _ (HS.out.th.kept (by repeat' (first | (with_reducible exact Below.refl _ _) | (with_reducible assumption) | (with_reducible refine kept_alloc ?_ _) | (with_reducible refine kept_drewN ?_ _) | (with_reducible refine Below.drew ?_) | (with_reducible refine Below.setCell ?_ (by first | omega | (simp; omega) | (simp; done)) _) | (refine kept_trans ?_ (by with_reducible assumption))))) (threads1_tells _)).mono ?_; rintro e w1 ⟨rfl, hgx⟩; have hBx : Below w.heap.size w w1 := (by repeat' (first | (with_reducible exact Below.refl _ _) | (with_reducible assumption) | (with_reducible refine kept_alloc ?_ _) | (with_reducible refine kept_drewN ?_ _) | (with_reducible refine Below.drew ?_) | (with_reducible refine Below.setCell ?_ (by first | omega | (simp; omega) | (simp; done)) _) | (refine kept_trans ?_ (by with_reducible assumption)))); have hcsx : CellsAt w1 [(w.heap.size, 0, .int .i64 s.cf.lg), (w.heap.size, 1, .int .i64 s.cf.th), (w.heap.size, 2, .int .i64 s.cf.po), (w.heap.size, 3, .int .i64 s.cf.wt), (w.heap.size, 4, .int .i64 s.cf.sp), (w.heap.size, 5, .int .i64 s.cf.yi), (w.heap.size, 6, .bool s.cf.si), (w.heap.size, 7, .int .i64 s.hd), (w.heap.size, 8, .int .i64 s.tl), (w.heap.size, 9, .int .i64 s.md), (w.heap.size, 10, .slice z.p1 s.sl.length z.k1), (w.heap.size, 11, .slice z.p2 s.sn.length z.k2), (w.heap.size, 12, .slice z.p3 s.rc.length z.k3), (w.heap.size, 13, .int .i64 s.fe), (w.heap.size, 14, .slice z.p4 s.fl.length z.k4), (w.heap.size, 15, .int .i64 s.ee), (w.heap.size, 16, .slice z.p5 s.el.length z.k5), (w.heap.size, 17, .int .i64 s.nw), (w.heap.size, 18, .slice z.p6 s.th.length z.k6), (w.heap.size, 19, .slice z.p7 s.lg.length z.k7)] := cells_keep hgx (by first | (with_reducible exact hcs) | (simp only [CellsAt]; (repeat' (first | exact trivial | (refine And.intro ?_ ?_))); all_goals (first | (focus ((try simp only [World.size_setCell, World.size_alloc]); omega)) | (repeat (first | (with_reducible assumption) | (with_reducible refine (World.cell?_setCell_other _ _ _ _ ?_).trans ?_; focus (first | (simp; done) | (simp; omega))) | (with_reducible apply set_same) | (with_reducible refine (World.cell?_alloc_past _ _ _ ?_).trans ?_; focus ((try simp only [World.size_setCell, World.size_alloc]); omega)) | (refine (World.cell?_alloc_at _ _ _ _ (by focus ((try simp only [World.size_setCell, World.size_alloc]); done))).trans ?_; exact rfl)))))); have hfsx : FrozAt w1 [w.heap.size] := froz_keep hgx (by first | (with_reducible exact hfs) | (simp only [FrozAt]; (repeat' (first | exact trivial | (refine And.intro ?_ ?_))); all_goals (first | (focus ((try simp only [World.size_setCell, World.size_alloc]); omega)) | (intro j; (repeat (first | (with_reducible exact hf0 j) | (with_reducible exact hf1 j) | (with_reducible exact hf2 j) | (with_reducible exact hf3 j) | (with_reducible exact hf4 j) | (with_reducible exact hf5 j) | (with_reducible refine (World.frozen?_setCell _ _ _ _).trans ?_) | (with_reducible refine (World.frozen?_alloc_past _ _ _ ?_).trans ?_; focus ((try simp only [World.size_setCell, World.size_alloc]); omega)) | (with_reducible exact World.frozen?_alloc_at _ _ _ _ (by (try simp only [World.size_setCell, World.size_alloc]))))))))); clear hgx; (try clear hB); (try clear hcs); (try clear hfs); have hB := hBx; have hcs := hcsx; have hfs := hfsx; clear hBx hcsx hfsx; (try clear hq0); (try clear hq1); (try clear hq2); (try clear hq3); (try clear hq4); (try clear hq5); (try clear hq6); (try clear hq7); (try clear hq8); (try clear hq9); (try clear hq10); (try clear hq11); (try clear hq12); (try clear hq13); (try clear hq14); (try clear hq15); (try clear hq16); (try clear hq17); (try clear hq18); (try clear hq19); (try clear hq20); (try clear hq21); (try clear hq22); (try clear hq23); (try clear hq24); (try clear hq25); (try clear hq26); (try clear hq27); (try clear hq28); (try clear hq29); (try clear hq30); (try clear hq31); (try clear hq32); (try clear hq33); (try clear hq34); (try clear hq35); (try clear hq36); (try clear hq37); (try clear hq38); (try clear hq39); (try clear hq40); (try clear hq41); (try clear hq42); (try clear hq43); (try clear hq44); (try clear hq45); (try clear hq46); (try clear hq47); (try clear hq48); (try clear hq49); (try clear hq50); (try clear hq51); (try clear hq52); (try clear hq53); (try clear hq54); (try clear hq55); (try clear hq56); (try clear hq57); (try clear hq58); (try clear hq59); (try clear hq60); (try clear hq61); (try clear hq62); (try clear hq63); (try clear hq64); (try clear hq65); (try clear hq66); (try clear hq67); (try clear hq68); (try clear hq69); (try clear hq70); (try clear hq71); (try clear hq72); (try clear hq73); (try clear hq74); (try clear hq75); (try clear hq76); (try clear hq77); (try clear hq78); (try clear hq79); (try clear hq80); (try clear hq81); (try clear hq82); (try clear hq83); (try clear hq84); (try clear hq85); (try clear hq86); (try clear hq87); (try clear hq88); (try clear hq89); (try clear hq90); (try clear hq91); (try clear hq92); (try clear hq93); (try clear hq94); (try clear hq95); (try clear hq96); (try clear hq97); (try clear hq98); (try clear hq99); (try clear hq100); (try clear hq101); (try clear hq102); (try clear hq103); (try clear hq104); (try clear hq105); (try clear hq106); (try clear hq107); (try clear hq108); (try clear hq109); (try clear hq110); (try clear hq111); (try clear hq112); (try clear hq113); (try clear hq114); (try clear hq115); (try clear hq116); (try clear hq117); (try clear hq118); (try clear hq119); (try clear hz0); (try clear hf0); (try clear hz1); (try clear hf1); (try clear hz2); (try clear hf2); (try clear hz3); (try clear hf3); (try clear hz4); (try clear hf4); (try clear hz5); (try clear hf5); (try clear hz6); (try clear hf6); (try clear hz7); (try clear hf7); have hq0 := hcs.1.2; have hq1 := hcs.2.1.2; have hq2 := hcs.2.2.1.2; have hq3 := hcs.2.2.2.1.2; have hq4 := hcs.2.2.2.2.1.2; have hq5 := hcs.2.2.2.2.2.1.2; have hq6 := hcs.2.2.2.2.2.2.1.2; have hq7 := hcs.2.2.2.2.2.2.2.1.2; have hq8 := hcs.2.2.2.2.2.2.2.2.1.2; have hq9 := hcs.2.2.2.2.2.2.2.2.2.1.2; have hq10 := hcs.2.2.2.2.2.2.2.2.2.2.1.2; have hq11 := hcs.2.2.2.2.2.2.2.2.2.2.2.1.2; have hq12 := hcs.2.2.2.2.2.2.2.2.2.2.2.2.1.2; have hq13 := hcs.2.2.2.2.2.2.2.2.2.2.2.2.2.1.2; have hq14 := hcs.2.2.2.2.2.2.2.2.2.2.2.2.2.2.1.2; have hq15 := hcs.2.2.2.2.2.2.2.2.2.2.2.2.2.2.2.1.2; have hq16 := hcs.2.2.2.2.2.2.2.2.2.2.2.2.2.2.2.2.1.2; have hq17 := hcs.2.2.2.2.2.2.2.2.2.2.2.2.2.2.2.2.2.1.2; have hq18 := hcs.2.2.2.2.2.2.2.2.2.2.2.2.2.2.2.2.2.2.1.2; have hq19 := hcs.2.2.2.2.2.2.2.2.2.2.2.2.2.2.2.2.2.2.2.1.2; have hz0 := hcs.1.1; have hf0 := hfs.1.2
    go_wp2
    go_ret
    exact ⟨ret_bool (by simp [thsSt, hL'.out]), by repeat' (first | (with_reducible exact Below.refl _ _) | (with_reducible assumption) | (with_reducible refine kept_alloc ?_ _) | (with_reducible refine kept_drewN ?_ _) | (with_reducible refine Below.drew ?_) | (with_reducible refine Below.setCell ?_ (by first | omega | (simp; omega) | (simp; done)) _) | (refine kept_trans ?_ (by with_reducible assumption)))⟩
theorem sln4 (W : World) (a b c d : Ln) : Sl (W.alloc (.cells #[.slice a.p a.l.length a.k, .slice b.p b.l.length b.k, .slice c.p c.l.length c.k, .slice d.p d.l.length d.k] 27)) 1 Ln.cells [a, b, c, d] (.slice (some ⟨W.heap.size, 0, none⟩) 4 4) :=
  Ow.sl Ln.enc (Ow.made (base := 0) (e := 27) (W := W) Ln.enc [a, b, c, d] _ rfl (Nat.zero_le _) (by show 4 ≤ maxLen; decide) rfl rfl)
def fourL (s : St) (z : Pz) : List Ln := [⟨z.p2, z.k2, s.sn⟩, ⟨z.p3, z.k3, s.rc⟩, ⟨z.p4, z.k4, s.fl⟩, ⟨z.p5, z.k5, s.el⟩]
theorem four_at {W : World} {s : St} {z : Pz} (h : StAt W s z) : ∀ x ∈ fourL s z, Sl W 1 intC x.l (.slice x.p x.l.length x.k) := by
  intro x hx
  simp only [fourL, List.mem_cons, List.mem_nil_iff, or_false] at hx
  rcases hx with rfl | rfl | rfl | rfl
  · exact h.sn
  · exact h.rc
  · exact h.fl
  · exact h.el
theorem four_all (s : St) (z : Pz) : ((fourL s z).all fun x => stnB s.cf.th x.l) = lnsSt s := by simp [fourL, lnsSt]
theorem fstand_four {s : St} {b : Bool} (hb : lnsSt s = b) (z : Pz) (W w : World) (hs : StAt W s z) (hW : w = W.alloc (.cells #[.slice z.p2 s.sn.length z.k2, .slice z.p3 s.rc.length z.k3, .slice z.p4 s.fl.length z.k4, .slice z.p5 s.el.length z.k5] 27)) :
    Calls Tryz.prog 54 #[.int .i64 s.cf.th, .slice (some ⟨W.heap.size, 0, none⟩) 4 4] w fun e w' => e = .returned (.bool b) ∧ Kept w w' := by
  subst hW
  subst hb
  rw [← four_all s z]
  exact fstand_any s.cf.th (fourL s z) (some ⟨W.heap.size, 0, none⟩) 4 _ (sln4 W ⟨z.p2, z.k2, s.sn⟩ ⟨z.p3, z.k3, s.rc⟩ ⟨z.p4, z.k4, s.fl⟩ ⟨z.p5, z.k5, s.el⟩) (four_at (hs.kept ((Below.refl _ _).alloc (Nat.le_refl _) _)))
theorem stB_1 {s : St} (h : cfB s.cf = false) : stB s = false := by simp [stB, h]
theorem stB_2 {s : St} (h : ringSt s = false) : stB s = false := by simp [stB, h]
theorem stB_3 {s : St} (h : lnsSt s = false) : stB s = false := by simp [stB, h]
theorem stB_4 {s : St} (h : okE s.fe s.fl = false) : stB s = false := by simp [stB, h]
theorem stB_5 {s : St} (h : okE s.ee s.el = false) : stB s = false := by simp [stB, h]
theorem stB_6 {s : St} (h : decide (0 ≤ s.nw) = false) : stB s = false := by simp [stB, h]
theorem stB_7 {s : St} (h : decide (s.nw ≤ 1099511627776) = false) : stB s = false := by simp [stB, h]
theorem ccheck_val {c : Cf} {b : Bool} (h : Hid (cfB c = b)) (w : World) : Calls Tryz.prog 52 #[.agg #[.int .i64 c.lg, .int .i64 c.th, .int .i64 c.po, .int .i64 c.wt, .int .i64 c.sp, .int .i64 c.yi, .bool c.si]] w fun e w' => e = .returned (.int .i64 (if b = true then 0 else 20)) ∧ Kept w w' := by
  have e : ckI c.lg c.th c.po c.wt c.sp c.yi = if b = true then 0 else 20 := by
    have h' := h.out
    cases b
    · exact ck_no h'
    · exact ck_yes h'
  rw [← e]
  exact ccheck_any _ _ _ _ _ _ _ _
theorem fring_val {s : St} {b : Bool} (hb : ringSt s = b) (z : Pz) (w : World) (hs : StAt w s z) (ho : s.ok) : Calls Tryz.prog 53 #[.agg #[.int .i64 s.cf.lg, .int .i64 s.cf.th, .int .i64 s.cf.po, .int .i64 s.cf.wt, .int .i64 s.cf.sp, .int .i64 s.cf.yi, .bool s.cf.si, .int .i64 s.hd, .int .i64 s.tl, .int .i64 s.md, .slice z.p1 s.sl.length z.k1, .slice z.p2 s.sn.length z.k2, .slice z.p3 s.rc.length z.k3, .int .i64 s.fe, .slice z.p4 s.fl.length z.k4, .int .i64 s.ee, .slice z.p5 s.el.length z.k5, .int .i64 s.nw, .slice z.p6 s.th.length z.k6, .slice z.p7 s.lg.length z.k7]] w fun e w' => e = .returned (.bool b) ∧ Kept w w' := hb ▸ fring_any s z w hs ho
theorem fthreads_val {s : St} {b : Bool} (hb : thsSt s = b) (z : Pz) (w : World) (hs : StAt w s z) (ho : s.ok) : Calls Tryz.prog 56 #[.agg #[.int .i64 s.cf.lg, .int .i64 s.cf.th, .int .i64 s.cf.po, .int .i64 s.cf.wt, .int .i64 s.cf.sp, .int .i64 s.cf.yi, .bool s.cf.si, .int .i64 s.hd, .int .i64 s.tl, .int .i64 s.md, .slice z.p1 s.sl.length z.k1, .slice z.p2 s.sn.length z.k2, .slice z.p3 s.rc.length z.k3, .int .i64 s.fe, .slice z.p4 s.fl.length z.k4, .int .i64 s.ee, .slice z.p5 s.el.length z.k5, .int .i64 s.nw, .slice z.p6 s.th.length z.k6, .slice z.p7 s.lg.length z.k7]] w fun e w' => e = .returned (.bool b) ∧ Kept w w' := hb ▸ fthreads_any s z w hs ho

end Go.Proofs.YtjbcfjfnobklkaaGreat

/- Worlds in which all is kept but some blocks. -/
namespace Go.Proofs.YtjbcfjfnobklkaaGreat
set_option linter.unusedVariables false
set_option linter.unusedSimpArgs false
open Go.ChangeShapes Go.WideShapes Go.ChangeAt Go.RowKit

/-- What was there is kept, but for these blocks. -/
structure Out (S : List Nat) (w w' : World) : Prop where
  os : w'.os = w.os
  tape : w'.tape = w.tape
  output : w'.output = w.output
  size : w.heap.size ≤ w'.heap.size
  block : ∀ j, j < w.heap.size → j ∉ S → w'.heap[j]? = w.heap[j]?
theorem Out.refl (S : List Nat) (w : World) : Out S w w := ⟨rfl, rfl, rfl, Nat.le_refl _, fun _ _ _ => rfl⟩
theorem Out.of_kept {S : List Nat} {w w' : World} (h : Below w.heap.size w w') : Out S w w' := ⟨h.os, h.tape, h.output, h.size, fun j hj _ => h.block j hj⟩
theorem Out.trans {S T : List Nat} {a b c : World} (h : Out S a b) (k : Out T b c) (hs : ∀ j ∈ T, j ∈ S ∨ a.heap.size ≤ j) : Out S a c :=
  ⟨k.os.trans h.os, k.tape.trans h.tape, k.output.trans h.output, Nat.le_trans h.size k.size, fun j hj hn =>
    (k.block j (Nat.lt_of_lt_of_le hj h.size) (fun hT => by rcases hs j hT with h1 | h1; exact hn h1; omega)).trans (h.block j hj hn)⟩
theorem Out.then {S : List Nat} {a b c : World} (h : Out S a b) (k : Below b.heap.size b c) : Out S a c := h.trans (Out.of_kept (S := []) k) (by simp)
theorem Out.after {S : List Nat} {a b c : World} (k : Below a.heap.size a b) (h : Out S b c) : Out S a c := (Out.of_kept (S := S) k).trans h (fun _ h => .inl h)
theorem Out.set {S : List Nat} {w w' : World} (h : Out S w w') {x : Addr} (hx : x.block ∈ S ∨ w.heap.size ≤ x.block) (u : Value) : Out S w (w'.setCell x u) :=
  ⟨h.os, h.tape, h.output, by simpa using h.size, fun j hj hn => (Below.heap_setCell _ _ _ _ (by rcases hx with hx | hx; (intro e; subst e; exact hn hx); omega)).trans (h.block j hj hn)⟩
theorem Out.alloc {S : List Nat} {w w' : World} (h : Out S w w') (o : Obj) : Out S w (w'.alloc o) := h.then ((Below.refl _ _).alloc (Nat.le_refl _) o)
theorem Out.drewN {S : List Nat} {w w' : World} (h : Out S w w') (n : Nat) : Out S w (w'.drewN n) := h.then (below_drewN (Below.refl _ _) n)
theorem Out.grown {S : List Nat} {w w' w'' : World} (h : Out S w w') {row : Option Nat} (k : w'.grownBy w'' row) (hr : ∀ g, row = some g → g ∈ S ∨ w.heap.size ≤ g) : Out S w w'' :=
  h.trans (T := row.toList) ⟨k.os, k.tape, k.output, k.size, fun j hj hn => k.block j hj (fun e => hn (by simp [e]))⟩ (fun j hj => hr j (by simpa using hj))
theorem Out.below {S : List Nat} {base : Nat} {w0 w w' : World} (hb : Below base w0 w) (h : Out S w w') (hS : ∀ j ∈ S, base ≤ j) (hs : base ≤ w.heap.size) : Below base w0 w' :=
  hb.trans ⟨h.os, h.tape, h.output, h.size, fun j hj => h.block j (by omega) (fun hm => by have := hS j hm; omega)⟩
theorem Ow.of_block {α : Type} {W W' : World} {base k : Nat} {e : TypeId} {enc : α → List Value} {xs : List α} {v : Value} (h : Ow W base e k enc xs v) (hk : ∀ g, v.ownBlock = some g → W'.heap[g]? = W.heap[g]?) : Ow W' base e k enc xs v := by
  obtain ⟨h0, h1 | ⟨g, cap, cur, hv, hb, hg, hl, hm, hs, ht⟩⟩ := h
  · exact ⟨h0, .inl h1⟩
  · exact ⟨h0, .inr ⟨g, cap, cur, hv, hb, (hk g (by subst hv; rfl)).trans hg, hl, hm, hs, ht⟩⟩
end Go.Proofs.YtjbcfjfnobklkaaGreat

/- BOXES BY WHOLE ROWS: a box of many cells is loaded, and stored into, by a law; the world behind a store is any that holds the new row and has kept all else. -/
namespace Go.Proofs.YtjbcfjfnobklkaaGreat
set_option linter.unusedVariables false
set_option linter.unusedSimpArgs false
open Go.ChangeShapes Go.WideShapes Go.ChangeAt Go.RowKit
/-- Block b holds these cells, none of them frozen. -/
def Bk (W : World) (b : Nat) (cs : List Value) : Prop := ∃ t, W.heap[b]? = some (.cells cs.toArray t (0, 0))
section
variable {W W' w w0 : World} {b b' : Nat} {cs us : List Value}
theorem Bk.cell (h : Bk W b cs) (i : Nat) : W.cell? ⟨b, i, none⟩ = cs[i]? := by
  obtain ⟨t, ht⟩ := h
  simp [World.cell?, ht]
theorem Bk.frozen (h : Bk W b cs) (i : Nat) : W.frozen? ⟨b, i, none⟩ = false := by
  obtain ⟨t, ht⟩ := h
  simp [World.frozen?, ht]
theorem Bk.lt (h : Bk W b cs) : b < W.heap.size := by
  obtain ⟨t, ht⟩ := h
  exact (Array.getElem?_eq_some_iff.1 ht).1
theorem Bk.kept (h : Bk W b cs) (hg : Below W.heap.size W W') : Bk W' b cs := by
  obtain ⟨t, ht⟩ := h
  exact ⟨t, (hg.block b (Array.getElem?_eq_some_iff.1 ht).1).trans ht⟩
theorem Bk.out {S : List Nat} (h : Bk W b cs) (ho : Out S W W') (hne : b ∉ S) : Bk W' b cs := by
  obtain ⟨t, ht⟩ := h
  exact ⟨t, (ho.block b (Array.getElem?_eq_some_iff.1 ht).1 hne).trans ht⟩
theorem Bk.new {c : Array Value} {t : TypeId} (hb : b = W.heap.size) : Bk (W.alloc (.cells c t)) b c.toList := by
  subst hb
  exact ⟨t, by simpa using heap_alloc_new W _⟩
theorem Bk.past {o : Obj} (h : Bk W b cs) : Bk (W.alloc o) b cs := h.kept ((Below.refl _ _).alloc (Nat.le_refl _) o)
theorem not_one {n m : Nat} (h : n < m ∨ m < n) : n ∉ [m] := by simp; omega
theorem Bk.apart {v : Value} (h : Bk W b cs) {base : Nat} {α : Type} {e : TypeId} {k : Nat} {enc : α → List Value} {xs : List α} (ho : Ow W base e k enc xs v) (hlt : b < base) : ∀ g, v.ownBlock = some g → g ≠ b := fun g hg => by have := (ho.lt g hg).1; omega
end
section
variable {P : Program} {ops : Array Oper} {rest : List Oper} {o : Oper} {a : Act} {w w0 : World} {Q : Exit → Act → World → Prop} {b off : Nat} {cs : List Value} {d : TypeDesc}
theorem wpList_want (hgd : Region.wanted o (yielded ops a.tmps) = true) (h : ∀ K : Act → World → Prop, (∀ a w, wpList P ops Q rest a w → K a w) → o.wp P a w K Q) : wpList P ops Q (o :: rest) a w :=
  wpList_step fun K hK => by rw [if_pos hgd]; exact h K hK
theorem wpList_loadL (hgd : Region.wanted o (yielded ops a.tmps) = true) (ty : TypeId) (x : Operand) (ho : o.op = .load ty x) (hx : a.eval x = .pointer (some ⟨b, off, none⟩)) (hb : Bk w b cs)
    (hu : P.underlying ty = some d) (hd : d.isRow = true) (us : List Value) (hi : (P.info? ty).map (·.size) = some us.length) (hs : ∀ j v, us[j]? = some v → cs[off + j]? = some v)
    (h : wpList P ops Q rest (a.put o.dst (.agg us.toArray)) w) : wpList P ops Q (o :: rest) a w :=
  wpList_want hgd fun _ hK => wp_load_mid ty x ho b off hx us d (fun j v hv => by rw [hb.cell]; exact hs j v hv) hu hd hi (hK _ _ h)
/-- One cell. -/
theorem wpList_load1 (ty : TypeId) (hu : P.underlying ty = some d) (hd : d.isRow = false) (hgd : Region.wanted o (yielded ops a.tmps) = true) (x : Operand) (ho : o.op = .load ty x) (hx : a.eval x = .pointer (some ⟨b, off, none⟩)) (hb : Bk w b cs)
    {u : Value} (h0 : cs[off]? = some u) (h : wpList P ops Q rest (a.put o.dst u) w) : wpList P ops Q (o :: rest) a w :=
  wpList_want hgd fun _ hK => by
    have hc : w.cell? ⟨b, off, none⟩ = some u := (hb.cell off).trans h0
    have hagg : (isAgg ty).run P w = .ok false w := by
      unfold isAgg
      rw [Sem.run_bind, run_underlying hu w]
      cases d <;> simp_all
    have hl : (load (⟨b, off, none⟩ : Addr)).run P w = .ok u w := by simp [hc]
    unfold Oper.wp execOp
    simp only [ho, hx, Instr.loadAt, Instr.sureAddr, Sem.run_bind, Sem.run_pure, Result.andThen_ok, loadVar, hagg, Bool.false_eq_true, if_false, hl]
    exact hK _ _ h
/-! ### Stores -/
theorem Ow.out {α : Type} {W W' : World} {b base k : Nat} {e : TypeId} {enc : α → List Value} {xs : List α} {v : Value} (h : Ow W base e k enc xs v) (ho : Out [b] W W') (hlt : b < base) : Ow W' base e k enc xs v :=
  Ow.of_block h fun g hg => ho.block g (h.lt g hg).2 (by have := (h.lt g hg).1; simp; omega)
end
section
variable {P : Program}
end
end Go.Proofs.YtjbcfjfnobklkaaGreat

/- Loads, stores and new variables of the api's types, at boxes known by whole rows: a law for each type. Written by tools/lds.py. -/
namespace Go.Proofs.YtjbcfjfnobklkaaGreat
set_option linter.unusedVariables false
set_option linter.unusedSimpArgs false
open Go.ChangeShapes Go.WideShapes Go.ChangeAt Go.RowKit
theorem Bk.off {W W' : World} {b c : Nat} {cs : List Value} (h : Bk W b cs) (ho : Out [c] W W') (hne : b < c ∨ c < b) : Bk W' b cs := h.out ho (not_one hne)
section
variable {ops : Array Oper} {rest : List Oper} {o : Oper} {a : Act} {w : World} {Q : Exit → Act → World → Prop} {b off : Nat} {cs : List Value}
theorem ldoS (hgd : Region.wanted o (yielded ops a.tmps) = true) {x : Operand} (ho : o.op = .load 33 x) (hx : a.eval x = .pointer (some ⟨b, off, none⟩)) (hb : Bk w b cs) {u0 u1 u2 u3 u4 u5 u6 u7 u8 u9 u10 u11 u12 u13 u14 u15 u16 u17 u18 u19 : Value} (hp : cs[off + 0]? = some u0 ∧ cs[off + 1]? = some u1 ∧ cs[off + 2]? = some u2 ∧ cs[off + 3]? = some u3 ∧ cs[off + 4]? = some u4 ∧ cs[off + 5]? = some u5 ∧ cs[off + 6]? = some u6 ∧ cs[off + 7]? = some u7 ∧ cs[off + 8]? = some u8 ∧ cs[off + 9]? = some u9 ∧ cs[off + 10]? = some u10 ∧ cs[off + 11]? = some u11 ∧ cs[off + 12]? = some u12 ∧ cs[off + 13]? = some u13 ∧ cs[off + 14]? = some u14 ∧ cs[off + 15]? = some u15 ∧ cs[off + 16]? = some u16 ∧ cs[off + 17]? = some u17 ∧ cs[off + 18]? = some u18 ∧ cs[off + 19]? = some u19) (h : wpList Tryz.prog ops Q rest (a.put o.dst (.agg #[u0, u1, u2, u3, u4, u5, u6, u7, u8, u9, u10, u11, u12, u13, u14, u15, u16, u17, u18, u19])) w) : wpList Tryz.prog ops Q (o :: rest) a w := by
  obtain ⟨h0, h1, h2, h3, h4, h5, h6, h7, h8, h9, h10, h11, h12, h13, h14, h15, h16, h17, h18, h19⟩ := hp
  exact wpList_loadL hgd 33 x ho hx hb Tryz.underlying33 rfl [u0, u1, u2, u3, u4, u5, u6, u7, u8, u9, u10, u11, u12, u13, u14, u15, u16, u17, u18, u19] (by kernel_rfl) (fun j v hv => by
    have hj : j < 20 := (List.getElem?_eq_some_iff.1 hv).1
    match j, hj with
    | 0, _ => exact h0.trans hv
    | 1, _ => exact h1.trans hv
    | 2, _ => exact h2.trans hv
    | 3, _ => exact h3.trans hv
    | 4, _ => exact h4.trans hv
    | 5, _ => exact h5.trans hv
    | 6, _ => exact h6.trans hv
    | 7, _ => exact h7.trans hv
    | 8, _ => exact h8.trans hv
    | 9, _ => exact h9.trans hv
    | 10, _ => exact h10.trans hv
    | 11, _ => exact h11.trans hv
    | 12, _ => exact h12.trans hv
    | 13, _ => exact h13.trans hv
    | 14, _ => exact h14.trans hv
    | 15, _ => exact h15.trans hv
    | 16, _ => exact h16.trans hv
    | 17, _ => exact h17.trans hv
    | 18, _ => exact h18.trans hv
    | 19, _ => exact h19.trans hv) h
theorem ldoC (hgd : Region.wanted o (yielded ops a.tmps) = true) {x : Operand} (ho : o.op = .load 23 x) (hx : a.eval x = .pointer (some ⟨b, off, none⟩)) (hb : Bk w b cs) {u0 u1 u2 u3 u4 u5 u6 : Value} (hp : cs[off + 0]? = some u0 ∧ cs[off + 1]? = some u1 ∧ cs[off + 2]? = some u2 ∧ cs[off + 3]? = some u3 ∧ cs[off + 4]? = some u4 ∧ cs[off + 5]? = some u5 ∧ cs[off + 6]? = some u6) (h : wpList Tryz.prog ops Q rest (a.put o.dst (.agg #[u0, u1, u2, u3, u4, u5, u6])) w) : wpList Tryz.prog ops Q (o :: rest) a w := by
  obtain ⟨h0, h1, h2, h3, h4, h5, h6⟩ := hp
  exact wpList_loadL hgd 23 x ho hx hb Tryz.underlying23 rfl [u0, u1, u2, u3, u4, u5, u6] (by kernel_rfl) (fun j v hv => by
    have hj : j < 7 := (List.getElem?_eq_some_iff.1 hv).1
    match j, hj with
    | 0, _ => exact h0.trans hv
    | 1, _ => exact h1.trans hv
    | 2, _ => exact h2.trans hv
    | 3, _ => exact h3.trans hv
    | 4, _ => exact h4.trans hv
    | 5, _ => exact h5.trans hv
    | 6, _ => exact h6.trans hv) h
theorem ldoE (hgd : Region.wanted o (yielded ops a.tmps) = true) {x : Operand} (ho : o.op = .load 29 x) (hx : a.eval x = .pointer (some ⟨b, off, none⟩)) (hb : Bk w b cs) {u0 u1 : Value} (hp : cs[off + 0]? = some u0 ∧ cs[off + 1]? = some u1) (h : wpList Tryz.prog ops Q rest (a.put o.dst (.agg #[u0, u1])) w) : wpList Tryz.prog ops Q (o :: rest) a w := by
  obtain ⟨h0, h1⟩ := hp
  exact wpList_loadL hgd 29 x ho hx hb Tryz.underlying29 rfl [u0, u1] (by kernel_rfl) (fun j v hv => by
    have hj : j < 2 := (List.getElem?_eq_some_iff.1 hv).1
    match j, hj with
    | 0, _ => exact h0.trans hv
    | 1, _ => exact h1.trans hv) h
theorem ldoi (hgd : Region.wanted o (yielded ops a.tmps) = true) {x : Operand} (ho : o.op = .load 3 x) (hx : a.eval x = .pointer (some ⟨b, off, none⟩)) (hb : Bk w b cs) {u : Value} (hp : cs[off]? = some u) (h : wpList Tryz.prog ops Q rest (a.put o.dst u) w) : wpList Tryz.prog ops Q (o :: rest) a w :=
  wpList_load1 3 Tryz.underlying3 rfl hgd _ ho hx hb hp h
theorem ldol (hgd : Region.wanted o (yielded ops a.tmps) = true) {x : Operand} (ho : o.op = .load 27 x) (hx : a.eval x = .pointer (some ⟨b, off, none⟩)) (hb : Bk w b cs) {u : Value} (hp : cs[off]? = some u) (h : wpList Tryz.prog ops Q rest (a.put o.dst u) w) : wpList Tryz.prog ops Q (o :: rest) a w :=
  wpList_load1 27 Tryz.underlying27 rfl hgd _ ho hx hb hp h
theorem ldot (hgd : Region.wanted o (yielded ops a.tmps) = true) {x : Operand} (ho : o.op = .load 30 x) (hx : a.eval x = .pointer (some ⟨b, off, none⟩)) (hb : Bk w b cs) {u : Value} (hp : cs[off]? = some u) (h : wpList Tryz.prog ops Q rest (a.put o.dst u) w) : wpList Tryz.prog ops Q (o :: rest) a w :=
  wpList_load1 30 Tryz.underlying30 rfl hgd _ ho hx hb hp h
end
end Go.Proofs.YtjbcfjfnobklkaaGreat

/- Layer 13: Check; whether a state has a thread; what lies at a position. -/
namespace Go.Proofs.YtjbcfjfnobklkaaGreat
set_option linter.unusedVariables false
set_option linter.unusedSimpArgs false
open Go.ChangeShapes Go.WideShapes Go.ChangeAt Go.RowKit
set_option maxHeartbeats 2000000 in
theorem fcheck_any (s : St) (z : Pz) (w : World) (hs : StAt w s z) (ho : s.ok) : Calls Tryz.prog 21 #[.agg #[.int .i64 s.cf.lg, .int .i64 s.cf.th, .int .i64 s.cf.po, .int .i64 s.cf.wt, .int .i64 s.cf.sp, .int .i64 s.cf.yi, .bool s.cf.si, .int .i64 s.hd, .int .i64 s.tl, .int .i64 s.md, .slice z.p1 s.sl.length z.k1, .slice z.p2 s.sn.length z.k2, .slice z.p3 s.rc.length z.k3, .int .i64 s.fe, .slice z.p4 s.fl.length z.k4, .int .i64 s.ee, .slice z.p5 s.el.length z.k5, .int .i64 s.nw, .slice z.p6 s.th.length z.k6, .slice z.p7 s.lg.length z.k7]] w fun e w' => e = .returned (.bool (stB s)) ∧ Kept w w' := by
  have HS := Lib.hid hs
  have HO := Lib.hid ho
  obtain ⟨A0, h0⟩ : ∃ A, cfB s.cf = A := ⟨_, rfl⟩
  obtain ⟨A1, h1⟩ : ∃ A, ringSt s = A := ⟨_, rfl⟩
  obtain ⟨A2, h2⟩ : ∃ A, lnsSt s = A := ⟨_, rfl⟩
  obtain ⟨A3, h3⟩ : ∃ A, okE s.fe s.fl = A := ⟨_, rfl⟩
  obtain ⟨A4, h4⟩ : ∃ A, okE s.ee s.el = A := ⟨_, rfl⟩
  have H0 := Lib.hid h0
  have H1 := Lib.hid h1
  have H2 := Lib.hid h2
  have H3 := Lib.hid h3
  have H4 := Lib.hid h4
  clear hs ho h0 h1 h2 h3 h4
  go_enter Tryz.func21, Tryz.ntmps21; go_upto_region 1 with fail; refine wp_abs (fun W => Below w.heap.size w W ∧ Bk W (w.heap.size) [.int .i64 s.cf.lg , .int .i64 s.cf.th , .int .i64 s.cf.po , .int .i64 s.cf.wt , .int .i64 s.cf.sp , .int .i64 s.cf.yi , .bool s.cf.si , .int .i64 s.hd , .int .i64 s.tl , .int .i64 s.md , .slice z.p1 s.sl.length z.k1 , .slice z.p2 s.sn.length z.k2 , .slice z.p3 s.rc.length z.k3 , .int .i64 s.fe , .slice z.p4 s.fl.length z.k4 , .int .i64 s.ee , .slice z.p5 s.el.length z.k5 , .int .i64 s.nw , .slice z.p6 s.th.length z.k6 , .slice z.p7 s.lg.length z.k7]) ⟨by repeat' (first | (with_reducible exact Below.refl _ _) | (with_reducible assumption) | (with_reducible refine kept_alloc ?_ _) | (with_reducible refine kept_drewN ?_ _) | (with_reducible refine Below.drew ?_) | (with_reducible refine Below.setCell ?_ (by first | omega | (simp; omega) | (simp; done)) _) | (refine kept_trans ?_ (by with_reducible assumption))), (by repeat (first | (exact Bk.new (by first | rfl | (simp; done) | (simp; omega))) | (refine Bk.past ?_)))⟩ ?_; rintro V ⟨hB, hk0⟩
  go_wp2_with ((first | (refine ldoS (by rfl) rfl rfl (by first | assumption | exact Bk.past (by assumption)) (by repeat' (first | rfl | (refine ⟨?_, ?_⟩))) ?_) | (refine ldoC (by rfl) rfl rfl (by first | assumption | exact Bk.past (by assumption)) (by repeat' (first | rfl | (refine ⟨?_, ?_⟩))) ?_) | (refine ldoE (by rfl) rfl rfl (by first | assumption | exact Bk.past (by assumption)) (by repeat' (first | rfl | (refine ⟨?_, ?_⟩))) ?_) | (refine ldoi (by rfl) rfl rfl (by first | assumption | exact Bk.past (by assumption)) rfl ?_) | (refine ldol (by rfl) rfl rfl (by first | assumption | exact Bk.past (by assumption)) rfl ?_))); refine (ccheck_val H0 _).mono ?_; rintro e w1 ⟨rfl, hgx⟩; have hBx : Below w.heap.size w w1 := (by repeat' (first | (with_reducible exact Below.refl _ _) | (with_reducible assumption) | (with_reducible refine kept_alloc ?_ _) | (with_reducible refine kept_drewN ?_ _) | (with_reducible refine Below.drew ?_) | (with_reducible refine Below.setCell ?_ (by first | omega | (simp; omega) | (simp; done)) _) | (refine kept_trans ?_ (by with_reducible assumption)))); (try replace hk0 := Bk.kept (by first | exact hk0 | exact Bk.past hk0 | exact Bk.past (Bk.past hk0)) hgx); (try replace hC := kept_trans hC hgx); replace hB := hBx; clear hBx hgx
  cases A0
  · go_wp2; go_ret; exact ⟨ret_bool (stB_1 H0.out).symm, by repeat' (first | (with_reducible exact Below.refl _ _) | (with_reducible assumption) | (with_reducible refine kept_alloc ?_ _) | (with_reducible refine kept_drewN ?_ _) | (with_reducible refine Below.drew ?_) | (with_reducible refine Below.setCell ?_ (by first | omega | (simp; omega) | (simp; done)) _) | (refine kept_trans ?_ (by with_reducible assumption)))⟩
  go_wp2_with ((first | (refine ldoS (by rfl) rfl rfl (by first | assumption | exact Bk.past (by assumption)) (by repeat' (first | rfl | (refine ⟨?_, ?_⟩))) ?_) | (refine ldoC (by rfl) rfl rfl (by first | assumption | exact Bk.past (by assumption)) (by repeat' (first | rfl | (refine ⟨?_, ?_⟩))) ?_) | (refine ldoE (by rfl) rfl rfl (by first | assumption | exact Bk.past (by assumption)) (by repeat' (first | rfl | (refine ⟨?_, ?_⟩))) ?_) | (refine ldoi (by rfl) rfl rfl (by first | assumption | exact Bk.past (by assumption)) rfl ?_) | (refine ldol (by rfl) rfl rfl (by first | assumption | exact Bk.past (by assumption)) rfl ?_))); refine (fring_val H1.out z _ (HS.out.kept hB) HO.out).mono ?_; rintro e w2 ⟨rfl, hgx⟩; have hBx : Below w.heap.size w w2 := (by repeat' (first | (with_reducible exact Below.refl _ _) | (with_reducible assumption) | (with_reducible refine kept_alloc ?_ _) | (with_reducible refine kept_drewN ?_ _) | (with_reducible refine Below.drew ?_) | (with_reducible refine Below.setCell ?_ (by first | omega | (simp; omega) | (simp; done)) _) | (refine kept_trans ?_ (by with_reducible assumption)))); (try replace hk0 := Bk.kept (by first | exact hk0 | exact Bk.past hk0 | exact Bk.past (Bk.past hk0)) hgx); (try replace hC := kept_trans hC hgx); replace hB := hBx; clear hBx hgx
  cases A1
  · go_wp2; go_ret; exact ⟨ret_bool (stB_2 H1.out).symm, by repeat' (first | (with_reducible exact Below.refl _ _) | (with_reducible assumption) | (with_reducible refine kept_alloc ?_ _) | (with_reducible refine kept_drewN ?_ _) | (with_reducible refine Below.drew ?_) | (with_reducible refine Below.setCell ?_ (by first | omega | (simp; omega) | (simp; done)) _) | (refine kept_trans ?_ (by with_reducible assumption)))⟩
  go_wp2_with ((first | (refine ldoS (by rfl) rfl rfl (by first | assumption | exact Bk.past (by assumption)) (by repeat' (first | rfl | (refine ⟨?_, ?_⟩))) ?_) | (refine ldoC (by rfl) rfl rfl (by first | assumption | exact Bk.past (by assumption)) (by repeat' (first | rfl | (refine ⟨?_, ?_⟩))) ?_) | (refine ldoE (by rfl) rfl rfl (by first | assumption | exact Bk.past (by assumption)) (by repeat' (first | rfl | (refine ⟨?_, ?_⟩))) ?_) | (refine ldoi (by rfl) rfl rfl (by first | assumption | exact Bk.past (by assumption)) rfl ?_) | (refine ldol (by rfl) rfl rfl (by first | assumption | exact Bk.past (by assumption)) rfl ?_))); refine (fstand_four H2.out z w2 _ (HS.out.kept hB) rfl).mono ?_; rintro e w3 ⟨rfl, hgx⟩; have hBx : Below w.heap.size w w3 := (by repeat' (first | (with_reducible exact Below.refl _ _) | (with_reducible assumption) | (with_reducible refine kept_alloc ?_ _) | (with_reducible refine kept_drewN ?_ _) | (with_reducible refine Below.drew ?_) | (with_reducible refine Below.setCell ?_ (by first | omega | (simp; omega) | (simp; done)) _) | (refine kept_trans ?_ (by with_reducible assumption)))); (try replace hk0 := Bk.kept (by first | exact hk0 | exact Bk.past hk0 | exact Bk.past (Bk.past hk0)) hgx); (try replace hC := kept_trans hC hgx); replace hB := hBx; clear hBx hgx
  cases A2
  · go_wp2; go_ret; exact ⟨ret_bool (stB_3 H2.out).symm, by repeat' (first | (with_reducible exact Below.refl _ _) | (with_reducible assumption) | (with_reducible refine kept_alloc ?_ _) | (with_reducible refine kept_drewN ?_ _) | (with_reducible refine Below.drew ?_) | (with_reducible refine Below.setCell ?_ (by first | omega | (simp; omega) | (simp; done)) _) | (refine kept_trans ?_ (by with_reducible assumption)))⟩
  go_wp2_with ((first | (refine ldoS (by rfl) rfl rfl (by first | assumption | exact Bk.past (by assumption)) (by repeat' (first | rfl | (refine ⟨?_, ?_⟩))) ?_) | (refine ldoC (by rfl) rfl rfl (by first | assumption | exact Bk.past (by assumption)) (by repeat' (first | rfl | (refine ⟨?_, ?_⟩))) ?_) | (refine ldoE (by rfl) rfl rfl (by first | assumption | exact Bk.past (by assumption)) (by repeat' (first | rfl | (refine ⟨?_, ?_⟩))) ?_) | (refine ldoi (by rfl) rfl rfl (by first | assumption | exact Bk.past (by assumption)) rfl ?_) | (refine ldol (by rfl) rfl rfl (by first | assumption | exact Bk.past (by assumption)) rfl ?_))); refine (echeck_val H3.out z.p4 z.k4 _ (HS.out.fl.kept hB)).mono ?_; rintro e w4 ⟨rfl, hgx⟩; have hBx : Below w.heap.size w w4 := (by repeat' (first | (with_reducible exact Below.refl _ _) | (with_reducible assumption) | (with_reducible refine kept_alloc ?_ _) | (with_reducible refine kept_drewN ?_ _) | (with_reducible refine Below.drew ?_) | (with_reducible refine Below.setCell ?_ (by first | omega | (simp; omega) | (simp; done)) _) | (refine kept_trans ?_ (by with_reducible assumption)))); (try replace hk0 := Bk.kept (by first | exact hk0 | exact Bk.past hk0 | exact Bk.past (Bk.past hk0)) hgx); (try replace hC := kept_trans hC hgx); replace hB := hBx; clear hBx hgx
  cases A3
  · go_wp2; go_ret; exact ⟨ret_bool (stB_4 H3.out).symm, by repeat' (first | (with_reducible exact Below.refl _ _) | (with_reducible assumption) | (with_reducible refine kept_alloc ?_ _) | (with_reducible refine kept_drewN ?_ _) | (with_reducible refine Below.drew ?_) | (with_reducible refine Below.setCell ?_ (by first | omega | (simp; omega) | (simp; done)) _) | (refine kept_trans ?_ (by with_reducible assumption)))⟩
  go_wp2_with ((first | (refine ldoS (by rfl) rfl rfl (by first | assumption | exact Bk.past (by assumption)) (by repeat' (first | rfl | (refine ⟨?_, ?_⟩))) ?_) | (refine ldoC (by rfl) rfl rfl (by first | assumption | exact Bk.past (by assumption)) (by repeat' (first | rfl | (refine ⟨?_, ?_⟩))) ?_) | (refine ldoE (by rfl) rfl rfl (by first | assumption | exact Bk.past (by assumption)) (by repeat' (first | rfl | (refine ⟨?_, ?_⟩))) ?_) | (refine ldoi (by rfl) rfl rfl (by first | assumption | exact Bk.past (by assumption)) rfl ?_) | (refine ldol (by rfl) rfl rfl (by first | assumption | exact Bk.past (by assumption)) rfl ?_))); refine (echeck_val H4.out z.p5 z.k5 _ (HS.out.el.kept hB)).mono ?_; rintro e w5 ⟨rfl, hgx⟩; have hBx : Below w.heap.size w w5 := (by repeat' (first | (with_reducible exact Below.refl _ _) | (with_reducible assumption) | (with_reducible refine kept_alloc ?_ _) | (with_reducible refine kept_drewN ?_ _) | (with_reducible refine Below.drew ?_) | (with_reducible refine Below.setCell ?_ (by first | omega | (simp; omega) | (simp; done)) _) | (refine kept_trans ?_ (by with_reducible assumption)))); (try replace hk0 := Bk.kept (by first | exact hk0 | exact Bk.past hk0 | exact Bk.past (Bk.past hk0)) hgx); (try replace hC := kept_trans hC hgx); replace hB := hBx; clear hBx hgx
  cases A4
  · go_wp2; go_ret; exact ⟨ret_bool (stB_5 H4.out).symm, by repeat' (first | (with_reducible exact Below.refl _ _) | (with_reducible assumption) | (with_reducible refine kept_alloc ?_ _) | (with_reducible refine kept_drewN ?_ _) | (with_reducible refine Below.drew ?_) | (with_reducible refine Below.setCell ?_ (by first | omega | (simp; omega) | (simp; done)) _) | (refine kept_trans ?_ (by with_reducible assumption)))⟩
  cases h5 : decide (0 ≤ s.nw)
  · have H5 := Lib.hid h5
    go_wp2_with (first | (refine ldoS (by rfl) rfl rfl (by first | assumption | exact Bk.past (by assumption)) (by repeat' (first | rfl | (refine ⟨?_, ?_⟩))) ?_) | (refine ldoC (by rfl) rfl rfl (by first | assumption | exact Bk.past (by assumption)) (by repeat' (first | rfl | (refine ⟨?_, ?_⟩))) ?_) | (refine ldoE (by rfl) rfl rfl (by first | assumption | exact Bk.past (by assumption)) (by repeat' (first | rfl | (refine ⟨?_, ?_⟩))) ?_) | (refine ldoi (by rfl) rfl rfl (by first | assumption | exact Bk.past (by assumption)) rfl ?_) | (refine ldol (by rfl) rfl rfl (by first | assumption | exact Bk.past (by assumption)) rfl ?_))
    go_ret
    exact ⟨ret_bool (stB_6 H5.out).symm, by repeat' (first | (with_reducible exact Below.refl _ _) | (with_reducible assumption) | (with_reducible refine kept_alloc ?_ _) | (with_reducible refine kept_drewN ?_ _) | (with_reducible refine Below.drew ?_) | (with_reducible refine Below.setCell ?_ (by first | omega | (simp; omega) | (simp; done)) _) | (refine kept_trans ?_ (by with_reducible assumption)))⟩
  cases h6 : decide (s.nw ≤ 1099511627776)
  · have H6 := Lib.hid h6
    go_wp2_with (first | (refine ldoS (by rfl) rfl rfl (by first | assumption | exact Bk.past (by assumption)) (by repeat' (first | rfl | (refine ⟨?_, ?_⟩))) ?_) | (refine ldoC (by rfl) rfl rfl (by first | assumption | exact Bk.past (by assumption)) (by repeat' (first | rfl | (refine ⟨?_, ?_⟩))) ?_) | (refine ldoE (by rfl) rfl rfl (by first | assumption | exact Bk.past (by assumption)) (by repeat' (first | rfl | (refine ⟨?_, ?_⟩))) ?_) | (refine ldoi (by rfl) rfl rfl (by first | assumption | exact Bk.past (by assumption)) rfl ?_) | (refine ldol (by rfl) rfl rfl (by first | assumption | exact Bk.past (by assumption)) rfl ?_))
    go_ret
    exact ⟨ret_bool (stB_7 H6.out).symm, by repeat' (first | (with_reducible exact Below.refl _ _) | (with_reducible assumption) | (with_reducible refine kept_alloc ?_ _) | (with_reducible refine kept_drewN ?_ _) | (with_reducible refine Below.drew ?_) | (with_reducible refine Below.setCell ?_ (by first | omega | (simp; omega) | (simp; done)) _) | (refine kept_trans ?_ (by with_reducible assumption)))⟩
  have hsb : Hid (stB s = thsSt s) := Lib.hid (by simp [stB, H0.out, H1.out, H2.out, H3.out, H4.out, h5, h6])
  obtain ⟨A7, h7⟩ : ∃ A, thsSt s = A := ⟨_, rfl⟩
  have H7 := Lib.hid h7
  clear h7
  go_wp2_with ((first | (refine ldoS (by rfl) rfl rfl (by first | assumption | exact Bk.past (by assumption)) (by repeat' (first | rfl | (refine ⟨?_, ?_⟩))) ?_) | (refine ldoC (by rfl) rfl rfl (by first | assumption | exact Bk.past (by assumption)) (by repeat' (first | rfl | (refine ⟨?_, ?_⟩))) ?_) | (refine ldoE (by rfl) rfl rfl (by first | assumption | exact Bk.past (by assumption)) (by repeat' (first | rfl | (refine ⟨?_, ?_⟩))) ?_) | (refine ldoi (by rfl) rfl rfl (by first | assumption | exact Bk.past (by assumption)) rfl ?_) | (refine ldol (by rfl) rfl rfl (by first | assumption | exact Bk.past (by assumption)) rfl ?_))); refine (fthreads_val H7.out z _ (HS.out.kept hB) HO.out).mono ?_; rintro e w6 ⟨rfl, hgx⟩; have hBx : Below w.heap.size w w6 := (by repeat' (first | (with_reducible exact Below.refl _ _) | (with_reducible assumption) | (with_reducible refine kept_alloc ?_ _) | (with_reducible refine kept_drewN ?_ _) | (with_reducible refine Below.drew ?_) | (with_reducible refine Below.setCell ?_ (by first | omega | (simp; omega) | (simp; done)) _) | (refine kept_trans ?_ (by with_reducible assumption)))); (try replace hk0 := Bk.kept (by first | exact hk0 | exact Bk.past hk0 | exact Bk.past (Bk.past hk0)) hgx); (try replace hC := kept_trans hC hgx); replace hB := hBx; clear hBx hgx
  go_wp2
  go_ret
  exact ⟨ret_bool (by rw [hsb.out, H7.out]), by repeat' (first | (with_reducible exact Below.refl _ _) | (with_reducible assumption) | (with_reducible refine kept_alloc ?_ _) | (with_reducible refine kept_drewN ?_ _) | (with_reducible refine Below.drew ?_) | (with_reducible refine Below.setCell ?_ (by first | omega | (simp; omega) | (simp; done)) _) | (refine kept_trans ?_ (by with_reducible assumption)))⟩
theorem fcheck_val {b : Bool} {s : St} (hb : stB s = b) (z : Pz) (w : World) (hs : StAt w s z) (ho : s.ok) : Calls Tryz.prog 21 #[.agg #[.int .i64 s.cf.lg, .int .i64 s.cf.th, .int .i64 s.cf.po, .int .i64 s.cf.wt, .int .i64 s.cf.sp, .int .i64 s.cf.yi, .bool s.cf.si, .int .i64 s.hd, .int .i64 s.tl, .int .i64 s.md, .slice z.p1 s.sl.length z.k1, .slice z.p2 s.sn.length z.k2, .slice z.p3 s.rc.length z.k3, .int .i64 s.fe, .slice z.p4 s.fl.length z.k4, .int .i64 s.ee, .slice z.p5 s.el.length z.k5, .int .i64 s.nw, .slice z.p6 s.th.length z.k6, .slice z.p7 s.lg.length z.k7]] w fun e w' => e = .returned (.bool b) ∧ Kept w w' := hb ▸ fcheck_any s z w hs ho
set_option maxHeartbeats 1000000 in
theorem fhas_any (s : St) (z : Pz) (i : Int) (w : World) (hs : StAt w s z) (ho : s.ok) : Calls Tryz.prog 145 #[.agg #[.int .i64 s.cf.lg, .int .i64 s.cf.th, .int .i64 s.cf.po, .int .i64 s.cf.wt, .int .i64 s.cf.sp, .int .i64 s.cf.yi, .bool s.cf.si, .int .i64 s.hd, .int .i64 s.tl, .int .i64 s.md, .slice z.p1 s.sl.length z.k1, .slice z.p2 s.sn.length z.k2, .slice z.p3 s.rc.length z.k3, .int .i64 s.fe, .slice z.p4 s.fl.length z.k4, .int .i64 s.ee, .slice z.p5 s.el.length z.k5, .int .i64 s.nw, .slice z.p6 s.th.length z.k6, .slice z.p7 s.lg.length z.k7], .int .i64 i] w fun e w' => e = .returned (.bool (hasB s i)) ∧ Kept w w' := by
  have HS := Lib.hid hs
  have HO := Lib.hid ho
  obtain ⟨A, hA⟩ : ∃ A, stB s = A := ⟨_, rfl⟩
  have HA := Lib.hid hA
  unfold hasB
  rw [hA]
  clear hs ho hA
  go_enter Tryz.func145, Tryz.ntmps145; go_upto_region 1 with fail; refine wp_abs (fun W => Below w.heap.size w W ∧ Bk W (w.heap.size) [.int .i64 s.cf.lg , .int .i64 s.cf.th , .int .i64 s.cf.po , .int .i64 s.cf.wt , .int .i64 s.cf.sp , .int .i64 s.cf.yi , .bool s.cf.si , .int .i64 s.hd , .int .i64 s.tl , .int .i64 s.md , .slice z.p1 s.sl.length z.k1 , .slice z.p2 s.sn.length z.k2 , .slice z.p3 s.rc.length z.k3 , .int .i64 s.fe , .slice z.p4 s.fl.length z.k4 , .int .i64 s.ee , .slice z.p5 s.el.length z.k5 , .int .i64 s.nw , .slice z.p6 s.th.length z.k6 , .slice z.p7 s.lg.length z.k7]) ⟨by repeat' (first | (with_reducible exact Below.refl _ _) | (with_reducible assumption) | (with_reducible refine kept_alloc ?_ _) | (with_reducible refine kept_drewN ?_ _) | (with_reducible refine Below.drew ?_) | (with_reducible refine Below.setCell ?_ (by first | omega | (simp; omega) | (simp; done)) _) | (refine kept_trans ?_ (by with_reducible assumption))), (by repeat (first | (exact Bk.new (by first | rfl | (simp; done) | (simp; omega))) | (refine Bk.past ?_)))⟩ ?_; rintro V ⟨hB, hk0⟩
  go_wp2_with ((first | (refine ldoS (by rfl) rfl rfl (by first | assumption | exact Bk.past (by assumption)) (by repeat' (first | rfl | (refine ⟨?_, ?_⟩))) ?_) | (refine ldot (by rfl) rfl rfl (by first | assumption | exact Bk.past (by assumption)) rfl ?_))); refine (fcheck_val HA.out z _ (HS.out.kept hB) HO.out).mono ?_; rintro e w1 ⟨rfl, hgx⟩; have hBx : Below w.heap.size w w1 := (by repeat' (first | (with_reducible exact Below.refl _ _) | (with_reducible assumption) | (with_reducible refine kept_alloc ?_ _) | (with_reducible refine kept_drewN ?_ _) | (with_reducible refine Below.drew ?_) | (with_reducible refine Below.setCell ?_ (by first | omega | (simp; omega) | (simp; done)) _) | (refine kept_trans ?_ (by with_reducible assumption)))); (try replace hk0 := Bk.kept (by first | exact hk0 | exact Bk.past hk0 | exact Bk.past (Bk.past hk0)) hgx); (try replace hC := kept_trans hC hgx); replace hB := hBx; clear hBx hgx
  cases A
  · go_wp2_with (first | (refine ldot (by rfl) rfl rfl (by first | assumption | exact Bk.past (by assumption)) rfl ?_))
    go_ret
    exact ⟨rfl, by repeat' (first | (with_reducible exact Below.refl _ _) | (with_reducible assumption) | (with_reducible refine kept_alloc ?_ _) | (with_reducible refine kept_drewN ?_ _) | (with_reducible refine Below.drew ?_) | (with_reducible refine Below.setCell ?_ (by first | omega | (simp; omega) | (simp; done)) _) | (refine kept_trans ?_ (by with_reducible assumption)))⟩
  cases h1 : decide (0 ≤ i)
  · have H1 := Lib.hid h1
    go_wp2_with (first | (refine ldot (by rfl) rfl rfl (by first | assumption | exact Bk.past (by assumption)) rfl ?_))
    go_ret
    exact ⟨ret_bool (by rw [H1.out]; rfl), by repeat' (first | (with_reducible exact Below.refl _ _) | (with_reducible assumption) | (with_reducible refine kept_alloc ?_ _) | (with_reducible refine kept_drewN ?_ _) | (with_reducible refine Below.drew ?_) | (with_reducible refine Below.setCell ?_ (by first | omega | (simp; omega) | (simp; done)) _) | (refine kept_trans ?_ (by with_reducible assumption)))⟩
  have H1 := Lib.hid h1
  cases h2 : decide (i < (s.th.length : Int))
  · have H2 := Lib.hid h2
    go_wp2_with (first | (refine ldot (by rfl) rfl rfl (by first | assumption | exact Bk.past (by assumption)) rfl ?_))
    go_ret
    exact ⟨ret_bool (by rw [H1.out, H2.out]; rfl), by repeat' (first | (with_reducible exact Below.refl _ _) | (with_reducible assumption) | (with_reducible refine kept_alloc ?_ _) | (with_reducible refine kept_drewN ?_ _) | (with_reducible refine Below.drew ?_) | (with_reducible refine Below.setCell ?_ (by first | omega | (simp; omega) | (simp; done)) _) | (refine kept_trans ?_ (by with_reducible assumption)))⟩
  · have H2 := Lib.hid h2
    go_wp2_with (first | (refine ldot (by rfl) rfl rfl (by first | assumption | exact Bk.past (by assumption)) rfl ?_))
    go_ret
    exact ⟨ret_bool (by rw [H1.out, H2.out]; rfl), by repeat' (first | (with_reducible exact Below.refl _ _) | (with_reducible assumption) | (with_reducible refine kept_alloc ?_ _) | (with_reducible refine kept_drewN ?_ _) | (with_reducible refine Below.drew ?_) | (with_reducible refine Below.setCell ?_ (by first | omega | (simp; omega) | (simp; done)) _) | (refine kept_trans ?_ (by with_reducible assumption)))⟩
theorem fhas_val {b : Bool} {s : St} {i : Int} (hb : hasB s i = b) (z : Pz) (w : World) (hs : StAt w s z) (ho : s.ok) : Calls Tryz.prog 145 #[.agg #[.int .i64 s.cf.lg, .int .i64 s.cf.th, .int .i64 s.cf.po, .int .i64 s.cf.wt, .int .i64 s.cf.sp, .int .i64 s.cf.yi, .bool s.cf.si, .int .i64 s.hd, .int .i64 s.tl, .int .i64 s.md, .slice z.p1 s.sl.length z.k1, .slice z.p2 s.sn.length z.k2, .slice z.p3 s.rc.length z.k3, .int .i64 s.fe, .slice z.p4 s.fl.length z.k4, .int .i64 s.ee, .slice z.p5 s.el.length z.k5, .int .i64 s.nw, .slice z.p6 s.th.length z.k6, .slice z.p7 s.lg.length z.k7], .int .i64 i] w fun e w' => e = .returned (.bool b) ∧ Kept w w' := hb ▸ fhas_any s z i w hs ho
set_option maxHeartbeats 1000000 in
theorem fat_any (s : St) (z : Pz) (p : Int) (w : World) (hs : StAt w s z) (hk : okSl s.sl = true) (hp : 0 ≤ p) (hpi : In64 p) : Calls Tryz.prog 66 #[.agg #[.int .i64 s.cf.lg, .int .i64 s.cf.th, .int .i64 s.cf.po, .int .i64 s.cf.wt, .int .i64 s.cf.sp, .int .i64 s.cf.yi, .bool s.cf.si, .int .i64 s.hd, .int .i64 s.tl, .int .i64 s.md, .slice z.p1 s.sl.length z.k1, .slice z.p2 s.sn.length z.k2, .slice z.p3 s.rc.length z.k3, .int .i64 s.fe, .slice z.p4 s.fl.length z.k4, .int .i64 s.ee, .slice z.p5 s.el.length z.k5, .int .i64 s.nw, .slice z.p6 s.th.length z.k6, .slice z.p7 s.lg.length z.k7], .int .i64 p] w fun e w' => e = .returned (.int .i64 (atV s p)) ∧ Kept w w' := by
  have hsl := hs.sl
  obtain ⟨hi, hpl⟩ := plc_lt (lies_iff.2 ⟨hp, hk⟩)
  have hm := (ok_iff.1 hk).1
  obtain ⟨_, _, e1, _, _, _, hne⟩ := hsl.is
  cases e1
  obtain ⟨b, o, hpe, hb, -⟩ := hne (by intro h; rw [h] at hi; simp at hi)
  rw [hpe] at hsl ⊢
  obtain ⟨-, c2⟩ := ss_at hsl hi
  unfold atV
  obtain ⟨N, hN⟩ : ∃ N, s.sl.length = N := ⟨_, rfl⟩
  rw [hN] at hm hi hpl ⊢
  generalize plc s.sl p = i at *
  have hM : Hid (placeI p N = i) := Lib.hid hpl
  have b1 : (0 : Int) ≤ (i : Int) := by omega
  have b2 : (i : Int) < (N : Int) := by omega
  generalize gs s.sl i = y at *
  clear hN hsl hne hpl hs hk hpe
  go_enter Tryz.func66, Tryz.ntmps66
  go_wp2
  (refine wp_region_kept (w := w) [(w.heap.size, 10, .slice (some ⟨b, o, none⟩) N z.k1), (b, o + i * 2 + 1, .int .i64 y.vl)] (by kernel_rfl) (by kernel_rfl) (by repeat' (first | (with_reducible exact Below.refl _ _) | (with_reducible assumption) | (with_reducible refine kept_alloc ?_ _) | (with_reducible refine kept_drewN ?_ _) | (with_reducible refine Below.drew ?_) | (with_reducible refine Below.setCell ?_ (by first | omega | (simp; omega) | (simp; done)) _) | (refine kept_trans ?_ (by with_reducible assumption)))) (by first | (simp [CellsAt, *, World.cell?_alloc_past, World.cell?_alloc_at]; done) | (simp [CellsAt, *, World.cell?_alloc_past, World.cell?_alloc_at]; omega)) (fun hne => ?_); (have hq0 : ∀ xwd : Wd w [(w.heap.size, 10, .slice (some ⟨b, o, none⟩) N z.k1), (b, o + i * 2 + 1, .int .i64 y.vl)], xwd.at.cell? ⟨w.heap.size, 10, none⟩ = some (.slice (some ⟨b, o, none⟩) N z.k1) := fun xwd => xwd.cells.1.2; have hq1 : ∀ xwd : Wd w [(w.heap.size, 10, .slice (some ⟨b, o, none⟩) N z.k1), (b, o + i * 2 + 1, .int .i64 y.vl)], xwd.at.cell? ⟨b, o + i * 2 + 1, none⟩ = some (.int .i64 y.vl) := fun xwd => xwd.cells.2.1.2); (try simp only [List.append_eq, List.cons_append, List.nil_append]); (repeat (go_big_quiet_step ((first | (go_at_call 131; exact quiet_call (place_val hM.out (by omega) (by omega) _)))))); (refine wpQuiet_nil ?_); intro wq hwq; obtain ⟨xwd, hxwd⟩ := hwq; have hgx : Below w.heap.size w wq := (by rw [hxwd]; exact xwd.kept); have hcs := (show CellsAt wq [(w.heap.size, 10, .slice (some ⟨b, o, none⟩) N z.k1), (b, o + i * 2 + 1, .int .i64 y.vl)] by rw [hxwd]; exact xwd.cells); clear hxwd xwd hne)
  go_wp2
  go_ret
  exact ⟨rfl, by repeat' (first | (with_reducible exact Below.refl _ _) | (with_reducible assumption) | (with_reducible refine kept_alloc ?_ _) | (with_reducible refine kept_drewN ?_ _) | (with_reducible refine Below.drew ?_) | (with_reducible refine Below.setCell ?_ (by first | omega | (simp; omega) | (simp; done)) _) | (refine kept_trans ?_ (by with_reducible assumption)))⟩
set_option maxHeartbeats 1000000 in
theorem fvalue_any (s : St) (z : Pz) (p : Int) (w : World) (hs : StAt w s z) (ho : s.ok) (hpi : In64 p) : Calls Tryz.prog 155 #[.agg #[.int .i64 s.cf.lg, .int .i64 s.cf.th, .int .i64 s.cf.po, .int .i64 s.cf.wt, .int .i64 s.cf.sp, .int .i64 s.cf.yi, .bool s.cf.si, .int .i64 s.hd, .int .i64 s.tl, .int .i64 s.md, .slice z.p1 s.sl.length z.k1, .slice z.p2 s.sn.length z.k2, .slice z.p3 s.rc.length z.k3, .int .i64 s.fe, .slice z.p4 s.fl.length z.k4, .int .i64 s.ee, .slice z.p5 s.el.length z.k5, .int .i64 s.nw, .slice z.p6 s.th.length z.k6, .slice z.p7 s.lg.length z.k7], .int .i64 p] w fun e w' => e = .returned (.int .i64 (valV s p)) ∧ Kept w w' := by
  have HS := Lib.hid hs
  have HO := Lib.hid ho
  obtain ⟨A, hA⟩ : ∃ A, stB s = A := ⟨_, rfl⟩
  have HA := Lib.hid hA
  unfold valV
  rw [hA]
  clear hs ho hA
  cases h1 : decide (p < 0)
  · rw [if_neg (by simpa using h1)]
    go_enter Tryz.func155, Tryz.ntmps155; go_upto_region 1 with fail; refine wp_abs (fun W => Below w.heap.size w W ∧ Bk W (w.heap.size) [.int .i64 s.cf.lg , .int .i64 s.cf.th , .int .i64 s.cf.po , .int .i64 s.cf.wt , .int .i64 s.cf.sp , .int .i64 s.cf.yi , .bool s.cf.si , .int .i64 s.hd , .int .i64 s.tl , .int .i64 s.md , .slice z.p1 s.sl.length z.k1 , .slice z.p2 s.sn.length z.k2 , .slice z.p3 s.rc.length z.k3 , .int .i64 s.fe , .slice z.p4 s.fl.length z.k4 , .int .i64 s.ee , .slice z.p5 s.el.length z.k5 , .int .i64 s.nw , .slice z.p6 s.th.length z.k6 , .slice z.p7 s.lg.length z.k7]) ⟨by repeat' (first | (with_reducible exact Below.refl _ _) | (with_reducible assumption) | (with_reducible refine kept_alloc ?_ _) | (with_reducible refine kept_drewN ?_ _) | (with_reducible refine Below.drew ?_) | (with_reducible refine Below.setCell ?_ (by first | omega | (simp; omega) | (simp; done)) _) | (refine kept_trans ?_ (by with_reducible assumption))), (by repeat (first | (exact Bk.new (by first | rfl | (simp; done) | (simp; omega))) | (refine Bk.past ?_)))⟩ ?_; rintro V ⟨hB, hk0⟩
    go_wp2_with ((first | (refine ldoS (by rfl) rfl rfl (by first | assumption | exact Bk.past (by assumption)) (by repeat' (first | rfl | (refine ⟨?_, ?_⟩))) ?_))); refine (fcheck_val HA.out z _ (HS.out.kept hB) HO.out).mono ?_; rintro e w1 ⟨rfl, hgx⟩; have hBx : Below w.heap.size w w1 := (by repeat' (first | (with_reducible exact Below.refl _ _) | (with_reducible assumption) | (with_reducible refine kept_alloc ?_ _) | (with_reducible refine kept_drewN ?_ _) | (with_reducible refine Below.drew ?_) | (with_reducible refine Below.setCell ?_ (by first | omega | (simp; omega) | (simp; done)) _) | (refine kept_trans ?_ (by with_reducible assumption)))); (try replace hk0 := Bk.kept (by first | exact hk0 | exact Bk.past hk0 | exact Bk.past (Bk.past hk0)) hgx); (try replace hC := kept_trans hC hgx); replace hB := hBx; clear hBx hgx
    cases A
    · go_wp2
      go_ret
      exact ⟨rfl, by repeat' (first | (with_reducible exact Below.refl _ _) | (with_reducible assumption) | (with_reducible refine kept_alloc ?_ _) | (with_reducible refine kept_drewN ?_ _) | (with_reducible refine Below.drew ?_) | (with_reducible refine Below.setCell ?_ (by first | omega | (simp; omega) | (simp; done)) _) | (refine kept_trans ?_ (by with_reducible assumption)))⟩
    · go_wp2_with ((first | (refine ldoS (by rfl) rfl rfl (by first | assumption | exact Bk.past (by assumption)) (by repeat' (first | rfl | (refine ⟨?_, ?_⟩))) ?_))); refine (fat_any s z p _ (HS.out.kept hB) (by have h := (st_iff.1 HA.out).2.1; simp only [ringSt, Bool.and_eq_true] at h; exact h.2.2) (by simpa using h1) hpi).mono ?_; rintro e w2 ⟨rfl, hgx⟩; have hBx : Below w.heap.size w w2 := (by repeat' (first | (with_reducible exact Below.refl _ _) | (with_reducible assumption) | (with_reducible refine kept_alloc ?_ _) | (with_reducible refine kept_drewN ?_ _) | (with_reducible refine Below.drew ?_) | (with_reducible refine Below.setCell ?_ (by first | omega | (simp; omega) | (simp; done)) _) | (refine kept_trans ?_ (by with_reducible assumption)))); (try replace hk0 := Bk.kept (by first | exact hk0 | exact Bk.past hk0 | exact Bk.past (Bk.past hk0)) hgx); (try replace hC := kept_trans hC hgx); replace hB := hBx; clear hBx hgx
      go_wp2
      go_ret
      exact ⟨rfl, by repeat' (first | (with_reducible exact Below.refl _ _) | (with_reducible assumption) | (with_reducible refine kept_alloc ?_ _) | (with_reducible refine kept_drewN ?_ _) | (with_reducible refine Below.drew ?_) | (with_reducible refine Below.setCell ?_ (by first | omega | (simp; omega) | (simp; done)) _) | (refine kept_trans ?_ (by with_reducible assumption)))⟩
  · rw [if_pos (by simpa using h1)]
    go_enter Tryz.func155, Tryz.ntmps155
    go_wp2
    go_ret
    exact ⟨rfl, by repeat' (first | (with_reducible exact Below.refl _ _) | (with_reducible assumption) | (with_reducible refine kept_alloc ?_ _) | (with_reducible refine kept_drewN ?_ _) | (with_reducible refine Below.drew ?_) | (with_reducible refine Below.setCell ?_ (by first | omega | (simp; omega) | (simp; done)) _) | (refine kept_trans ?_ (by with_reducible assumption)))⟩
end Go.Proofs.YtjbcfjfnobklkaaGreat
