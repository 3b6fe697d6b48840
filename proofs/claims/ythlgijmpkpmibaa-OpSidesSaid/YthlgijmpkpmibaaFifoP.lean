/- Contracts of the program's own functions of layer 3 that only look. -/
import Derived.Test.YthlgijmpkpmibaaFifoR
import Derived.Test.YthlgijmpkpmibaaFifoW
import Derived.RegionTactic
import Derived.ChangeAlike
namespace Go.Proofs.Ythlgijmpkpmibaa
set_option linter.unusedVariables false
set_option linter.unusedSimpArgs false
open Go.ChangeShapes Go.WideShapes Go.ChangeAt Go.RowKit

/-- The sort of a kind. -/
def sortI (k : Int) : Int := if sendsB k then 1 else if recvsB k then 4 else k
theorem psends_any (k : Int) (w : World) : Calls Try.prog 21 #[.int .i64 k] w fun e w' => e = .returned (.bool (sendsB k)) ∧ Kept w w' := by
  go_enter Try.func21, Try.ntmps21
  go_wp2
  all_goals (go_ret; exact ⟨ret_bool (by first | (rw [Bool.eq_iff_iff]; simp [sendsB]; omega) | (simp [sendsB, *]; done) | (simp [sendsB, *]; omega) | (simp [sendsB, *]; intros; omega)), by repeat' (first | (with_reducible exact Below.refl _ _) | (with_reducible assumption) | (with_reducible refine kept_alloc ?_ _) | (with_reducible refine kept_drewN ?_ _) | (with_reducible refine Below.drew ?_) | (with_reducible refine Below.setCell ?_ (by first | omega | (simp; omega) | (simp; done)) _) | (refine kept_trans ?_ (by with_reducible assumption)))⟩)
theorem precvs_any (k : Int) (w : World) : Calls Try.prog 22 #[.int .i64 k] w fun e w' => e = .returned (.bool (recvsB k)) ∧ Kept w w' := by
  go_enter Try.func22, Try.ntmps22
  go_wp2
  all_goals (go_ret; exact ⟨ret_bool (by first | (rw [Bool.eq_iff_iff]; simp [recvsB]; omega) | (simp [recvsB, *]; done) | (simp [recvsB, *]; omega) | (simp [recvsB, *]; intros; omega)), by repeat' (first | (with_reducible exact Below.refl _ _) | (with_reducible assumption) | (with_reducible refine kept_alloc ?_ _) | (with_reducible refine kept_drewN ?_ _) | (with_reducible refine Below.drew ?_) | (with_reducible refine Below.setCell ?_ (by first | omega | (simp; omega) | (simp; done)) _) | (refine kept_trans ?_ (by with_reducible assumption)))⟩)
theorem psort_any (k : Int) (w : World) : Calls Try.prog 33 #[.int .i64 k] w fun e w' => e = .returned (.int .i64 (sortI k)) ∧ Kept w w' := by
  cases h1 : sendsB k <;> cases h2 : recvsB k
  all_goals
    go_enter Try.func33, Try.ntmps33
    go_wp2_with (first | (go_at_call 21; refine (psends_any _ _).mono ?_; rintro e wx ⟨rfl, hgx⟩) | (go_at_call 22; refine (precvs_any _ _).mono ?_; rintro e wx ⟨rfl, hgx⟩))
    all_goals (go_ret; exact ⟨ret_int (by simp [sortI, *]), by repeat' (first | (with_reducible exact Below.refl _ _) | (with_reducible assumption) | (with_reducible refine kept_alloc ?_ _) | (with_reducible refine kept_drewN ?_ _) | (with_reducible refine Below.drew ?_) | (with_reducible refine Below.setCell ?_ (by first | omega | (simp; omega) | (simp; done)) _) | (refine kept_trans ?_ (by with_reducible assumption)))⟩)

set_option maxHeartbeats 1000000 in
theorem pfull_any (qb : Nat) (l : List Int) (qc qp qm : Int) (p : Option Addr) (k : Nat) (w : World) (hz : qb < w.heap.size) (c0 : w.cell? ⟨qb, 0, none⟩ = some (.slice p l.length k)) (c1 : w.cell? ⟨qb, 1, none⟩ = some (.int .i64 qc)) (c2 : w.cell? ⟨qb, 2, none⟩ = some (.int .i64 qp)) (c3 : w.cell? ⟨qb, 3, none⟩ = some (.int .i64 qm)) : Calls Try.prog 46 #[.pointer (some ⟨qb, 0, none⟩)] w fun e w' => e = .returned (.bool (decide (qc ≤ (l.length : Int)))) ∧ Kept w w' := by
  go_enter Try.func46, Try.ntmps46
  go_wp2
  go_region
  all_goals go_wp2
  all_goals (go_ret; exact ⟨ret_bool (by first | rfl | (simp; done) | (rw [Bool.eq_iff_iff]; simp; omega)), by repeat' (first | (with_reducible exact Below.refl _ _) | (with_reducible assumption) | (with_reducible refine kept_alloc ?_ _) | (with_reducible refine kept_drewN ?_ _) | (with_reducible refine Below.drew ?_) | (with_reducible refine Below.setCell ?_ (by first | omega | (simp; omega) | (simp; done)) _) | (refine kept_trans ?_ (by with_reducible assumption)))⟩)

set_option maxHeartbeats 1000000 in
theorem pturns_any (qb : Nat) (l : List Int) (qc qp qm : Int) (p : Option Addr) (k : Nat) (w : World) (hz : qb < w.heap.size) (c0 : w.cell? ⟨qb, 0, none⟩ = some (.slice p l.length k)) (c1 : w.cell? ⟨qb, 1, none⟩ = some (.int .i64 qc)) (c2 : w.cell? ⟨qb, 2, none⟩ = some (.int .i64 qp)) (c3 : w.cell? ⟨qb, 3, none⟩ = some (.int .i64 qm)) (po : Int) : Calls Try.prog 47 #[.pointer (some ⟨qb, 0, none⟩), .int .i64 po] w fun e w' => e = .returned (.bool (decide (qm = 0) && decide (qc ≤ (l.length : Int)) && decide (qp = po))) ∧ Kept w w' := by
  have b3 : decide (qp = po) = (qp == po) := rfl
  have b2 : decide (qm = 0) = (qm == 0) := rfl
  cases b0 : (qm == 0) <;> cases b1 : decide (qc ≤ (l.length : Int))
  all_goals
    go_enter Try.func47, Try.ntmps47
    go_wp2_with (first | (go_at_call 46; refine (pfull_any qb l qc qp qm p k _ (by first | assumption | (simp; omega)) (by first | assumption | (refine (World.cell?_alloc_past _ _ _ (by first | assumption | (simp; omega))).trans ?_; assumption)) (by first | assumption | (refine (World.cell?_alloc_past _ _ _ (by first | assumption | (simp; omega))).trans ?_; assumption)) (by first | assumption | (refine (World.cell?_alloc_past _ _ _ (by first | assumption | (simp; omega))).trans ?_; assumption)) (by first | assumption | (refine (World.cell?_alloc_past _ _ _ (by first | assumption | (simp; omega))).trans ?_; assumption))).mono ?_; rintro e wx ⟨rfl, hgx⟩; obtain ⟨hcx, hfx⟩ := bcell hgx))
    all_goals (go_ret; exact ⟨ret_bool (by first | rfl | (simp only [*, Bool.true_and, Bool.and_true, Bool.false_and, Bool.and_false, Bool.true_or, Bool.false_or, Bool.or_true, Bool.or_false]; done) | (simp [*]; done)), by repeat' (first | (with_reducible exact Below.refl _ _) | (with_reducible assumption) | (with_reducible refine kept_alloc ?_ _) | (with_reducible refine kept_drewN ?_ _) | (with_reducible refine Below.drew ?_) | (with_reducible refine Below.setCell ?_ (by first | omega | (simp; omega) | (simp; done)) _) | (refine kept_trans ?_ (by with_reducible assumption)))⟩)

set_option maxHeartbeats 1000000 in
theorem pblocks_any (qb : Nat) (l : List Int) (qc qp qm : Int) (p : Option Addr) (k : Nat) (w : World) (hz : qb < w.heap.size) (c0 : w.cell? ⟨qb, 0, none⟩ = some (.slice p l.length k)) (c1 : w.cell? ⟨qb, 1, none⟩ = some (.int .i64 qc)) (c2 : w.cell? ⟨qb, 2, none⟩ = some (.int .i64 qp)) (c3 : w.cell? ⟨qb, 3, none⟩ = some (.int .i64 qm)) (th ki va re go : Int) : Calls Try.prog 35 #[.pointer (some ⟨qb, 0, none⟩), .agg #[.int .i64 th, .int .i64 ki, .int .i64 va, .int .i64 re, .int .i64 go]] w fun e w' => e = .returned (.bool (decide (qm = 0) && decide (qc ≤ (l.length : Int)) && decide (qp = 0) && decide (ki = 2))) ∧ Kept w w' := by
  have b2 : decide (ki = 2) = (ki == 2) := rfl
  cases b0 : (ki == 2)
  all_goals
    go_enter Try.func35, Try.ntmps35
    go_wp2_with (first | (go_at_call 47; refine (pturns_any qb l qc qp qm p k _ (by first | assumption | (simp; omega)) (by first | assumption | (refine (World.cell?_alloc_past _ _ _ (by first | assumption | (simp; omega))).trans ?_; assumption)) (by first | assumption | (refine (World.cell?_alloc_past _ _ _ (by first | assumption | (simp; omega))).trans ?_; assumption)) (by first | assumption | (refine (World.cell?_alloc_past _ _ _ (by first | assumption | (simp; omega))).trans ?_; assumption)) (by first | assumption | (refine (World.cell?_alloc_past _ _ _ (by first | assumption | (simp; omega))).trans ?_; assumption)) _).mono ?_; rintro e wx ⟨rfl, hgx⟩; obtain ⟨hcx, hfx⟩ := bcell hgx; have hz0 : w.heap.size < wx.heap.size := (by have := hgx.size; (try simp at this); omega)))
    all_goals (go_ret; exact ⟨ret_bool (by first | rfl | (simp only [*, Bool.true_and, Bool.and_true, Bool.false_and, Bool.and_false, Bool.true_or, Bool.false_or, Bool.or_true, Bool.or_false]; done) | (simp [*]; done)), by repeat' (first | (with_reducible exact Below.refl _ _) | (with_reducible assumption) | (with_reducible refine kept_alloc ?_ _) | (with_reducible refine kept_drewN ?_ _) | (with_reducible refine Below.drew ?_) | (with_reducible refine Below.setCell ?_ (by first | omega | (simp; omega) | (simp; done)) _) | (refine kept_trans ?_ (by with_reducible assumption)))⟩)
set_option maxHeartbeats 1000000 in
theorem pdrops_any (qb : Nat) (l : List Int) (qc qp qm : Int) (p : Option Addr) (k : Nat) (w : World) (hz : qb < w.heap.size) (c0 : w.cell? ⟨qb, 0, none⟩ = some (.slice p l.length k)) (c1 : w.cell? ⟨qb, 1, none⟩ = some (.int .i64 qc)) (c2 : w.cell? ⟨qb, 2, none⟩ = some (.int .i64 qp)) (c3 : w.cell? ⟨qb, 3, none⟩ = some (.int .i64 qm)) (th ki va re go : Int) : Calls Try.prog 36 #[.pointer (some ⟨qb, 0, none⟩), .agg #[.int .i64 th, .int .i64 ki, .int .i64 va, .int .i64 re, .int .i64 go]] w fun e w' => e = .returned (.bool (decide (qm = 0) && decide (qc ≤ (l.length : Int)) && decide (qp = 1))) ∧ Kept w w' := by
  go_enter Try.func36, Try.ntmps36
  go_wp2_with (first | (go_at_call 47; refine (pturns_any qb l qc qp qm p k _ (by first | assumption | (simp; omega)) (by first | assumption | (refine (World.cell?_alloc_past _ _ _ (by first | assumption | (simp; omega))).trans ?_; assumption)) (by first | assumption | (refine (World.cell?_alloc_past _ _ _ (by first | assumption | (simp; omega))).trans ?_; assumption)) (by first | assumption | (refine (World.cell?_alloc_past _ _ _ (by first | assumption | (simp; omega))).trans ?_; assumption)) (by first | assumption | (refine (World.cell?_alloc_past _ _ _ (by first | assumption | (simp; omega))).trans ?_; assumption)) _).mono ?_; rintro e wx ⟨rfl, hgx⟩; obtain ⟨hcx, hfx⟩ := bcell hgx; have hz0 : w.heap.size < wx.heap.size := (by have := hgx.size; (try simp at this); omega)))
  all_goals (go_ret; exact ⟨rfl, by repeat' (first | (with_reducible exact Below.refl _ _) | (with_reducible assumption) | (with_reducible refine kept_alloc ?_ _) | (with_reducible refine kept_drewN ?_ _) | (with_reducible refine Below.drew ?_) | (with_reducible refine Below.setCell ?_ (by first | omega | (simp; omega) | (simp; done)) _) | (refine kept_trans ?_ (by with_reducible assumption)))⟩)
set_option maxHeartbeats 1000000 in
theorem plate_any (qb : Nat) (w : World) (th ki va re go : Int) : Calls Try.prog 37 #[.pointer (some ⟨qb, 0, none⟩), .agg #[.int .i64 th, .int .i64 ki, .int .i64 va, .int .i64 re, .int .i64 go]] w fun e w' => e = .returned (.bool (or (decide (ki = 3)) (decide (ki = 6)))) ∧ Kept w w' := by
  have b2 : decide (ki = 3) = (ki == 3) := rfl
  have b3 : decide (ki = 6) = (ki == 6) := rfl
  cases b0 : (ki == 3)
  all_goals
    go_enter Try.func37, Try.ntmps37
    go_wp2
    all_goals (go_ret; exact ⟨ret_bool (by first | rfl | (simp only [*, Bool.true_and, Bool.and_true, Bool.false_and, Bool.and_false, Bool.true_or, Bool.false_or, Bool.or_true, Bool.or_false]; done) | (simp [*]; done)), by repeat' (first | (with_reducible exact Below.refl _ _) | (with_reducible assumption) | (with_reducible refine kept_alloc ?_ _) | (with_reducible refine kept_drewN ?_ _) | (with_reducible refine Below.drew ?_) | (with_reducible refine Below.setCell ?_ (by first | omega | (simp; omega) | (simp; done)) _) | (refine kept_trans ?_ (by with_reducible assumption)))⟩)
set_option maxHeartbeats 1000000 in
theorem pdrains_any (qb : Nat) (l : List Int) (qc qp qm : Int) (p : Option Addr) (k : Nat) (w : World) (hz : qb < w.heap.size) (c0 : w.cell? ⟨qb, 0, none⟩ = some (.slice p l.length k)) (c1 : w.cell? ⟨qb, 1, none⟩ = some (.int .i64 qc)) (c2 : w.cell? ⟨qb, 2, none⟩ = some (.int .i64 qp)) (c3 : w.cell? ⟨qb, 3, none⟩ = some (.int .i64 qm)) (th ki va re go : Int) : Calls Try.prog 38 #[.pointer (some ⟨qb, 0, none⟩), .agg #[.int .i64 th, .int .i64 ki, .int .i64 va, .int .i64 re, .int .i64 go]] w fun e w' => e = .returned (.bool (decide (qm = 1))) ∧ Kept w w' := by
  go_enter Try.func38, Try.ntmps38
  go_wp2
  all_goals (go_ret; exact ⟨ret_bool (by first | rfl | (simp only [*, Bool.true_and, Bool.and_true, Bool.false_and, Bool.and_false, Bool.true_or, Bool.false_or, Bool.or_true, Bool.or_false]; done) | (simp [*]; done)), by repeat' (first | (with_reducible exact Below.refl _ _) | (with_reducible assumption) | (with_reducible refine kept_alloc ?_ _) | (with_reducible refine kept_drewN ?_ _) | (with_reducible refine Below.drew ?_) | (with_reducible refine Below.setCell ?_ (by first | omega | (simp; omega) | (simp; done)) _) | (refine kept_trans ?_ (by with_reducible assumption)))⟩)
set_option maxHeartbeats 1000000 in
theorem phalts_any (qb : Nat) (l : List Int) (qc qp qm : Int) (p : Option Addr) (k : Nat) (w : World) (hz : qb < w.heap.size) (c0 : w.cell? ⟨qb, 0, none⟩ = some (.slice p l.length k)) (c1 : w.cell? ⟨qb, 1, none⟩ = some (.int .i64 qc)) (c2 : w.cell? ⟨qb, 2, none⟩ = some (.int .i64 qp)) (c3 : w.cell? ⟨qb, 3, none⟩ = some (.int .i64 qm)) (th ki va re go : Int) : Calls Try.prog 39 #[.pointer (some ⟨qb, 0, none⟩), .agg #[.int .i64 th, .int .i64 ki, .int .i64 va, .int .i64 re, .int .i64 go]] w fun e w' => e = .returned (.bool (decide (qm = 2))) ∧ Kept w w' := by
  go_enter Try.func39, Try.ntmps39
  go_wp2
  all_goals (go_ret; exact ⟨ret_bool (by first | rfl | (simp only [*, Bool.true_and, Bool.and_true, Bool.false_and, Bool.and_false, Bool.true_or, Bool.false_or, Bool.or_true, Bool.or_false]; done) | (simp [*]; done)), by repeat' (first | (with_reducible exact Below.refl _ _) | (with_reducible assumption) | (with_reducible refine kept_alloc ?_ _) | (with_reducible refine kept_drewN ?_ _) | (with_reducible refine Below.drew ?_) | (with_reducible refine Below.setCell ?_ (by first | omega | (simp; omega) | (simp; done)) _) | (refine kept_trans ?_ (by with_reducible assumption)))⟩)
set_option maxHeartbeats 1000000 in
theorem placks_any (qb : Nat) (l : List Int) (qc qp qm : Int) (p : Option Addr) (k : Nat) (w : World) (hz : qb < w.heap.size) (c0 : w.cell? ⟨qb, 0, none⟩ = some (.slice p l.length k)) (c1 : w.cell? ⟨qb, 1, none⟩ = some (.int .i64 qc)) (c2 : w.cell? ⟨qb, 2, none⟩ = some (.int .i64 qp)) (c3 : w.cell? ⟨qb, 3, none⟩ = some (.int .i64 qm)) (th ki va re go : Int) : Calls Try.prog 41 #[.pointer (some ⟨qb, 0, none⟩), .agg #[.int .i64 th, .int .i64 ki, .int .i64 va, .int .i64 re, .int .i64 go]] w fun e w' => e = .returned (.bool (decide (qm = 0) && decide (l.length = 0) && decide (ki = 5))) ∧ Kept w w' := by
  have b2 : decide (ki = 5) = (ki == 5) := rfl
  have b3 : decide (qm = 0) = (qm == 0) := rfl
  have b4 : decide (l.length = 0) = ((l.length : Int) == 0) := by rw [Bool.eq_iff_iff]; simp
  cases b0 : (ki == 5) <;> cases b1 : (qm == 0)
  all_goals
    go_enter Try.func41, Try.ntmps41
    go_wp2
    all_goals (go_ret; exact ⟨ret_bool (by first | rfl | (simp only [*, Bool.true_and, Bool.and_true, Bool.false_and, Bool.and_false, Bool.true_or, Bool.false_or, Bool.or_true, Bool.or_false]; done) | (simp [*]; done)), by repeat' (first | (with_reducible exact Below.refl _ _) | (with_reducible assumption) | (with_reducible refine kept_alloc ?_ _) | (with_reducible refine kept_drewN ?_ _) | (with_reducible refine Below.drew ?_) | (with_reducible refine Below.setCell ?_ (by first | omega | (simp; omega) | (simp; done)) _) | (refine kept_trans ?_ (by with_reducible assumption)))⟩)
set_option maxHeartbeats 1000000 in
theorem pdrained_any (qb : Nat) (l : List Int) (qc qp qm : Int) (p : Option Addr) (k : Nat) (w : World) (hz : qb < w.heap.size) (c0 : w.cell? ⟨qb, 0, none⟩ = some (.slice p l.length k)) (c1 : w.cell? ⟨qb, 1, none⟩ = some (.int .i64 qc)) (c2 : w.cell? ⟨qb, 2, none⟩ = some (.int .i64 qp)) (c3 : w.cell? ⟨qb, 3, none⟩ = some (.int .i64 qm)) (th ki va re go : Int) : Calls Try.prog 42 #[.pointer (some ⟨qb, 0, none⟩), .agg #[.int .i64 th, .int .i64 ki, .int .i64 va, .int .i64 re, .int .i64 go]] w fun e w' => e = .returned (.bool (decide (qm = 1) && decide (l.length = 0))) ∧ Kept w w' := by
  have b3 : decide (qm = 1) = (qm == 1) := rfl
  have b4 : decide (l.length = 0) = ((l.length : Int) == 0) := by rw [Bool.eq_iff_iff]; simp
  cases b1 : (qm == 1)
  all_goals
    go_enter Try.func42, Try.ntmps42
    go_wp2
    all_goals (go_ret; exact ⟨ret_bool (by first | rfl | (simp only [*, Bool.true_and, Bool.and_true, Bool.false_and, Bool.and_false, Bool.true_or, Bool.false_or, Bool.or_true, Bool.or_false]; done) | (simp [*]; done)), by repeat' (first | (with_reducible exact Below.refl _ _) | (with_reducible assumption) | (with_reducible refine kept_alloc ?_ _) | (with_reducible refine kept_drewN ?_ _) | (with_reducible refine Below.drew ?_) | (with_reducible refine Below.setCell ?_ (by first | omega | (simp; omega) | (simp; done)) _) | (refine kept_trans ?_ (by with_reducible assumption)))⟩)
end Go.Proofs.Ythlgijmpkpmibaa
