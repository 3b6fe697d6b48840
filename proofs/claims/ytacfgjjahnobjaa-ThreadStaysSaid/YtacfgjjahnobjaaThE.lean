/- Layer 12: a thread parked, woken, and done: the program's, and the document's. -/
import Derived.Test.YtacfgjjahnobjaaThD
namespace Go.Proofs.Ytacfgjjahnobjaa
set_option linter.unusedVariables false
set_option linter.unusedSimpArgs false
open Go.ChangeShapes Go.WideShapes Go.ChangeAt Go.RowKit

theorem truns_x {st ki va un pc re se tr rs go E : Int} {la : Bool} (e : thRuns st = E) (w : World) : Calls Try.prog 22 #[.agg #[.int .i64 st, .int .i64 ki, .int .i64 va, .int .i64 un, .int .i64 pc, .int .i64 re, .int .i64 se, .int .i64 tr, .bool la, .int .i64 rs, .int .i64 go]] w fun e w' => e = .returned (.int .i64 E) ∧ w' = w.alloc (.cells #[.int .i64 (st), .int .i64 ki, .int .i64 va, .int .i64 un, .int .i64 pc, .int .i64 re, .int .i64 se, .int .i64 tr, .bool la, .int .i64 rs, .int .i64 go] 23) := by
  subst e
  go_enter Try.func22, Try.ntmps22
  go_wp2
  all_goals (go_ret; exact ⟨ret_int (by simp_all [thRuns]), rfl⟩)
theorem rtruns_x {st ki va un pc re se tr rs go E : Int} {la : Bool} (e : thRuns st = E) (w : World) : Calls Try.prog 23 #[.agg #[.int .i64 st, .int .i64 ki, .int .i64 va, .int .i64 un, .int .i64 pc, .int .i64 re, .int .i64 se, .int .i64 tr, .bool la, .int .i64 rs, .int .i64 go]] w fun e w' => e = .returned (.int .i64 E) ∧ w' = w.alloc (.cells #[.int .i64 (st), .int .i64 ki, .int .i64 va, .int .i64 un, .int .i64 pc, .int .i64 re, .int .i64 se, .int .i64 tr, .bool la, .int .i64 rs, .int .i64 go] 23) := by
  subst e
  go_enter Try.func23, Try.ntmps23
  go_wp2
  all_goals (go_ret; exact ⟨ret_int (by simp_all [thRuns]), rfl⟩)
theorem tended_x {st ki va un pc re se tr rs go : Int} {la : Bool} (w : World) : Calls Try.prog 29 #[.agg #[.int .i64 st, .int .i64 ki, .int .i64 va, .int .i64 un, .int .i64 pc, .int .i64 re, .int .i64 se, .int .i64 tr, .bool la, .int .i64 rs, .int .i64 go]] w fun e w' => e = .returned (.agg #[.int .i64 0, .int .i64 ki, .int .i64 va, .int .i64 un, .int .i64 0, .int .i64 0, .int .i64 0, .int .i64 0, .bool false, .int .i64 rs, .int .i64 go]) ∧ w' = (w.alloc (.cells #[.int .i64 (st), .int .i64 ki, .int .i64 va, .int .i64 un, .int .i64 pc, .int .i64 re, .int .i64 se, .int .i64 tr, .bool la, .int .i64 rs, .int .i64 go] 40)).alloc (.cells #[.int .i64 0, .int .i64 ki, .int .i64 va, .int .i64 un, .int .i64 0, .int .i64 0, .int .i64 0, .int .i64 0, .bool false, .int .i64 rs, .int .i64 go] 23) := by
  go_enter Try.func29, Try.ntmps29
  go_wp2
  refine bodyPost_ret (v := .agg #[.int .i64 0, .int .i64 ki, .int .i64 va, .int .i64 un, .int .i64 0, .int .i64 0, .int .i64 0, .int .i64 0, .bool false, .int .i64 rs, .int .i64 go]) (by simp [results, Try.results29, go_sem, *]) rfl ?_
  exact ⟨rfl, rfl⟩
theorem tidle_x {st ki va un pc re se tr rs go : Int} {la b : Bool} (e : (st == 0) = b) (w : World) : Calls Try.prog 24 #[.agg #[.int .i64 st, .int .i64 ki, .int .i64 va, .int .i64 un, .int .i64 pc, .int .i64 re, .int .i64 se, .int .i64 tr, .bool la, .int .i64 rs, .int .i64 go]] w fun e w' => e = .returned (.bool b) ∧ w' = w.alloc (.cells #[.int .i64 (st), .int .i64 ki, .int .i64 va, .int .i64 un, .int .i64 pc, .int .i64 re, .int .i64 se, .int .i64 tr, .bool la, .int .i64 rs, .int .i64 go] 40) := by
  subst e
  go_enter Try.func24, Try.ntmps24
  go_wp2
  all_goals (go_ret; exact ⟨ret_bool (by first | rfl | simp), rfl⟩)
theorem twithin_x (n l h : Int) (w : World) : Calls Try.prog 27 #[.int .i64 n, .int .i64 l, .int .i64 h] w fun e w' => e = .returned (.bool (thIn n l h)) ∧ w' = w := by
  go_enter Try.func27, Try.ntmps27
  go_wp2
  all_goals (go_ret; exact ⟨ret_bool (by first | (rw [Bool.eq_iff_iff]; simp [thIn]; omega) | (simp [thIn, *]; done) | (simp [thIn, *]; omega)), rfl⟩)
theorem otimed_x (k : Int) (w : World) : Calls Try.prog 26 #[.int .i64 k] w fun e w' => e = .returned (.bool (opTimed k)) ∧ w' = w := by
  go_enter Try.func26, Try.ntmps26
  go_wp2
  all_goals (go_ret; exact ⟨ret_bool (by first | (rw [Bool.eq_iff_iff]; simp [opTimed]; omega) | (simp [opTimed, *]; done)), rfl⟩)
theorem rotimed_x (k : Int) (w : World) : Calls Try.prog 28 #[.int .i64 k] w fun e w' => e = .returned (.bool (opTimed k)) ∧ w' = w := by
  go_enter Try.func28, Try.ntmps28
  go_wp2
  all_goals (go_ret; exact ⟨ret_bool (by first | (rw [Bool.eq_iff_iff]; simp [opTimed]; omega) | (simp [opTimed, *]; done)), rfl⟩)
theorem oside_x (k : Int) (w : World) : Calls Try.prog 35 #[.int .i64 k] w fun e w' => e = .returned (.int .i64 (opSide k)) ∧ w' = w := by
  by_cases h : 1 ≤ k ∧ k ≤ 8
  · obtain rfl | rfl | rfl | rfl | rfl | rfl | rfl | rfl : k = 1 ∨ k = 2 ∨ k = 3 ∨ k = 4 ∨ k = 5 ∨ k = 6 ∨ k = 7 ∨ k = 8 := by omega
    all_goals
      go_enter Try.func35, Try.ntmps35
      go_wp2
      all_goals (go_ret; exact ⟨ret_int (by decide), rfl⟩)
  · (have e1 : (k == 1) = false := by simp; omega); (have e2 : (k == 2) = false := by simp; omega); (have e3 : (k == 3) = false := by simp; omega); (have e4 : (k == 4) = false := by simp; omega); (have e5 : (k == 5) = false := by simp; omega); (have e6 : (k == 6) = false := by simp; omega); (have e7 : (k == 7) = false := by simp; omega); (have e8 : (k == 8) = false := by simp; omega)
    have e0 : opSide k = 0 := by have := side_is k; omega
    go_enter Try.func35, Try.ntmps35
    go_wp2
    all_goals (go_ret; exact ⟨ret_int (by first | rfl | exact e0.symm), rfl⟩)
theorem ocheck_x (k : Int) (w : World) : Calls Try.prog 25 #[.int .i64 k] w fun e w' => e = .returned (.bool (opB k)) ∧ w' = w := by
  go_enter Try.func25, Try.ntmps25
  go_wp2_with (go_at_call 35; refine (oside_x _ _).mono ?_; rintro e wx ⟨rfl, rfl⟩)
  all_goals (go_ret; exact ⟨ret_bool (by rw [opB_side]; first | rfl | simp), rfl⟩)
theorem runs0 : thRuns 0 = 121 := by decide
theorem runs2 : thRuns 2 = 122 := by decide
theorem runs1 {st : Int} (h0 : st ≠ 0) (h2 : st ≠ 2) : thRuns st = 0 := by unfold thRuns; rw [if_neg h0, if_neg h2]

set_option maxHeartbeats 2000000 in
theorem tdone_val {st ki va un pc re se tr rs go S K V U P R Q T X G E : Int} {la L : Bool} (h : thDone ⟨st, ki, va, un, pc, re, se, tr, la, rs, go⟩ E ⟨S, K, V, U, P, R, Q, T, L, X, G⟩) (w : World) : Calls Try.prog 14 #[.agg #[.int .i64 st, .int .i64 ki, .int .i64 va, .int .i64 un, .int .i64 pc, .int .i64 re, .int .i64 se, .int .i64 tr, .bool la, .int .i64 rs, .int .i64 go]] w fun e w' => e = .returned (.tuple #[.agg #[.int .i64 S, .int .i64 K, .int .i64 V, .int .i64 U, .int .i64 P, .int .i64 R, .int .i64 Q, .int .i64 T, .bool L, .int .i64 X, .int .i64 G], .int .i64 E]) ∧ Kept w w' := by
  rcases h with ⟨h0, rfl, hr⟩ | ⟨h0, rfl, hr⟩ | ⟨h0, h2, rfl, hr⟩
  · cases hr
    obtain rfl : st = 0 := h0
    go_enter Try.func14, Try.ntmps14
    go_wp2_with fail; refine (truns_x runs0 _).mono ?_; rintro e w1 ⟨rfl, rfl⟩
    go_wp2
    all_goals (refine bodyPost_ret (v := (.tuple #[.agg #[.int .i64 (0), .int .i64 ki, .int .i64 va, .int .i64 un, .int .i64 pc, .int .i64 re, .int .i64 se, .int .i64 tr, .bool la, .int .i64 rs, .int .i64 go], .int .i64 121])) (by simp [results, Try.results14, go_sem, *]) rfl ?_; exact ⟨rfl, by repeat' (first | (with_reducible exact Below.refl _ _) | (with_reducible assumption) | (with_reducible refine kept_alloc ?_ _) | (with_reducible refine kept_drewN ?_ _) | (with_reducible refine Below.drew ?_) | (with_reducible refine Below.setCell ?_ (by first | omega | (simp; omega) | (simp; done)) _) | (refine kept_trans ?_ (by with_reducible assumption)))⟩)
  · cases hr
    obtain rfl : st = 2 := h0
    go_enter Try.func14, Try.ntmps14
    go_wp2_with fail; refine (truns_x runs2 _).mono ?_; rintro e w1 ⟨rfl, rfl⟩
    go_wp2
    all_goals (refine bodyPost_ret (v := (.tuple #[.agg #[.int .i64 (2), .int .i64 ki, .int .i64 va, .int .i64 un, .int .i64 pc, .int .i64 re, .int .i64 se, .int .i64 tr, .bool la, .int .i64 rs, .int .i64 go], .int .i64 122])) (by simp [results, Try.results14, go_sem, *]) rfl ?_; exact ⟨rfl, by repeat' (first | (with_reducible exact Below.refl _ _) | (with_reducible assumption) | (with_reducible refine kept_alloc ?_ _) | (with_reducible refine kept_drewN ?_ _) | (with_reducible refine Below.drew ?_) | (with_reducible refine Below.setCell ?_ (by first | omega | (simp; omega) | (simp; done)) _) | (refine kept_trans ?_ (by with_reducible assumption)))⟩)
  · cases hr
    go_enter Try.func14, Try.ntmps14
    go_wp2_with fail; refine (truns_x (runs1 h0 h2) _).mono ?_; rintro e w1 ⟨rfl, rfl⟩
    clear h0 h2
    go_wp2_with (go_at_call 29; refine (tended_x _).mono ?_; rintro e wx ⟨rfl, rfl⟩)
    all_goals (refine bodyPost_ret (v := (.tuple #[.agg #[.int .i64 0, .int .i64 ki, .int .i64 va, .int .i64 un, .int .i64 0, .int .i64 0, .int .i64 0, .int .i64 0, .bool false, .int .i64 rs, .int .i64 go], .int .i64 0])) (by simp [results, Try.results14, go_sem, *]) rfl ?_; exact ⟨rfl, by repeat' (first | (with_reducible exact Below.refl _ _) | (with_reducible assumption) | (with_reducible refine kept_alloc ?_ _) | (with_reducible refine kept_drewN ?_ _) | (with_reducible refine Below.drew ?_) | (with_reducible refine Below.setCell ?_ (by first | omega | (simp; omega) | (simp; done)) _) | (refine kept_trans ?_ (by with_reducible assumption)))⟩)
set_option maxHeartbeats 2000000 in
theorem rtdone_val {st ki va un pc re se tr rs go S K V U P R Q T X G E : Int} {la L : Bool} (h : thDone ⟨st, ki, va, un, pc, re, se, tr, la, rs, go⟩ E ⟨S, K, V, U, P, R, Q, T, L, X, G⟩) (w : World) : Calls Try.prog 15 #[.agg #[.int .i64 st, .int .i64 ki, .int .i64 va, .int .i64 un, .int .i64 pc, .int .i64 re, .int .i64 se, .int .i64 tr, .bool la, .int .i64 rs, .int .i64 go]] w fun e w' => e = .returned (.tuple #[.agg #[.int .i64 S, .int .i64 K, .int .i64 V, .int .i64 U, .int .i64 P, .int .i64 R, .int .i64 Q, .int .i64 T, .bool L, .int .i64 X, .int .i64 G], .int .i64 E]) ∧ Kept w w' := by
  rcases h with ⟨h0, rfl, hr⟩ | ⟨h0, rfl, hr⟩ | ⟨h0, h2, rfl, hr⟩
  · cases hr
    obtain rfl : st = 0 := h0
    go_enter Try.func15, Try.ntmps15
    go_wp2_with fail; refine (rtruns_x runs0 _).mono ?_; rintro e w1 ⟨rfl, rfl⟩
    go_wp2
    all_goals (refine bodyPost_ret (v := (.tuple #[.agg #[.int .i64 (0), .int .i64 ki, .int .i64 va, .int .i64 un, .int .i64 pc, .int .i64 re, .int .i64 se, .int .i64 tr, .bool la, .int .i64 rs, .int .i64 go], .int .i64 121])) (by simp [results, Try.results15, go_sem, *]) rfl ?_; exact ⟨rfl, by repeat' (first | (with_reducible exact Below.refl _ _) | (with_reducible assumption) | (with_reducible refine kept_alloc ?_ _) | (with_reducible refine kept_drewN ?_ _) | (with_reducible refine Below.drew ?_) | (with_reducible refine Below.setCell ?_ (by first | omega | (simp; omega) | (simp; done)) _) | (refine kept_trans ?_ (by with_reducible assumption)))⟩)
  · cases hr
    obtain rfl : st = 2 := h0
    go_enter Try.func15, Try.ntmps15
    go_wp2_with fail; refine (rtruns_x runs2 _).mono ?_; rintro e w1 ⟨rfl, rfl⟩
    go_wp2
    all_goals (refine bodyPost_ret (v := (.tuple #[.agg #[.int .i64 (2), .int .i64 ki, .int .i64 va, .int .i64 un, .int .i64 pc, .int .i64 re, .int .i64 se, .int .i64 tr, .bool la, .int .i64 rs, .int .i64 go], .int .i64 122])) (by simp [results, Try.results15, go_sem, *]) rfl ?_; exact ⟨rfl, by repeat' (first | (with_reducible exact Below.refl _ _) | (with_reducible assumption) | (with_reducible refine kept_alloc ?_ _) | (with_reducible refine kept_drewN ?_ _) | (with_reducible refine Below.drew ?_) | (with_reducible refine Below.setCell ?_ (by first | omega | (simp; omega) | (simp; done)) _) | (refine kept_trans ?_ (by with_reducible assumption)))⟩)
  · cases hr
    go_enter Try.func15, Try.ntmps15
    go_wp2_with fail; refine (rtruns_x (runs1 h0 h2) _).mono ?_; rintro e w1 ⟨rfl, rfl⟩
    clear h0 h2
    go_wp2
    all_goals (refine bodyPost_ret (v := (.tuple #[.agg #[.int .i64 0, .int .i64 ki, .int .i64 va, .int .i64 un, .int .i64 0, .int .i64 0, .int .i64 0, .int .i64 0, .bool false, .int .i64 rs, .int .i64 go], .int .i64 0])) (by simp [results, Try.results15, go_sem, *]) rfl ?_; exact ⟨rfl, by repeat' (first | (with_reducible exact Below.refl _ _) | (with_reducible assumption) | (with_reducible refine kept_alloc ?_ _) | (with_reducible refine kept_drewN ?_ _) | (with_reducible refine Below.drew ?_) | (with_reducible refine Below.setCell ?_ (by first | omega | (simp; omega) | (simp; done)) _) | (refine kept_trans ?_ (by with_reducible assumption)))⟩)
set_option maxHeartbeats 2000000 in
theorem tpark_val {st ki va un pc re se tr rs go S K V U P R Q T X G E p : Int} {la L : Bool} (h : thPark ⟨st, ki, va, un, pc, re, se, tr, la, rs, go⟩ p E ⟨S, K, V, U, P, R, Q, T, L, X, G⟩) (w : World) : Calls Try.prog 12 #[.agg #[.int .i64 st, .int .i64 ki, .int .i64 va, .int .i64 un, .int .i64 pc, .int .i64 re, .int .i64 se, .int .i64 tr, .bool la, .int .i64 rs, .int .i64 go], .int .i64 p] w fun e w' => e = .returned (.tuple #[.agg #[.int .i64 S, .int .i64 K, .int .i64 V, .int .i64 U, .int .i64 P, .int .i64 R, .int .i64 Q, .int .i64 T, .bool L, .int .i64 X, .int .i64 G], .int .i64 E]) ∧ Kept w w' := by
  rcases h with ⟨h0, rfl, hr⟩ | ⟨h0, rfl, hr⟩ | ⟨h0, h2, rfl, hr⟩
  · cases hr
    obtain rfl : st = 0 := h0
    go_enter Try.func12, Try.ntmps12
    go_wp2_with fail; refine (truns_x runs0 _).mono ?_; rintro e w1 ⟨rfl, rfl⟩
    go_wp2
    all_goals (refine bodyPost_ret (v := (.tuple #[.agg #[.int .i64 (0), .int .i64 ki, .int .i64 va, .int .i64 un, .int .i64 pc, .int .i64 re, .int .i64 se, .int .i64 tr, .bool la, .int .i64 rs, .int .i64 go], .int .i64 121])) (by simp [results, Try.results12, go_sem, *]) rfl ?_; exact ⟨rfl, by repeat' (first | (with_reducible exact Below.refl _ _) | (with_reducible assumption) | (with_reducible refine kept_alloc ?_ _) | (with_reducible refine kept_drewN ?_ _) | (with_reducible refine Below.drew ?_) | (with_reducible refine Below.setCell ?_ (by first | omega | (simp; omega) | (simp; done)) _) | (refine kept_trans ?_ (by with_reducible assumption)))⟩)
  · cases hr
    obtain rfl : st = 2 := h0
    go_enter Try.func12, Try.ntmps12
    go_wp2_with fail; refine (truns_x runs2 _).mono ?_; rintro e w1 ⟨rfl, rfl⟩
    go_wp2
    all_goals (refine bodyPost_ret (v := (.tuple #[.agg #[.int .i64 (2), .int .i64 ki, .int .i64 va, .int .i64 un, .int .i64 pc, .int .i64 re, .int .i64 se, .int .i64 tr, .bool la, .int .i64 rs, .int .i64 go], .int .i64 122])) (by simp [results, Try.results12, go_sem, *]) rfl ?_; exact ⟨rfl, by repeat' (first | (with_reducible exact Below.refl _ _) | (with_reducible assumption) | (with_reducible refine kept_alloc ?_ _) | (with_reducible refine kept_drewN ?_ _) | (with_reducible refine Below.drew ?_) | (with_reducible refine Below.setCell ?_ (by first | omega | (simp; omega) | (simp; done)) _) | (refine kept_trans ?_ (by with_reducible assumption)))⟩)
  · cases hr
    go_enter Try.func12, Try.ntmps12
    go_wp2_with fail; refine (truns_x (runs1 h0 h2) _).mono ?_; rintro e w1 ⟨rfl, rfl⟩
    clear h0 h2
    go_wp2
    all_goals (refine bodyPost_ret (v := (.tuple #[.agg #[.int .i64 2, .int .i64 ki, .int .i64 va, .int .i64 un, .int .i64 P, .int .i64 re, .int .i64 se, .int .i64 0, .bool la, .int .i64 rs, .int .i64 go], .int .i64 0])) (by simp [results, Try.results12, go_sem, *]) rfl ?_; exact ⟨rfl, by repeat' (first | (with_reducible exact Below.refl _ _) | (with_reducible assumption) | (with_reducible refine kept_alloc ?_ _) | (with_reducible refine kept_drewN ?_ _) | (with_reducible refine Below.drew ?_) | (with_reducible refine Below.setCell ?_ (by first | omega | (simp; omega) | (simp; done)) _) | (refine kept_trans ?_ (by with_reducible assumption)))⟩)
set_option maxHeartbeats 2000000 in
theorem rtpark_val {st ki va un pc re se tr rs go S K V U P R Q T X G E p : Int} {la L : Bool} (h : thPark ⟨st, ki, va, un, pc, re, se, tr, la, rs, go⟩ p E ⟨S, K, V, U, P, R, Q, T, L, X, G⟩) (w : World) : Calls Try.prog 13 #[.agg #[.int .i64 st, .int .i64 ki, .int .i64 va, .int .i64 un, .int .i64 pc, .int .i64 re, .int .i64 se, .int .i64 tr, .bool la, .int .i64 rs, .int .i64 go], .int .i64 p] w fun e w' => e = .returned (.tuple #[.agg #[.int .i64 S, .int .i64 K, .int .i64 V, .int .i64 U, .int .i64 P, .int .i64 R, .int .i64 Q, .int .i64 T, .bool L, .int .i64 X, .int .i64 G], .int .i64 E]) ∧ Kept w w' := by
  rcases h with ⟨h0, rfl, hr⟩ | ⟨h0, rfl, hr⟩ | ⟨h0, h2, rfl, hr⟩
  · cases hr
    obtain rfl : st = 0 := h0
    go_enter Try.func13, Try.ntmps13
    go_wp2_with fail; refine (rtruns_x runs0 _).mono ?_; rintro e w1 ⟨rfl, rfl⟩
    go_wp2
    all_goals (refine bodyPost_ret (v := (.tuple #[.agg #[.int .i64 (0), .int .i64 ki, .int .i64 va, .int .i64 un, .int .i64 pc, .int .i64 re, .int .i64 se, .int .i64 tr, .bool la, .int .i64 rs, .int .i64 go], .int .i64 121])) (by simp [results, Try.results13, go_sem, *]) rfl ?_; exact ⟨rfl, by repeat' (first | (with_reducible exact Below.refl _ _) | (with_reducible assumption) | (with_reducible refine kept_alloc ?_ _) | (with_reducible refine kept_drewN ?_ _) | (with_reducible refine Below.drew ?_) | (with_reducible refine Below.setCell ?_ (by first | omega | (simp; omega) | (simp; done)) _) | (refine kept_trans ?_ (by with_reducible assumption)))⟩)
  · cases hr
    obtain rfl : st = 2 := h0
    go_enter Try.func13, Try.ntmps13
    go_wp2_with fail; refine (rtruns_x runs2 _).mono ?_; rintro e w1 ⟨rfl, rfl⟩
    go_wp2
    all_goals (refine bodyPost_ret (v := (.tuple #[.agg #[.int .i64 (2), .int .i64 ki, .int .i64 va, .int .i64 un, .int .i64 pc, .int .i64 re, .int .i64 se, .int .i64 tr, .bool la, .int .i64 rs, .int .i64 go], .int .i64 122])) (by simp [results, Try.results13, go_sem, *]) rfl ?_; exact ⟨rfl, by repeat' (first | (with_reducible exact Below.refl _ _) | (with_reducible assumption) | (with_reducible refine kept_alloc ?_ _) | (with_reducible refine kept_drewN ?_ _) | (with_reducible refine Below.drew ?_) | (with_reducible refine Below.setCell ?_ (by first | omega | (simp; omega) | (simp; done)) _) | (refine kept_trans ?_ (by with_reducible assumption)))⟩)
  · cases hr
    go_enter Try.func13, Try.ntmps13
    go_wp2_with fail; refine (rtruns_x (runs1 h0 h2) _).mono ?_; rintro e w1 ⟨rfl, rfl⟩
    clear h0 h2
    go_wp2
    all_goals (refine bodyPost_ret (v := (.tuple #[.agg #[.int .i64 2, .int .i64 ki, .int .i64 va, .int .i64 un, .int .i64 P, .int .i64 re, .int .i64 se, .int .i64 0, .bool la, .int .i64 rs, .int .i64 go], .int .i64 0])) (by simp [results, Try.results13, go_sem, *]) rfl ?_; exact ⟨rfl, by repeat' (first | (with_reducible exact Below.refl _ _) | (with_reducible assumption) | (with_reducible refine kept_alloc ?_ _) | (with_reducible refine kept_drewN ?_ _) | (with_reducible refine Below.drew ?_) | (with_reducible refine Below.setCell ?_ (by first | omega | (simp; omega) | (simp; done)) _) | (refine kept_trans ?_ (by with_reducible assumption)))⟩)
set_option maxHeartbeats 2000000 in
theorem twake_val {st ki va un pc re se tr rs go S K V U P R Q T X G : Int} {la L : Bool} (h : thWake ⟨st, ki, va, un, pc, re, se, tr, la, rs, go⟩ ⟨S, K, V, U, P, R, Q, T, L, X, G⟩) (w : World) : Calls Try.prog 16 #[.agg #[.int .i64 st, .int .i64 ki, .int .i64 va, .int .i64 un, .int .i64 pc, .int .i64 re, .int .i64 se, .int .i64 tr, .bool la, .int .i64 rs, .int .i64 go]] w fun e w' => e = .returned (.agg #[.int .i64 S, .int .i64 K, .int .i64 V, .int .i64 U, .int .i64 P, .int .i64 R, .int .i64 Q, .int .i64 T, .bool L, .int .i64 X, .int .i64 G]) ∧ Kept w w' := by
  rcases h with ⟨h0, hr⟩ | ⟨h0, hr⟩
  · cases hr
    obtain rfl : st = 2 := h0
    go_enter Try.func16, Try.ntmps16
    go_wp2
    all_goals (refine bodyPost_ret (v := (.agg #[.int .i64 (1), .int .i64 ki, .int .i64 va, .int .i64 un, .int .i64 pc, .int .i64 re, .int .i64 se, .int .i64 tr, .bool la, .int .i64 rs, .int .i64 go])) (by simp [results, Try.results16, go_sem, *]) rfl ?_; exact ⟨rfl, by repeat' (first | (with_reducible exact Below.refl _ _) | (with_reducible assumption) | (with_reducible refine kept_alloc ?_ _) | (with_reducible refine kept_drewN ?_ _) | (with_reducible refine Below.drew ?_) | (with_reducible refine Below.setCell ?_ (by first | omega | (simp; omega) | (simp; done)) _) | (refine kept_trans ?_ (by with_reducible assumption)))⟩)
  · cases hr
    have k0 : (st == 2) = false := by simpa using h0
    have k1 : (st != 2) = true := by simpa using h0
    clear h0
    go_enter Try.func16, Try.ntmps16
    go_wp2
    all_goals (refine bodyPost_ret (v := (.agg #[.int .i64 (st), .int .i64 ki, .int .i64 va, .int .i64 un, .int .i64 pc, .int .i64 re, .int .i64 se, .int .i64 tr, .bool la, .int .i64 rs, .int .i64 go])) (by simp [results, Try.results16, go_sem, *]) rfl ?_; exact ⟨rfl, by repeat' (first | (with_reducible exact Below.refl _ _) | (with_reducible assumption) | (with_reducible refine kept_alloc ?_ _) | (with_reducible refine kept_drewN ?_ _) | (with_reducible refine Below.drew ?_) | (with_reducible refine Below.setCell ?_ (by first | omega | (simp; omega) | (simp; done)) _) | (refine kept_trans ?_ (by with_reducible assumption)))⟩)
set_option maxHeartbeats 2000000 in
theorem rtwake_val {st ki va un pc re se tr rs go S K V U P R Q T X G : Int} {la L : Bool} (h : thWake ⟨st, ki, va, un, pc, re, se, tr, la, rs, go⟩ ⟨S, K, V, U, P, R, Q, T, L, X, G⟩) (w : World) : Calls Try.prog 17 #[.agg #[.int .i64 st, .int .i64 ki, .int .i64 va, .int .i64 un, .int .i64 pc, .int .i64 re, .int .i64 se, .int .i64 tr, .bool la, .int .i64 rs, .int .i64 go]] w fun e w' => e = .returned (.agg #[.int .i64 S, .int .i64 K, .int .i64 V, .int .i64 U, .int .i64 P, .int .i64 R, .int .i64 Q, .int .i64 T, .bool L, .int .i64 X, .int .i64 G]) ∧ Kept w w' := by
  rcases h with ⟨h0, hr⟩ | ⟨h0, hr⟩
  · cases hr
    obtain rfl : st = 2 := h0
    go_enter Try.func17, Try.ntmps17
    go_wp2
    all_goals (refine bodyPost_ret (v := (.agg #[.int .i64 (1), .int .i64 ki, .int .i64 va, .int .i64 un, .int .i64 pc, .int .i64 re, .int .i64 se, .int .i64 tr, .bool la, .int .i64 rs, .int .i64 go])) (by simp [results, Try.results17, go_sem, *]) rfl ?_; exact ⟨rfl, by repeat' (first | (with_reducible exact Below.refl _ _) | (with_reducible assumption) | (with_reducible refine kept_alloc ?_ _) | (with_reducible refine kept_drewN ?_ _) | (with_reducible refine Below.drew ?_) | (with_reducible refine Below.setCell ?_ (by first | omega | (simp; omega) | (simp; done)) _) | (refine kept_trans ?_ (by with_reducible assumption)))⟩)
  · cases hr
    have k0 : (st == 2) = false := by simpa using h0
    have k1 : (st != 2) = true := by simpa using h0
    clear h0
    go_enter Try.func17, Try.ntmps17
    go_wp2
    all_goals (refine bodyPost_ret (v := (.agg #[.int .i64 (st), .int .i64 ki, .int .i64 va, .int .i64 un, .int .i64 pc, .int .i64 re, .int .i64 se, .int .i64 tr, .bool la, .int .i64 rs, .int .i64 go])) (by simp [results, Try.results17, go_sem, *]) rfl ?_; exact ⟨rfl, by repeat' (first | (with_reducible exact Below.refl _ _) | (with_reducible assumption) | (with_reducible refine kept_alloc ?_ _) | (with_reducible refine kept_drewN ?_ _) | (with_reducible refine Below.drew ?_) | (with_reducible refine Below.setCell ?_ (by first | omega | (simp; omega) | (simp; done)) _) | (refine kept_trans ?_ (by with_reducible assumption)))⟩)
end Go.Proofs.Ytacfgjjahnobjaa
