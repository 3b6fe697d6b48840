/- Layer 12: what begins on a thread: the program's, and the document's. -/
import Derived.Test.YtacfgjjahnobjaaThE
namespace Go.Proofs.Ytacfgjjahnobjaa
set_option linter.unusedVariables false
set_option linter.unusedSimpArgs false
open Go.ChangeShapes Go.WideShapes Go.ChangeAt Go.RowKit
set_option maxHeartbeats 2000000 in
theorem tbeg_val {st ki va un pc re se tr rs go k v u S K V U P R Q T X G E : Int} {la L : Bool} (h : thBeg ⟨st, ki, va, un, pc, re, se, tr, la, rs, go⟩ k v u E ⟨S, K, V, U, P, R, Q, T, L, X, G⟩) (w : World) : Calls Try.prog 10 #[.agg #[.int .i64 st, .int .i64 ki, .int .i64 va, .int .i64 un, .int .i64 pc, .int .i64 re, .int .i64 se, .int .i64 tr, .bool la, .int .i64 rs, .int .i64 go], .int .i64 k, .int .i64 v, .int .i64 u] w fun e w' => e = .returned (.tuple #[.agg #[.int .i64 S, .int .i64 K, .int .i64 V, .int .i64 U, .int .i64 P, .int .i64 R, .int .i64 Q, .int .i64 T, .bool L, .int .i64 X, .int .i64 G], .int .i64 E]) ∧ Kept w w' := by
  rcases h with ⟨h0, rfl, hr⟩ | ⟨h0, h1, rfl, hr⟩ | ⟨h0, h1, h2, rfl, hr⟩ | ⟨h0, h1, h2, h3, rfl, hr⟩ | ⟨h0, h1, h2, h3, rfl, hr⟩
  · cases hr
    go_enter Try.func10, Try.ntmps10
    go_wp2_with fail; refine (tidle_x (b := false) (by simpa using h0) _).mono ?_; rintro e w1 ⟨rfl, rfl⟩
    clear h0
    go_wp2
    all_goals (refine bodyPost_ret (v := (.tuple #[.agg #[.int .i64 (st), .int .i64 ki, .int .i64 va, .int .i64 un, .int .i64 pc, .int .i64 re, .int .i64 se, .int .i64 tr, .bool la, .int .i64 rs, .int .i64 go], .int .i64 120])) (by simp [results, Try.results10, go_sem, *]) rfl ?_; exact ⟨rfl, by repeat' (first | (with_reducible exact Below.refl _ _) | (with_reducible assumption) | (with_reducible refine kept_alloc ?_ _) | (with_reducible refine kept_drewN ?_ _) | (with_reducible refine Below.drew ?_) | (with_reducible refine Below.setCell ?_ (by first | omega | (simp; omega) | (simp; done)) _) | (refine kept_trans ?_ (by with_reducible assumption)))⟩)
  · cases hr
    obtain rfl : st = 0 := h0
    go_enter Try.func10, Try.ntmps10
    go_wp2_with fail; refine (tidle_x (b := true) (by decide) _).mono ?_; rintro e w1 ⟨rfl, rfl⟩
    go_wp2_with (first | (go_at_call 25; refine (ocheck_x _ _).mono ?_; rintro e wx ⟨rfl, rfl⟩) | (go_at_call 26; refine (otimed_x _ _).mono ?_; rintro e wx ⟨rfl, rfl⟩) | (go_at_call 27; refine (twithin_x _ _ _ _).mono ?_; rintro e wx ⟨rfl, rfl⟩) | (go_at_call 28; refine (rotimed_x _ _).mono ?_; rintro e wx ⟨rfl, rfl⟩))
    all_goals (refine bodyPost_ret (v := (.tuple #[.agg #[.int .i64 (0), .int .i64 ki, .int .i64 va, .int .i64 un, .int .i64 pc, .int .i64 re, .int .i64 se, .int .i64 tr, .bool la, .int .i64 rs, .int .i64 go], .int .i64 190])) (by simp [results, Try.results10, go_sem, *]) rfl ?_; exact ⟨rfl, by repeat' (first | (with_reducible exact Below.refl _ _) | (with_reducible assumption) | (with_reducible refine kept_alloc ?_ _) | (with_reducible refine kept_drewN ?_ _) | (with_reducible refine Below.drew ?_) | (with_reducible refine Below.setCell ?_ (by first | omega | (simp; omega) | (simp; done)) _) | (refine kept_trans ?_ (by with_reducible assumption)))⟩)
  · cases hr
    obtain rfl : st = 0 := h0
    go_enter Try.func10, Try.ntmps10
    go_wp2_with fail; refine (tidle_x (b := true) (by decide) _).mono ?_; rintro e w1 ⟨rfl, rfl⟩
    go_wp2_with (first | (go_at_call 25; refine (ocheck_x _ _).mono ?_; rintro e wx ⟨rfl, rfl⟩) | (go_at_call 26; refine (otimed_x _ _).mono ?_; rintro e wx ⟨rfl, rfl⟩) | (go_at_call 27; refine (twithin_x _ _ _ _).mono ?_; rintro e wx ⟨rfl, rfl⟩) | (go_at_call 28; refine (rotimed_x _ _).mono ?_; rintro e wx ⟨rfl, rfl⟩))
    all_goals (refine bodyPost_ret (v := (.tuple #[(.agg #[.int .i64 1, .int .i64 k, .int .i64 v, .int .i64 0, .int .i64 0, .int .i64 0, .int .i64 0, .int .i64 0, .bool false, .int .i64 0, .int .i64 0]), .int .i64 0])) (by simp [results, Try.results10, go_sem, *]) rfl ?_; exact ⟨rfl, by repeat' (first | (with_reducible exact Below.refl _ _) | (with_reducible assumption) | (with_reducible refine kept_alloc ?_ _) | (with_reducible refine kept_drewN ?_ _) | (with_reducible refine Below.drew ?_) | (with_reducible refine Below.setCell ?_ (by first | omega | (simp; omega) | (simp; done)) _) | (refine kept_trans ?_ (by with_reducible assumption)))⟩)
  · cases hr
    obtain rfl : st = 0 := h0
    have h4 : thIn u 0 1099511627776 = false := by rw [← Bool.not_eq_true]; simp only [thIn, Bool.and_eq_true, decide_eq_true_eq]; exact h3
    clear h3
    go_enter Try.func10, Try.ntmps10
    go_wp2_with fail; refine (tidle_x (b := true) (by decide) _).mono ?_; rintro e w1 ⟨rfl, rfl⟩
    go_wp2_with (first | (go_at_call 25; refine (ocheck_x _ _).mono ?_; rintro e wx ⟨rfl, rfl⟩) | (go_at_call 26; refine (otimed_x _ _).mono ?_; rintro e wx ⟨rfl, rfl⟩) | (go_at_call 27; refine (twithin_x _ _ _ _).mono ?_; rintro e wx ⟨rfl, rfl⟩) | (go_at_call 28; refine (rotimed_x _ _).mono ?_; rintro e wx ⟨rfl, rfl⟩))
    all_goals (refine bodyPost_ret (v := (.tuple #[.agg #[.int .i64 (0), .int .i64 ki, .int .i64 va, .int .i64 un, .int .i64 pc, .int .i64 re, .int .i64 se, .int .i64 tr, .bool la, .int .i64 rs, .int .i64 go], .int .i64 50])) (by simp [results, Try.results10, go_sem, *]) rfl ?_; exact ⟨rfl, by repeat' (first | (with_reducible exact Below.refl _ _) | (with_reducible assumption) | (with_reducible refine kept_alloc ?_ _) | (with_reducible refine kept_drewN ?_ _) | (with_reducible refine Below.drew ?_) | (with_reducible refine Below.setCell ?_ (by first | omega | (simp; omega) | (simp; done)) _) | (refine kept_trans ?_ (by with_reducible assumption)))⟩)
  · cases hr
    obtain rfl : st = 0 := h0
    have h4 : thIn u 0 1099511627776 = true := by simp only [thIn, Bool.and_eq_true, decide_eq_true_eq]; exact h3
    clear h3
    go_enter Try.func10, Try.ntmps10
    go_wp2_with fail; refine (tidle_x (b := true) (by decide) _).mono ?_; rintro e w1 ⟨rfl, rfl⟩
    go_wp2_with (first | (go_at_call 25; refine (ocheck_x _ _).mono ?_; rintro e wx ⟨rfl, rfl⟩) | (go_at_call 26; refine (otimed_x _ _).mono ?_; rintro e wx ⟨rfl, rfl⟩) | (go_at_call 27; refine (twithin_x _ _ _ _).mono ?_; rintro e wx ⟨rfl, rfl⟩) | (go_at_call 28; refine (rotimed_x _ _).mono ?_; rintro e wx ⟨rfl, rfl⟩))
    all_goals (refine bodyPost_ret (v := (.tuple #[(.agg #[.int .i64 1, .int .i64 k, .int .i64 v, .int .i64 u, .int .i64 0, .int .i64 0, .int .i64 0, .int .i64 0, .bool false, .int .i64 0, .int .i64 0]), .int .i64 0])) (by simp [results, Try.results10, go_sem, *]) rfl ?_; exact ⟨rfl, by repeat' (first | (with_reducible exact Below.refl _ _) | (with_reducible assumption) | (with_reducible refine kept_alloc ?_ _) | (with_reducible refine kept_drewN ?_ _) | (with_reducible refine Below.drew ?_) | (with_reducible refine Below.setCell ?_ (by first | omega | (simp; omega) | (simp; done)) _) | (refine kept_trans ?_ (by with_reducible assumption)))⟩)
set_option maxHeartbeats 2000000 in
theorem rtbeg_val {st ki va un pc re se tr rs go k v u S K V U P R Q T X G E : Int} {la L : Bool} (h : thBeg ⟨st, ki, va, un, pc, re, se, tr, la, rs, go⟩ k v u E ⟨S, K, V, U, P, R, Q, T, L, X, G⟩) (w : World) : Calls Try.prog 11 #[.agg #[.int .i64 st, .int .i64 ki, .int .i64 va, .int .i64 un, .int .i64 pc, .int .i64 re, .int .i64 se, .int .i64 tr, .bool la, .int .i64 rs, .int .i64 go], .int .i64 k, .int .i64 v, .int .i64 u] w fun e w' => e = .returned (.tuple #[.agg #[.int .i64 S, .int .i64 K, .int .i64 V, .int .i64 U, .int .i64 P, .int .i64 R, .int .i64 Q, .int .i64 T, .bool L, .int .i64 X, .int .i64 G], .int .i64 E]) ∧ Kept w w' := by
  rcases h with ⟨h0, rfl, hr⟩ | ⟨h0, h1, rfl, hr⟩ | ⟨h0, h1, h2, rfl, hr⟩ | ⟨h0, h1, h2, h3, rfl, hr⟩ | ⟨h0, h1, h2, h3, rfl, hr⟩
  · cases hr
    have k1 : (st != 0) = true := by simpa using h0
    clear h0
    go_enter Try.func11, Try.ntmps11
    go_wp2
    all_goals (refine bodyPost_ret (v := (.tuple #[.agg #[.int .i64 (st), .int .i64 ki, .int .i64 va, .int .i64 un, .int .i64 pc, .int .i64 re, .int .i64 se, .int .i64 tr, .bool la, .int .i64 rs, .int .i64 go], .int .i64 120])) (by simp [results, Try.results11, go_sem, *]) rfl ?_; exact ⟨rfl, by repeat' (first | (with_reducible exact Below.refl _ _) | (with_reducible assumption) | (with_reducible refine kept_alloc ?_ _) | (with_reducible refine kept_drewN ?_ _) | (with_reducible refine Below.drew ?_) | (with_reducible refine Below.setCell ?_ (by first | omega | (simp; omega) | (simp; done)) _) | (refine kept_trans ?_ (by with_reducible assumption)))⟩)
  · cases hr
    obtain rfl : st = 0 := h0
    cases k1 : decide (k < 1)
    · have k2 : decide (8 < k) = true := by have h := mt opB_iff.2 (by rw [h1]; decide); simp at k1 ⊢; omega
      clear h1
      go_enter Try.func11, Try.ntmps11
      go_wp2
      all_goals (refine bodyPost_ret (v := (.tuple #[.agg #[.int .i64 (0), .int .i64 ki, .int .i64 va, .int .i64 un, .int .i64 pc, .int .i64 re, .int .i64 se, .int .i64 tr, .bool la, .int .i64 rs, .int .i64 go], .int .i64 190])) (by simp [results, Try.results11, go_sem, *]) rfl ?_; exact ⟨rfl, by repeat' (first | (with_reducible exact Below.refl _ _) | (with_reducible assumption) | (with_reducible refine kept_alloc ?_ _) | (with_reducible refine kept_drewN ?_ _) | (with_reducible refine Below.drew ?_) | (with_reducible refine Below.setCell ?_ (by first | omega | (simp; omega) | (simp; done)) _) | (refine kept_trans ?_ (by with_reducible assumption)))⟩)
    · clear h1
      go_enter Try.func11, Try.ntmps11
      go_wp2
      all_goals (refine bodyPost_ret (v := (.tuple #[.agg #[.int .i64 (0), .int .i64 ki, .int .i64 va, .int .i64 un, .int .i64 pc, .int .i64 re, .int .i64 se, .int .i64 tr, .bool la, .int .i64 rs, .int .i64 go], .int .i64 190])) (by simp [results, Try.results11, go_sem, *]) rfl ?_; exact ⟨rfl, by repeat' (first | (with_reducible exact Below.refl _ _) | (with_reducible assumption) | (with_reducible refine kept_alloc ?_ _) | (with_reducible refine kept_drewN ?_ _) | (with_reducible refine Below.drew ?_) | (with_reducible refine Below.setCell ?_ (by first | omega | (simp; omega) | (simp; done)) _) | (refine kept_trans ?_ (by with_reducible assumption)))⟩)
  · cases hr
    obtain rfl : st = 0 := h0
    have k1 : decide (k < 1) = false := by have := opB_iff.1 h1; simp; omega
    have k2 : decide (8 < k) = false := by have := opB_iff.1 h1; simp; omega
    clear h1
    go_enter Try.func11, Try.ntmps11
    go_wp2_with (first | (go_at_call 25; refine (ocheck_x _ _).mono ?_; rintro e wx ⟨rfl, rfl⟩) | (go_at_call 26; refine (otimed_x _ _).mono ?_; rintro e wx ⟨rfl, rfl⟩) | (go_at_call 27; refine (twithin_x _ _ _ _).mono ?_; rintro e wx ⟨rfl, rfl⟩) | (go_at_call 28; refine (rotimed_x _ _).mono ?_; rintro e wx ⟨rfl, rfl⟩))
    all_goals (refine bodyPost_ret (v := (.tuple #[(.agg #[.int .i64 1, .int .i64 k, .int .i64 v, .int .i64 0, .int .i64 0, .int .i64 0, .int .i64 0, .int .i64 0, .bool false, .int .i64 0, .int .i64 0]), .int .i64 0])) (by simp [results, Try.results11, go_sem, *]) rfl ?_; exact ⟨rfl, by repeat' (first | (with_reducible exact Below.refl _ _) | (with_reducible assumption) | (with_reducible refine kept_alloc ?_ _) | (with_reducible refine kept_drewN ?_ _) | (with_reducible refine Below.drew ?_) | (with_reducible refine Below.setCell ?_ (by first | omega | (simp; omega) | (simp; done)) _) | (refine kept_trans ?_ (by with_reducible assumption)))⟩)
  · cases hr
    obtain rfl : st = 0 := h0
    have k1 : decide (k < 1) = false := by have := opB_iff.1 h1; simp; omega
    have k2 : decide (8 < k) = false := by have := opB_iff.1 h1; simp; omega
    clear h1
    cases k3 : decide (u < 0)
    · have k4 : decide (1099511627776 < u) = true := by simp at k3 ⊢; omega
      clear h3
      go_enter Try.func11, Try.ntmps11
      go_wp2_with (first | (go_at_call 25; refine (ocheck_x _ _).mono ?_; rintro e wx ⟨rfl, rfl⟩) | (go_at_call 26; refine (otimed_x _ _).mono ?_; rintro e wx ⟨rfl, rfl⟩) | (go_at_call 27; refine (twithin_x _ _ _ _).mono ?_; rintro e wx ⟨rfl, rfl⟩) | (go_at_call 28; refine (rotimed_x _ _).mono ?_; rintro e wx ⟨rfl, rfl⟩))
      all_goals (refine bodyPost_ret (v := (.tuple #[.agg #[.int .i64 (0), .int .i64 ki, .int .i64 va, .int .i64 un, .int .i64 pc, .int .i64 re, .int .i64 se, .int .i64 tr, .bool la, .int .i64 rs, .int .i64 go], .int .i64 50])) (by simp [results, Try.results11, go_sem, *]) rfl ?_; exact ⟨rfl, by repeat' (first | (with_reducible exact Below.refl _ _) | (with_reducible assumption) | (with_reducible refine kept_alloc ?_ _) | (with_reducible refine kept_drewN ?_ _) | (with_reducible refine Below.drew ?_) | (with_reducible refine Below.setCell ?_ (by first | omega | (simp; omega) | (simp; done)) _) | (refine kept_trans ?_ (by with_reducible assumption)))⟩)
    · clear h3
      go_enter Try.func11, Try.ntmps11
      go_wp2_with (first | (go_at_call 25; refine (ocheck_x _ _).mono ?_; rintro e wx ⟨rfl, rfl⟩) | (go_at_call 26; refine (otimed_x _ _).mono ?_; rintro e wx ⟨rfl, rfl⟩) | (go_at_call 27; refine (twithin_x _ _ _ _).mono ?_; rintro e wx ⟨rfl, rfl⟩) | (go_at_call 28; refine (rotimed_x _ _).mono ?_; rintro e wx ⟨rfl, rfl⟩))
      all_goals (refine bodyPost_ret (v := (.tuple #[.agg #[.int .i64 (0), .int .i64 ki, .int .i64 va, .int .i64 un, .int .i64 pc, .int .i64 re, .int .i64 se, .int .i64 tr, .bool la, .int .i64 rs, .int .i64 go], .int .i64 50])) (by simp [results, Try.results11, go_sem, *]) rfl ?_; exact ⟨rfl, by repeat' (first | (with_reducible exact Below.refl _ _) | (with_reducible assumption) | (with_reducible refine kept_alloc ?_ _) | (with_reducible refine kept_drewN ?_ _) | (with_reducible refine Below.drew ?_) | (with_reducible refine Below.setCell ?_ (by first | omega | (simp; omega) | (simp; done)) _) | (refine kept_trans ?_ (by with_reducible assumption)))⟩)
  · cases hr
    obtain rfl : st = 0 := h0
    have k1 : decide (k < 1) = false := by have := opB_iff.1 h1; simp; omega
    have k2 : decide (8 < k) = false := by have := opB_iff.1 h1; simp; omega
    have k3 : decide (u < 0) = false := by simp; omega
    have k4 : decide (1099511627776 < u) = false := by simp; omega
    clear h1 h3
    go_enter Try.func11, Try.ntmps11
    go_wp2_with (first | (go_at_call 25; refine (ocheck_x _ _).mono ?_; rintro e wx ⟨rfl, rfl⟩) | (go_at_call 26; refine (otimed_x _ _).mono ?_; rintro e wx ⟨rfl, rfl⟩) | (go_at_call 27; refine (twithin_x _ _ _ _).mono ?_; rintro e wx ⟨rfl, rfl⟩) | (go_at_call 28; refine (rotimed_x _ _).mono ?_; rintro e wx ⟨rfl, rfl⟩))
    all_goals (refine bodyPost_ret (v := (.tuple #[(.agg #[.int .i64 1, .int .i64 k, .int .i64 v, .int .i64 u, .int .i64 0, .int .i64 0, .int .i64 0, .int .i64 0, .bool false, .int .i64 0, .int .i64 0]), .int .i64 0])) (by simp [results, Try.results11, go_sem, *]) rfl ?_; exact ⟨rfl, by repeat' (first | (with_reducible exact Below.refl _ _) | (with_reducible assumption) | (with_reducible refine kept_alloc ?_ _) | (with_reducible refine kept_drewN ?_ _) | (with_reducible refine Below.drew ?_) | (with_reducible refine Below.setCell ?_ (by first | omega | (simp; omega) | (simp; done)) _) | (refine kept_trans ?_ (by with_reducible assumption)))⟩)
end Go.Proofs.Ytacfgjjahnobjaa
