/- Texts merged: OwnQ, ThEQ, ThIQ, ThGQ, ThMQ, FabLQ, FabMQ, TailQ, FabNQ, FabOQ, FabPQ, EqsQ, SlotGQ, SlotHQ. -/
import Derived.Test.YtfllnpcoggmepaaGreatZb6
import Derived.Test.YtfllnpcoggmepaaGreatZb5
import Derived.BigRegion
import Derived.Deep.RegionLaw
import Derived.Test.YtfllnpcoggmepaaGreatZb1
import Derived.StillTail
import Derived.Test.YtfllnpcoggmepaaGreatZb3
import Derived.Laws.StructEq
/- STORES INTO A ROW OF THE CALL's OWN: a whole element, or one cell of it. -/
namespace Go.Proofs.YtfllnpcoggmepaaGreat
set_option linter.unusedVariables false
set_option linter.unusedSimpArgs false
open Go.ChangeShapes Go.WideShapes Go.ChangeAt Go.RowKit
section
variable {α : Type} {k : Nat} {enc : α → List Value}
/-- A row's block: what it holds. -/
theorem Ow.block {W : World} {base : Nat} {e : TypeId} {l : List α} {g n c : Nat} (h : Ow W base e k enc l (.slice (some ⟨g, 0, none⟩) n c)) : ∃ cur : Array Value, W.heap[g]? = some (.cells cur e (0, 0)) ∧ l.length = n ∧ n ≤ c ∧ c ≤ maxLen ∧ cur.size = c * k ∧ cur.toList.take (l.length * k) = l.flatMap enc := by
  obtain ⟨h0, ⟨h1, _⟩ | ⟨_, _, cur, h1, hb, hg, hl, hm, hs, ht⟩⟩ := h
  · cases h1
  cases h1
  exact ⟨cur, hg, rfl, hl, hm, hs, ht⟩
theorem Ow.pos {W : World} {base : Nat} {e : TypeId} {l : List α} {p : Option Addr} {n c : Nat} (h : Ow W base e k enc l (.slice p n c)) (hn : 0 < l.length) : ∃ g, p = some ⟨g, 0, none⟩ := by
  obtain ⟨_, ⟨h1, h2⟩ | ⟨g, _, _, h1, _⟩⟩ := h
  · omega
  · cases h1; exact ⟨g, rfl⟩
end
section
variable {P : Program} {ops : Array Oper} {rest : List Oper} {o : Oper} {a : Act} {w : World} {Q : Exit → Act → World → Prop}
end
end Go.Proofs.YtfllnpcoggmepaaGreat

/- Layer 12: a thread parked, woken, and done: the program's, and the document's. -/
namespace Go.Proofs.YtfllnpcoggmepaaGreat
set_option linter.unusedVariables false
set_option linter.unusedSimpArgs false
open Go.ChangeShapes Go.WideShapes Go.ChangeAt Go.RowKit

theorem truns_x {st ki va un pc re se tr rs go E : Int} {la : Bool} (e : thRuns st = E) (w : World) : Calls Tryz.prog 72 #[.agg #[.int .i64 st, .int .i64 ki, .int .i64 va, .int .i64 un, .int .i64 pc, .int .i64 re, .int .i64 se, .int .i64 tr, .bool la, .int .i64 rs, .int .i64 go]] w fun e w' => e = .returned (.int .i64 E) ∧ w' = w.alloc (.cells #[.int .i64 (st), .int .i64 ki, .int .i64 va, .int .i64 un, .int .i64 pc, .int .i64 re, .int .i64 se, .int .i64 tr, .bool la, .int .i64 rs, .int .i64 go] 44) := by
  subst e
  go_enter Tryz.func72, Tryz.ntmps72
  go_wp2
  all_goals (go_ret; exact ⟨ret_int (by simp_all [thRuns]), rfl⟩)
theorem tended_x {st ki va un pc re se tr rs go : Int} {la : Bool} (w : World) : Calls Tryz.prog 202 #[.agg #[.int .i64 st, .int .i64 ki, .int .i64 va, .int .i64 un, .int .i64 pc, .int .i64 re, .int .i64 se, .int .i64 tr, .bool la, .int .i64 rs, .int .i64 go]] w fun e w' => e = .returned (.agg #[.int .i64 0, .int .i64 ki, .int .i64 va, .int .i64 un, .int .i64 0, .int .i64 0, .int .i64 0, .int .i64 0, .bool false, .int .i64 rs, .int .i64 go]) ∧ w' = (w.alloc (.cells #[.int .i64 (st), .int .i64 ki, .int .i64 va, .int .i64 un, .int .i64 pc, .int .i64 re, .int .i64 se, .int .i64 tr, .bool la, .int .i64 rs, .int .i64 go] 141)).alloc (.cells #[.int .i64 0, .int .i64 ki, .int .i64 va, .int .i64 un, .int .i64 0, .int .i64 0, .int .i64 0, .int .i64 0, .bool false, .int .i64 rs, .int .i64 go] 44) := by
  go_enter Tryz.func202, Tryz.ntmps202
  go_wp2
  refine bodyPost_ret (v := .agg #[.int .i64 0, .int .i64 ki, .int .i64 va, .int .i64 un, .int .i64 0, .int .i64 0, .int .i64 0, .int .i64 0, .bool false, .int .i64 rs, .int .i64 go]) (by simp [results, Tryz.results202, go_sem, *]) rfl ?_
  exact ⟨rfl, rfl⟩
theorem tidle_x {st ki va un pc re se tr rs go : Int} {la b : Bool} (e : (st == 0) = b) (w : World) : Calls Tryz.prog 126 #[.agg #[.int .i64 st, .int .i64 ki, .int .i64 va, .int .i64 un, .int .i64 pc, .int .i64 re, .int .i64 se, .int .i64 tr, .bool la, .int .i64 rs, .int .i64 go]] w fun e w' => e = .returned (.bool b) ∧ w' = w.alloc (.cells #[.int .i64 (st), .int .i64 ki, .int .i64 va, .int .i64 un, .int .i64 pc, .int .i64 re, .int .i64 se, .int .i64 tr, .bool la, .int .i64 rs, .int .i64 go] 141) := by
  subst e
  go_enter Tryz.func126, Tryz.ntmps126
  go_wp2
  all_goals (go_ret; exact ⟨ret_bool (by first | rfl | simp), rfl⟩)
theorem twithin_x (n l h : Int) (w : World) : Calls Tryz.prog 128 #[.int .i64 n, .int .i64 l, .int .i64 h] w fun e w' => e = .returned (.bool (thIn n l h)) ∧ w' = w := by
  go_enter Tryz.func128, Tryz.ntmps128
  go_wp2
  all_goals (go_ret; exact ⟨ret_bool (by first | (rw [Bool.eq_iff_iff]; simp [thIn]; omega) | (simp [thIn, *]; done) | (simp [thIn, *]; omega)), rfl⟩)
theorem otimed_x (k : Int) (w : World) : Calls Tryz.prog 127 #[.int .i64 k] w fun e w' => e = .returned (.bool (opTimed k)) ∧ w' = w := by
  go_enter Tryz.func127, Tryz.ntmps127
  go_wp2
  all_goals (go_ret; exact ⟨ret_bool (by first | (rw [Bool.eq_iff_iff]; simp [opTimed]; omega) | (simp [opTimed, *]; done)), rfl⟩)
theorem oside_x (k : Int) (w : World) : Calls Tryz.prog 73 #[.int .i64 k] w fun e w' => e = .returned (.int .i64 (opSide k)) ∧ w' = w := by
  by_cases h : 1 ≤ k ∧ k ≤ 8
  · obtain rfl | rfl | rfl | rfl | rfl | rfl | rfl | rfl : k = 1 ∨ k = 2 ∨ k = 3 ∨ k = 4 ∨ k = 5 ∨ k = 6 ∨ k = 7 ∨ k = 8 := by omega
    all_goals
      go_enter Tryz.func73, Tryz.ntmps73
      go_wp2
      all_goals (go_ret; exact ⟨ret_int (by decide), rfl⟩)
  · (have e1 : (k == 1) = false := by simp; omega); (have e2 : (k == 2) = false := by simp; omega); (have e3 : (k == 3) = false := by simp; omega); (have e4 : (k == 4) = false := by simp; omega); (have e5 : (k == 5) = false := by simp; omega); (have e6 : (k == 6) = false := by simp; omega); (have e7 : (k == 7) = false := by simp; omega); (have e8 : (k == 8) = false := by simp; omega)
    have e0 : opSide k = 0 := by have := side_is k; omega
    go_enter Tryz.func73, Tryz.ntmps73
    go_wp2
    all_goals (go_ret; exact ⟨ret_int (by first | rfl | exact e0.symm), rfl⟩)
theorem ocheck_x (k : Int) (w : World) : Calls Tryz.prog 125 #[.int .i64 k] w fun e w' => e = .returned (.bool (opB k)) ∧ w' = w := by
  go_enter Tryz.func125, Tryz.ntmps125
  go_wp2_with (go_at_call 73; refine (oside_x _ _).mono ?_; rintro e wx ⟨rfl, rfl⟩)
  all_goals (go_ret; exact ⟨ret_bool (by rw [opB_side]; first | rfl | simp), rfl⟩)
theorem runs0 : thRuns 0 = 121 := by decide
theorem runs2 : thRuns 2 = 122 := by decide
theorem runs1 {st : Int} (h0 : st ≠ 0) (h2 : st ≠ 2) : thRuns st = 0 := by unfold thRuns; rw [if_neg h0, if_neg h2]

set_option maxHeartbeats 2000000 in
theorem tdone_val {st ki va un pc re se tr rs go S K V U P R Q T X G E : Int} {la L : Bool} (h : thDone ⟨st, ki, va, un, pc, re, se, tr, la, rs, go⟩ E ⟨S, K, V, U, P, R, Q, T, L, X, G⟩) (w : World) : Calls Tryz.prog 162 #[.agg #[.int .i64 st, .int .i64 ki, .int .i64 va, .int .i64 un, .int .i64 pc, .int .i64 re, .int .i64 se, .int .i64 tr, .bool la, .int .i64 rs, .int .i64 go]] w fun e w' => e = .returned (.tuple #[.agg #[.int .i64 S, .int .i64 K, .int .i64 V, .int .i64 U, .int .i64 P, .int .i64 R, .int .i64 Q, .int .i64 T, .bool L, .int .i64 X, .int .i64 G], .int .i64 E]) ∧ Kept w w' := by
  rcases h with ⟨h0, rfl, hr⟩ | ⟨h0, rfl, hr⟩ | ⟨h0, h2, rfl, hr⟩
  · cases hr
    obtain rfl : st = 0 := h0
    go_enter Tryz.func162, Tryz.ntmps162
    go_wp2_with fail; refine (truns_x runs0 _).mono ?_; rintro e w1 ⟨rfl, rfl⟩
    go_wp2
    all_goals (refine bodyPost_ret (v := (.tuple #[.agg #[.int .i64 (0), .int .i64 ki, .int .i64 va, .int .i64 un, .int .i64 pc, .int .i64 re, .int .i64 se, .int .i64 tr, .bool la, .int .i64 rs, .int .i64 go], .int .i64 121])) (by simp [results, Tryz.results162, go_sem, *]) rfl ?_; exact ⟨rfl, by repeat' (first | (with_reducible exact Below.refl _ _) | (with_reducible assumption) | (with_reducible refine kept_alloc ?_ _) | (with_reducible refine kept_drewN ?_ _) | (with_reducible refine Below.drew ?_) | (with_reducible refine Below.setCell ?_ (by first | omega | (simp; omega) | (simp; done)) _) | (refine kept_trans ?_ (by with_reducible assumption)))⟩)
  · cases hr
    obtain rfl : st = 2 := h0
    go_enter Tryz.func162, Tryz.ntmps162
    go_wp2_with fail; refine (truns_x runs2 _).mono ?_; rintro e w1 ⟨rfl, rfl⟩
    go_wp2
    all_goals (refine bodyPost_ret (v := (.tuple #[.agg #[.int .i64 (2), .int .i64 ki, .int .i64 va, .int .i64 un, .int .i64 pc, .int .i64 re, .int .i64 se, .int .i64 tr, .bool la, .int .i64 rs, .int .i64 go], .int .i64 122])) (by simp [results, Tryz.results162, go_sem, *]) rfl ?_; exact ⟨rfl, by repeat' (first | (with_reducible exact Below.refl _ _) | (with_reducible assumption) | (with_reducible refine kept_alloc ?_ _) | (with_reducible refine kept_drewN ?_ _) | (with_reducible refine Below.drew ?_) | (with_reducible refine Below.setCell ?_ (by first | omega | (simp; omega) | (simp; done)) _) | (refine kept_trans ?_ (by with_reducible assumption)))⟩)
  · cases hr
    go_enter Tryz.func162, Tryz.ntmps162
    go_wp2_with fail; refine (truns_x (runs1 h0 h2) _).mono ?_; rintro e w1 ⟨rfl, rfl⟩
    clear h0 h2
    go_wp2_with (go_at_call 202; refine (tended_x _).mono ?_; rintro e wx ⟨rfl, rfl⟩)
    all_goals (refine bodyPost_ret (v := (.tuple #[.agg #[.int .i64 0, .int .i64 ki, .int .i64 va, .int .i64 un, .int .i64 0, .int .i64 0, .int .i64 0, .int .i64 0, .bool false, .int .i64 rs, .int .i64 go], .int .i64 0])) (by simp [results, Tryz.results162, go_sem, *]) rfl ?_; exact ⟨rfl, by repeat' (first | (with_reducible exact Below.refl _ _) | (with_reducible assumption) | (with_reducible refine kept_alloc ?_ _) | (with_reducible refine kept_drewN ?_ _) | (with_reducible refine Below.drew ?_) | (with_reducible refine Below.setCell ?_ (by first | omega | (simp; omega) | (simp; done)) _) | (refine kept_trans ?_ (by with_reducible assumption)))⟩)
set_option maxHeartbeats 2000000 in
theorem tpark_val {st ki va un pc re se tr rs go S K V U P R Q T X G E p : Int} {la L : Bool} (h : thPark ⟨st, ki, va, un, pc, re, se, tr, la, rs, go⟩ p E ⟨S, K, V, U, P, R, Q, T, L, X, G⟩) (w : World) : Calls Tryz.prog 160 #[.agg #[.int .i64 st, .int .i64 ki, .int .i64 va, .int .i64 un, .int .i64 pc, .int .i64 re, .int .i64 se, .int .i64 tr, .bool la, .int .i64 rs, .int .i64 go], .int .i64 p] w fun e w' => e = .returned (.tuple #[.agg #[.int .i64 S, .int .i64 K, .int .i64 V, .int .i64 U, .int .i64 P, .int .i64 R, .int .i64 Q, .int .i64 T, .bool L, .int .i64 X, .int .i64 G], .int .i64 E]) ∧ Kept w w' := by
  rcases h with ⟨h0, rfl, hr⟩ | ⟨h0, rfl, hr⟩ | ⟨h0, h2, rfl, hr⟩
  · cases hr
    obtain rfl : st = 0 := h0
    go_enter Tryz.func160, Tryz.ntmps160
    go_wp2_with fail; refine (truns_x runs0 _).mono ?_; rintro e w1 ⟨rfl, rfl⟩
    go_wp2
    all_goals (refine bodyPost_ret (v := (.tuple #[.agg #[.int .i64 (0), .int .i64 ki, .int .i64 va, .int .i64 un, .int .i64 pc, .int .i64 re, .int .i64 se, .int .i64 tr, .bool la, .int .i64 rs, .int .i64 go], .int .i64 121])) (by simp [results, Tryz.results160, go_sem, *]) rfl ?_; exact ⟨rfl, by repeat' (first | (with_reducible exact Below.refl _ _) | (with_reducible assumption) | (with_reducible refine kept_alloc ?_ _) | (with_reducible refine kept_drewN ?_ _) | (with_reducible refine Below.drew ?_) | (with_reducible refine Below.setCell ?_ (by first | omega | (simp; omega) | (simp; done)) _) | (refine kept_trans ?_ (by with_reducible assumption)))⟩)
  · cases hr
    obtain rfl : st = 2 := h0
    go_enter Tryz.func160, Tryz.ntmps160
    go_wp2_with fail; refine (truns_x runs2 _).mono ?_; rintro e w1 ⟨rfl, rfl⟩
    go_wp2
    all_goals (refine bodyPost_ret (v := (.tuple #[.agg #[.int .i64 (2), .int .i64 ki, .int .i64 va, .int .i64 un, .int .i64 pc, .int .i64 re, .int .i64 se, .int .i64 tr, .bool la, .int .i64 rs, .int .i64 go], .int .i64 122])) (by simp [results, Tryz.results160, go_sem, *]) rfl ?_; exact ⟨rfl, by repeat' (first | (with_reducible exact Below.refl _ _) | (with_reducible assumption) | (with_reducible refine kept_alloc ?_ _) | (with_reducible refine kept_drewN ?_ _) | (with_reducible refine Below.drew ?_) | (with_reducible refine Below.setCell ?_ (by first | omega | (simp; omega) | (simp; done)) _) | (refine kept_trans ?_ (by with_reducible assumption)))⟩)
  · cases hr
    go_enter Tryz.func160, Tryz.ntmps160
    go_wp2_with fail; refine (truns_x (runs1 h0 h2) _).mono ?_; rintro e w1 ⟨rfl, rfl⟩
    clear h0 h2
    go_wp2
    all_goals (refine bodyPost_ret (v := (.tuple #[.agg #[.int .i64 2, .int .i64 ki, .int .i64 va, .int .i64 un, .int .i64 P, .int .i64 re, .int .i64 se, .int .i64 0, .bool la, .int .i64 rs, .int .i64 go], .int .i64 0])) (by simp [results, Tryz.results160, go_sem, *]) rfl ?_; exact ⟨rfl, by repeat' (first | (with_reducible exact Below.refl _ _) | (with_reducible assumption) | (with_reducible refine kept_alloc ?_ _) | (with_reducible refine kept_drewN ?_ _) | (with_reducible refine Below.drew ?_) | (with_reducible refine Below.setCell ?_ (by first | omega | (simp; omega) | (simp; done)) _) | (refine kept_trans ?_ (by with_reducible assumption)))⟩)
set_option maxHeartbeats 2000000 in
theorem twake_val {st ki va un pc re se tr rs go S K V U P R Q T X G : Int} {la L : Bool} (h : thWake ⟨st, ki, va, un, pc, re, se, tr, la, rs, go⟩ ⟨S, K, V, U, P, R, Q, T, L, X, G⟩) (w : World) : Calls Tryz.prog 146 #[.agg #[.int .i64 st, .int .i64 ki, .int .i64 va, .int .i64 un, .int .i64 pc, .int .i64 re, .int .i64 se, .int .i64 tr, .bool la, .int .i64 rs, .int .i64 go]] w fun e w' => e = .returned (.agg #[.int .i64 S, .int .i64 K, .int .i64 V, .int .i64 U, .int .i64 P, .int .i64 R, .int .i64 Q, .int .i64 T, .bool L, .int .i64 X, .int .i64 G]) ∧ Kept w w' := by
  rcases h with ⟨h0, hr⟩ | ⟨h0, hr⟩
  · cases hr
    obtain rfl : st = 2 := h0
    go_enter Tryz.func146, Tryz.ntmps146
    go_wp2
    all_goals (refine bodyPost_ret (v := (.agg #[.int .i64 (1), .int .i64 ki, .int .i64 va, .int .i64 un, .int .i64 pc, .int .i64 re, .int .i64 se, .int .i64 tr, .bool la, .int .i64 rs, .int .i64 go])) (by simp [results, Tryz.results146, go_sem, *]) rfl ?_; exact ⟨rfl, by repeat' (first | (with_reducible exact Below.refl _ _) | (with_reducible assumption) | (with_reducible refine kept_alloc ?_ _) | (with_reducible refine kept_drewN ?_ _) | (with_reducible refine Below.drew ?_) | (with_reducible refine Below.setCell ?_ (by first | omega | (simp; omega) | (simp; done)) _) | (refine kept_trans ?_ (by with_reducible assumption)))⟩)
  · cases hr
    have k0 : (st == 2) = false := by simpa using h0
    have k1 : (st != 2) = true := by simpa using h0
    clear h0
    go_enter Tryz.func146, Tryz.ntmps146
    go_wp2
    all_goals (refine bodyPost_ret (v := (.agg #[.int .i64 (st), .int .i64 ki, .int .i64 va, .int .i64 un, .int .i64 pc, .int .i64 re, .int .i64 se, .int .i64 tr, .bool la, .int .i64 rs, .int .i64 go])) (by simp [results, Tryz.results146, go_sem, *]) rfl ?_; exact ⟨rfl, by repeat' (first | (with_reducible exact Below.refl _ _) | (with_reducible assumption) | (with_reducible refine kept_alloc ?_ _) | (with_reducible refine kept_drewN ?_ _) | (with_reducible refine Below.drew ?_) | (with_reducible refine Below.setCell ?_ (by first | omega | (simp; omega) | (simp; done)) _) | (refine kept_trans ?_ (by with_reducible assumption)))⟩)
end Go.Proofs.YtfllnpcoggmepaaGreat

/- Layer 12: what begins on a thread: the program's, and the document's. -/
namespace Go.Proofs.YtfllnpcoggmepaaGreat
set_option linter.unusedVariables false
set_option linter.unusedSimpArgs false
open Go.ChangeShapes Go.WideShapes Go.ChangeAt Go.RowKit
set_option maxHeartbeats 2000000 in
theorem tbeg_val {st ki va un pc re se tr rs go k v u S K V U P R Q T X G E : Int} {la L : Bool} (h : thBeg ⟨st, ki, va, un, pc, re, se, tr, la, rs, go⟩ k v u E ⟨S, K, V, U, P, R, Q, T, L, X, G⟩) (w : World) : Calls Tryz.prog 63 #[.agg #[.int .i64 st, .int .i64 ki, .int .i64 va, .int .i64 un, .int .i64 pc, .int .i64 re, .int .i64 se, .int .i64 tr, .bool la, .int .i64 rs, .int .i64 go], .int .i64 k, .int .i64 v, .int .i64 u] w fun e w' => e = .returned (.tuple #[.agg #[.int .i64 S, .int .i64 K, .int .i64 V, .int .i64 U, .int .i64 P, .int .i64 R, .int .i64 Q, .int .i64 T, .bool L, .int .i64 X, .int .i64 G], .int .i64 E]) ∧ Kept w w' := by
  rcases h with ⟨h0, rfl, hr⟩ | ⟨h0, h1, rfl, hr⟩ | ⟨h0, h1, h2, rfl, hr⟩ | ⟨h0, h1, h2, h3, rfl, hr⟩ | ⟨h0, h1, h2, h3, rfl, hr⟩
  · cases hr
    go_enter Tryz.func63, Tryz.ntmps63
    go_wp2_with fail; refine (tidle_x (b := false) (by simpa using h0) _).mono ?_; rintro e w1 ⟨rfl, rfl⟩
    clear h0
    go_wp2
    all_goals (refine bodyPost_ret (v := (.tuple #[.agg #[.int .i64 (st), .int .i64 ki, .int .i64 va, .int .i64 un, .int .i64 pc, .int .i64 re, .int .i64 se, .int .i64 tr, .bool la, .int .i64 rs, .int .i64 go], .int .i64 120])) (by simp [results, Tryz.results63, go_sem, *]) rfl ?_; exact ⟨rfl, by repeat' (first | (with_reducible exact Below.refl _ _) | (with_reducible assumption) | (with_reducible refine kept_alloc ?_ _) | (with_reducible refine kept_drewN ?_ _) | (with_reducible refine Below.drew ?_) | (with_reducible refine Below.setCell ?_ (by first | omega | (simp; omega) | (simp; done)) _) | (refine kept_trans ?_ (by with_reducible assumption)))⟩)
  · cases hr
    obtain rfl : st = 0 := h0
    go_enter Tryz.func63, Tryz.ntmps63
    go_wp2_with fail; refine (tidle_x (b := true) (by decide) _).mono ?_; rintro e w1 ⟨rfl, rfl⟩
    go_wp2_with (first | (go_at_call 125; refine (ocheck_x _ _).mono ?_; rintro e wx ⟨rfl, rfl⟩) | (go_at_call 127; refine (otimed_x _ _).mono ?_; rintro e wx ⟨rfl, rfl⟩) | (go_at_call 128; refine (twithin_x _ _ _ _).mono ?_; rintro e wx ⟨rfl, rfl⟩))
    all_goals (refine bodyPost_ret (v := (.tuple #[.agg #[.int .i64 (0), .int .i64 ki, .int .i64 va, .int .i64 un, .int .i64 pc, .int .i64 re, .int .i64 se, .int .i64 tr, .bool la, .int .i64 rs, .int .i64 go], .int .i64 190])) (by simp [results, Tryz.results63, go_sem, *]) rfl ?_; exact ⟨rfl, by repeat' (first | (with_reducible exact Below.refl _ _) | (with_reducible assumption) | (with_reducible refine kept_alloc ?_ _) | (with_reducible refine kept_drewN ?_ _) | (with_reducible refine Below.drew ?_) | (with_reducible refine Below.setCell ?_ (by first | omega | (simp; omega) | (simp; done)) _) | (refine kept_trans ?_ (by with_reducible assumption)))⟩)
  · cases hr
    obtain rfl : st = 0 := h0
    go_enter Tryz.func63, Tryz.ntmps63
    go_wp2_with fail; refine (tidle_x (b := true) (by decide) _).mono ?_; rintro e w1 ⟨rfl, rfl⟩
    go_wp2_with (first | (go_at_call 125; refine (ocheck_x _ _).mono ?_; rintro e wx ⟨rfl, rfl⟩) | (go_at_call 127; refine (otimed_x _ _).mono ?_; rintro e wx ⟨rfl, rfl⟩) | (go_at_call 128; refine (twithin_x _ _ _ _).mono ?_; rintro e wx ⟨rfl, rfl⟩))
    all_goals (refine bodyPost_ret (v := (.tuple #[(.agg #[.int .i64 1, .int .i64 k, .int .i64 v, .int .i64 0, .int .i64 0, .int .i64 0, .int .i64 0, .int .i64 0, .bool false, .int .i64 0, .int .i64 0]), .int .i64 0])) (by simp [results, Tryz.results63, go_sem, *]) rfl ?_; exact ⟨rfl, by repeat' (first | (with_reducible exact Below.refl _ _) | (with_reducible assumption) | (with_reducible refine kept_alloc ?_ _) | (with_reducible refine kept_drewN ?_ _) | (with_reducible refine Below.drew ?_) | (with_reducible refine Below.setCell ?_ (by first | omega | (simp; omega) | (simp; done)) _) | (refine kept_trans ?_ (by with_reducible assumption)))⟩)
  · cases hr
    obtain rfl : st = 0 := h0
    have h4 : thIn u 0 1099511627776 = false := by rw [← Bool.not_eq_true]; simp only [thIn, Bool.and_eq_true, decide_eq_true_eq]; exact h3
    clear h3
    go_enter Tryz.func63, Tryz.ntmps63
    go_wp2_with fail; refine (tidle_x (b := true) (by decide) _).mono ?_; rintro e w1 ⟨rfl, rfl⟩
    go_wp2_with (first | (go_at_call 125; refine (ocheck_x _ _).mono ?_; rintro e wx ⟨rfl, rfl⟩) | (go_at_call 127; refine (otimed_x _ _).mono ?_; rintro e wx ⟨rfl, rfl⟩) | (go_at_call 128; refine (twithin_x _ _ _ _).mono ?_; rintro e wx ⟨rfl, rfl⟩))
    all_goals (refine bodyPost_ret (v := (.tuple #[.agg #[.int .i64 (0), .int .i64 ki, .int .i64 va, .int .i64 un, .int .i64 pc, .int .i64 re, .int .i64 se, .int .i64 tr, .bool la, .int .i64 rs, .int .i64 go], .int .i64 50])) (by simp [results, Tryz.results63, go_sem, *]) rfl ?_; exact ⟨rfl, by repeat' (first | (with_reducible exact Below.refl _ _) | (with_reducible assumption) | (with_reducible refine kept_alloc ?_ _) | (with_reducible refine kept_drewN ?_ _) | (with_reducible refine Below.drew ?_) | (with_reducible refine Below.setCell ?_ (by first | omega | (simp; omega) | (simp; done)) _) | (refine kept_trans ?_ (by with_reducible assumption)))⟩)
  · cases hr
    obtain rfl : st = 0 := h0
    have h4 : thIn u 0 1099511627776 = true := by simp only [thIn, Bool.and_eq_true, decide_eq_true_eq]; exact h3
    clear h3
    go_enter Tryz.func63, Tryz.ntmps63
    go_wp2_with fail; refine (tidle_x (b := true) (by decide) _).mono ?_; rintro e w1 ⟨rfl, rfl⟩
    go_wp2_with (first | (go_at_call 125; refine (ocheck_x _ _).mono ?_; rintro e wx ⟨rfl, rfl⟩) | (go_at_call 127; refine (otimed_x _ _).mono ?_; rintro e wx ⟨rfl, rfl⟩) | (go_at_call 128; refine (twithin_x _ _ _ _).mono ?_; rintro e wx ⟨rfl, rfl⟩))
    all_goals (refine bodyPost_ret (v := (.tuple #[(.agg #[.int .i64 1, .int .i64 k, .int .i64 v, .int .i64 u, .int .i64 0, .int .i64 0, .int .i64 0, .int .i64 0, .bool false, .int .i64 0, .int .i64 0]), .int .i64 0])) (by simp [results, Tryz.results63, go_sem, *]) rfl ?_; exact ⟨rfl, by repeat' (first | (with_reducible exact Below.refl _ _) | (with_reducible assumption) | (with_reducible refine kept_alloc ?_ _) | (with_reducible refine kept_drewN ?_ _) | (with_reducible refine Below.drew ?_) | (with_reducible refine Below.setCell ?_ (by first | omega | (simp; omega) | (simp; done)) _) | (refine kept_trans ?_ (by with_reducible assumption)))⟩)
end Go.Proofs.YtfllnpcoggmepaaGreat

/- Layer 12: whether a thread may be: the document's. -/
namespace Go.Proofs.YtfllnpcoggmepaaGreat
set_option linter.unusedVariables false
set_option linter.unusedSimpArgs false
open Go.ChangeShapes Go.WideShapes Go.ChangeAt Go.RowKit
end Go.Proofs.YtfllnpcoggmepaaGreat

/- Layer 12: values given; what every statement asks first. -/
namespace Go.Proofs.YtfllnpcoggmepaaGreat
set_option linter.unusedVariables false
set_option linter.unusedSimpArgs false
open Go.ChangeShapes Go.WideShapes Go.ChangeAt Go.RowKit
theorem beg_ok_u {t : Th} {k v u : Int} (h : t.st = 0) (h1 : opB k = true) (h2 : opTimed k = false) : thBeg t k v u 0 ⟨1, k, v, 0, 0, 0, 0, 0, false, 0, 0⟩ := .inr (.inr (.inl ⟨h, h1, h2, rfl, rfl⟩))
end Go.Proofs.YtfllnpcoggmepaaGreat

/- Layer 13: a state of which one thread is changed; what a thread begins. -/
namespace Go.Proofs.YtfllnpcoggmepaaGreat
set_option linter.unusedVariables false
set_option linter.unusedSimpArgs false
open Go.ChangeShapes Go.WideShapes Go.ChangeAt Go.RowKit
theorem Ow.outN {α : Type} {W W' : World} {base k n c g : Nat} {e : TypeId} {enc : α → List Value} {xs : List α} {p : Option Addr} (h : Ow W base e k enc xs (.slice p n c)) (ho : Out [g] W W') (hne : NoSh p (some ⟨g, 0, none⟩)) : Ow W' base e k enc xs (.slice p n c) :=
  Ow.of_block h fun b hb => ho.block b (h.lt b hb).2 (by
    rw [own_pbk] at hb
    have := hne b hb
    intro h2
    exact this (by simp at h2; subst h2; rfl))
theorem StOw.setT {W W' : World} {base g : Nat} {s : St} {z : Pz} {n : Nat} {t : Th} (h : StOw W base s z) (hp : z.p6 = some ⟨g, 0, none⟩) (hT : Ow W' base 44 11 Th.cells (s.th.set n t) (.slice (some ⟨g, 0, none⟩) s.th.length z.k6)) (ho : Out [g] W W') : StOw W' base (s.setTh n t) z := by
  obtain ⟨a, b, c, d, e, f, i, a6, a7⟩ := h
  rw [hp] at a6 a7
  refine ⟨Ow.outN a ho a6.1, Ow.outN b ho a6.2.1, Ow.outN c ho a6.2.2.1, Ow.outN d ho a6.2.2.2.1, Ow.outN e ho a6.2.2.2.2, ?_, Ow.outN i ho a7.2.2.2.2.2.symm, by rw [hp]; exact a6, by rw [hp]; exact a7⟩
  show Ow W' base _ _ _ (s.th.set n t) (.slice z.p6 (s.th.set n t).length z.k6)
  rw [List.length_set, hp]
  exact hT
end Go.Proofs.YtfllnpcoggmepaaGreat

/- Layer 13: Invoke. -/
namespace Go.Proofs.YtfllnpcoggmepaaGreat
set_option linter.unusedVariables false
set_option linter.unusedSimpArgs false
open Go.ChangeShapes Go.WideShapes Go.ChangeAt Go.RowKit
end Go.Proofs.YtfllnpcoggmepaaGreat

/- A region that draws its order, whose operations read, reckon and call what keeps the world, and which ends in stores, one behind the other ('return q, f(q) && g(q)', a struct among the results): one walk in the text's order, its head over a class of worlds, its tail as a list. -/
namespace Go.Proofs.YtfllnpcoggmepaaGreat
set_option linter.unusedVariables false
set_option linter.unusedSimpArgs false
open Go.RowKit
section
variable {P : Program} {ops : Array Oper} {md : Region.Mode} {C : World → Prop}

end

/-- These blocks hold these objects. -/
def ObjsAt (W : World) : List (Nat × Obj) → Prop
  | [] => True
  | x :: r => W.heap[x.1]? = some x.2 ∧ ObjsAt W r
theorem objs_keep {W w1 : World} (hg : Below W.heap.size W w1) : ∀ {l : List (Nat × Obj)}, ObjsAt W l → ObjsAt w1 l
  | [], _ => trivial
  | _ :: _, h => ⟨(hg.block _ (Array.getElem?_eq_some_iff.1 h.1).1).trans h.1, objs_keep hg h.2⟩
theorem obj_cell {W : World} {b : Nat} {c : Array Value} {t : TypeId} {f : Nat × Nat} (h : W.heap[b]? = some (.cells c t f)) (i : Nat) : W.cell? ⟨b, i, none⟩ = c[i]? := by simp [World.cell?, h]
theorem obj_lt {W : World} {b : Nat} {o : Obj} (h : W.heap[b]? = some o) : b < W.heap.size := (Array.getElem?_eq_some_iff.1 h).1
theorem obj_at {W : World} {o : Obj} {n : Nat} (h : n = W.heap.size) : (W.alloc o).heap[n]? = some o := by
  subst h
  show (W.heap.push o)[W.heap.size]? = some o
  simp
theorem obj_past {W : World} {o p : Obj} {n : Nat} (h : n < W.heap.size) (h' : W.heap[n]? = some p) : (W.alloc o).heap[n]? = some p := (Below.heap_alloc W o n h).trans h'
/-- THE CLASS OF WORLDS: what was there is kept, and these blocks hold these objects. -/
def Wo (w : World) (l : List (Nat × Obj)) : Type := { w' : World // Below w.heap.size w w' ∧ ObjsAt w' l }
def Wo.at {w : World} {l : List (Nat × Obj)} (x : Wo w l) : World := x.1
theorem Wo.kept {w : World} {l : List (Nat × Obj)} (x : Wo w l) : Below w.heap.size w x.at := x.2.1
theorem Wo.objs {w : World} {l : List (Nat × Obj)} (x : Wo w l) : ObjsAt x.at l := x.2.2
theorem Wo.mk {w W : World} {l : List (Nat × Obj)} (h : Below w.heap.size w W) (c : ObjsAt W l) : ∃ x : Wo w l, W = x.at := ⟨⟨W, h, c⟩, rfl⟩
theorem quiet_callo {P : Program} {f : FuncId} {args : Array Value} {w : World} {l : List (Nat × Obj)} {x : Wo w l} {v : Value}
    (h : Calls P f args x.at fun e w' => e = .returned v ∧ Kept x.at w') : Calls P f args x.at fun e w'' => e = .returned v ∧ ∃ y : Wo w l, w'' = y.at :=
  h.mono fun _ _ ⟨he, hk⟩ => ⟨he, Wo.mk (kept_trans x.kept hk) (objs_keep hk x.objs)⟩
theorem wp_region_objs {P : Program} {id : Nat} {Q : Exit → Act → World → Prop} {a : Act} {w W : World} {l : List Oper} (os : List (Nat × Obj)) (hm : P.follows .mixedOrders = true) (hB : Region.lexB .any l.toArray = true)
    (hk : Below w.heap.size w W) (hC : ObjsAt W os)
    (h : Nonempty (Wo w os) → wpQuiet P l.toArray (fun w' => ∃ x : Wo w os, w' = x.at) (fun a' => ∀ w', (∃ x : Wo w os, w' = x.at) → Q .normal a' w') l a) : (Code.region id l.toArray true).wp P Q a W := by
  have hd : Below W.heap.size W { W with drawn := W.drawn + 1 } := ⟨rfl, rfl, rfl, Nat.le_refl _, fun _ _ => rfl⟩
  refine wp_region_quiet (C := fun w' => ∃ x : Wo w os, w' = x.at) hm hB (Wo.mk (kept_trans hk hd) (objs_keep hd hC)) ?_
  simpa using h ⟨⟨W, hk, hC⟩⟩
end Go.Proofs.YtfllnpcoggmepaaGreat

/- Layer 13: Tell. -/
namespace Go.Proofs.YtfllnpcoggmepaaGreat
set_option linter.unusedVariables false
set_option linter.unusedSimpArgs false
open Go.ChangeShapes Go.WideShapes Go.ChangeAt Go.RowKit
theorem Bk.grown {W W' : World} {b : Nat} {cs : List Value} {row : Option Nat} (h : Bk W b cs) (hg : W.grownBy W' row) (hne : row ≠ some b) : Bk W' b cs := by
  obtain ⟨t, ht⟩ := h
  exact ⟨t, (hg.block b (Array.getElem?_eq_some_iff.1 ht).1 (fun e => hne e.symm)).trans ht⟩
/-- No list of it lies in that block. -/
def Pz.free (z : Pz) (b : Nat) : Prop := (pbk z.p1 ≠ some b ∧ pbk z.p2 ≠ some b ∧ pbk z.p3 ≠ some b ∧ pbk z.p4 ≠ some b ∧ pbk z.p5 ≠ some b) ∧ pbk z.p6 ≠ some b ∧ pbk z.p7 ≠ some b
theorem Ow.outP {α : Type} {W W' : World} {base k n c b : Nat} {e : TypeId} {enc : α → List Value} {xs : List α} {p : Option Addr} (h : Ow W base e k enc xs (.slice p n c)) (ho : Out [b] W W') (hne : pbk p ≠ some b) : Ow W' base e k enc xs (.slice p n c) :=
  Ow.of_block h fun g hg => ho.block g (h.lt g hg).2 (by
    rw [own_pbk] at hg
    intro h2
    simp at h2; subst h2; exact hne hg)
theorem StOw.outN {W W' : World} {base b : Nat} {s : St} {z : Pz} (h : StOw W base s z) (ho : Out [b] W W') (hf : z.free b) : StOw W' base s z :=
  ⟨Ow.outP h.sl ho hf.1.1, Ow.outP h.sn ho hf.1.2.1, Ow.outP h.rc ho hf.1.2.2.1, Ow.outP h.fl ho hf.1.2.2.2.1, Ow.outP h.el ho hf.1.2.2.2.2, Ow.outP h.th ho hf.2.1, Ow.outP h.lg ho hf.2.2, h.a6, h.a7⟩
theorem Ow.grownP {α : Type} {W W' : World} {base k n c : Nat} {e : TypeId} {enc : α → List Value} {xs : List α} {p q : Option Addr} (h : Ow W base e k enc xs (.slice p n c)) (hg : W.grownBy W' (pbk q)) (hne : NoSh p q) : Ow W' base e k enc xs (.slice p n c) :=
  Ow.grown h hg fun g hg => by rw [own_pbk] at hg; exact hne g hg
/-- A state behind an append to its log. -/
theorem StOw.app {W W' : World} {base : Nat} {s : St} {z : Pz} {x : En} {p : Option Addr} {n c : Nat} (h : StOw W base s z) (hA : Ow W' base 60 5 En.cells (s.lg ++ [x]) (.slice p n c)) (hn : n = (s.lg ++ [x]).length) (hg : W.grownBy W' (pbk z.p7)) (hp : ∀ g, pbk p = some g → pbk z.p7 = some g ∨ g = W.heap.size) :
    StOw W' base (s.addLg x) ⟨z.p1, z.k1, z.p2, z.k2, z.p3, z.k3, z.p4, z.k4, z.p5, z.k5, z.p6, z.k6, p, c⟩ := by
  subst hn
  have f : ∀ {u : Option Addr}, (∀ g, pbk u = some g → g < W.heap.size) → NoSh u z.p7 → NoSh u p := fun hu hne g h1 h2 => by
    rcases hp g h2 with h3 | h3
    · exact hne g h1 h3
    · have := hu g h1; omega
  exact ⟨Ow.grownP h.sl hg h.a7.1, Ow.grownP h.sn hg h.a7.2.1, Ow.grownP h.rc hg h.a7.2.2.1, Ow.grownP h.fl hg h.a7.2.2.2.1, Ow.grownP h.el hg h.a7.2.2.2.2.1, Ow.grownP h.th hg h.a7.2.2.2.2.2, hA, h.a6,
    f (Ow.up h.sl) h.a7.1, f (Ow.up h.sn) h.a7.2.1, f (Ow.up h.rc) h.a7.2.2.1, f (Ow.up h.fl) h.a7.2.2.2.1, f (Ow.up h.el) h.a7.2.2.2.2.1, f (Ow.up h.th) h.a7.2.2.2.2.2⟩
/-- A literal of one entry. -/
def OneE (x : En) (v : Value) (W : World) : Prop := ∃ g, v = .slice (some ⟨g, 0, none⟩) 1 1 ∧ Sl W 5 En.cells [x] (.slice (some ⟨g, 0, none⟩) 1 1)
theorem OneE.kept {x : En} {v : Value} {W W' : World} (h : OneE x v W) (hg : Below W.heap.size W W') : OneE x v W' := by
  obtain ⟨g, rfl, h⟩ := h
  exact ⟨g, rfl, h.kept hg⟩
end Go.Proofs.YtfllnpcoggmepaaGreat

/- Layer 13: a new state. -/
namespace Go.Proofs.YtfllnpcoggmepaaGreat
set_option linter.unusedVariables false
set_option linter.unusedSimpArgs false
open Go.ChangeShapes Go.WideShapes Go.ChangeAt Go.RowKit
def CopS (base : Nat) (l : List Slo) (v : Value) (W : World) : Prop := ∃ q c, v = .slice q l.length c ∧ Ow W base 92 2 Slo.cells l (.slice q l.length c)
def CopT (base : Nat) (l : List Th) (v : Value) (W : World) : Prop := ∃ q c, v = .slice q l.length c ∧ Ow W base 44 11 Th.cells l (.slice q l.length c)
theorem CopS.kept {base : Nat} {l : List Slo} {v : Value} {W W' : World} (h : CopS base l v W) (hg : Below W.heap.size W W') : CopS base l v W' := by
  obtain ⟨q, c, rfl, h⟩ := h
  exact ⟨q, c, rfl, Ow.kept h hg⟩
theorem CopT.kept {base : Nat} {l : List Th} {v : Value} {W W' : World} (h : CopT base l v W) (hg : Below W.heap.size W W') : CopT base l v W' := by
  obtain ⟨q, c, rfl, h⟩ := h
  exact ⟨q, c, rfl, Ow.kept h hg⟩
end Go.Proofs.YtfllnpcoggmepaaGreat

/- Layer 13: what a state is told by. -/
namespace Go.Proofs.YtfllnpcoggmepaaGreat
set_option linter.unusedVariables false
set_option linter.unusedSimpArgs false
open Go.ChangeShapes Go.WideShapes Go.ChangeAt Go.RowKit
/-- A literal of one integer. -/
def OneI (x : Int) (v : Value) (W : World) : Prop := ∃ g, v = .slice (some ⟨g, 0, none⟩) 1 1 ∧ Sl W 1 intC [x] (.slice (some ⟨g, 0, none⟩) 1 1)
theorem OneI.kept {x : Int} {v : Value} {W W' : World} (h : OneI x v W) (hg : Below W.heap.size W W') : OneI x v W' := by
  obtain ⟨g, rfl, h⟩ := h
  exact ⟨g, rfl, h.kept hg⟩
end Go.Proofs.YtfllnpcoggmepaaGreat

/- '==' on structs of the api, field by field: entries, configurations, words. Written by tools/eqs.py. -/
namespace Go.Proofs.YtfllnpcoggmepaaGreat
set_option linter.unusedVariables false
set_option linter.unusedSimpArgs false
open Go.ChangeShapes Go.WideShapes Go.ChangeAt Go.RowKit
/-- A word. -/
structure Wo3 where
  hd : Int
  tl : Int
  md : Int
instance enEq : DecidableEq En := fun a b => decidable_of_iff (a.th = b.th ∧ a.ki = b.ki ∧ a.va = b.va ∧ a.re = b.re ∧ a.go = b.go) (by cases a; cases b; simp)
set_option maxHeartbeats 1000000 in
theorem en_equal (a b : En) (w : World) : (Op.equal 60 (.agg #[.int .i64 a.th, .int .i64 a.ki, .int .i64 a.va, .int .i64 a.re, .int .i64 a.go]) (.agg #[.int .i64 b.th, .int .i64 b.ki, .int .i64 b.va, .int .i64 b.re, .int .i64 b.go])).run Tryz.prog w = .ok (decide (a = b)) w := by
  have hu := Tryz.underlying60
  have h3 := Tryz.underlying3
  have h4 := Tryz.underlying4
  have hp : Tryz.prog.stoodInHeld 60 = false := by kernel_rfl
  have hc : Tryz.prog.info? 3 = _ := rfl
  have hd : Tryz.prog.info? 4 = _ := rfl
  have e : decide (a = b) = (a.th == b.th && ((a.ki == b.ki && ((a.va == b.va && ((a.re == b.re && (a.go == b.go)))))))) := by
    rw [Bool.eq_iff_iff]; cases a; cases b; simp [and_assoc]
  rw [e]
  unfold Op.equal Op.maxDepth
  rw [run_equalIn_struct w 9999 _ _ _ (by unfold Program.fieldsOf; rw [hu]) hp]
  unfold Program.fieldsOf
  rw [hu]
  cases c0 : (a.th == b.th)
  · simp [Op.eqFields, part, isAgg, run_underlying h3, run_underlying h4, run_equalIn_int _ _ _ _ _ _ _ h3, run_equalIn_bool _ _ _ _ _ h4, c0]
  cases c1 : (a.ki == b.ki)
  · simp [Op.eqFields, part, isAgg, run_underlying h3, run_underlying h4, run_equalIn_int _ _ _ _ _ _ _ h3, run_equalIn_bool _ _ _ _ _ h4, c0, c1]
  cases c2 : (a.va == b.va)
  · simp [Op.eqFields, part, isAgg, run_underlying h3, run_underlying h4, run_equalIn_int _ _ _ _ _ _ _ h3, run_equalIn_bool _ _ _ _ _ h4, c0, c1, c2]
  cases c3 : (a.re == b.re)
  · simp [Op.eqFields, part, isAgg, run_underlying h3, run_underlying h4, run_equalIn_int _ _ _ _ _ _ _ h3, run_equalIn_bool _ _ _ _ _ h4, c0, c1, c2, c3]
  cases c4 : (a.go == b.go)
  · simp [Op.eqFields, part, isAgg, run_underlying h3, run_underlying h4, run_equalIn_int _ _ _ _ _ _ _ h3, run_equalIn_bool _ _ _ _ _ h4, c0, c1, c2, c3, c4]
  simp [Op.eqFields, part, isAgg, run_underlying h3, run_underlying h4, run_equalIn_int _ _ _ _ _ _ _ h3, run_equalIn_bool _ _ _ _ _ h4, c0, c1, c2, c3, c4]
theorem en_neq (a b : En) (w : World) : (binOp .neq 60 (.agg #[.int .i64 a.th, .int .i64 a.ki, .int .i64 a.va, .int .i64 a.re, .int .i64 a.go]) (.agg #[.int .i64 b.th, .int .i64 b.ki, .int .i64 b.va, .int .i64 b.re, .int .i64 b.go])).run Tryz.prog w = .ok (.bool (!decide (a = b))) w := by
  have h := en_equal a b w
  have hu := Tryz.underlying60
  simp [binOp, h, run_underlying hu, Result.andThen]
theorem en_eql (a b : En) (w : World) : (binOp .eql 60 (.agg #[.int .i64 a.th, .int .i64 a.ki, .int .i64 a.va, .int .i64 a.re, .int .i64 a.go]) (.agg #[.int .i64 b.th, .int .i64 b.ki, .int .i64 b.va, .int .i64 b.re, .int .i64 b.go])).run Tryz.prog w = .ok (.bool (decide (a = b))) w := by
  have h := en_equal a b w
  have hu := Tryz.underlying60
  simp [binOp, h, run_underlying hu, Result.andThen]
instance cfEq : DecidableEq Cf := fun a b => decidable_of_iff (a.lg = b.lg ∧ a.th = b.th ∧ a.po = b.po ∧ a.wt = b.wt ∧ a.sp = b.sp ∧ a.yi = b.yi ∧ a.si = b.si) (by cases a; cases b; simp)
set_option maxHeartbeats 1000000 in
theorem cf_equal (a b : Cf) (w : World) : (Op.equal 23 (.agg #[.int .i64 a.lg, .int .i64 a.th, .int .i64 a.po, .int .i64 a.wt, .int .i64 a.sp, .int .i64 a.yi, .bool a.si]) (.agg #[.int .i64 b.lg, .int .i64 b.th, .int .i64 b.po, .int .i64 b.wt, .int .i64 b.sp, .int .i64 b.yi, .bool b.si])).run Tryz.prog w = .ok (decide (a = b)) w := by
  have hu := Tryz.underlying23
  have h3 := Tryz.underlying3
  have h4 := Tryz.underlying4
  have hp : Tryz.prog.stoodInHeld 23 = false := by kernel_rfl
  have hc : Tryz.prog.info? 3 = _ := rfl
  have hd : Tryz.prog.info? 4 = _ := rfl
  have e : decide (a = b) = (a.lg == b.lg && ((a.th == b.th && ((a.po == b.po && ((a.wt == b.wt && ((a.sp == b.sp && ((a.yi == b.yi && (a.si == b.si)))))))))))) := by
    rw [Bool.eq_iff_iff]; cases a; cases b; simp [and_assoc]
  rw [e]
  unfold Op.equal Op.maxDepth
  rw [run_equalIn_struct w 9999 _ _ _ (by unfold Program.fieldsOf; rw [hu]) hp]
  unfold Program.fieldsOf
  rw [hu]
  cases c0 : (a.lg == b.lg)
  · simp [Op.eqFields, part, isAgg, run_underlying h3, run_underlying h4, run_equalIn_int _ _ _ _ _ _ _ h3, run_equalIn_bool _ _ _ _ _ h4, c0]
  cases c1 : (a.th == b.th)
  · simp [Op.eqFields, part, isAgg, run_underlying h3, run_underlying h4, run_equalIn_int _ _ _ _ _ _ _ h3, run_equalIn_bool _ _ _ _ _ h4, c0, c1]
  cases c2 : (a.po == b.po)
  · simp [Op.eqFields, part, isAgg, run_underlying h3, run_underlying h4, run_equalIn_int _ _ _ _ _ _ _ h3, run_equalIn_bool _ _ _ _ _ h4, c0, c1, c2]
  cases c3 : (a.wt == b.wt)
  · simp [Op.eqFields, part, isAgg, run_underlying h3, run_underlying h4, run_equalIn_int _ _ _ _ _ _ _ h3, run_equalIn_bool _ _ _ _ _ h4, c0, c1, c2, c3]
  cases c4 : (a.sp == b.sp)
  · simp [Op.eqFields, part, isAgg, run_underlying h3, run_underlying h4, run_equalIn_int _ _ _ _ _ _ _ h3, run_equalIn_bool _ _ _ _ _ h4, c0, c1, c2, c3, c4]
  cases c5 : (a.yi == b.yi)
  · simp [Op.eqFields, part, isAgg, run_underlying h3, run_underlying h4, run_equalIn_int _ _ _ _ _ _ _ h3, run_equalIn_bool _ _ _ _ _ h4, c0, c1, c2, c3, c4, c5]
  cases c6 : (a.si == b.si)
  · simp [Op.eqFields, part, isAgg, run_underlying h3, run_underlying h4, run_equalIn_int _ _ _ _ _ _ _ h3, run_equalIn_bool _ _ _ _ _ h4, c0, c1, c2, c3, c4, c5, c6]
  simp [Op.eqFields, part, isAgg, run_underlying h3, run_underlying h4, run_equalIn_int _ _ _ _ _ _ _ h3, run_equalIn_bool _ _ _ _ _ h4, c0, c1, c2, c3, c4, c5, c6]
theorem cf_eql (a b : Cf) (w : World) : (binOp .eql 23 (.agg #[.int .i64 a.lg, .int .i64 a.th, .int .i64 a.po, .int .i64 a.wt, .int .i64 a.sp, .int .i64 a.yi, .bool a.si]) (.agg #[.int .i64 b.lg, .int .i64 b.th, .int .i64 b.po, .int .i64 b.wt, .int .i64 b.sp, .int .i64 b.yi, .bool b.si])).run Tryz.prog w = .ok (.bool (decide (a = b))) w := by
  have h := cf_equal a b w
  have hu := Tryz.underlying23
  simp [binOp, h, run_underlying hu, Result.andThen]
instance woEq : DecidableEq Wo3 := fun a b => decidable_of_iff (a.hd = b.hd ∧ a.tl = b.tl ∧ a.md = b.md) (by cases a; cases b; simp)
set_option maxHeartbeats 1000000 in
theorem wo_equal (a b : Wo3) (w : World) : (Op.equal 25 (.agg #[.int .i64 a.hd, .int .i64 a.tl, .int .i64 a.md]) (.agg #[.int .i64 b.hd, .int .i64 b.tl, .int .i64 b.md])).run Tryz.prog w = .ok (decide (a = b)) w := by
  have hu := Tryz.underlying25
  have h3 := Tryz.underlying3
  have h4 := Tryz.underlying4
  have hp : Tryz.prog.stoodInHeld 25 = false := by kernel_rfl
  have hc : Tryz.prog.info? 3 = _ := rfl
  have hd : Tryz.prog.info? 4 = _ := rfl
  have e : decide (a = b) = (a.hd == b.hd && ((a.tl == b.tl && (a.md == b.md)))) := by
    rw [Bool.eq_iff_iff]; cases a; cases b; simp [and_assoc]
  rw [e]
  unfold Op.equal Op.maxDepth
  rw [run_equalIn_struct w 9999 _ _ _ (by unfold Program.fieldsOf; rw [hu]) hp]
  unfold Program.fieldsOf
  rw [hu]
  cases c0 : (a.hd == b.hd)
  · simp [Op.eqFields, part, isAgg, run_underlying h3, run_underlying h4, run_equalIn_int _ _ _ _ _ _ _ h3, run_equalIn_bool _ _ _ _ _ h4, c0]
  cases c1 : (a.tl == b.tl)
  · simp [Op.eqFields, part, isAgg, run_underlying h3, run_underlying h4, run_equalIn_int _ _ _ _ _ _ _ h3, run_equalIn_bool _ _ _ _ _ h4, c0, c1]
  cases c2 : (a.md == b.md)
  · simp [Op.eqFields, part, isAgg, run_underlying h3, run_underlying h4, run_equalIn_int _ _ _ _ _ _ _ h3, run_equalIn_bool _ _ _ _ _ h4, c0, c1, c2]
  simp [Op.eqFields, part, isAgg, run_underlying h3, run_underlying h4, run_equalIn_int _ _ _ _ _ _ _ h3, run_equalIn_bool _ _ _ _ _ h4, c0, c1, c2]
theorem wo_neq (a b : Wo3) (w : World) : (binOp .neq 25 (.agg #[.int .i64 a.hd, .int .i64 a.tl, .int .i64 a.md]) (.agg #[.int .i64 b.hd, .int .i64 b.tl, .int .i64 b.md])).run Tryz.prog w = .ok (.bool (!decide (a = b))) w := by
  have h := wo_equal a b w
  have hu := Tryz.underlying25
  simp [binOp, h, run_underlying hu, Result.andThen]
theorem wo_eql (a b : Wo3) (w : World) : (binOp .eql 25 (.agg #[.int .i64 a.hd, .int .i64 a.tl, .int .i64 a.md]) (.agg #[.int .i64 b.hd, .int .i64 b.tl, .int .i64 b.md])).run Tryz.prog w = .ok (.bool (decide (a = b))) w := by
  have h := wo_equal a b w
  have hu := Tryz.underlying25
  simp [binOp, h, run_underlying hu, Result.andThen]
end Go.Proofs.YtfllnpcoggmepaaGreat

/- Layer 9: whose turn it is; written, read, released. -/
namespace Go.Proofs.YtfllnpcoggmepaaGreat
set_option linter.unusedVariables false
set_option linter.unusedSimpArgs false
open Go.ChangeShapes Go.WideShapes Go.ChangeAt Go.RowKit

theorem slo_field0 (a b : Int) (W : World) : (Instr.field 92 (.agg #[.int .i64 a, .int .i64 b]) 0).run Tryz.prog W = .ok (.int .i64 a) W := by kernel_rfl
theorem sready_any (l : List Slo) (q : Int) (p : Option Addr) (k : Nat) (w : World) (hl : Sl w 2 Slo.cells l (.slice p l.length k)) (hm : l.length ≤ 1000) (hq : In64 q) :
    Calls Tryz.prog 192 #[.slice p l.length k, .int .i64 q] w fun e w' => e = .returned (.bool (rdyB l q)) ∧ Kept w w' := by
  have H := Lib.hid hl
  unfold rdyB
  clear hl
  cases h1 : liesS l q
  · have H1 := Lib.hid h1
    clear h1
    go_enter Tryz.func192, Tryz.ntmps192
    go_wp2_with fail
    refine (slies_val H1.out p k _ H.out hm).mono ?_
    rintro e w1 ⟨rfl, hg1⟩
    go_wp2
    go_ret
    exact ⟨rfl, by repeat' (first | (with_reducible exact Below.refl _ _) | (with_reducible assumption) | (with_reducible refine kept_alloc ?_ _) | (with_reducible refine kept_drewN ?_ _) | (with_reducible refine Below.drew ?_) | (with_reducible refine Below.setCell ?_ (by first | omega | (simp; omega) | (simp; done)) _) | (refine kept_trans ?_ (by with_reducible assumption)))⟩
  · have H1 := Lib.hid h1
    obtain ⟨h2, h3⟩ := plc_lt h1
    have H2 := Lib.hid h2
    have H3 := Lib.hid h3
    have hf := fun W => slo_field0 (gs l (plc l q)).st (gs l (plc l q)).vl W
    clear h1 h2 h3
    generalize plc l q = i at *
    go_enter Tryz.func192, Tryz.ntmps192
    go_wp2_with fail
    refine (slies_val H1.out p k _ H.out hm).mono ?_
    rintro e w1 ⟨rfl, hg1⟩
    go_wp2_with fail
    refine (sat_any l q i p k _ (H.out.kept (by repeat' (first | (with_reducible exact Below.refl _ _) | (with_reducible assumption) | (with_reducible refine kept_alloc ?_ _) | (with_reducible refine kept_drewN ?_ _) | (with_reducible refine Below.drew ?_) | (with_reducible refine Below.setCell ?_ (by first | omega | (simp; omega) | (simp; done)) _) | (refine kept_trans ?_ (by with_reducible assumption))))) hm hq H3.out H2.out).mono ?_
    rintro e w2 ⟨rfl, hg2⟩
    go_wp2
    go_ret
    exact ⟨ret_bool (by simp), by repeat' (first | (with_reducible exact Below.refl _ _) | (with_reducible assumption) | (with_reducible refine kept_alloc ?_ _) | (with_reducible refine kept_drewN ?_ _) | (with_reducible refine Below.drew ?_) | (with_reducible refine Below.setCell ?_ (by first | omega | (simp; omega) | (simp; done)) _) | (refine kept_trans ?_ (by with_reducible assumption)))⟩
theorem sready_val {l : List Slo} {q : Int} {b : Bool} (hb : rdyB l q = b) (p : Option Addr) (k : Nat) (w : World) (hl : Sl w 2 Slo.cells l (.slice p l.length k)) (hm : l.length ≤ 1000) (hq : In64 q) :
    Calls Tryz.prog 192 #[.slice p l.length k, .int .i64 q] w fun e w' => e = .returned (.bool b) ∧ Kept w w' := hb ▸ sready_any l q p k w hl hm hq

/-- What a call that hands back slots of its own, and an error, leaves. -/
def RetSE (w : World) (r : List Slo) (c : Int) (e : Ending) (w' : World) : Prop :=
  ∃ g, e = .returned (.tuple #[.slice (some ⟨g, 0, none⟩) r.length r.length, .int .i64 c]) ∧ Ow w' w.heap.size 92 2 Slo.cells r (.slice (some ⟨g, 0, none⟩) r.length r.length) ∧ Kept w w'
theorem write1_enters : ∀ args w, (callFunc 194 args).run Tryz.prog w = .ok (.enter 194 args) w := enters_of Tryz.func194 (by kernel_rfl) rfl
theorem release1_enters : ∀ args w, (callFunc 206 args).run Tryz.prog w = .ok (.enter 206 args) w := enters_of Tryz.func206 (by kernel_rfl) rfl

set_option maxHeartbeats 2000000 in
theorem swrite_any (l : List Slo) (q v : Int) (p : Option Addr) (k : Nat) (w : World) (hl : Sl w 2 Slo.cells l (.slice p l.length k)) (hm : l.length ≤ 1000) (hq : In64 q) :
    Calls Tryz.prog 155 #[.slice p l.length k, .int .i64 q, .int .i64 v] w (RetSE w (wrL l q v) (wrE l q)) := by
  have H := Lib.hid hl
  clear hl
  cases h1 : liesS l q
  · have H1 := Lib.hid h1
    have h2 : rdyB l q = false := by simp [rdyB, h1]
    have e2 : wrL l q v = l ∧ wrE l q = 40 := by simp [wrL, wrE, h1, h2]
    rw [e2.1, e2.2]
    clear h1 h2 e2
    go_enter Tryz.func155, Tryz.ntmps155
    go_wp2_with fail
    refine (slies_val H1.out p k _ (H.out.kept (by repeat' (first | (with_reducible exact Below.refl _ _) | (with_reducible assumption) | (with_reducible refine kept_alloc ?_ _) | (with_reducible refine kept_drewN ?_ _) | (with_reducible refine Below.drew ?_) | (with_reducible refine Below.setCell ?_ (by first | omega | (simp; omega) | (simp; done)) _) | (refine kept_trans ?_ (by with_reducible assumption))))) hm).mono ?_
    rintro e w1 ⟨rfl, hg1⟩
    have hB : Below w.heap.size w w1 := by repeat' (first | (with_reducible exact Below.refl _ _) | (with_reducible assumption) | (with_reducible refine kept_alloc ?_ _) | (with_reducible refine kept_drewN ?_ _) | (with_reducible refine Below.drew ?_) | (with_reducible refine Below.setCell ?_ (by first | omega | (simp; omega) | (simp; done)) _) | (refine kept_trans ?_ (by with_reducible assumption)))
    clear hg1
    go_wp2_with fail
    refine (slaid_any l p k _ (H.out.kept hB) hm).mono ?_
    rintro e w2 ⟨g, rfl, -, ho, hb⟩
    have HO := Lib.hid ho
    clear ho
    go_wp2
    go_ret2
    exact ⟨g, rfl, ow_mono HO.out hB.size, by repeat' (first | (with_reducible exact Below.refl _ _) | (with_reducible assumption) | (with_reducible refine kept_alloc ?_ _) | (with_reducible refine kept_drewN ?_ _) | (with_reducible refine Below.drew ?_) | (with_reducible refine Below.setCell ?_ (by first | omega | (simp; omega) | (simp; done)) _) | (refine kept_trans ?_ (by with_reducible assumption)))⟩
  · cases h2 : rdyB l q
    · have H1 := Lib.hid h1
      have H2 := Lib.hid h2
      have e2 : wrL l q v = l ∧ wrE l q = 30 := by simp [wrL, wrE, h1, h2]
      rw [e2.1, e2.2]
      clear h1 h2 e2
      go_enter Tryz.func155, Tryz.ntmps155
      go_wp2_with fail
      refine (slies_val H1.out p k _ (H.out.kept (by repeat' (first | (with_reducible exact Below.refl _ _) | (with_reducible assumption) | (with_reducible refine kept_alloc ?_ _) | (with_reducible refine kept_drewN ?_ _) | (with_reducible refine Below.drew ?_) | (with_reducible refine Below.setCell ?_ (by first | omega | (simp; omega) | (simp; done)) _) | (refine kept_trans ?_ (by with_reducible assumption))))) hm).mono ?_
      rintro e w1 ⟨rfl, hg1⟩
      have hB1 : Below w.heap.size w w1 := by repeat' (first | (with_reducible exact Below.refl _ _) | (with_reducible assumption) | (with_reducible refine kept_alloc ?_ _) | (with_reducible refine kept_drewN ?_ _) | (with_reducible refine Below.drew ?_) | (with_reducible refine Below.setCell ?_ (by first | omega | (simp; omega) | (simp; done)) _) | (refine kept_trans ?_ (by with_reducible assumption)))
      clear hg1
      go_wp2_with fail
      refine (sready_val H2.out p k _ (H.out.kept hB1) hm hq).mono ?_
      rintro e w2 ⟨rfl, hg2⟩
      have hB : Below w.heap.size w w2 := kept_trans hB1 hg2
      clear hg2 hB1
      go_wp2_with fail
      refine (slaid_any l p k _ (H.out.kept hB) hm).mono ?_
      rintro e w3 ⟨g, rfl, -, ho, hb⟩
      have HO := Lib.hid ho
      clear ho
      go_wp2
      go_ret2
      exact ⟨g, rfl, ow_mono HO.out hB.size, by repeat' (first | (with_reducible exact Below.refl _ _) | (with_reducible assumption) | (with_reducible refine kept_alloc ?_ _) | (with_reducible refine kept_drewN ?_ _) | (with_reducible refine Below.drew ?_) | (with_reducible refine Below.setCell ?_ (by first | omega | (simp; omega) | (simp; done)) _) | (refine kept_trans ?_ (by with_reducible assumption)))⟩
    · have H1 := Lib.hid h1
      have H2 := Lib.hid h2
      obtain ⟨h3, h4⟩ := plc_lt h1
      have HQ := Lib.hid (rdy_lies h2).2
      have H3 := Lib.hid h3
      have H4 := Lib.hid h4
      have e2 : wrL l q v = l.set (plc l q) ⟨q, v⟩ ∧ wrE l q = 0 := by simp [wrL, wrE, h1, h2]
      rw [e2.1, e2.2]
      clear h1 h2 h3 h4 e2
      unfold RetSE
      rw [List.length_set]
      generalize plc l q = i at *
      go_enter Tryz.func155, Tryz.ntmps155
      go_wp2_with fail
      refine (slies_val H1.out p k _ (H.out.kept (by repeat' (first | (with_reducible exact Below.refl _ _) | (with_reducible assumption) | (with_reducible refine kept_alloc ?_ _) | (with_reducible refine kept_drewN ?_ _) | (with_reducible refine Below.drew ?_) | (with_reducible refine Below.setCell ?_ (by first | omega | (simp; omega) | (simp; done)) _) | (refine kept_trans ?_ (by with_reducible assumption))))) hm).mono ?_
      rintro e w1 ⟨rfl, hg1⟩
      have hcs : CellsAt w1 [(w.heap.size, 0, .int .i64 v)] := cells_keep hg1 (by (simp only [CellsAt]; (repeat' (first | exact trivial | (refine And.intro ?_ ?_))); all_goals (first | (focus ((try simp only [World.size_setCell, World.size_alloc]); omega)) | (repeat (first | rfl | assumption | (refine (World.cell?_alloc_past _ _ _ ?_).trans ?_; focus ((try simp only [World.size_setCell, World.size_alloc]); omega)) | (refine (World.cell?_alloc_at _ _ _ _ ?_).trans ?_; focus ((try simp only [World.size_setCell, World.size_alloc]); done)) | (refine (World.cell?_setCell_other _ _ _ _ ?_).trans ?_; focus (simp; done)) | (refine (World.cell?_setCell_other _ _ _ _ ?_).trans ?_; focus (simp; omega)) | (refine World.cell?_setCell_same' _ _ _ ?_; focus (simp; done)))))))
      have hB1 : Below w.heap.size w w1 := by repeat' (first | (with_reducible exact Below.refl _ _) | (with_reducible assumption) | (with_reducible refine kept_alloc ?_ _) | (with_reducible refine kept_drewN ?_ _) | (with_reducible refine Below.drew ?_) | (with_reducible refine Below.setCell ?_ (by first | omega | (simp; omega) | (simp; done)) _) | (refine kept_trans ?_ (by with_reducible assumption)))
      clear hg1
      go_wp2_with fail
      refine (sready_val H2.out p k _ (H.out.kept hB1) hm hq).mono ?_
      rintro e w2 ⟨rfl, hg2⟩
      have hcs := cells_keep hg2 hcs
      have hB : Below w.heap.size w w2 := kept_trans hB1 hg2
      clear hg2 hB1
      have hPk := Lib.hid (write1_pokes v w.heap.size w2 hcs.1.1 hcs.1.2)
      clear hcs
      go_wp2_with fail
      refine (schanged_any l q i _ _ _ p k _ write1_enters (H.out.kept hB) hm hq H4.out H3.out hPk.out).mono ?_
      rintro e w3 ⟨g, rfl, -, ho, hb⟩
      rw [HQ.out, List.length_set] at ho
      rw [List.length_set]
      have HO := Lib.hid ho
      clear ho
      go_wp2
      go_ret2
      exact ⟨g, rfl, ow_mono HO.out hB.size, by repeat' (first | (with_reducible exact Below.refl _ _) | (with_reducible assumption) | (with_reducible refine kept_alloc ?_ _) | (with_reducible refine kept_drewN ?_ _) | (with_reducible refine Below.drew ?_) | (with_reducible refine Below.setCell ?_ (by first | omega | (simp; omega) | (simp; done)) _) | (refine kept_trans ?_ (by with_reducible assumption)))⟩

set_option maxHeartbeats 2000000 in
theorem srelease_any (l : List Slo) (q : Int) (p : Option Addr) (k : Nat) (w : World) (hl : Sl w 2 Slo.cells l (.slice p l.length k)) (hm : l.length ≤ 1000) (hq : In64 q) :
    Calls Tryz.prog 165 #[.slice p l.length k, .int .i64 q] w (RetSE w (rlL l q) (rlE l q)) := by
  have H := Lib.hid hl
  clear hl
  cases h1 : rdyB l q
  · have H1 := Lib.hid h1
    have e1 : rlB l q = false := by simp [rlB, h1]
    have e2 : rlL l q = l ∧ rlE l q = 40 := by simp [rlL, rlE, e1]
    rw [e2.1, e2.2]
    clear h1 e1 e2
    go_enter Tryz.func165, Tryz.ntmps165
    go_wp2_with fail
    refine (sready_val H1.out p k _ (H.out.kept (by repeat' (first | (with_reducible exact Below.refl _ _) | (with_reducible assumption) | (with_reducible refine kept_alloc ?_ _) | (with_reducible refine kept_drewN ?_ _) | (with_reducible refine Below.drew ?_) | (with_reducible refine Below.setCell ?_ (by first | omega | (simp; omega) | (simp; done)) _) | (refine kept_trans ?_ (by with_reducible assumption))))) hm hq).mono ?_
    rintro e w1 ⟨rfl, hg1⟩
    have hcs : CellsAt w1 [(w.heap.size, 0, .slice p l.length k), (w.heap.size + 1, 0, .int .i64 q)] := cells_keep hg1 (by (simp only [CellsAt]; (repeat' (first | exact trivial | (refine And.intro ?_ ?_))); all_goals (first | (focus ((try simp only [World.size_setCell, World.size_alloc]); omega)) | (repeat (first | rfl | assumption | (refine (World.cell?_alloc_past _ _ _ ?_).trans ?_; focus ((try simp only [World.size_setCell, World.size_alloc]); omega)) | (refine (World.cell?_alloc_at _ _ _ _ ?_).trans ?_; focus ((try simp only [World.size_setCell, World.size_alloc]); done)) | (refine (World.cell?_setCell_other _ _ _ _ ?_).trans ?_; focus (simp; done)) | (refine (World.cell?_setCell_other _ _ _ _ ?_).trans ?_; focus (simp; omega)) | (refine World.cell?_setCell_same' _ _ _ ?_; focus (simp; done)))))))
    have hq0 := hcs.1.2; have hq1 := hcs.2.1.2; have hz0 := hcs.1.1; have hz1 := hcs.2.1.1
    have hB : Below w.heap.size w w1 := by repeat' (first | (with_reducible exact Below.refl _ _) | (with_reducible assumption) | (with_reducible refine kept_alloc ?_ _) | (with_reducible refine kept_drewN ?_ _) | (with_reducible refine Below.drew ?_) | (with_reducible refine Below.setCell ?_ (by first | omega | (simp; omega) | (simp; done)) _) | (refine kept_trans ?_ (by with_reducible assumption)))
    clear hg1
    go_wp2_with fail
    refine (slaid_any l p k _ (H.out.kept hB) hm).mono ?_
    rintro e w2 ⟨g, rfl, -, ho, hb⟩
    have HO := Lib.hid ho
    clear ho
    go_wp2
    go_ret2
    exact ⟨g, rfl, ow_mono HO.out hB.size, by repeat' (first | (with_reducible exact Below.refl _ _) | (with_reducible assumption) | (with_reducible refine kept_alloc ?_ _) | (with_reducible refine kept_drewN ?_ _) | (with_reducible refine Below.drew ?_) | (with_reducible refine Below.setCell ?_ (by first | omega | (simp; omega) | (simp; done)) _) | (refine kept_trans ?_ (by with_reducible assumption)))⟩
  · cases h5 : decide (1099511627776 < q)
    · have H1 := Lib.hid h1
      obtain ⟨h3, h4⟩ := plc_lt (rdy_lies h1).1
      have H3 := Lib.hid h3
      have H4 := Lib.hid h4
      have hqa : 0 ≤ q := (lies_iff.1 (rdy_lies h1).1).1
      have hqb : q ≤ 1099511627776 := by simpa using h5
      have e1 : rlB l q = true := by simp [rlB, h1, hqb]
      have e2 : rlL l q = l.set (plc l q) ⟨q + l.length, (gs l (plc l q)).vl⟩ ∧ rlE l q = 0 := by simp [rlL, rlE, e1]
      rw [e2.1, e2.2]
      clear h1 h3 h4 e1 e2
      unfold RetSE
      rw [List.length_set]
      generalize plc l q = i at *
      go_enter Tryz.func165, Tryz.ntmps165
      go_wp2_with fail
      refine (sready_val H1.out p k _ (H.out.kept (by repeat' (first | (with_reducible exact Below.refl _ _) | (with_reducible assumption) | (with_reducible refine kept_alloc ?_ _) | (with_reducible refine kept_drewN ?_ _) | (with_reducible refine Below.drew ?_) | (with_reducible refine Below.setCell ?_ (by first | omega | (simp; omega) | (simp; done)) _) | (refine kept_trans ?_ (by with_reducible assumption))))) hm hq).mono ?_
      rintro e w1 ⟨rfl, hg1⟩
      have hcs : CellsAt w1 [(w.heap.size, 0, .slice p l.length k), (w.heap.size + 1, 0, .int .i64 q)] := cells_keep hg1 (by (simp only [CellsAt]; (repeat' (first | exact trivial | (refine And.intro ?_ ?_))); all_goals (first | (focus ((try simp only [World.size_setCell, World.size_alloc]); omega)) | (repeat (first | rfl | assumption | (refine (World.cell?_alloc_past _ _ _ ?_).trans ?_; focus ((try simp only [World.size_setCell, World.size_alloc]); omega)) | (refine (World.cell?_alloc_at _ _ _ _ ?_).trans ?_; focus ((try simp only [World.size_setCell, World.size_alloc]); done)) | (refine (World.cell?_setCell_other _ _ _ _ ?_).trans ?_; focus (simp; done)) | (refine (World.cell?_setCell_other _ _ _ _ ?_).trans ?_; focus (simp; omega)) | (refine World.cell?_setCell_same' _ _ _ ?_; focus (simp; done)))))))
      have hq0 := hcs.1.2; have hq1 := hcs.2.1.2; have hz0 := hcs.1.1; have hz1 := hcs.2.1.1
      have hB : Below w.heap.size w w1 := by repeat' (first | (with_reducible exact Below.refl _ _) | (with_reducible assumption) | (with_reducible refine kept_alloc ?_ _) | (with_reducible refine kept_drewN ?_ _) | (with_reducible refine Below.drew ?_) | (with_reducible refine Below.setCell ?_ (by first | omega | (simp; omega) | (simp; done)) _) | (refine kept_trans ?_ (by with_reducible assumption)))
      clear hg1
      have hPk := Lib.hid (release1_pokes q l.length (w.heap.size + 1) w.heap.size p k w1 ⟨hqa, hqb⟩ hm hcs.2.1.1 hcs.1.1 hcs.2.1.2 hcs.1.2)
      go_wp2_with fail
      refine (schanged_any l q i _ _ _ p k _ release1_enters (H.out.kept hB) hm hq H4.out H3.out hPk.out).mono ?_
      rintro e w3 ⟨g, rfl, -, ho, hb⟩
      rw [List.length_set] at ho
      rw [List.length_set]
      have HO := Lib.hid ho
      clear ho
      go_wp2
      go_ret2
      exact ⟨g, rfl, ow_mono HO.out hB.size, by repeat' (first | (with_reducible exact Below.refl _ _) | (with_reducible assumption) | (with_reducible refine kept_alloc ?_ _) | (with_reducible refine kept_drewN ?_ _) | (with_reducible refine Below.drew ?_) | (with_reducible refine Below.setCell ?_ (by first | omega | (simp; omega) | (simp; done)) _) | (refine kept_trans ?_ (by with_reducible assumption)))⟩
    · have H1 := Lib.hid h1
      have hq1 : 1099511627776 < q := by simpa using h5
      have e1 : rlB l q = false := by simp [rlB, h1]; omega
      have e2 : rlL l q = l ∧ rlE l q = 40 := by simp [rlL, rlE, e1]
      rw [e2.1, e2.2]
      clear h1 e1 e2
      go_enter Tryz.func165, Tryz.ntmps165
      go_wp2_with fail
      refine (sready_val H1.out p k _ (H.out.kept (by repeat' (first | (with_reducible exact Below.refl _ _) | (with_reducible assumption) | (with_reducible refine kept_alloc ?_ _) | (with_reducible refine kept_drewN ?_ _) | (with_reducible refine Below.drew ?_) | (with_reducible refine Below.setCell ?_ (by first | omega | (simp; omega) | (simp; done)) _) | (refine kept_trans ?_ (by with_reducible assumption))))) hm hq).mono ?_
      rintro e w1 ⟨rfl, hg1⟩
      have hcs : CellsAt w1 [(w.heap.size, 0, .slice p l.length k), (w.heap.size + 1, 0, .int .i64 q)] := cells_keep hg1 (by (simp only [CellsAt]; (repeat' (first | exact trivial | (refine And.intro ?_ ?_))); all_goals (first | (focus ((try simp only [World.size_setCell, World.size_alloc]); omega)) | (repeat (first | rfl | assumption | (refine (World.cell?_alloc_past _ _ _ ?_).trans ?_; focus ((try simp only [World.size_setCell, World.size_alloc]); omega)) | (refine (World.cell?_alloc_at _ _ _ _ ?_).trans ?_; focus ((try simp only [World.size_setCell, World.size_alloc]); done)) | (refine (World.cell?_setCell_other _ _ _ _ ?_).trans ?_; focus (simp; done)) | (refine (World.cell?_setCell_other _ _ _ _ ?_).trans ?_; focus (simp; omega)) | (refine World.cell?_setCell_same' _ _ _ ?_; focus (simp; done)))))))
      have hq0 := hcs.1.2; have hq1 := hcs.2.1.2; have hz0 := hcs.1.1; have hz1 := hcs.2.1.1
      have hB : Below w.heap.size w w1 := by repeat' (first | (with_reducible exact Below.refl _ _) | (with_reducible assumption) | (with_reducible refine kept_alloc ?_ _) | (with_reducible refine kept_drewN ?_ _) | (with_reducible refine Below.drew ?_) | (with_reducible refine Below.setCell ?_ (by first | omega | (simp; omega) | (simp; done)) _) | (refine kept_trans ?_ (by with_reducible assumption)))
      clear hg1
      go_wp2_with fail
      refine (slaid_any l p k _ (H.out.kept hB) hm).mono ?_
      rintro e w2 ⟨g, rfl, -, ho, hb⟩
      have HO := Lib.hid ho
      clear ho
      go_wp2
      go_ret2
      exact ⟨g, rfl, ow_mono HO.out hB.size, by repeat' (first | (with_reducible exact Below.refl _ _) | (with_reducible assumption) | (with_reducible refine kept_alloc ?_ _) | (with_reducible refine kept_drewN ?_ _) | (with_reducible refine Below.drew ?_) | (with_reducible refine Below.setCell ?_ (by first | omega | (simp; omega) | (simp; done)) _) | (refine kept_trans ?_ (by with_reducible assumption)))⟩
end Go.Proofs.YtfllnpcoggmepaaGreat

/- Layer 9: the document's answers. -/
namespace Go.Proofs.YtfllnpcoggmepaaGreat
set_option linter.unusedVariables false
set_option linter.unusedSimpArgs false
open Go.ChangeShapes Go.WideShapes Go.ChangeAt Go.RowKit

theorem slo_equal (a b : Slo) (w : World) : (Op.equal 92 (.agg #[.int .i64 a.st, .int .i64 a.vl]) (.agg #[.int .i64 b.st, .int .i64 b.vl])).run Tryz.prog w = .ok (decide (a = b)) w := by
  have hu := Tryz.underlying92
  have h3 := Tryz.underlying3
  have hp : Tryz.prog.stoodInHeld 92 = false := by kernel_rfl
  have hc : Tryz.prog.info? 3 = _ := rfl
  have e : decide (a = b) = (a.st == b.st && a.vl == b.vl) := by
    rw [Bool.eq_iff_iff]; cases a; cases b; simp
  rw [e]
  unfold Op.equal Op.maxDepth
  rw [run_equalIn_struct w 9999 _ _ _ (by unfold Program.fieldsOf; rw [hu]) hp]
  unfold Program.fieldsOf
  rw [hu]
  cases h : (a.st == b.st) <;> cases h2 : (a.vl == b.vl)
  all_goals simp [Op.eqFields, part, isAgg, run_underlying h3, run_equalIn_int _ _ _ _ _ _ _ h3, h, h2]
theorem slo_neq (a b : Slo) (w : World) : (binOp .neq 92 (.agg #[.int .i64 a.st, .int .i64 a.vl]) (.agg #[.int .i64 b.st, .int .i64 b.vl])).run Tryz.prog w = .ok (.bool (!decide (a = b))) w := by
  have h := slo_equal a b w
  have hu := Tryz.underlying92
  simp [binOp, h, run_underlying hu, Result.andThen]
theorem gs_take_eq {l m : List Slo} {j : Nat} (hL : l.length = m.length) (hj : j < l.length) (ht : l.take j = m.take j) (h : gs l j = gs m j) : l.take (j + 1) = m.take (j + 1) := by
  rw [gs_take hj, gs_take (by omega), ht, h]

set_option maxHeartbeats 1000000 in
theorem rssame_any (l m : List Slo) (p q : Option Addr) (k k' : Nat) (w : World) (hl : Sl w 2 Slo.cells l (.slice p l.length k)) (hm : Sl w 2 Slo.cells m (.slice q m.length k')) (hlm : l.length ≤ 1000) :
    Calls Tryz.prog 34 #[.slice p l.length k, .slice q m.length k'] w fun e w' => e = .returned (.bool (decide (l = m))) ∧ Kept w w' := by
  obtain ⟨_, _, e1, k1, _, _, hlc⟩ := hl.is
  obtain ⟨_, _, e2, k2, _, _, hmc⟩ := hm.is
  cases e1
  cases e2
  have HL := Lib.hid hl
  have HM := Lib.hid hm
  clear hl hm
  by_cases hlen : l.length = m.length
  · have hbe : ((l.length : Int) == (m.length : Int)) = true := by simp [hlen]
    have hbn : ((l.length : Int) != (m.length : Int)) = false := by simp [hlen]
    have hL := Lib.hid hlen
    clear hlen
    go_enter Tryz.func34, Tryz.ntmps34
    go_wp2
    go_loopw [5] (fun i wr => ∃ j : Nat, j ≤ l.length ∧ i = .int .i64 j ∧ l.take j = m.take j ∧ Below w.heap.size w wr) (fun i _ => l.length - (intOf i).toNat)
    case atStart => exact ⟨0, by omega, rfl, rfl, Below.refl _ _⟩
    case round =>
      obtain ⟨j, hj, rfl, ht, hB⟩ := hrel
      have hT := Lib.hid ht
      clear ht
      by_cases hlt : j < l.length
      · have hlt' : j < m.length := by rw [← hL.out]; exact hlt
        obtain ⟨b, o, rfl, hb, -⟩ := hlc (by intro h; subst h; simp at hlt)
        obtain ⟨b', o', rfl, hb', -⟩ := hmc (by intro h; subst h; simp at hlt')
        obtain ⟨c1, c2⟩ := ss_at (HL.out.kept hB) hlt
        obtain ⟨c3, c4⟩ := ss_at (HM.out.kept hB) hlt'
        clear hlc hmc
        have hbw : b < wr.heap.size := Nat.lt_of_lt_of_le hb hB.size
        have hbw' : b' < wr.heap.size := Nat.lt_of_lt_of_le hb' hB.size
        have hts := fun h => Lib.hid (gs_take_eq hL.out hlt hT.out h)
        have hne : Hid (gs l j ≠ gs m j → l ≠ m) := fun h h' => h (by subst h'; rfl)
        have hcmp := slo_neq (gs l j) (gs m j)
        generalize gs l j = x at *
        generalize gs m j = y at *
        have i1 : (0 : Int) ≤ (j : Int) := by omega
        have i2 : (j : Int) < (l.length : Int) := by omega
        have i3 : (j : Int) < (m.length : Int) := by omega
        cases hxy : decide (x = y)
        · have he : x ≠ y := by simpa using hxy
          rw [hxy] at hcmp
          simp only [Bool.not_false] at hcmp
          have hn := Lib.hid (hne.out he)
          clear hts hne he hxy
          go_wp2
          (refine wp_region_kept (w := w) [(b, o + j * 2, .int .i64 x.st), (b, o + j * 2 + 1, .int .i64 x.vl), (b', o' + j * 2, .int .i64 y.st), (b', o' + j * 2 + 1, .int .i64 y.vl)] (by kernel_rfl) (by kernel_rfl) (by repeat' (first | (with_reducible exact Below.refl _ _) | (with_reducible assumption) | (with_reducible refine kept_alloc ?_ _) | (with_reducible refine kept_drewN ?_ _) | (with_reducible refine Below.drew ?_) | (with_reducible refine Below.setCell ?_ (by first | omega | (simp; omega) | (simp; done)) _) | (refine kept_trans ?_ (by with_reducible assumption)))) (by first | (simp [CellsAt, *, World.cell?_alloc_past, World.cell?_alloc_at]; done) | (simp [CellsAt, *, World.cell?_alloc_past, World.cell?_alloc_at]; omega)) (fun hne => ?_); (have hq0 : ∀ xwd : Wd w [(b, o + j * 2, .int .i64 x.st), (b, o + j * 2 + 1, .int .i64 x.vl), (b', o' + j * 2, .int .i64 y.st), (b', o' + j * 2 + 1, .int .i64 y.vl)], xwd.at.cell? ⟨b, o + j * 2, none⟩ = some (.int .i64 x.st) := fun xwd => xwd.cells.1.2; have hq1 : ∀ xwd : Wd w [(b, o + j * 2, .int .i64 x.st), (b, o + j * 2 + 1, .int .i64 x.vl), (b', o' + j * 2, .int .i64 y.st), (b', o' + j * 2 + 1, .int .i64 y.vl)], xwd.at.cell? ⟨b, o + j * 2 + 1, none⟩ = some (.int .i64 x.vl) := fun xwd => xwd.cells.2.1.2; have hq2 : ∀ xwd : Wd w [(b, o + j * 2, .int .i64 x.st), (b, o + j * 2 + 1, .int .i64 x.vl), (b', o' + j * 2, .int .i64 y.st), (b', o' + j * 2 + 1, .int .i64 y.vl)], xwd.at.cell? ⟨b', o' + j * 2, none⟩ = some (.int .i64 y.st) := fun xwd => xwd.cells.2.2.1.2; have hq3 : ∀ xwd : Wd w [(b, o + j * 2, .int .i64 x.st), (b, o + j * 2 + 1, .int .i64 x.vl), (b', o' + j * 2, .int .i64 y.st), (b', o' + j * 2 + 1, .int .i64 y.vl)], xwd.at.cell? ⟨b', o' + j * 2 + 1, none⟩ = some (.int .i64 y.vl) := fun xwd => xwd.cells.2.2.2.1.2); (try simp only [List.append_eq, List.cons_append, List.nil_append]); (repeat (go_big_quiet_step ((first | fail)))); (refine wpQuiet_nil ?_); intro wq hwq; obtain ⟨xwd, hxwd⟩ := hwq; have hgx : Below w.heap.size w wq := (by rw [hxwd]; exact xwd.kept); have hcs := (show CellsAt wq [(b, o + j * 2, .int .i64 x.st), (b, o + j * 2 + 1, .int .i64 x.vl), (b', o' + j * 2, .int .i64 y.st), (b', o' + j * 2 + 1, .int .i64 y.vl)] by rw [hxwd]; exact xwd.cells); clear hxwd xwd hne)
          go_wp2
          go_ret
          exact ⟨ret_bool (by simp [hn.out]), by repeat' (first | (with_reducible exact Below.refl _ _) | (with_reducible assumption) | (with_reducible refine kept_alloc ?_ _) | (with_reducible refine kept_drewN ?_ _) | (with_reducible refine Below.drew ?_) | (with_reducible refine Below.setCell ?_ (by first | omega | (simp; omega) | (simp; done)) _) | (refine kept_trans ?_ (by with_reducible assumption)))⟩
        · have he : x = y := by simpa using hxy
          rw [hxy] at hcmp
          simp only [Bool.not_true] at hcmp
          have hn := hts he
          clear hts hne he hxy
          go_wp2
          (refine wp_region_kept (w := w) [(b, o + j * 2, .int .i64 x.st), (b, o + j * 2 + 1, .int .i64 x.vl), (b', o' + j * 2, .int .i64 y.st), (b', o' + j * 2 + 1, .int .i64 y.vl)] (by kernel_rfl) (by kernel_rfl) (by repeat' (first | (with_reducible exact Below.refl _ _) | (with_reducible assumption) | (with_reducible refine kept_alloc ?_ _) | (with_reducible refine kept_drewN ?_ _) | (with_reducible refine Below.drew ?_) | (with_reducible refine Below.setCell ?_ (by first | omega | (simp; omega) | (simp; done)) _) | (refine kept_trans ?_ (by with_reducible assumption)))) (by first | (simp [CellsAt, *, World.cell?_alloc_past, World.cell?_alloc_at]; done) | (simp [CellsAt, *, World.cell?_alloc_past, World.cell?_alloc_at]; omega)) (fun hne => ?_); (have hq0 : ∀ xwd : Wd w [(b, o + j * 2, .int .i64 x.st), (b, o + j * 2 + 1, .int .i64 x.vl), (b', o' + j * 2, .int .i64 y.st), (b', o' + j * 2 + 1, .int .i64 y.vl)], xwd.at.cell? ⟨b, o + j * 2, none⟩ = some (.int .i64 x.st) := fun xwd => xwd.cells.1.2; have hq1 : ∀ xwd : Wd w [(b, o + j * 2, .int .i64 x.st), (b, o + j * 2 + 1, .int .i64 x.vl), (b', o' + j * 2, .int .i64 y.st), (b', o' + j * 2 + 1, .int .i64 y.vl)], xwd.at.cell? ⟨b, o + j * 2 + 1, none⟩ = some (.int .i64 x.vl) := fun xwd => xwd.cells.2.1.2; have hq2 : ∀ xwd : Wd w [(b, o + j * 2, .int .i64 x.st), (b, o + j * 2 + 1, .int .i64 x.vl), (b', o' + j * 2, .int .i64 y.st), (b', o' + j * 2 + 1, .int .i64 y.vl)], xwd.at.cell? ⟨b', o' + j * 2, none⟩ = some (.int .i64 y.st) := fun xwd => xwd.cells.2.2.1.2; have hq3 : ∀ xwd : Wd w [(b, o + j * 2, .int .i64 x.st), (b, o + j * 2 + 1, .int .i64 x.vl), (b', o' + j * 2, .int .i64 y.st), (b', o' + j * 2 + 1, .int .i64 y.vl)], xwd.at.cell? ⟨b', o' + j * 2 + 1, none⟩ = some (.int .i64 y.vl) := fun xwd => xwd.cells.2.2.2.1.2); (try simp only [List.append_eq, List.cons_append, List.nil_append]); (repeat (go_big_quiet_step ((first | fail)))); (refine wpQuiet_nil ?_); intro wq hwq; obtain ⟨xwd, hxwd⟩ := hwq; have hgx : Below w.heap.size w wq := (by rw [hxwd]; exact xwd.kept); have hcs := (show CellsAt wq [(b, o + j * 2, .int .i64 x.st), (b, o + j * 2 + 1, .int .i64 x.vl), (b', o' + j * 2, .int .i64 y.st), (b', o' + j * 2 + 1, .int .i64 y.vl)] by rw [hxwd]; exact xwd.cells); clear hxwd xwd hne)
          go_wp2
          exact ⟨⟨j + 1, by omega, by go_num, hn.out, by repeat' (first | (with_reducible exact Below.refl _ _) | (with_reducible assumption) | (with_reducible refine kept_alloc ?_ _) | (with_reducible refine kept_drewN ?_ _) | (with_reducible refine Below.drew ?_) | (with_reducible refine Below.setCell ?_ (by first | omega | (simp; omega) | (simp; done)) _) | (refine kept_trans ?_ (by with_reducible assumption)))⟩, by simp [intOf]; omega⟩
      · have : j = l.length := by omega
        subst this
        have he : Hid (l = m) := Lib.hid (by have := hT.out; rw [List.take_length, hL.out, List.take_length] at this; exact this)
        clear hT hlc hmc
        go_wp2
        go_ret
        exact ⟨ret_bool (by simp [he.out]), by repeat' (first | (with_reducible exact Below.refl _ _) | (with_reducible assumption) | (with_reducible refine kept_alloc ?_ _) | (with_reducible refine kept_drewN ?_ _) | (with_reducible refine Below.drew ?_) | (with_reducible refine Below.setCell ?_ (by first | omega | (simp; omega) | (simp; done)) _) | (refine kept_trans ?_ (by with_reducible assumption)))⟩
  · have hn : Hid (l ≠ m) := Lib.hid (fun h => hlen (by rw [h]))
    have hbn : ((l.length : Int) != (m.length : Int)) = true := by simp; omega
    clear hlen hlc hmc
    go_enter Tryz.func34, Tryz.ntmps34
    go_wp2
    go_ret
    exact ⟨ret_bool (by simp [hn.out]), by repeat' (first | (with_reducible exact Below.refl _ _) | (with_reducible assumption) | (with_reducible refine kept_alloc ?_ _) | (with_reducible refine kept_drewN ?_ _) | (with_reducible refine Below.drew ?_) | (with_reducible refine Below.setCell ?_ (by first | omega | (simp; omega) | (simp; done)) _) | (refine kept_trans ?_ (by with_reducible assumption)))⟩
end Go.Proofs.YtfllnpcoggmepaaGreat
