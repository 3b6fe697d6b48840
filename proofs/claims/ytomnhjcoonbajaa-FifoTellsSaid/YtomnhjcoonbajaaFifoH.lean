/- Contracts of the document's functions of layer 3: what a queue may be told of one who sends. -/
import Derived.Test.YtomnhjcoonbajaaFifoS
import Derived.RegionTactic
import Derived.ChangeAlike
namespace Go.Proofs.Ytomnhjcoonbajaa
set_option linter.unusedVariables false
set_option linter.unusedSimpArgs false
open Go.ChangeShapes Go.WideShapes Go.ChangeAt Go.RowKit

set_option maxHeartbeats 4000000 in
theorem rsend_r2 (l : List Int) (qc qp qm : Int) (th ki va go : Int) (p : Option Addr) (k : Nat) (w : World) (hs : Sl w 1 intC l (.slice p l.length k)) : Calls Try.prog 24 #[.agg #[.slice p l.length k, .int .i64 qc, .int .i64 qp, .int .i64 qm], .agg #[.int .i64 th, .int .i64 ki, .int .i64 va, .int .i64 2, .int .i64 go]] w (RetQ w l p (Qu.send ⟨l, qc, qp, qm⟩ ⟨th, ki, va, 2, go⟩)) := by
  have hq : Hid (Qu.send ⟨l, qc, qp, qm⟩ ⟨th, ki, va, 2, go⟩ = (⟨l, qc, qp, qm⟩, decide (qm = 0) && decide (qc ≤ l.length) && decide (qp = 0) && decide (ki = 2))) := Lib.hid (by simp [Qu.send, Qu.full])
  cases b0 : (qm == 0) <;> cases b1 : decide (qc ≤ (l.length : Int)) <;> cases b2 : (qp == 0)
  all_goals
    have d0 : decide (qm = 0) = _ := b0
    have d2 : decide (qp = 0) = _ := b2
    go_enter Try.func24, Try.ntmps24
    go_wp2
    go_region
    all_goals go_wp2
    all_goals (refine bodyPost_ret (v := .tuple #[.agg #[.slice p l.length k, .int .i64 qc, .int .i64 qp, .int .i64 qm], .bool (decide (qm = 0) && decide (qc ≤ l.length) && decide (qp = 0) && decide (ki = 2))]) (by simp [results, Try.results24, go_sem, *] <;> rfl) rfl ?_; rw [hq.out]; exact ⟨p, k, rfl, hs.kept (by repeat' (first | (with_reducible exact Below.refl _ _) | (with_reducible assumption) | (with_reducible refine kept_alloc ?_ _) | (with_reducible refine kept_drewN ?_ _) | (with_reducible refine Below.drew ?_) | (with_reducible refine Below.setCell ?_ (by first | omega | (simp; omega) | (simp; done)) _) | (refine kept_trans ?_ (by with_reducible assumption)))), (by repeat' (first | (with_reducible exact Below.refl _ _) | (with_reducible assumption) | (with_reducible refine kept_alloc ?_ _) | (with_reducible refine kept_drewN ?_ _) | (with_reducible refine Below.drew ?_) | (with_reducible refine Below.setCell ?_ (by first | omega | (simp; omega) | (simp; done)) _) | (refine kept_trans ?_ (by with_reducible assumption)))), fun h x hx => .inl ⟨h, x, hx, rfl⟩⟩)

set_option maxHeartbeats 4000000 in
theorem rsend_r3 (l : List Int) (qc qp qm : Int) (th ki va go : Int) (p : Option Addr) (k : Nat) (w : World) (hs : Sl w 1 intC l (.slice p l.length k)) : Calls Try.prog 24 #[.agg #[.slice p l.length k, .int .i64 qc, .int .i64 qp, .int .i64 qm], .agg #[.int .i64 th, .int .i64 ki, .int .i64 va, .int .i64 3, .int .i64 go]] w (RetQ w l p (Qu.send ⟨l, qc, qp, qm⟩ ⟨th, ki, va, 3, go⟩)) := by
  have hq : Hid (Qu.send ⟨l, qc, qp, qm⟩ ⟨th, ki, va, 3, go⟩ = (⟨l, qc, qp, qm⟩, decide (qm = 0) && decide (qc ≤ l.length) && decide (qp = 1))) := Lib.hid (by simp [Qu.send, Qu.full])
  cases b0 : (qm == 0) <;> cases b1 : decide (qc ≤ (l.length : Int))
  all_goals
    have d0 : decide (qm = 0) = _ := b0
    go_enter Try.func24, Try.ntmps24
    go_wp2
    go_region
    all_goals go_wp2
    all_goals (refine bodyPost_ret (v := .tuple #[.agg #[.slice p l.length k, .int .i64 qc, .int .i64 qp, .int .i64 qm], .bool (decide (qm = 0) && decide (qc ≤ l.length) && decide (qp = 1))]) (by simp [results, Try.results24, go_sem, *] <;> rfl) rfl ?_; rw [hq.out]; exact ⟨p, k, rfl, hs.kept (by repeat' (first | (with_reducible exact Below.refl _ _) | (with_reducible assumption) | (with_reducible refine kept_alloc ?_ _) | (with_reducible refine kept_drewN ?_ _) | (with_reducible refine Below.drew ?_) | (with_reducible refine Below.setCell ?_ (by first | omega | (simp; omega) | (simp; done)) _) | (refine kept_trans ?_ (by with_reducible assumption)))), (by repeat' (first | (with_reducible exact Below.refl _ _) | (with_reducible assumption) | (with_reducible refine kept_alloc ?_ _) | (with_reducible refine kept_drewN ?_ _) | (with_reducible refine Below.drew ?_) | (with_reducible refine Below.setCell ?_ (by first | omega | (simp; omega) | (simp; done)) _) | (refine kept_trans ?_ (by with_reducible assumption)))), fun h x hx => .inl ⟨h, x, hx, rfl⟩⟩)

set_option maxHeartbeats 4000000 in
theorem rsend_r5 (l : List Int) (qc qp qm : Int) (th ki va go : Int) (p : Option Addr) (k : Nat) (w : World) (hs : Sl w 1 intC l (.slice p l.length k)) : Calls Try.prog 24 #[.agg #[.slice p l.length k, .int .i64 qc, .int .i64 qp, .int .i64 qm], .agg #[.int .i64 th, .int .i64 ki, .int .i64 va, .int .i64 5, .int .i64 go]] w (RetQ w l p (Qu.send ⟨l, qc, qp, qm⟩ ⟨th, ki, va, 5, go⟩)) := by
  have hq : Hid (Qu.send ⟨l, qc, qp, qm⟩ ⟨th, ki, va, 5, go⟩ = (⟨l, qc, qp, qm⟩, decide (ki = 3))) := Lib.hid (by simp [Qu.send, Qu.full])
  go_enter Try.func24, Try.ntmps24
  go_wp2
  go_region
  all_goals go_wp2
  all_goals (refine bodyPost_ret (v := .tuple #[.agg #[.slice p l.length k, .int .i64 qc, .int .i64 qp, .int .i64 qm], .bool (decide (ki = 3))]) (by simp [results, Try.results24, go_sem, *] <;> rfl) rfl ?_; rw [hq.out]; exact ⟨p, k, rfl, hs.kept (by repeat' (first | (with_reducible exact Below.refl _ _) | (with_reducible assumption) | (with_reducible refine kept_alloc ?_ _) | (with_reducible refine kept_drewN ?_ _) | (with_reducible refine Below.drew ?_) | (with_reducible refine Below.setCell ?_ (by first | omega | (simp; omega) | (simp; done)) _) | (refine kept_trans ?_ (by with_reducible assumption)))), (by repeat' (first | (with_reducible exact Below.refl _ _) | (with_reducible assumption) | (with_reducible refine kept_alloc ?_ _) | (with_reducible refine kept_drewN ?_ _) | (with_reducible refine Below.drew ?_) | (with_reducible refine Below.setCell ?_ (by first | omega | (simp; omega) | (simp; done)) _) | (refine kept_trans ?_ (by with_reducible assumption)))), fun h x hx => .inl ⟨h, x, hx, rfl⟩⟩)

set_option maxHeartbeats 4000000 in
theorem rsend_r6 (l : List Int) (qc qp qm : Int) (th ki va go : Int) (p : Option Addr) (k : Nat) (w : World) (hs : Sl w 1 intC l (.slice p l.length k)) : Calls Try.prog 24 #[.agg #[.slice p l.length k, .int .i64 qc, .int .i64 qp, .int .i64 qm], .agg #[.int .i64 th, .int .i64 ki, .int .i64 va, .int .i64 6, .int .i64 go]] w (RetQ w l p (Qu.send ⟨l, qc, qp, qm⟩ ⟨th, ki, va, 6, go⟩)) := by
  have hq : Hid (Qu.send ⟨l, qc, qp, qm⟩ ⟨th, ki, va, 6, go⟩ = (⟨l, qc, qp, qm⟩, decide (qm = 1))) := Lib.hid (by simp [Qu.send, Qu.full])
  go_enter Try.func24, Try.ntmps24
  go_wp2
  go_region
  all_goals go_wp2
  all_goals (refine bodyPost_ret (v := .tuple #[.agg #[.slice p l.length k, .int .i64 qc, .int .i64 qp, .int .i64 qm], .bool (decide (qm = 1))]) (by simp [results, Try.results24, go_sem, *] <;> rfl) rfl ?_; rw [hq.out]; exact ⟨p, k, rfl, hs.kept (by repeat' (first | (with_reducible exact Below.refl _ _) | (with_reducible assumption) | (with_reducible refine kept_alloc ?_ _) | (with_reducible refine kept_drewN ?_ _) | (with_reducible refine Below.drew ?_) | (with_reducible refine Below.setCell ?_ (by first | omega | (simp; omega) | (simp; done)) _) | (refine kept_trans ?_ (by with_reducible assumption)))), (by repeat' (first | (with_reducible exact Below.refl _ _) | (with_reducible assumption) | (with_reducible refine kept_alloc ?_ _) | (with_reducible refine kept_drewN ?_ _) | (with_reducible refine Below.drew ?_) | (with_reducible refine Below.setCell ?_ (by first | omega | (simp; omega) | (simp; done)) _) | (refine kept_trans ?_ (by with_reducible assumption)))), fun h x hx => .inl ⟨h, x, hx, rfl⟩⟩)

set_option maxHeartbeats 4000000 in
theorem rsend_r7 (l : List Int) (qc qp qm : Int) (th ki va go : Int) (p : Option Addr) (k : Nat) (w : World) (hs : Sl w 1 intC l (.slice p l.length k)) : Calls Try.prog 24 #[.agg #[.slice p l.length k, .int .i64 qc, .int .i64 qp, .int .i64 qm], .agg #[.int .i64 th, .int .i64 ki, .int .i64 va, .int .i64 7, .int .i64 go]] w (RetQ w l p (Qu.send ⟨l, qc, qp, qm⟩ ⟨th, ki, va, 7, go⟩)) := by
  have hq : Hid (Qu.send ⟨l, qc, qp, qm⟩ ⟨th, ki, va, 7, go⟩ = (⟨l, qc, qp, qm⟩, decide (qm = 2))) := Lib.hid (by simp [Qu.send, Qu.full])
  go_enter Try.func24, Try.ntmps24
  go_wp2
  go_region
  all_goals go_wp2
  all_goals (refine bodyPost_ret (v := .tuple #[.agg #[.slice p l.length k, .int .i64 qc, .int .i64 qp, .int .i64 qm], .bool (decide (qm = 2))]) (by simp [results, Try.results24, go_sem, *] <;> rfl) rfl ?_; rw [hq.out]; exact ⟨p, k, rfl, hs.kept (by repeat' (first | (with_reducible exact Below.refl _ _) | (with_reducible assumption) | (with_reducible refine kept_alloc ?_ _) | (with_reducible refine kept_drewN ?_ _) | (with_reducible refine Below.drew ?_) | (with_reducible refine Below.setCell ?_ (by first | omega | (simp; omega) | (simp; done)) _) | (refine kept_trans ?_ (by with_reducible assumption)))), (by repeat' (first | (with_reducible exact Below.refl _ _) | (with_reducible assumption) | (with_reducible refine kept_alloc ?_ _) | (with_reducible refine kept_drewN ?_ _) | (with_reducible refine Below.drew ?_) | (with_reducible refine Below.setCell ?_ (by first | omega | (simp; omega) | (simp; done)) _) | (refine kept_trans ?_ (by with_reducible assumption)))), fun h x hx => .inl ⟨h, x, hx, rfl⟩⟩)

end Go.Proofs.Ytomnhjcoonbajaa
