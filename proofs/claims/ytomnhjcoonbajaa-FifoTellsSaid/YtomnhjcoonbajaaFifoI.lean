/- Contracts of the document's functions of layer 3: what is sent, and let in. -/
import Derived.Test.YtomnhjcoonbajaaFifoH
import Derived.Deep.RegionHeld3
namespace Go.Proofs.Ytomnhjcoonbajaa
set_option linter.unusedVariables false
set_option linter.unusedSimpArgs false
open Go.ChangeShapes Go.WideShapes Go.ChangeAt Go.RowKit

set_option maxHeartbeats 1000000 in
theorem rsend_no (l : List Int) (qc qp qm : Int) (th ki va go : Int) (p : Option Addr) (k : Nat) (w : World) (hs : Sl w 1 intC l (.slice p l.length k)) (h : qm ≠ 0 ∨ qc ≤ l.length) : Calls Try.prog 24 #[.agg #[.slice p l.length k, .int .i64 qc, .int .i64 qp, .int .i64 qm], .agg #[.int .i64 th, .int .i64 ki, .int .i64 va, .int .i64 1, .int .i64 go]] w (RetQ w l p (Qu.send ⟨l, qc, qp, qm⟩ ⟨th, ki, va, 1, go⟩)) := by
  have hq : Hid (Qu.send ⟨l, qc, qp, qm⟩ ⟨th, ki, va, 1, go⟩ = (⟨l, qc, qp, qm⟩, false)) := Lib.hid (by simp [Qu.send, Qu.full]; omega)
  cases b1 : (qm == 0)
  · have b2 : (qm != 0) = true := by rw [bne, b1]; rfl
    go_enter Try.func24, Try.ntmps24
    go_wp2
    (refine bodyPost_ret (v := .tuple #[.agg #[.slice p l.length k, .int .i64 qc, .int .i64 qp, .int .i64 qm], .bool (false)]) (by simp [results, Try.results24, go_sem, *] <;> rfl) rfl ?_; rw [hq.out]; exact ⟨p, k, rfl, hs.kept (by repeat' (first | (with_reducible exact Below.refl _ _) | (with_reducible assumption) | (with_reducible refine kept_alloc ?_ _) | (with_reducible refine kept_drewN ?_ _) | (with_reducible refine Below.drew ?_) | (with_reducible refine Below.setCell ?_ (by first | omega | (simp; omega) | (simp; done)) _) | (refine kept_trans ?_ (by with_reducible assumption)))), (by repeat' (first | (with_reducible exact Below.refl _ _) | (with_reducible assumption) | (with_reducible refine kept_alloc ?_ _) | (with_reducible refine kept_drewN ?_ _) | (with_reducible refine Below.drew ?_) | (with_reducible refine Below.setCell ?_ (by first | omega | (simp; omega) | (simp; done)) _) | (refine kept_trans ?_ (by with_reducible assumption)))), fun h x hx => .inl ⟨h, x, hx, rfl⟩⟩)
  · have b2 : (qm != 0) = false := by rw [bne, b1]; rfl
    have h0 : qm = 0 := by simpa using b1
    have h2 : decide (qc ≤ (l.length : Int)) = true := by simp; omega
    clear h h0
    go_enter Try.func24, Try.ntmps24
    go_wp2
    (refine bodyPost_ret (v := .tuple #[.agg #[.slice p l.length k, .int .i64 qc, .int .i64 qp, .int .i64 qm], .bool (false)]) (by simp [results, Try.results24, go_sem, *] <;> rfl) rfl ?_; rw [hq.out]; exact ⟨p, k, rfl, hs.kept (by repeat' (first | (with_reducible exact Below.refl _ _) | (with_reducible assumption) | (with_reducible refine kept_alloc ?_ _) | (with_reducible refine kept_drewN ?_ _) | (with_reducible refine Below.drew ?_) | (with_reducible refine Below.setCell ?_ (by first | omega | (simp; omega) | (simp; done)) _) | (refine kept_trans ?_ (by with_reducible assumption)))), (by repeat' (first | (with_reducible exact Below.refl _ _) | (with_reducible assumption) | (with_reducible refine kept_alloc ?_ _) | (with_reducible refine kept_drewN ?_ _) | (with_reducible refine Below.drew ?_) | (with_reducible refine Below.setCell ?_ (by first | omega | (simp; omega) | (simp; done)) _) | (refine kept_trans ?_ (by with_reducible assumption)))), fun h x hx => .inl ⟨h, x, hx, rfl⟩⟩)

set_option maxHeartbeats 1000000 in
theorem rsend_else (l : List Int) (qc qp qm : Int) (th ki va go : Int) (p : Option Addr) (k : Nat) (w : World) (hs : Sl w 1 intC l (.slice p l.length k)) (re : Int) (h1 : re ≠ 1) (h2 : re ≠ 2) (h3 : re ≠ 3) (h5 : re ≠ 5) (h6 : re ≠ 6) (h7 : re ≠ 7) : Calls Try.prog 24 #[.agg #[.slice p l.length k, .int .i64 qc, .int .i64 qp, .int .i64 qm], .agg #[.int .i64 th, .int .i64 ki, .int .i64 va, .int .i64 re, .int .i64 go]] w (RetQ w l p (Qu.send ⟨l, qc, qp, qm⟩ ⟨th, ki, va, re, go⟩)) := by
  have hq : Hid (Qu.send ⟨l, qc, qp, qm⟩ ⟨th, ki, va, re, go⟩ = (⟨l, qc, qp, qm⟩, false)) := Lib.hid (by simp [Qu.send, *])
  have e1 : (re == 1) = false := by simpa using h1
  have e2 : (re == 2) = false := by simpa using h2
  have e3 : (re == 3) = false := by simpa using h3
  have e5 : (re == 5) = false := by simpa using h5
  have e6 : (re == 6) = false := by simpa using h6
  have e7 : (re == 7) = false := by simpa using h7
  clear h1 h2 h3 h5 h6 h7
  go_enter Try.func24, Try.ntmps24
  go_wp2
  (refine bodyPost_ret (v := .tuple #[.agg #[.slice p l.length k, .int .i64 qc, .int .i64 qp, .int .i64 qm], .bool (false)]) (by simp [results, Try.results24, go_sem, *] <;> rfl) rfl ?_; rw [hq.out]; exact ⟨p, k, rfl, hs.kept (by repeat' (first | (with_reducible exact Below.refl _ _) | (with_reducible assumption) | (with_reducible refine kept_alloc ?_ _) | (with_reducible refine kept_drewN ?_ _) | (with_reducible refine Below.drew ?_) | (with_reducible refine Below.setCell ?_ (by first | omega | (simp; omega) | (simp; done)) _) | (refine kept_trans ?_ (by with_reducible assumption)))), (by repeat' (first | (with_reducible exact Below.refl _ _) | (with_reducible assumption) | (with_reducible refine kept_alloc ?_ _) | (with_reducible refine kept_drewN ?_ _) | (with_reducible refine Below.drew ?_) | (with_reducible refine Below.setCell ?_ (by first | omega | (simp; omega) | (simp; done)) _) | (refine kept_trans ?_ (by with_reducible assumption)))), fun h x hx => .inl ⟨h, x, hx, rfl⟩⟩)
end Go.Proofs.Ytomnhjcoonbajaa
