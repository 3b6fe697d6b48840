/- Layer 11: what threads may do, as plain functions. -/
import Derived.Test.YtacfgjjahnobjaaBase
namespace Go.Proofs.Ytacfgjjahnobjaa
set_option linter.unusedVariables false
set_option linter.unusedSimpArgs false

def opB (k : Int) : Bool := decide (1 ≤ k) && decide (k ≤ 8)
def opSide (k : Int) : Int := if 1 ≤ k ∧ k ≤ 3 then 1 else if 4 ≤ k ∧ k ≤ 6 then 2 else if 7 ≤ k ∧ k ≤ 8 then 3 else 0
def opTimed (k : Int) : Bool := (k == 3) || (k == 6)
def opOnce (k : Int) : Bool := (k == 2) || (k == 5)
def opMay (th : Int) (si : Bool) (i k : Int) : Int := if i < 0 ∨ th ≤ i then 123 else if opB k = false then 190 else if si = true ∧ opSide k = 2 ∧ i ≠ 0 then 123 else 0
def opEnds (k r : Int) : Bool := if r = 1 then opB k else if r = 2 then k == 2 else if r = 3 then opSide k == 1 else if r = 4 then k == 5 else if r = 5 then opTimed k else if r = 6 ∨ r = 7 then decide (1 ≤ k) && decide (k ≤ 6) else false

theorem op_cases (k : Int) : k = 1 ∨ k = 2 ∨ k = 3 ∨ k = 4 ∨ k = 5 ∨ k = 6 ∨ k = 7 ∨ k = 8 ∨ (k < 1 ∨ 8 < k) := by omega
theorem side_is (k : Int) : (opSide k = 1 ∧ 1 ≤ k ∧ k ≤ 3) ∨ (opSide k = 2 ∧ 4 ≤ k ∧ k ≤ 6) ∨ (opSide k = 3 ∧ 7 ≤ k ∧ k ≤ 8) ∨ (opSide k = 0 ∧ (k < 1 ∨ 8 < k)) := by
  unfold opSide
  repeat' split
  all_goals omega
theorem opB_iff {k : Int} : opB k = true ↔ 1 ≤ k ∧ k ≤ 8 := by simp [opB]
theorem opB_side (k : Int) : opB k = !(opSide k == 0) := by
  rw [Bool.eq_iff_iff]
  simp only [opB, Bool.and_eq_true, decide_eq_true_eq, Bool.not_eq_true', beq_eq_false_iff_ne]
  have := side_is k
  omega
end Go.Proofs.Ytacfgjjahnobjaa
