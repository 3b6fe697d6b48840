/- Contracts of layer 2's functions over lists, and the document's room. -/
import Derived.Test.YtmdpgaihbkjjgaaConfD
import Derived.Test.YtmdpgaihbkjjgaaRead
import Derived.LoopTactic
import Derived.Lib.Hide
namespace Go.Proofs.Ytmdpgaihbkjjgaa
set_option linter.unusedVariables false
set_option linter.unusedSimpArgs false
open Go.ChangeShapes Go.WideShapes Go.ChangeAt Go.RowKit

/-- A configuration. -/
structure Cf where
  lg : Int
  th : Int
  po : Int
  wt : Int
  sp : Int
  yi : Int
  si : Bool
def Cf.cells (c : Cf) : List Value := [.int .i64 c.lg, .int .i64 c.th, .int .i64 c.po, .int .i64 c.wt, .int .i64 c.sp, .int .i64 c.yi, .bool c.si]
def Cf.may (c : Cf) : Bool := mayB c.lg c.th c.po c.wt c.sp c.yi
def Cf.room (c : Cf) : Int := roomI c.lg c.th c.po c.wt c.sp c.yi
def cntI : List Cf → Int
  | [] => 0
  | c :: l => (if c.may then 1 else 0) + cntI l
def cntR : List Cf → Int
  | [] => 0
  | c :: l => c.room + cntR l
theorem cntI_append (l m : List Cf) : cntI (l ++ m) = cntI l + cntI m := by
  induction l with
  | nil => simp [cntI]
  | cons c l ih => simp only [List.cons_append, cntI, ih]; omega
theorem cntR_append (l m : List Cf) : cntR (l ++ m) = cntR l + cntR m := by
  induction l with
  | nil => simp [cntR]
  | cons c l ih => simp only [List.cons_append, cntR, ih]; omega
theorem cnt_bd (l : List Cf) : 0 ≤ cntI l ∧ cntI l ≤ l.length ∧ 2 * cntI l ≤ cntR l ∧ cntR l ≤ 64 * cntI l := by
  induction l with
  | nil => simp [cntI, cntR]
  | cons c l ih =>
    simp only [cntI, cntR, List.length_cons]
    cases hm : c.may
    · have := room_no (lg := c.lg) (th := c.th) (po := c.po) (wt := c.wt) (sp := c.sp) (yi := c.yi) hm
      have : c.room = 0 := this
      simp; omega
    · have := room_yes (lg := c.lg) (th := c.th) (po := c.po) (wt := c.wt) (sp := c.sp) (yi := c.yi) hm
      have : c.room = pw c.lg := this
      have := pw_bd c.lg
      simp; omega
theorem cnt_no {c : Cf} (h : c.may = false) : cntI [c] = 0 ∧ cntR [c] = 0 := by
  have := room_no (lg := c.lg) (th := c.th) (po := c.po) (wt := c.wt) (sp := c.sp) (yi := c.yi) h
  simp only [cntI, cntR, h, Cf.room, this]; simp
theorem cnt_yes {c : Cf} (h : c.may = true) : cntI [c] = 1 ∧ cntR [c] = c.room := by
  simp only [cntI, cntR, h]; simp
theorem take_succ {α : Type} (l : List α) (k : Nat) (h : k < l.length) : l.take (k + 1) = l.take k ++ [l[k]] := by
  rw [List.take_succ_eq_append_getElem h]

def p2 (k : Nat) : Int := if k = 0 then 1 else pw k
theorem p2_bd (k : Nat) : 1 ≤ p2 k ∧ p2 k ≤ 64 := by
  have := pw_bd k
  unfold p2; split <;> omega
theorem p2_succ (k : Nat) (h : k < 6) : 2 * p2 k = p2 (k + 1) := by
  obtain rfl | rfl | rfl | rfl | rfl | rfl : k = 0 ∨ k = 1 ∨ k = 2 ∨ k = 3 ∨ k = 4 ∨ k = 5 := by omega
  all_goals rfl

theorem gt_no {x : Int} (h : x = 0) : decide (0 < x) = false := by simp [h]

end Go.Proofs.Ytmdpgaihbkjjgaa
