/- Plain functions of layer 2 (how a fabric is laid), the program's and the document's, and that they are one. -/
import Derived.Test.YtmdpgaihbkjjgaaIter
namespace Go.Proofs.Ytmdpgaihbkjjgaa
set_option linter.unusedVariables false
set_option linter.unusedSimpArgs false

/-- A number, and the least and the greatest that it may be. -/
structure Bd where
  n : Int
  low : Int
  high : Int
def Bd.val (b : Bd) : Value := .agg #[.int .i64 b.n, .int .i64 b.low, .int .i64 b.high]
def inB (n low high : Int) : Bool := decide (low ≤ n) && decide (n ≤ high)
def Bd.inB (b : Bd) : Bool := Go.Proofs.Ytmdpgaihbkjjgaa.inB b.n b.low b.high
def triesI (wt : Int) : Int := if wt = 2 then 8 else 0
def bdsL (lg th po wt sp yi : Int) : List Bd := [⟨lg, 1, 6⟩, ⟨th, 1, 16⟩, ⟨po, 0, 2⟩, ⟨wt, 0, 3⟩, ⟨sp, 0, triesI wt⟩, ⟨yi, 0, triesI wt⟩]
def okL (l : List Bd) : Bool := l.all Bd.inB
def mayB (lg th po wt sp yi : Int) : Bool := okL (bdsL lg th po wt sp yi)
def ckI (lg th po wt sp yi : Int) : Int := if mayB lg th po wt sp yi then 0 else 20
theorem okL_nil : okL [] = true := rfl
theorem okL_snoc {l : List Bd} {x : Bd} (h : okL l = true) (k : x.inB = true) : okL (l ++ [x]) = true := by
  unfold okL at *; simp only [List.all_append, h, Bool.true_and, List.all_cons, k, List.all_nil]
theorem may_not {lg th po wt sp yi : Int} {pre suf : List Bd} {x : Bd} (h : bdsL lg th po wt sp yi = pre ++ x :: suf) (k : x.inB = false) : mayB lg th po wt sp yi = false := by
  unfold mayB okL; rw [h]; simp only [List.all_append, List.all_cons, k, Bool.false_and, Bool.and_false]
theorem may_iff {lg th po wt sp yi : Int} : mayB lg th po wt sp yi = true ↔
    1 ≤ lg ∧ lg ≤ 6 ∧ 1 ≤ th ∧ th ≤ 16 ∧ 0 ≤ po ∧ po ≤ 2 ∧ 0 ≤ wt ∧ wt ≤ 3 ∧ 0 ≤ sp ∧ sp ≤ 8 ∧ 0 ≤ yi ∧ yi ≤ 8 ∧ (wt = 2 ∨ sp = 0 ∧ yi = 0) := by
  unfold mayB okL bdsL triesI
  simp only [List.all_cons, List.all_nil, Bd.inB, inB, Bool.and_eq_true, decide_eq_true_eq, Bool.and_true]
  by_cases h : wt = 2
  · rw [if_pos h]; omega
  · rw [if_neg h]; omega
theorem ck_yes {lg th po wt sp yi : Int} (h : mayB lg th po wt sp yi = true) : ckI lg th po wt sp yi = 0 := by rw [ckI, if_pos h]
theorem ck_no {lg th po wt sp yi : Int} (h : mayB lg th po wt sp yi = false) : ckI lg th po wt sp yi = 20 := by rw [ckI, h]; rfl
theorem may_f {lg th po wt sp yi : Int} (h : ¬ (1 ≤ lg ∧ lg ≤ 6 ∧ 1 ≤ th ∧ th ≤ 16 ∧ 0 ≤ po ∧ po ≤ 2 ∧ 0 ≤ wt ∧ wt ≤ 3 ∧ 0 ≤ sp ∧ sp ≤ 8 ∧ 0 ≤ yi ∧ yi ≤ 8 ∧ (wt = 2 ∨ sp = 0 ∧ yi = 0))) : mayB lg th po wt sp yi = false := by
  cases hm : mayB lg th po wt sp yi
  · rfl
  · exact absurd (may_iff.1 hm) h
def pw (lg : Int) : Int := if lg = 1 then 2 else if lg = 2 then 4 else if lg = 3 then 8 else if lg = 4 then 16 else if lg = 5 then 32 else 64
def roomI (lg th po wt sp yi : Int) : Int := if mayB lg th po wt sp yi then pw lg else 0
def parksB (lg th po wt sp yi : Int) : Bool := mayB lg th po wt sp yi && (decide (wt = 2) || decide (wt = 3))
def tryI (lg th po wt sp yi : Int) : Int := if parksB lg th po wt sp yi then sp + yi else 0
theorem room_no {lg th po wt sp yi : Int} (h : mayB lg th po wt sp yi = false) : roomI lg th po wt sp yi = 0 := by rw [roomI, h]; rfl
theorem room_yes {lg th po wt sp yi : Int} (h : mayB lg th po wt sp yi = true) : roomI lg th po wt sp yi = pw lg := by rw [roomI, if_pos h]
theorem parks_no {lg th po wt sp yi : Int} (h : mayB lg th po wt sp yi = false) : parksB lg th po wt sp yi = false := by rw [parksB, h]; rfl
theorem try_no {lg th po wt sp yi : Int} (h : parksB lg th po wt sp yi = false) : tryI lg th po wt sp yi = 0 := by rw [tryI, h]; rfl
theorem try_yes {lg th po wt sp yi : Int} (h : parksB lg th po wt sp yi = true) : tryI lg th po wt sp yi = sp + yi := by rw [tryI, if_pos h]
theorem parks_may {lg th po wt sp yi : Int} (h : parksB lg th po wt sp yi = true) : mayB lg th po wt sp yi = true := by
  unfold parksB at h; simp only [Bool.and_eq_true] at h; exact h.1
theorem pw_bd (lg : Int) : 2 ≤ pw lg ∧ pw lg ≤ 64 := by
  unfold pw
  repeat' split
  all_goals omega
theorem room_bd (lg th po wt sp yi : Int) : 0 ≤ roomI lg th po wt sp yi ∧ roomI lg th po wt sp yi ≤ 64 := by
  have := pw_bd lg
  unfold roomI; split <;> omega
end Go.Proofs.Ytmdpgaihbkjjgaa
