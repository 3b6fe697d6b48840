/- Plain functions of layer 7 (how one waits), the program's and the document's, and that they are one. -/
import Derived.Test.YtmdpgaihbkjjgaaConfA
namespace Go.Proofs.Ytmdpgaihbkjjgaa
set_option linter.unusedVariables false
set_option linter.unusedSimpArgs false

/-- What one does who looks in vain the n-th time, by the way to wait. -/
def wayI (wt sp yi n : Int) : Int := if wt = 0 then 0 else if wt = 1 then 1 else if wt = 2 then (if n < sp then 0 else if n < sp + yi then 1 else 2) else 2
def nxI (lg th po wt sp yi n : Int) : Int := if mayB lg th po wt sp yi then wayI wt sp yi n else 0
def walkL (lg th po wt sp yi : Int) (k : Nat) : List Int := (List.range k).map (fun (i : Nat) => nxI lg th po wt sp yi (i : Int))
/-- How many are that one. -/
def cntO (l : List Int) (one : Int) : Int := ((l.countP (fun x => x == one) : Nat) : Int)
/-- How many times a walk has. -/
def manyN (many : Int) : Nat := (max 0 (min many 1000)).toNat

theorem nx_no {lg th po wt sp yi n : Int} (h : mayB lg th po wt sp yi = false) : nxI lg th po wt sp yi n = 0 := by rw [nxI, h]; rfl
theorem nx_yes {lg th po wt sp yi n : Int} (h : mayB lg th po wt sp yi = true) : nxI lg th po wt sp yi n = wayI wt sp yi n := by rw [nxI, if_pos h]
theorem way_bd (wt sp yi n : Int) : 0 ≤ wayI wt sp yi n ∧ wayI wt sp yi n ≤ 2 := by
  unfold wayI; repeat' split
  all_goals omega
theorem nx_bd (lg th po wt sp yi n : Int) : 0 ≤ nxI lg th po wt sp yi n ∧ nxI lg th po wt sp yi n ≤ 2 := by
  have := way_bd wt sp yi n
  unfold nxI; split <;> omega
theorem way_mono {wt sp yi n m : Int} (h : n ≤ m) : wayI wt sp yi n ≤ wayI wt sp yi m := by
  unfold wayI; repeat' split
  all_goals omega
theorem nx_mono {lg th po wt sp yi n m : Int} (h : n ≤ m) : nxI lg th po wt sp yi n ≤ nxI lg th po wt sp yi m := by
  have := way_mono (wt := wt) (sp := sp) (yi := yi) h
  unfold nxI; split <;> omega
/-- One parks just from the time on that is told. -/
theorem nx_parks {lg th po wt sp yi n : Int} (h0 : 0 ≤ n) : (nxI lg th po wt sp yi n = 2) = (parksB lg th po wt sp yi = true ∧ tryI lg th po wt sp yi ≤ n) := by
  cases hm : mayB lg th po wt sp yi
  · rw [nx_no hm, parks_no hm]; simp
  · rw [nx_yes hm]
    have hp := may_iff.1 hm
    unfold tryI parksB wayI
    rw [hm]
    simp only [Bool.true_and, Bool.or_eq_true, decide_eq_true_eq, eq_iff_iff]
    repeat' split
    all_goals omega
theorem walk_len (lg th po wt sp yi : Int) (k : Nat) : (walkL lg th po wt sp yi k).length = k := by simp [walkL]
theorem walk_succ (lg th po wt sp yi : Int) (k : Nat) : walkL lg th po wt sp yi (k + 1) = walkL lg th po wt sp yi k ++ [nxI lg th po wt sp yi (k : Int)] := by
  simp [walkL, List.range_succ]
theorem walk_take {lg th po wt sp yi : Int} {k m : Nat} (h : k ≤ m) : (walkL lg th po wt sp yi m).take k = walkL lg th po wt sp yi k := by
  unfold walkL
  rw [← List.map_take, List.take_range, Nat.min_eq_left h]
theorem cnt_nil (one : Int) : cntO [] one = 0 := rfl
theorem cnt_snoc (l : List Int) (x one : Int) : cntO (l ++ [x]) one = cntO l one + if x = one then 1 else 0 := by
  unfold cntO
  rw [List.countP_append]
  by_cases h : x = one
  · subst h; simp
  · simp [h]
theorem cnt_bound (l : List Int) (one : Int) : 0 ≤ cntO l one ∧ cntO l one ≤ l.length := by
  unfold cntO
  have := List.countP_le_length (p := fun x => x == one) (l := l)
  omega
/-- All of a walk are counted. -/
theorem walk_all (lg th po wt sp yi : Int) : ∀ k, cntO (walkL lg th po wt sp yi k) 0 + cntO (walkL lg th po wt sp yi k) 1 + cntO (walkL lg th po wt sp yi k) 2 = k
  | 0 => rfl
  | k + 1 => by
    have ih := walk_all lg th po wt sp yi k
    have hb := nx_bd lg th po wt sp yi k
    rw [walk_succ, cnt_snoc, cnt_snoc, cnt_snoc]
    generalize nxI lg th po wt sp yi k = x at hb ⊢
    obtain rfl | rfl | rfl : x = 0 ∨ x = 1 ∨ x = 2 := by omega
    all_goals simp; omega
/-- Of a phased one as many are spun, and yielded, as the configuration says. -/
theorem walk_phased {lg th po sp yi : Int} (h : mayB lg th po 2 sp yi = true) : ∀ k : Nat, cntO (walkL lg th po 2 sp yi k) 0 = min (k : Int) sp ∧ cntO (walkL lg th po 2 sp yi k) 1 = min (max ((k : Int) - sp) 0) yi
  | 0 => by
    have hp := may_iff.1 h
    constructor <;> simp [walkL, cntO] <;> omega
  | k + 1 => by
    have ih := walk_phased h k
    have hp := may_iff.1 h
    rw [walk_succ, cnt_snoc, cnt_snoc, ih.1, ih.2, nx_yes h]
    have hx : wayI 2 sp yi k = if (k : Int) < sp then 0 else if (k : Int) < sp + yi then 1 else 2 := rfl
    by_cases h1 : (k : Int) < sp
    · rw [hx, if_pos h1]; simp; omega
    · by_cases h2 : (k : Int) < sp + yi
      · rw [hx, if_neg h1, if_pos h2]; simp; omega
      · rw [hx, if_neg h1, if_neg h2]; simp; omega
theorem many_nat (n : Nat) (h : n ≤ 1000) : manyN n = n := by unfold manyN; omega
theorem many_le (m : Int) : manyN m ≤ 1000 := by unfold manyN; omega
end Go.Proofs.Ytmdpgaihbkjjgaa
