/- Layer 8, plain: what lets one in, takes one out, lets one go, and closes a ring's word. -/
import Derived.Test.YtgbjgknnkphfiaaPosC
namespace Go.Proofs.Ytgbjgknnkphfiaa
set_option linter.unusedVariables false
set_option linter.unusedSimpArgs false

def haltB (h t m r : Int) : Bool := m == 2 || !checkB h t m r
def someB (h t : Int) : Bool := decide (0 < lenI h t)
/-- With what result one comes in; which tail there is then; at which position. -/
def acR (h t m r : Int) : Int := if haltB h t m r then 7 else if m = 1 then 6 else if fullB h t r || t == 1099511627776 then 2 else 1
def acT (h t m r : Int) : Int := if acR h t m r = 1 then t + 1 else t
def acP (h t m r : Int) : Int := if acR h t m r = 1 then t else 0
/-- With what result one goes out; which head there is then; from which position. -/
def tkR (h t m r : Int) : Int := if haltB h t m r then 7 else if someB h t then 1 else if m = 1 then 6 else 4
def tkH (h t m r : Int) : Int := if tkR h t m r = 1 then h + 1 else h
def tkP (h t m r : Int) : Int := if tkR h t m r = 1 then h else 0
/-- Whether the first one goes; which head there is then. -/
def evB (h t m r x : Int) : Bool := h == x && m == 0 && checkB h t m r && fullB h t r && someB h t
def evH (h t m r x : Int) : Int := if evB h t m r x then h + 1 else h
def clM (m d : Int) : Int := if (d = 1 ∨ d = 2) ∧ m < d then d else m

theorem ac_in {h t m r : Int} (hh : In64 h) (ht : In64 t) : In64 (acT h t m r) ∧ In64 (acP h t m r) ∧ In64 (acR h t m r) := by
  unfold acT acP
  by_cases c : acR h t m r = 1
  · rw [if_pos c, if_pos c]
    have : t ≠ 9223372036854775807 := by
      intro e
      unfold acR haltB at c
      cases hc : checkB h t m r
      · simp [hc] at c
      · have := check_len hc; omega
    rw [c]; unfold In64 at *; omega
  · rw [if_neg c, if_neg c]
    have : 1 ≤ acR h t m r ∧ acR h t m r ≤ 7 := by unfold acR; (repeat' split) <;> omega
    unfold In64 at *; omega
theorem tk_in {h t m r : Int} (hh : In64 h) (ht : In64 t) : In64 (tkH h t m r) ∧ In64 (tkP h t m r) ∧ In64 (tkR h t m r) := by
  unfold tkH tkP
  by_cases c : tkR h t m r = 1
  · rw [if_pos c, if_pos c]
    have : h ≠ 9223372036854775807 := by
      intro e
      unfold tkR haltB at c
      cases hc : checkB h t m r
      · simp [hc] at c
      · have := check_len hc; omega
    rw [c]; unfold In64 at *; omega
  · rw [if_neg c, if_neg c]
    have : 1 ≤ tkR h t m r ∧ tkR h t m r ≤ 7 := by unfold tkR; (repeat' split) <;> omega
    unfold In64 at *; omega
theorem ev_in {h t m r x : Int} (hh : In64 h) : In64 (evH h t m r x) := by
  unfold evH
  cases c : evB h t m r x
  · rw [if_neg (by decide)]; exact hh
  · rw [if_pos rfl]
    simp [evB] at c
    have := check_len c.1.1.2
    unfold In64 at *; omega
theorem cl_in {m d : Int} (hm : In64 m) (hd : In64 d) : In64 (clM m d) := by
  unfold clM; split
  · exact hd
  · exact hm

/-- What a word that may be is told. -/
theorem halt_f {h t m r : Int} (c : haltB h t m r = false) : checkB h t m r = true ∧ m ≠ 2 := by
  simp [haltB] at c; exact ⟨c.2, c.1⟩
theorem some_iff {h t m r : Int} (c : checkB h t m r = true) : someB h t = decide (h < t) := by
  have := check_len c
  unfold someB; rw [Bool.eq_iff_iff]; simp; omega
theorem full_iff {h t m r : Int} (c : checkB h t m r = true) : fullB h t r = decide (t - h = r) := by
  have := check_len c
  unfold fullB; rw [Bool.eq_iff_iff]; simp; omega
theorem ac7 {h t m r : Int} (c : haltB h t m r = true) : acR h t m r = 7 := by simp [acR, c]
theorem ac6 {h t r : Int} (c : haltB h t 1 r = false) : acR h t 1 r = 6 := by simp [acR, c]
theorem ac_n {h t m r : Int} (c : acR h t m r ≠ 1) : acT h t m r = t ∧ acP h t m r = 0 := by simp [acT, acP, c]
theorem ac_y {h t m r : Int} (c : acR h t m r = 1) : acT h t m r = t + 1 ∧ acP h t m r = t := by simp [acT, acP, c]
theorem tk_n {h t m r : Int} (c : tkR h t m r ≠ 1) : tkH h t m r = h ∧ tkP h t m r = 0 := by simp [tkH, tkP, c]
theorem tk_y {h t m r : Int} (c : tkR h t m r = 1) : tkH h t m r = h + 1 ∧ tkP h t m r = h := by simp [tkH, tkP, c]
/-- Something comes in just of a word that may be, is open, has room, and is not at its end. -/
theorem ac1_iff {h t m r : Int} : acR h t m r = 1 ↔ checkB h t m r = true ∧ m = 0 ∧ t - h < r ∧ t < 1099511627776 := by
  unfold acR haltB
  cases c : checkB h t m r
  · simp
  · have := check_len c
    rw [full_iff c]
    by_cases h2 : m = 2
    · simp [h2]
    · by_cases h1 : m = 1
      · simp [h1]
      · by_cases hf : t - h = r
        · simp [h1, h2, hf]
        · by_cases he : t = 1099511627776
          · simp [h1, h2, hf, he]
          · simp [h1, h2, hf, he]; omega
theorem tk1_iff {h t m r : Int} : tkR h t m r = 1 ↔ checkB h t m r = true ∧ m ≠ 2 ∧ h < t := by
  unfold tkR haltB
  cases c : checkB h t m r
  · simp
  · rw [some_iff c]
    by_cases h2 : m = 2
    · simp [h2]
    · by_cases hs : h < t
      · simp [h2, hs]
      · by_cases h1 : m = 1
        · simp [h1, hs]
        · simp [h1, h2, hs]
theorem ev_iff {h t m r x : Int} : evB h t m r x = true ↔ checkB h t m r = true ∧ m = 0 ∧ h = x ∧ t - h = r ∧ h < t := by
  unfold evB
  cases c : checkB h t m r
  · simp
  · rw [some_iff c, full_iff c]; simp
    constructor <;> (intro h; omega)
end Go.Proofs.Ytgbjgknnkphfiaa
