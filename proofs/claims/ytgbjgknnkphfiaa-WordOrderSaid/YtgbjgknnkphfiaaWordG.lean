/- Layer 8, plain: what the laws ask. -/
import Derived.Test.YtgbjgknnkphfiaaWordF
namespace Go.Proofs.Ytgbjgknnkphfiaa
set_option linter.unusedVariables false
set_option linter.unusedSimpArgs false

theorem check_iff {h t m r : Int} : checkB h t m r = true ↔ 0 ≤ h ∧ h ≤ t ∧ t ≤ 1099511627776 ∧ 0 ≤ m ∧ m ≤ 2 ∧ t - h ≤ r := by
  constructor
  · intro c; have := check_len c; omega
  · intro c
    have : lenI h t = t - h := by unfold lenI; split <;> omega
    simp [checkB, this]; omega
/-- One comes in, or the word stays. -/
theorem ac_or (h t m r : Int) : (acR h t m r = 1 ∧ acT h t m r = t + 1 ∧ acP h t m r = t ∧ checkB h t m r = true ∧ m = 0 ∧ t - h < r ∧ t < 1099511627776) ∨ (acR h t m r ≠ 1 ∧ acT h t m r = t ∧ acP h t m r = 0) := by
  by_cases c : acR h t m r = 1
  · exact .inl ⟨c, (ac_y c).1, (ac_y c).2, ac1_iff.1 c⟩
  · exact .inr ⟨c, ac_n c⟩
theorem tk_or (h t m r : Int) : (tkR h t m r = 1 ∧ tkH h t m r = h + 1 ∧ tkP h t m r = h ∧ checkB h t m r = true ∧ m ≠ 2 ∧ h < t) ∨ (tkR h t m r ≠ 1 ∧ tkH h t m r = h ∧ tkP h t m r = 0) := by
  by_cases c : tkR h t m r = 1
  · exact .inl ⟨c, (tk_y c).1, (tk_y c).2, tk1_iff.1 c⟩
  · exact .inr ⟨c, tk_n c⟩
theorem ev_or (h t m r x : Int) : (evB h t m r x = true ∧ evH h t m r x = h + 1 ∧ checkB h t m r = true ∧ m = 0 ∧ h = x ∧ t - h = r ∧ h < t) ∨ (evB h t m r x = false ∧ evH h t m r x = h) := by
  cases c : evB h t m r x
  · exact .inr ⟨rfl, by simp [evH, c]⟩
  · exact .inl ⟨rfl, by simp [evH, c], ev_iff.1 c⟩
theorem cl_or (m d : Int) : ((d = 1 ∨ d = 2) ∧ m < d ∧ clM m d = d) ∨ (¬ ((d = 1 ∨ d = 2) ∧ m < d) ∧ clM m d = m) := by
  by_cases c : (d = 1 ∨ d = 2) ∧ m < d
  · exact .inl ⟨c.1, c.2, by unfold clM; rw [if_pos c]⟩
  · exact .inr ⟨c, by unfold clM; rw [if_neg c]⟩
theorem ac_check {h t m r : Int} (c : checkB h t m r = true) : checkB h (acT h t m r) m r = true := by
  rcases ac_or h t m r with ⟨_, e, _, _, _, _, _⟩ | ⟨_, e, _⟩
  · rw [e]; rw [check_iff] at c ⊢; omega
  · rw [e]; exact c
theorem tk_check {h t m r : Int} (c : checkB h t m r = true) : checkB (tkH h t m r) t m r = true := by
  rcases tk_or h t m r with ⟨_, e, _, _, _, _⟩ | ⟨_, e, _⟩
  · rw [e]; rw [check_iff] at c ⊢; omega
  · rw [e]; exact c
theorem ev_check {h t m r x : Int} (c : checkB h t m r = true) : checkB (evH h t m r x) t m r = true := by
  rcases ev_or h t m r x with ⟨_, e, _, _, _, _⟩ | ⟨_, e⟩
  · rw [e]; rw [check_iff] at c ⊢; omega
  · rw [e]; exact c
theorem cl_check {h t m r d : Int} (c : checkB h t m r = true) : checkB h t (clM m d) r = true := by
  rcases cl_or m d with ⟨_, _, e⟩ | ⟨_, e⟩
  · rw [e]; rw [check_iff] at c ⊢; omega
  · rw [e]; exact c
theorem cl_ge (m d : Int) : m ≤ clM m d := by rcases cl_or m d with ⟨_, _, e⟩ | ⟨_, e⟩ <;> omega
theorem cl_swap (m a b : Int) : clM (clM m a) b = clM (clM m b) a := by
  unfold clM
  by_cases h1 : (a = 1 ∨ a = 2) ∧ m < a <;> by_cases h2 : (b = 1 ∨ b = 2) ∧ m < b
  · rw [if_pos h1, if_pos h2]; split <;> split <;> omega
  · rw [if_pos h1, if_neg h2, if_pos h1]; split <;> omega
  · rw [if_neg h1, if_pos h2]; split <;> omega
  · rw [if_neg h1, if_neg h2, if_neg h1]
theorem ac_closed (h t m r : Int) : acR h t (clM m 1) r ≠ 1 ∧ acR h t (clM m 1) r ≠ 2 := by
  have h1 : 1 ≤ clM m 1 := by rcases cl_or m 1 with ⟨_, _, e⟩ | ⟨_, e⟩ <;> omega
  generalize clM m 1 = M at h1 ⊢
  refine ⟨fun c => by have := ac1_iff.1 c; omega, ?_⟩
  unfold acR
  cases hc : haltB h t M r
  · have := halt_f hc
    have hl := check_len this.1
    rw [if_neg (by decide), if_pos (by omega)]; decide
  · simp
theorem tk_halted {h t m r : Int} (hm : m ≤ 2) : tkR h t (clM m 2) r = 7 := by
  have h2 : clM m 2 = 2 := by rcases cl_or m 2 with ⟨_, _, e⟩ | ⟨_, e⟩ <;> omega
  simp [h2, tkR, haltB]
/-- A word that may be: what it is told. -/
theorem ac_of {h t m r : Int} (c : checkB h t m r = true) : acR h t m r = if m = 2 then 7 else if m = 1 then 6 else if t - h = r ∨ t = 1099511627776 then 2 else 1 := by
  unfold acR haltB
  rw [c, full_iff c]
  by_cases h2 : m = 2
  · simp [h2]
  · simp [h2]
theorem tk_of {h t m r : Int} (c : checkB h t m r = true) : tkR h t m r = if m = 2 then 7 else if h < t then 1 else if m = 1 then 6 else 4 := by
  unfold tkR haltB
  rw [c, some_iff c]
  by_cases h2 : m = 2
  · simp [h2]
  · simp [h2]
end Go.Proofs.Ytgbjgknnkphfiaa
