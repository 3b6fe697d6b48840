/- Layer 4, plain mathematics of a pile (a binary heap in a list). -/
import Derived.Test.YthlpjlcadcgoeaaDueF
namespace Go.Proofs.Ythlpjlcadcgoeaa
set_option linter.unusedVariables false
set_option linter.unusedSimpArgs false

/-- What lies at a place. -/
def gt (l : List Du) (i : Nat) : Du := l.getD i ⟨0, 0⟩
theorem gt_some {l : List Du} {i : Nat} (h : i < l.length) : l[i]? = some (gt l i) := by simp [gt, List.getD, h]
/-- Two change places. -/
def sw (l : List Du) (i j : Nat) : List Du := (l.set i (gt l j)).set j (gt l i)
theorem sw_len (l : List Du) (i j : Nat) : (sw l i j).length = l.length := by simp [sw]
theorem sw_gt {l : List Du} {i j : Nat} (hi : i < l.length) (hj : j < l.length) (k : Nat) : gt (sw l i j) k = if k = j then gt l i else if k = i then gt l j else gt l k := by
  unfold sw gt
  simp only [List.getD_eq_getElem?_getD, List.getElem?_set, List.length_set]
  by_cases h1 : j = k
  · subst h1; simp [hj]
  · by_cases h2 : i = k
    · subst h2; simp [h1, hi, Ne.symm h1]
    · simp [h1, h2, Ne.symm h1, Ne.symm h2]
theorem sw_j {l : List Du} {i j : Nat} (hi : i < l.length) (hj : j < l.length) : gt (sw l i j) j = gt l i := by rw [sw_gt hi hj, if_pos rfl]
theorem sw_i {l : List Du} {i j : Nat} (hi : i < l.length) (hj : j < l.length) : gt (sw l i j) i = gt l j := by
  rw [sw_gt hi hj]
  split
  · rename_i h; rw [h]
  · rw [if_pos rfl]
theorem sw_o {l : List Du} {i j k : Nat} (hi : i < l.length) (hj : j < l.length) (h1 : k ≠ i) (h2 : k ≠ j) : gt (sw l i j) k = gt l k := by rw [sw_gt hi hj, if_neg h2, if_neg h1]
theorem gt_ext {l m : List Du} (hl : l.length = m.length) (h : ∀ k, k < l.length → gt l k = gt m k) : l = m := by
  apply List.ext_getElem? 
  intro k
  by_cases hk : k < l.length
  · rw [gt_some hk, gt_some (hl ▸ hk), h k hk]
  · simp [Nat.not_lt.1 hk, hl ▸ Nat.not_lt.1 hk]
theorem sw_arr {l : List Du} {i j : Nat} (hi : i < l.length) (hj : j < l.length) : sw l i j = (l.toArray.swap i j (by simpa using hi) (by simpa using hj)).toList := by
  refine gt_ext (by simp [sw_len]) fun k hk => ?_
  rw [sw_gt hi hj]
  have hk' : k < l.length := by rw [sw_len] at hk; exact hk
  simp only [gt, List.getD_eq_getElem?_getD, Array.getElem?_toList, Array.getElem?_swap, List.getElem_toArray, List.getElem?_toArray]
  by_cases h1 : k = j
  · subst h1; simp [hi]
  · by_cases h2 : k = i
    · subst h2; simp [h1, hj, Ne.symm h1]
    · simp [h1, h2, Ne.symm h1, Ne.symm h2]
theorem sw_perm {l : List Du} {i j : Nat} (hi : i < l.length) (hj : j < l.length) : (sw l i j).Perm l := by
  rw [sw_arr hi hj]
  have := Array.swap_perm (xs := l.toArray) (i := i) (j := j) (by simpa using hi) (by simpa using hj)
  simpa using Array.perm_iff_toList_perm.1 this

/-- None of the first n is ahead of the one that it hangs on. -/
def HeapN (l : List Du) (n : Nat) : Prop := ∀ k, 0 < k → k < n → dahB (gt l k) (gt l ((k - 1) / 2)) = false
/-- The same, but for the one at j. -/
def UpInv (l : List Du) (j n : Nat) : Prop := (∀ k, 0 < k → k < n → k ≠ j → dahB (gt l k) (gt l ((k - 1) / 2)) = false) ∧ ∀ c, 0 < c → c < n → (c - 1) / 2 = j → 0 < j → dahB (gt l c) (gt l ((j - 1) / 2)) = false
theorem up_zero {l : List Du} {n : Nat} (h : UpInv l 0 n) : HeapN l n := fun k h0 hk => h.1 k h0 hk (by omega)
theorem up_done {l : List Du} {j n : Nat} (h : UpInv l j n) (hj : dahB (gt l j) (gt l ((j - 1) / 2)) = false) : HeapN l n := fun k h0 hk => by
  by_cases hkj : k = j
  · rw [hkj]; exact hj
  · exact h.1 k h0 hk hkj
theorem up_step {l : List Du} {j n : Nat} (h : UpInv l j n) (hn : n ≤ l.length) (h0 : 0 < j) (hj : j < n) (ha : dahB (gt l j) (gt l ((j - 1) / 2)) = true) : UpInv (sw l ((j - 1) / 2) j) ((j - 1) / 2) n := by
  obtain ⟨i, hi⟩ : ∃ i, (j - 1) / 2 = i := ⟨_, rfl⟩
  rw [hi] at ha ⊢
  have hij : i < j := by omega
  have hil : i < l.length := by omega
  have hjl : j < l.length := by omega
  have ej := sw_j hil hjl
  have ei := sw_i hil hjl
  refine ⟨fun k hk0 hkn hki => ?_, fun c hc0 hcn hcp hi0 => ?_⟩
  · by_cases hkj : k = j
    · subst hkj
      rw [hi, ej, ei]
      exact ahead_asymm ha
    · rw [sw_o hil hjl hki hkj]
      by_cases hpj : (k - 1) / 2 = j
      · rw [hpj, ej]
        have := h.2 k hk0 hkn hpj h0
        rwa [hi] at this
      · by_cases hpi : (k - 1) / 2 = i
        · rw [hpi, ei]
          have := h.1 k hk0 hkn hkj
          rw [hpi] at this
          exact nahead_of this ha
        · rw [sw_o hil hjl hpi hpj]
          exact h.1 k hk0 hkn hkj
  · have hpi : (i - 1) / 2 < i := by omega
    rw [sw_o (k := (i - 1) / 2) hil hjl (by omega) (by omega)]
    have h1 := h.1 i hi0 (by omega) (by omega)
    by_cases hcj : c = j
    · subst hcj
      rw [ej]; exact h1
    · rw [sw_o hil hjl (by omega) hcj]
      have h2 := h.1 c hc0 hcn hcj
      rw [hcp] at h2
      exact nahead_trans h2 h1

/-- The same, but for those that hang on the one at i. -/
def DownInv (l : List Du) (i n : Nat) : Prop := (∀ k, 0 < k → k < n → (k - 1) / 2 ≠ i → dahB (gt l k) (gt l ((k - 1) / 2)) = false) ∧ ∀ c, 0 < c → c < n → (c - 1) / 2 = i → 0 < i → dahB (gt l c) (gt l ((i - 1) / 2)) = false
theorem down_leaf {l : List Du} {i n : Nat} (h : DownInv l i n) (hi : n ≤ 2 * i + 1) : HeapN l n := fun k h0 hk => h.1 k h0 hk (by omega)
/-- Which one of the two that hang on the one at i is meant. -/
def kid (l : List Du) (i n : Nat) : Nat := if 2 * i + 2 < n ∧ dahB (gt l (2 * i + 2)) (gt l (2 * i + 1)) = true then 2 * i + 2 else 2 * i + 1
theorem kid_least {l : List Du} {i n k : Nat} (h0 : 0 < k) (hk : k < n) (hp : (k - 1) / 2 = i) : dahB (gt l k) (gt l (kid l i n)) = false := by
  unfold kid
  split
  · rename_i h
    by_cases hk2 : k = 2 * i + 2
    · rw [hk2]; exact ahead_irrefl _
    · obtain rfl : k = 2 * i + 1 := by omega
      exact ahead_asymm h.2
  · rename_i h
    by_cases hk1 : k = 2 * i + 1
    · rw [hk1]; exact ahead_irrefl _
    · obtain rfl : k = 2 * i + 2 := by omega
      cases hc : dahB (gt l (2 * i + 2)) (gt l (2 * i + 1))
      · rfl
      · exact absurd ⟨hk, hc⟩ h
theorem kid_bd {l : List Du} {i n : Nat} (h : 2 * i + 1 < n) : i < kid l i n ∧ kid l i n < n ∧ (kid l i n - 1) / 2 = i ∧ (kid l i n = 2 * i + 1 ∨ kid l i n = 2 * i + 2) := by
  unfold kid; split <;> omega
theorem down_done {l : List Du} {i n : Nat} (h : DownInv l i n) (hk : dahB (gt l (kid l i n)) (gt l i) = false) : HeapN l n := fun k h0 hkn => by
  by_cases hp : (k - 1) / 2 = i
  · rw [hp]; exact nahead_trans (kid_least h0 hkn hp) hk
  · exact h.1 k h0 hkn hp
theorem down_step {l : List Du} {i n : Nat} (h : DownInv l i n) (hn : n ≤ l.length) (hin : 2 * i + 1 < n) (ha : dahB (gt l (kid l i n)) (gt l i) = true) : DownInv (sw l i (kid l i n)) (kid l i n) n := by
  have hleast : ∀ k, 0 < k → k < n → (k - 1) / 2 = i → dahB (gt l k) (gt l (kid l i n)) = false := fun k h0 hk hp => kid_least h0 hk hp
  obtain ⟨h1, h2, h3, -⟩ := kid_bd (l := l) hin
  generalize kid l i n = j at *
  have hil : i < l.length := by omega
  have hjl : j < l.length := by omega
  have ej := sw_j hil hjl
  have ei := sw_i hil hjl
  refine ⟨fun k hk0 hkn hkp => ?_, fun c hc0 hcn hcp hj0 => ?_⟩
  · by_cases hki : k = i
    · subst hki
      rw [ei, sw_o (k := (k - 1) / 2) hil hjl (by omega) (by omega)]
      exact h.2 j (by omega) h2 h3 hk0
    · by_cases hkj : k = j
      · subst hkj
        rw [h3, ej, ei]
        exact ahead_asymm ha
      · rw [sw_o hil hjl hki hkj]
        by_cases hpi : (k - 1) / 2 = i
        · rw [hpi, ei]
          exact hleast k hk0 hkn hpi
        · rw [sw_o hil hjl hpi hkp]
          exact h.1 k hk0 hkn hpi
  · rw [h3, ei, sw_o (k := c) hil hjl (by omega) (by omega)]
    have := h.1 c hc0 hcn (by omega)
    rwa [hcp] at this

/-- The first one is least. -/
theorem heap_least {l : List Du} {n : Nat} (h : HeapN l n) : ∀ k, k < n → dahB (gt l k) (gt l 0) = false := fun k => by
  induction k using Nat.strongRecOn with
  | _ k ih =>
    intro hk
    by_cases h0 : k = 0
    · rw [h0]; exact ahead_irrefl _
    · exact nahead_trans (h k (by omega) hk) (ih _ (by omega) (by omega))
/-- A pile. -/
abbrev Heap (l : List Du) : Prop := HeapN l l.length
theorem heap_nil : Heap [] := fun k _ h => absurd h (Nat.not_lt_zero k)
theorem gt_append {l : List Du} {d : Du} {k : Nat} (h : k < l.length) : gt (l ++ [d]) k = gt l k := by simp [gt, List.getD, List.getElem?_append_left h]
theorem push_inv {l : List Du} {d : Du} (h : Heap l) : UpInv (l ++ [d]) l.length (l.length + 1) := by
  refine ⟨fun k h0 hk hne => ?_, fun c h0 hc hp => by omega⟩
  rw [gt_append (by omega), gt_append (by omega)]
  exact h k h0 (by omega)
theorem heap_of_len {l : List Du} {n : Nat} (h : HeapN l n) (hn : l.length = n) : Heap l := by subst hn; exact h
theorem pop_inv {l : List Du} {n : Nat} (h : Heap l) (hn : l.length = n + 1) : DownInv (sw l 0 n) 0 n := by
  refine ⟨fun k h0 hk hp => ?_, fun c _ _ _ h => by omega⟩
  rw [sw_o (by omega) (by omega) (by omega) (by omega), sw_o (by omega) (by omega) hp (by omega)]
  exact h k h0 (by omega)
theorem heap_take {l : List Du} {n : Nat} (h : HeapN l n) (hn : l.length = n + 1) : Heap (l.take n) := by
  have hl : (l.take n).length = n := by simp; omega
  intro k h0 hk
  rw [hl] at hk
  have e : ∀ j, j < n → gt (l.take n) j = gt l j := fun j hj => by simp [gt, List.getD, List.getElem?_take, hj]
  rw [e k hk, e _ (by omega)]
  exact h k h0 hk
theorem take_last {l : List Du} {n : Nat} (hn : l.length = n + 1) : l.take n ++ [gt l n] = l := by
  refine gt_ext (by simp; omega) fun k hk => ?_
  by_cases h : k < n
  · rw [gt_append (by simp; omega)]
    simp [gt, List.getD, List.getElem?_take, h]
  · have : k = n := by simp at hk; omega
    subst this
    have : (l.take k).length = k := by simp; omega
    simp [gt, List.getD, List.getElem?_append_right, this]
theorem perm_last {l m : List Du} {n : Nat} {d : Du} (h : m.Perm l) (hn : m.length = n + 1) (hd : gt m n = d) : l.Perm (d :: m.take n) := by
  refine h.symm.trans ?_
  have := take_last hn
  rw [hd] at this
  have h2 := List.perm_append_comm (l₁ := m.take n) (l₂ := [d])
  rw [this] at h2
  exact h2
/-- What is taken of a pile that holds those in order is the first of these. -/
theorem heap_first {l t r : List Du} {d d0 : Du} (hp : l.Perm (d0 :: t)) (hs : Sorted (d0 :: t)) (hl : l.Perm (d :: r)) (hm : ∀ e ∈ l, dahB e d = false) : d = d0 ∧ r.Perm t := by
  have h1 : dahB d0 d = false := hm d0 (hp.mem_iff.2 (by simp))
  have hd : d = d0 := by
    rcases List.mem_cons.1 (hp.mem_iff.1 (hl.mem_iff.2 (List.mem_cons_self ..))) with e | h
    · exact e
    · have := (List.pairwise_cons.1 hs).1 d h
      rw [h1] at this; cases this
  subst hd
  exact ⟨rfl, (List.perm_cons _).1 (hl.symm.trans hp)⟩
theorem gt_mem {l : List Du} {e : Du} (h : e ∈ l) : ∃ k, k < l.length ∧ gt l k = e := by
  obtain ⟨k, hk, rfl⟩ := List.getElem_of_mem h
  exact ⟨k, hk, by simp [gt, List.getD, hk]⟩
end Go.Proofs.Ythlpjlcadcgoeaa
