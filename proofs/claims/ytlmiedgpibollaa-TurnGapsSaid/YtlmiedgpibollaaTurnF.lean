/- Layer 10, plain: how often one is picked, how long one is not, rounds; what windows tell of that. -/
import Derived.Test.YtlmiedgpibollaaRows
namespace Go.Proofs.Ytlmiedgpibollaa
set_option linter.unusedVariables false
set_option linter.unusedSimpArgs false

/-- How often something is in a list. -/
def ctO (l : List Int) (x : Int) : Nat := l.count x
theorem ct_nil (x : Int) : ctO [] x = 0 := rfl
theorem ct_snoc (l : List Int) (y x : Int) : ctO (l ++ [y]) x = ctO l x + if y = x then 1 else 0 := by
  unfold ctO
  rw [List.count_append, List.count_singleton]
  by_cases h : y = x <;> simp [h]
theorem ct_le (l : List Int) (x : Int) : ctO l x ≤ l.length := List.count_le_length
theorem ct_app (a b : List Int) (x : Int) : ctO (a ++ b) x = ctO a x + ctO b x := List.count_append
theorem ct_zero {l : List Int} {x : Int} : ctO l x = 0 ↔ x ∉ l := List.count_eq_zero

/-- The greatest run without x, where one of c is open already. -/
def gapN (x : Int) : List Int → Nat → Nat
  | [], c => c
  | y :: l, c => if y = x then max c (gapN x l 0) else gapN x l (c + 1)
def gapO (l : List Int) (x : Int) : Nat := gapN x l 0
/-- The greatest gap of some. -/
def widO (l : List Int) : List Int → Nat
  | [] => 0
  | x :: who => max (gapO l x) (widO l who)
theorem gap_hit (x : Int) (l : List Int) (c : Nat) : gapN x (x :: l) c = max c (gapN x l 0) := by simp [gapN]
theorem gap_miss {x y : Int} (h : y ≠ x) (l : List Int) (c : Nat) : gapN x (y :: l) c = gapN x l (c + 1) := by simp [gapN, h]
theorem gap_ge (x : Int) : ∀ (l : List Int) (c : Nat), c ≤ gapN x l c
  | [], c => Nat.le_refl c
  | y :: l, c => by
    by_cases h : y = x
    · subst h; rw [gap_hit]; omega
    · rw [gap_miss h]; have := gap_ge x l (c + 1); omega
theorem gap_le (x : Int) : ∀ (l : List Int) (c : Nat), gapN x l c ≤ c + l.length
  | [], c => by simp [gapN]
  | y :: l, c => by
    by_cases h : y = x
    · subst h; rw [gap_hit]; have := gap_le y l 0; simp; omega
    · rw [gap_miss h]; have := gap_le x l (c + 1); simp; omega
theorem gap_add (x : Int) : ∀ (l : List Int) (c d : Nat), gapN x l (c + d) ≤ c + gapN x l d
  | [], c, d => by simp [gapN]
  | y :: l, c, d => by
    by_cases h : y = x
    · subst h; rw [gap_hit, gap_hit]; omega
    · rw [gap_miss h, gap_miss h, Nat.add_assoc]; exact gap_add x l c (d + 1)
theorem gap_mono (x : Int) : ∀ (l : List Int) {c d : Nat}, c ≤ d → gapN x l c ≤ gapN x l d
  | [], c, d, h => h
  | y :: l, c, d, h => by
    by_cases e : y = x
    · subst e; rw [gap_hit, gap_hit]; omega
    · rw [gap_miss e, gap_miss e]; exact gap_mono x l (by omega)
theorem gap_cut (x : Int) : ∀ (a b : List Int) (c : Nat), gapN x (a ++ x :: b) c = max (gapN x a c) (gapN x b 0)
  | [], b, c => by rw [List.nil_append, gap_hit]; rfl
  | y :: a, b, c => by
    rw [List.cons_append]
    by_cases e : y = x
    · subst e; rw [gap_hit, gap_hit, gap_cut y a b 0]; omega
    · rw [gap_miss e, gap_miss e, gap_cut x a b (c + 1)]
theorem gap_left (x : Int) : ∀ (a b : List Int) (c : Nat), gapN x a c ≤ gapN x (a ++ b) c
  | [], b, c => gap_ge x b c
  | y :: a, b, c => by
    rw [List.cons_append]
    by_cases e : y = x
    · subst e; rw [gap_hit, gap_hit]; have := gap_left y a b 0; omega
    · rw [gap_miss e, gap_miss e]; exact gap_left x a b (c + 1)
theorem gap_right (x : Int) : ∀ (a b : List Int) (c : Nat), gapN x b 0 ≤ gapN x (a ++ b) c
  | [], b, c => gap_mono x b (Nat.zero_le c)
  | y :: a, b, c => by
    rw [List.cons_append]
    by_cases e : y = x
    · subst e; rw [gap_hit]; have := gap_right y a b 0; omega
    · rw [gap_miss e]; exact gap_right x a b (c + 1)
theorem gap_both (x : Int) : ∀ (a b : List Int) (c : Nat), gapN x (a ++ b) c ≤ gapN x a c + gapN x b 0
  | [], b, c => by have := gap_add x b c 0; simpa [gapN] using this
  | y :: a, b, c => by
    rw [List.cons_append]
    by_cases e : y = x
    · subst e; rw [gap_hit, gap_hit]; have := gap_both y a b 0; omega
    · rw [gap_miss e, gap_miss e]; exact gap_both x a b (c + 1)
theorem gap_none (x : Int) : ∀ (l : List Int) (c : Nat), x ∉ l → gapN x l c = c + l.length
  | [], c, _ => rfl
  | y :: l, c, h => by
    have h1 : y ≠ x := fun e => h (by simp [e])
    rw [gap_miss h1, gap_none x l (c + 1) (fun e => h (by simp [e]))]
    simp; omega
theorem gap_count (x : Int) {w : Nat} : ∀ (l : List Int) (c : Nat), gapN x l c < w → c + l.length < (ctO l x + 1) * w
  | [], c, h => by simp [gapN] at h; simp [ctO]; omega
  | y :: l, c, h => by
    by_cases e : y = x
    · subst e
      rw [gap_hit] at h
      have h1 := gap_count y (w := w) l 0 (by omega)
      have h2 : ctO (y :: l) y = ctO l y + 1 := by simp [ctO]
      rw [h2, Nat.add_mul (ctO l y + 1) 1 w, Nat.one_mul]
      simp only [List.length_cons]
      omega
    · rw [gap_miss e] at h
      have h1 := gap_count x l (c + 1) h
      have h2 : ctO (y :: l) x = ctO l x := by simp [ctO, e]
      rw [h2]
      simp only [List.length_cons]
      omega

/-! ### Runs, and windows -/
def runO (x : Int) (l : List Int) : Nat := (l.takeWhile (· != x)).length
/-- The greatest run of each beginning. -/
def mostO (x : Int) : List Int → Nat
  | [] => 0
  | y :: l => max (runO x (y :: l)) (mostO x l)
theorem run_hit (x : Int) (l : List Int) : runO x (x :: l) = 0 := by simp [runO]
theorem run_miss {x y : Int} (h : y ≠ x) (l : List Int) : runO x (y :: l) = runO x l + 1 := by simp [runO, h]
theorem run_nil (x : Int) : runO x [] = 0 := rfl
theorem run_le (x : Int) : ∀ l : List Int, runO x l ≤ l.length
  | [] => Nat.le_refl 0
  | y :: l => by
    by_cases e : y = x
    · subst e; rw [run_hit]; omega
    · rw [run_miss e]; have := run_le x l; simp; omega
theorem run_most (x : Int) : ∀ l : List Int, runO x l ≤ mostO x l
  | [] => Nat.le_refl 0
  | y :: l => Nat.le_max_left _ _
theorem gap_most (x : Int) : ∀ (l : List Int) (c : Nat), gapN x l c = max (c + runO x l) (mostO x l)
  | [], c => by simp [gapN, runO, mostO]
  | y :: l, c => by
    have h := run_most x l
    by_cases e : y = x
    · subst e
      rw [gap_hit, gap_most y l 0]
      simp only [mostO, run_hit]
      omega
    · rw [gap_miss e, gap_most x l (c + 1)]
      simp only [mostO, run_miss e]
      omega
theorem gap_is_most (l : List Int) (x : Int) : gapO l x = mostO x l := by
  unfold gapO
  rw [gap_most]
  have := run_most x l
  omega
theorem run_at {x : Int} : ∀ {l : List Int} {k : Nat}, l[k]? = some x → runO x l ≤ k
  | [], k, h => by simp at h
  | y :: l, 0, h => by
    simp only [List.getElem?_cons_zero, Option.some.injEq] at h
    subst h; rw [run_hit]; omega
  | y :: l, k + 1, h => by
    simp only [List.getElem?_cons_succ] at h
    by_cases e : y = x
    · subst e; rw [run_hit]; omega
    · rw [run_miss e]; have := run_at h; omega
theorem run_end {x : Int} : ∀ {l : List Int}, runO x l < l.length → l[runO x l]? = some x
  | [], h => by simp at h
  | y :: l, h => by
    by_cases e : y = x
    · subst e; rw [run_hit]; rfl
    · rw [run_miss e] at h ⊢
      simp only [List.length_cons] at h
      rw [List.getElem?_cons_succ]
      exact run_end (by omega)
theorem run_mid {x : Int} : ∀ {l : List Int} {k : Nat}, k < runO x l → ∃ y, l[k]? = some y ∧ y ≠ x
  | [], k, h => by simp [runO] at h
  | y :: l, k, h => by
    by_cases e : y = x
    · subst e; rw [run_hit] at h; omega
    · rw [run_miss e] at h
      cases k with
      | zero => exact ⟨y, rfl, e⟩
      | succ k => rw [List.getElem?_cons_succ]; exact run_mid (by omega)
theorem most_lt {x : Int} {w : Nat} (hw : 0 < w) : ∀ {l : List Int}, mostO x l < w ↔ ∀ i, i < l.length → runO x (l.drop i) < w
  | [] => by simp [mostO, hw]
  | y :: l => by
    simp only [mostO, Nat.max_lt]
    rw [most_lt (l := l) hw]
    constructor
    · rintro ⟨h1, h2⟩ i hi
      cases i with
      | zero => exact h1
      | succ i => exact h2 i (by simpa using hi)
    · intro h
      exact ⟨h 0 (by simp), fun i hi => h (i + 1) (by simpa using hi)⟩
theorem win_iff {x : Int} {l : List Int} {w i : Nat} (h : i + w ≤ l.length) : x ∈ (l.drop i).take w ↔ runO x (l.drop i) < w := by
  constructor
  · intro hm
    obtain ⟨k, hk⟩ := List.getElem?_of_mem hm
    rw [List.getElem?_take] at hk
    split at hk
    · have := run_at hk; omega
    · cases hk
  · intro hr
    have := run_end (x := x) (l := l.drop i) (by simp; omega)
    exact List.mem_of_getElem? (i := runO x (l.drop i)) (by rw [List.getElem?_take, if_pos hr]; exact this)
theorem gap_lt {x : Int} {l : List Int} {w : Nat} (hw : 0 < w) : gapO l x < w ↔ ∀ i, i + w ≤ l.length → x ∈ (l.drop i).take w := by
  rw [gap_is_most, most_lt hw]
  constructor
  · intro h i hi; exact (win_iff hi).2 (h i (by omega))
  · intro h i hi
    by_cases hw' : i + w ≤ l.length
    · exact (win_iff hw').1 (h i hw')
    · have := run_le x (l.drop i); simp at this; omega

theorem wid_le {l who : List Int} {E : Nat} : widO l who ≤ E ↔ ∀ x ∈ who, gapO l x ≤ E := by
  induction who with
  | nil => simp [widO]
  | cons x who ih => simp only [widO, Nat.max_le, ih, List.mem_cons, forall_eq_or_imp]
theorem wid_lt {l who : List Int} {w : Nat} (hw : 0 < w) : widO l who < w ↔ ∀ x ∈ who, gapO l x < w := by
  have := wid_le (l := l) (who := who) (E := w - 1)
  constructor
  · intro h x hx; have := this.1 (by omega) x hx; omega
  · intro h; have := this.2 (fun x hx => by have := h x hx; omega); omega
theorem wid_len (l who : List Int) : widO l who ≤ l.length := wid_le.2 (fun x _ => by have := gap_le x l 0; unfold gapO; omega)
theorem wid_one (l : List Int) (x : Int) : widO l [x] = gapO l x := by simp [widO]
theorem gap_len (l : List Int) (x : Int) : gapO l x ≤ l.length := by have := gap_le x l 0; unfold gapO; omega

/-- Whether it is fair. -/
def fairB (l who : List Int) (w : Int) : Bool := decide (1 ≤ w) && decide ((widO l who : Int) < w)
theorem fair_iff {l who : List Int} {w : Int} : fairB l who w = true ↔ 1 ≤ w ∧ ∀ x ∈ who, (gapO l x : Int) < w := by
  unfold fairB
  rw [Bool.and_eq_true, decide_eq_true_eq, decide_eq_true_eq]
  constructor
  · rintro ⟨h1, h2⟩
    refine ⟨h1, fun x hx => ?_⟩
    have := (wid_le (l := l) (who := who) (E := widO l who)).1 (Nat.le_refl _) x hx
    omega
  · rintro ⟨h1, h2⟩
    refine ⟨h1, ?_⟩
    have := (wid_lt (l := l) (who := who) (w := w.toNat) (by omega)).2 (fun x hx => by have := h2 x hx; omega)
    omega
theorem fair_win {l who : List Int} {w : Nat} (hw : 1 ≤ w) : fairB l who w = true ↔ ∀ i, i + w ≤ l.length → ∀ x ∈ who, x ∈ (l.drop i).take w := by
  rw [fair_iff]
  constructor
  · rintro ⟨_, h⟩ i hi x hx
    exact (gap_lt hw).1 (by have := h x hx; omega) i hi
  · intro h
    exact ⟨by omega, fun x hx => by have := (gap_lt (x := x) (l := l) hw).2 (fun i hi => h i hi x hx); omega⟩
/-- The least window. -/
def lstI (l who : List Int) : Int := if widO l who = l.length then 0 else widO l who + 1
def lstB (l who : List Int) : Bool := decide (widO l who ≠ l.length)

/-! ### Rounds -/
def robL (n k : Nat) : List Int := (List.range k).map fun i => ((i % n : Nat) : Int)
theorem rob_len (n k : Nat) : (robL n k).length = k := by simp [robL]
theorem rob_zero (n : Nat) : robL n 0 = [] := rfl
theorem rob_succ (n k : Nat) : robL n (k + 1) = robL n k ++ [((k % n : Nat) : Int)] := by simp [robL, List.range_succ]
theorem rob_at {n k i : Nat} (h : i < k) : (robL n k)[i]? = some ((i % n : Nat) : Int) := by simp [robL, h]
theorem rob_in {n k : Nat} (hn : 0 < n) {x : Int} (h : x ∈ robL n k) : 0 ≤ x ∧ x < n := by
  simp only [robL, List.mem_map] at h
  obtain ⟨i, _, rfl⟩ := h
  have := Nat.mod_lt i hn
  omega
theorem rob_none {n k : Nat} (hn : 0 < n) : ctO (robL n k) n = 0 := ct_zero.2 (fun h => by have := rob_in hn h; omega)
theorem rob_part (n m w : Nat) : ∀ j, j ≤ n → ctO (robL n (n * m + j)) w = ctO (robL n (n * m)) w + if w < j then 1 else 0
  | 0, _ => by simp
  | j + 1, h => by
    have ih := rob_part n m w j (by omega)
    rw [← Nat.add_assoc, rob_succ, ct_snoc, ih, Nat.mul_add_mod, Nat.mod_eq_of_lt (by omega)]
    by_cases h1 : w < j
    · rw [if_pos h1, if_neg (by omega), if_pos (by omega)]
    · rw [if_neg h1]
      by_cases h2 : j = w
      · subst h2; rw [if_pos rfl, if_pos (by omega)]
      · rw [if_neg (by omega), if_neg (by omega)]
theorem rob_count {n w : Nat} (hw : w < n) : ∀ m : Nat, ctO (robL n (n * m)) w = m
  | 0 => rfl
  | m + 1 => by rw [Nat.mul_succ, rob_part n m w n (Nat.le_refl n), rob_count hw m, if_pos hw]
theorem rob_gap {n w : Nat} (hw : w < n) (k : Nat) : gapO (robL n k) w < n := by
  rw [gap_lt (by omega)]
  intro i hi
  rw [rob_len] at hi
  have hm := Nat.mod_lt i (show 0 < n by omega)
  have hd := Nat.div_add_mod i n
  -- the place from i on that is w's
  obtain ⟨j, hj, hjw⟩ : ∃ j, j < n ∧ (i + j) % n = w := by
    by_cases h : i % n ≤ w
    · refine ⟨w - i % n, by omega, ?_⟩
      rw [show i + (w - i % n) = n * (i / n) + w by omega, Nat.mul_add_mod, Nat.mod_eq_of_lt hw]
    · refine ⟨w + n - i % n, by omega, ?_⟩
      rw [show i + (w + n - i % n) = n * (i / n) + (n + w) by omega, Nat.mul_add_mod, Nat.add_mod_left, Nat.mod_eq_of_lt hw]
  refine List.mem_of_getElem? (i := j) ?_
  rw [List.getElem?_take, if_pos hj, List.getElem?_drop, rob_at (by omega), hjw]
/-- What Robin answers. -/
def rbL (t r : Int) : List Int := if 1 ≤ t ∧ t ≤ 16 ∧ 1 ≤ r ∧ r ≤ 1000 then robL t.toNat (t * r).toNat else []

/-! ### How gaps are found: the sum so far, and where each one's gap begins -/
/-- Of picks from place j on, what the sum and the places tell of the greatest gap. -/
def Knows (l who : List Int) (j : Nat) (s : Nat) (m : Int → Option Nat) : Prop :=
  (∀ x, (∃ v, m x = some v) ↔ x ∈ who) ∧ (∀ x v, m x = some v → v ≤ j) ∧
  ∀ E : Nat, widO l who ≤ E ↔ s ≤ E ∧ ∀ x v, m x = some v → gapN x (l.drop j) (j - v) ≤ E
def zerosO (who : List Int) (x : Int) : Option Nat := if x ∈ who then some 0 else none
def putO (m : Int → Option Nat) (y : Int) (v : Nat) (x : Int) : Option Nat := if x = y then some v else m x
theorem knows_start (l who : List Int) : Knows l who 0 0 (zerosO who) := by
  refine ⟨fun x => ?_, fun x v h => ?_, fun E => ?_⟩
  · unfold zerosO; by_cases h : x ∈ who <;> simp [h]
  · unfold zerosO at h; split at h
    · cases h; omega
    · cases h
  · rw [wid_le]
    constructor
    · intro h
      refine ⟨Nat.zero_le _, fun x v hx => ?_⟩
      unfold zerosO at hx; split at hx
      · cases hx; rename_i hm; exact h x hm
      · cases hx
    · rintro ⟨_, h⟩ x hx
      exact h x 0 (by unfold zerosO; rw [if_pos hx])
theorem drop_at {l : List Int} {j : Nat} {y : Int} (h : l[j]? = some y) : l.drop j = y :: l.drop (j + 1) := by
  obtain ⟨h1, h2⟩ := List.getElem?_eq_some_iff.1 h
  rw [List.drop_eq_getElem_cons h1, h2]
theorem knows_skip {l who : List Int} {j s : Nat} {m : Int → Option Nat} {y : Int} (h : Knows l who j s m) (hy : l[j]? = some y) (hn : m y = none) : Knows l who (j + 1) s m := by
  obtain ⟨h1, h2, h3⟩ := h
  refine ⟨h1, fun x v hx => by have := h2 x v hx; omega, fun E => ?_⟩
  rw [h3 E, drop_at hy]
  have hg : ∀ x v, m x = some v → gapN x (y :: l.drop (j + 1)) (j - v) = gapN x (l.drop (j + 1)) (j + 1 - v) := fun x v hx => by
    have hne : y ≠ x := fun e => by subst e; rw [hn] at hx; cases hx
    rw [gap_miss hne]; have := h2 x v hx; congr 1; omega
  constructor
  · rintro ⟨a, b⟩; exact ⟨a, fun x v hx => by rw [← hg x v hx]; exact b x v hx⟩
  · rintro ⟨a, b⟩; exact ⟨a, fun x v hx => by rw [hg x v hx]; exact b x v hx⟩
theorem knows_add {l who : List Int} {j s v : Nat} {m : Int → Option Nat} {y : Int} (h : Knows l who j s m) (hy : l[j]? = some y) (hv : m y = some v) : Knows l who (j + 1) (max s (j - v)) (putO m y (j + 1)) := by
  obtain ⟨h1, h2, h3⟩ := h
  have hvj := h2 y v hv
  refine ⟨fun x => ?_, fun x u hx => ?_, fun E => ?_⟩
  · unfold putO
    by_cases e : x = y
    · subst e; rw [if_pos rfl, ← h1 x]; simp [hv]
    · rw [if_neg e]; exact h1 x
  · unfold putO at hx
    split at hx
    · cases hx; omega
    · have := h2 x u hx; omega
  · rw [h3 E, drop_at hy]
    constructor
    · rintro ⟨a, b⟩
      have hb := b y v hv
      rw [gap_hit] at hb
      refine ⟨by omega, fun x u hx => ?_⟩
      unfold putO at hx
      split at hx
      · rename_i e; subst e; cases hx
        rw [Nat.sub_self]; omega
      · rename_i e
        have := b x u hx
        rw [gap_miss (Ne.symm e)] at this
        have := h2 x u hx
        rw [show j + 1 - u = j - u + 1 by omega]; assumption
    · rintro ⟨a, b⟩
      refine ⟨by omega, fun x u hx => ?_⟩
      by_cases e : x = y
      · subst e
        rw [hv] at hx; cases hx
        have := b x (j + 1) (by simp [putO])
        rw [Nat.sub_self] at this
        rw [gap_hit]; omega
      · have := b x u (by unfold putO; rw [if_neg e]; exact hx)
        rw [gap_miss (Ne.symm e)]
        have := h2 x u hx
        rw [show j - u + 1 = j + 1 - u by omega]; assumption
/-- The last gaps, of some of who. -/
def lastO (n : Nat) (m : Int → Option Nat) : List Int → Nat → Nat
  | [], s => s
  | x :: r, s => lastO n m r (max s (n - (m x).getD 0))
theorem last_snoc (n : Nat) (m : Int → Option Nat) : ∀ (l : List Int) (x : Int) (s : Nat), lastO n m (l ++ [x]) s = max (lastO n m l s) (n - (m x).getD 0)
  | [], _, _ => rfl
  | _ :: l, x, s => by rw [List.cons_append]; exact last_snoc n m l x _
theorem last_ge (n : Nat) (m : Int → Option Nat) : ∀ (l : List Int) (s : Nat), s ≤ lastO n m l s
  | [], s => Nat.le_refl s
  | x :: l, s => by have := last_ge n m l (max s (n - (m x).getD 0)); unfold lastO; omega
theorem last_le (n : Nat) (m : Int → Option Nat) : ∀ (l : List Int) (s E : Nat), lastO n m l s ≤ E ↔ s ≤ E ∧ ∀ x ∈ l, n - (m x).getD 0 ≤ E
  | [], s, E => by simp [lastO]
  | x :: l, s, E => by
    unfold lastO
    rw [last_le n m l _ E]
    simp only [List.mem_cons, forall_eq_or_imp]
    constructor
    · rintro ⟨a, b⟩; exact ⟨by omega, by omega, b⟩
    · rintro ⟨a, b, c⟩; exact ⟨by omega, c⟩
/-- What comes out, whether all picks were gone through, or it was enough ahead of that. -/
theorem knows_done {l who : List Int} {j s E : Nat} {m : Int → Option Nat} (h : Knows l who j s m) (he : s ≥ E ∨ j = l.length) : min (lastO l.length m who s) E = min (widO l who) E := by
  obtain ⟨h1, h2, h3⟩ := h
  rcases he with he | rfl
  · have a := last_ge l.length m who s
    have b := ((h3 (widO l who)).1 (Nat.le_refl _)).1
    omega
  · have hk : ∀ F, lastO l.length m who s ≤ F ↔ widO l who ≤ F := fun F => by
      rw [last_le, h3 F, List.drop_length]
      constructor
      · rintro ⟨a, b⟩
        refine ⟨a, fun x v hx => ?_⟩
        have := b x ((h1 x).1 ⟨v, hx⟩)
        rw [hx] at this; exact this
      · rintro ⟨a, b⟩
        refine ⟨a, fun x hx => ?_⟩
        obtain ⟨v, hv⟩ := (h1 x).2 hx
        rw [hv]; exact b x v hv
    have a := (hk (widO l who)).2 (Nat.le_refl _)
    have b := (hk (lastO l.length m who s)).1 (Nat.le_refl _)
    omega
end Go.Proofs.Ytlmiedgpibollaa
