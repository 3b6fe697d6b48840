/- Layer 5: who stands behind whom, as plain mathematics. -/
import Derived.Test.YtlgldniepcjfoaaInt
namespace Go.Proofs.Ytlgldniepcjfoaa
set_option linter.unusedVariables false
set_option linter.unusedSimpArgs false

/-- Not one of so many threads. -/
def noneB (th i : Int) : Bool := decide (i < 0) || decide (th ≤ i)
/-- Where one stands; -1: nowhere. -/
def ixI (l : List Int) (i : Int) : Int := if i ∈ l then (l.idxOf i : Int) else -1
def okLn (l : List Int) : Bool := !l.any (noneB 16) && decide l.Nodup
def plI (l : List Int) (i : Int) : Int := if okLn l = true then ixI l i else -1
def entE (l : List Int) (i : Int) : Int := if okLn l = true ∧ noneB 16 i = false then (if i ∈ l then 60 else 0) else 40
def entL (l : List Int) (i : Int) : List Int := if entE l i = 0 then l ++ [i] else l
def lvE (l : List Int) (i : Int) : Int := if plI l i < 0 then 40 else 0
def lvL (l : List Int) (i : Int) : List Int := if plI l i < 0 then l else l.eraseIdx (plI l i).toNat
def nxB (l : List Int) : Bool := okLn l && !l.isEmpty
def nxI (l : List Int) : Int := if nxB l = true then l.headD 0 else 0
def nxL (l : List Int) : List Int := if nxB l = true then l.tail else l

theorem ok_iff {l : List Int} : okLn l = true ↔ (∀ x ∈ l, 0 ≤ x ∧ x ≤ 15) ∧ l.Nodup := by
  simp only [okLn, Bool.and_eq_true, Bool.not_eq_true', List.any_eq_false, decide_eq_true_eq, noneB, Bool.or_eq_true, not_or]
  refine and_congr_left fun _ => forall₂_congr fun x _ => ?_
  omega
theorem none_iff {i : Int} : noneB 16 i = false ↔ 0 ≤ i ∧ i ≤ 15 := by
  simp [noneB]; omega

/-! ### What a loop has looked at -/
theorem ix_hit {l : List Int} {i : Int} {j : Nat} (hj : j < l.length) (hi : l[j] = i) (h : i ∉ l.take j) : ixI l i = j := by
  have hm : i ∈ l := by rw [← hi]; exact List.getElem_mem hj
  have hs : l = l.take j ++ i :: l.drop (j + 1) := by rw [← hi]; simp
  unfold ixI
  rw [if_pos hm]
  have : l.idxOf i = j := by
    rw [hs, List.idxOf_append, if_neg h]
    simp; omega
  rw [this]
theorem ix_miss {l : List Int} {i : Int} (h : i ∉ l) : ixI l i = -1 := by simp [ixI, h]
theorem ix_ge {l : List Int} {i : Int} : -1 ≤ ixI l i ∧ ixI l i < l.length := by
  unfold ixI
  split
  · rename_i h
    have := List.idxOf_lt_length_iff.2 h
    omega
  · omega
theorem ix_nonneg {l : List Int} {i : Int} : 0 ≤ ixI l i ↔ i ∈ l := by
  unfold ixI
  split <;> simp [*]
theorem ix_get {l : List Int} {i : Int} (h : 0 ≤ ixI l i) : l[(ixI l i).toNat]? = some i := by
  have hm := ix_nonneg.1 h
  unfold ixI
  rw [if_pos hm]
  have := List.idxOf_lt_length_iff.2 hm
  simp [List.getElem?_eq_getElem this]
theorem not_take_succ {l : List Int} {i : Int} {j : Nat} (hj : j < l.length) (hi : l[j] ≠ i) (h : i ∉ l.take j) : i ∉ l.take (j + 1) := by
  rw [List.take_succ_eq_append_getElem hj]
  simp only [List.mem_append, List.mem_singleton, not_or]
  exact ⟨h, Ne.symm hi⟩
/-- So far each is one, and unlike all others. -/
theorem nodup_take_succ {l : List Int} {j : Nat} (hj : j < l.length) : (l.take (j + 1)).Nodup ↔ (l.take j).Nodup ∧ l[j] ∉ l.take j := by
  rw [List.take_succ_eq_append_getElem hj, List.nodup_append]
  simp only [List.mem_singleton]
  constructor
  · rintro ⟨h1, -, h3⟩
    exact ⟨h1, fun h => h3 _ h _ rfl rfl⟩
  · rintro ⟨h1, h2⟩
    exact ⟨h1, by simp, fun a ha b hb e => h2 (by rw [← hb, ← e]; exact ha)⟩
theorem not_nodup_of_take {l : List Int} {j : Nat} (hj : j < l.length) (h : l[j] ∈ l.take j) : ¬ l.Nodup := fun hn =>
  ((nodup_take_succ hj).1 (hn.sublist (List.take_sublist _ _))).2 h
theorem ok_false_none {l : List Int} {j : Nat} (hj : j < l.length) (h : noneB 16 l[j] = true) : okLn l = false := by
  cases hk : okLn l
  · rfl
  · have := none_iff.2 ((ok_iff.1 hk).1 _ (List.getElem_mem hj))
    rw [h] at this; cases this
theorem ok_false_dup {l : List Int} {j : Nat} (hj : j < l.length) (h : l[j] ∈ l.take j) : okLn l = false := by
  cases hk : okLn l
  · rfl
  · exact absurd (ok_iff.1 hk).2 (not_nodup_of_take hj h)
/-- One of the first j is l[j]'s first place otherwise. -/
theorem ix_self {l : List Int} {j : Nat} (hj : j < l.length) : ixI l l[j] = j ↔ l[j] ∉ l.take j := by
  constructor
  · intro h hm
    have h1 : l[j] ∈ l := List.getElem_mem hj
    unfold ixI at h
    rw [if_pos h1] at h
    obtain ⟨a, ha, hae⟩ := List.mem_iff_getElem.1 hm
    have h2 : (l.take j).idxOf l[j] < (l.take j).length := List.idxOf_lt_length_iff.2 hm
    have h3 : l.idxOf l[j] = (l.take j).idxOf l[j] := by
      generalize l[j] = x at *
      have h4 : (l.take j ++ l.drop j).idxOf x = (l.take j).idxOf x := by rw [List.idxOf_append, if_pos hm]
      rwa [List.take_append_drop] at h4
    simp at h2
    omega
  · intro h
    exact ix_hit hj rfl h
theorem ok_take_succ {l : List Int} {j : Nat} (hj : j < l.length) (h : okLn (l.take j) = true) (hn : noneB 16 l[j] = false) (hx : l[j] ∉ l.take j) : okLn (l.take (j + 1)) = true := by
  refine ok_iff.2 ⟨fun x hx' => ?_, (nodup_take_succ hj).2 ⟨(ok_iff.1 h).2, hx⟩⟩
  rw [List.take_succ_eq_append_getElem hj, List.mem_append, List.mem_singleton] at hx'
  rcases hx' with hx' | rfl
  · exact (ok_iff.1 h).1 _ hx'
  · exact none_iff.1 hn

/-! ### Entering, leaving, the first -/
theorem ent_ok {l : List Int} {i : Int} (h : entE l i = 0) : okLn l = true ∧ (0 ≤ i ∧ i ≤ 15) ∧ i ∉ l := by
  unfold entE at h
  split at h
  · rename_i hc
    split at h
    · cases h
    · rename_i hm
      exact ⟨hc.1, none_iff.1 hc.2, hm⟩
  · cases h
theorem ent_ok' {l : List Int} {i : Int} (h1 : okLn l = true) (h2 : 0 ≤ i ∧ i ≤ 15) (h3 : i ∉ l) : entE l i = 0 := by
  unfold entE
  rw [if_pos ⟨h1, none_iff.2 h2⟩, if_neg h3]
theorem ent_no {l : List Int} {i : Int} (h : entE l i ≠ 0) : entL l i = l := by simp [entL, h]
theorem ent_yes {l : List Int} {i : Int} (h : entE l i = 0) : entL l i = l ++ [i] := by simp [entL, h]
theorem entL_len (l : List Int) (i : Int) : (entL l i).length ≤ l.length + 1 := by
  unfold entL; split <;> simp
theorem ok_snoc {l : List Int} {i : Int} (h : entE l i = 0) : okLn (l ++ [i]) = true := by
  obtain ⟨h1, h2, h3⟩ := ent_ok h
  obtain ⟨a, b⟩ := ok_iff.1 h1
  refine ok_iff.2 ⟨fun x hx => ?_, ?_⟩
  · rcases List.mem_append.1 hx with hx | hx
    · exact a x hx
    · rw [List.mem_singleton] at hx; subst hx; exact h2
  · rw [List.nodup_append]
    exact ⟨b, by simp, fun x hx y hy e => by rw [List.mem_singleton] at hy; subst hy; subst e; exact h3 hx⟩
theorem pl_ge {l : List Int} {i : Int} : -1 ≤ plI l i ∧ plI l i < l.length := by
  unfold plI
  split
  · exact ix_ge
  · omega
theorem pl_snoc {l : List Int} {i : Int} (h : entE l i = 0) : plI (l ++ [i]) i = l.length := by
  unfold plI
  rw [if_pos (ok_snoc h), ix_hit (j := l.length) (by simp) (by simp) (by simpa using (ent_ok h).2.2)]
theorem lvL_len (l : List Int) (i : Int) : (lvL l i).length ≤ l.length := by
  unfold lvL
  split
  · omega
  · exact List.length_eraseIdx_le _ _
/-- Who entered, and left. -/
theorem line_back {l : List Int} {i : Int} (h : entE l i = 0) : lvE (l ++ [i]) i = 0 ∧ lvL (l ++ [i]) i = l ∧ plI (l ++ [i]) i = l.length ∧ okLn (l ++ [i]) = true ∧ entE (l ++ [i]) i = 60 := by
  have h1 := pl_snoc h
  refine ⟨?_, ?_, h1, ok_snoc h, ?_⟩
  · unfold lvE; rw [h1, if_neg (by omega)]
  · unfold lvL
    rw [h1, if_neg (by omega), Int.toNat_natCast, List.eraseIdx_append_of_length_le (by omega)]
    simp
  · unfold entE
    rw [if_pos ⟨ok_snoc h, none_iff.2 (ent_ok h).2.1⟩, if_pos (by simp)]

/-- A line, parted at one that stands there. -/
theorem line_split {l : List Int} {i : Int} (h : 0 ≤ plI l i) : okLn l = true ∧ ∃ s t, l = s ++ i :: t ∧ i ∉ s ∧ i ∉ t ∧ plI l i = s.length ∧ lvL l i = s ++ t ∧ okLn (s ++ t) = true := by
  have hok : okLn l = true := by
    unfold plI at h
    split at h
    · assumption
    · omega
  have hp : plI l i = ixI l i := by unfold plI; rw [if_pos hok]
  have hm : i ∈ l := ix_nonneg.1 (by rw [← hp]; exact h)
  obtain ⟨s, t, rfl⟩ := List.append_of_mem hm
  have hs : i ∉ s := fun hi => (List.nodup_append.1 (ok_iff.1 hok).2).2.2 i hi i (by simp) rfl
  obtain ⟨a, b⟩ := ok_iff.1 hok
  have hnd := List.nodup_append.1 b
  have ht : i ∉ t := (List.nodup_cons.1 hnd.2.1).1
  have hpl : plI (s ++ i :: t) i = s.length := by
    rw [hp, ix_hit (j := s.length) (by simp) (by simp) (by simpa using hs)]
  refine ⟨hok, s, t, rfl, hs, ht, hpl, ?_, ?_⟩
  · unfold lvL
    rw [if_neg (by omega), hpl, Int.toNat_natCast, List.eraseIdx_append_of_length_le (by omega)]
    simp
  · refine ok_iff.2 ⟨fun x hx => a x ?_, ?_⟩
    · rcases List.mem_append.1 hx with hx | hx <;> simp [hx]
    · rw [List.nodup_append]
      exact ⟨hnd.1, (List.nodup_cons.1 hnd.2.1).2, fun x hx y hy => hnd.2.2 x hx y (by simp [hy])⟩
theorem lv_no {l : List Int} {i : Int} (h : lvE l i ≠ 0) : plI l i = -1 ∧ lvL l i = l := by
  have hn : plI l i < 0 := by
    unfold lvE at h
    split at h
    · assumption
    · exact absurd rfl h
  have := pl_ge (l := l) (i := i)
  exact ⟨by omega, by unfold lvL; rw [if_pos hn]⟩
theorem lv_yes {l : List Int} {i : Int} (h : lvE l i = 0) : 0 ≤ plI l i := by
  unfold lvE at h
  split at h
  · cases h
  · omega
theorem pl_app {s t : List Int} {i : Int} (hok : okLn (s ++ t) = true) : plI (s ++ t) i = if i ∈ s then (s.idxOf i : Int) else if i ∈ t then (s.length + t.idxOf i : Int) else -1 := by
  unfold plI ixI
  rw [if_pos hok]
  simp only [List.mem_append, List.idxOf_append]
  by_cases h1 : i ∈ s
  · simp [h1]
  · by_cases h2 : i ∈ t
    · simp [h1, h2]; omega
    · simp [h1, h2]
/-- Who leaves lets all behind come one place nearer, and all ahead stay. -/
theorem line_leaves {l : List Int} {i o : Int} (h : lvE l i = 0) :
    0 ≤ plI l i ∧ (o = i → plI (lvL l i) o = -1) ∧ (o ≠ i → (plI l o < plI l i ∧ plI (lvL l i) o = plI l o) ∨ (plI l i < plI l o ∧ plI (lvL l i) o = plI l o - 1)) := by
  have h0 := lv_yes h
  obtain ⟨hok, s, t, rfl, hs, ht, hpl, hlv, hst⟩ := line_split h0
  refine ⟨h0, ?_, ?_⟩
  · rintro rfl
    rw [hlv, pl_app hst, if_neg hs, if_neg ht]
  · intro hne
    rw [hlv, hpl, pl_app hst, pl_app hok]
    by_cases h1 : o ∈ s
    · have := List.idxOf_lt_length_iff.2 h1
      rw [if_pos h1, if_pos h1]
      exact .inl ⟨by omega, rfl⟩
    · rw [if_neg h1, if_neg h1]
      by_cases h2 : o ∈ t
      · rw [if_pos h2, if_pos (by simp [h2]), show (i :: t).idxOf o = t.idxOf o + 1 by
          have h5 : (i == o) = false := by simpa using Ne.symm hne
          simp [List.idxOf_cons, h5]]
        exact .inr ⟨by omega, by omega⟩
      · rw [if_neg h2, if_neg (by simp [h2, hne])]
        exact .inl ⟨by omega, rfl⟩
/-- Who enters ahead of another one stands ahead of it. -/
theorem line_turns {l : List Int} {a b g : Int} (h1 : entE l a = 0) (h2 : entE (l ++ [a]) b = 0) (ha : g ≠ a) (hb : g ≠ b) :
    0 ≤ plI (lvL (l ++ [a] ++ [b]) g) a ∧ plI (lvL (l ++ [a] ++ [b]) g) b = plI (lvL (l ++ [a] ++ [b]) g) a + 1 := by
  have hok := ok_snoc h2
  have hba : b ∉ l ++ [a] := (ent_ok h2).2.2
  have hal : a ∉ l := (ent_ok h1).2.2
  have key : ∀ s : List Int, okLn (s ++ [a] ++ [b]) = true → a ∉ s → b ∉ s → 0 ≤ plI (s ++ [a] ++ [b]) a ∧ plI (s ++ [a] ++ [b]) b = plI (s ++ [a] ++ [b]) a + 1 := by
    intro s hs h3 h4
    have hab : b ≠ a := by rintro rfl; exact hba (by simp)
    rw [List.append_assoc] at hs ⊢
    rw [pl_app hs, pl_app hs, if_neg h3, if_neg h4, if_pos (by simp), if_pos (by simp)]
    have e1 : ([a] ++ [b]).idxOf a = 0 := by simp
    have e2 : ([a] ++ [b]).idxOf b = 1 := by
      have h5 : (a == b) = false := by simpa using Ne.symm hab
      simp [List.idxOf_cons, h5]
    rw [e1, e2]
    omega
  by_cases hg : lvE (l ++ [a] ++ [b]) g = 0
  · obtain ⟨-, s, t, he, hs, ht, -, hlv, hst⟩ := line_split (lv_yes hg)
    rw [hlv]
    -- the one who is gone stood in l
    have hgl : g ∈ l := by
      have : g ∈ l ++ [a] ++ [b] := by rw [he]; simp
      simpa [ha, hb] using this
    obtain ⟨s', t', hl, hs'⟩ : ∃ s' t', l = s' ++ g :: t' ∧ g ∉ s' := by
      obtain ⟨s', t', h⟩ := List.append_of_mem hgl
      have hnd : l.Nodup := (ok_iff.1 (ent_ok h1).1).2
      rw [h] at hnd
      exact ⟨s', t', h, fun hm => (List.nodup_append.1 hnd).2.2 g hm g (by simp) rfl⟩
    have e : s ++ t = (s' ++ t') ++ [a] ++ [b] := by
      have h5 : (l ++ [a] ++ [b]).erase g = s ++ t := by rw [he, List.erase_append_right _ hs]; simp
      rw [← h5, hl, List.append_assoc, List.append_assoc, List.erase_append_right _ hs', List.cons_append, List.erase_cons_head]
      simp
    rw [e]
    rw [e] at hst
    refine key _ hst ?_ ?_
    · intro hm
      refine hal ?_
      rw [hl]
      rcases List.mem_append.1 hm with hm | hm <;> simp [hm]
    · intro hm
      refine hba ?_
      rw [hl]
      rcases List.mem_append.1 hm with hm | hm <;> simp [hm]
  · rw [(lv_no hg).2]
    exact key l hok hal (fun hm => hba (by simp [hm]))
/-- One further in a line that is served. -/
theorem ok_drop {l : List Int} (h : okLn l = true) (j : Nat) : okLn (l.drop j) = true := by
  obtain ⟨a, b⟩ := ok_iff.1 h
  exact ok_iff.2 ⟨fun x hx => a x (List.mem_of_mem_drop hx), b.sublist (List.drop_sublist _ _)⟩
theorem serve {l : List Int} (h : okLn l = true) {j : Nat} (hj : j < l.length) : plI (l.drop j) l[j] = 0 ∧ nxB (l.drop j) = true ∧ nxI (l.drop j) = l[j] ∧ nxL (l.drop j) = l.drop (j + 1) := by
  have hd := ok_drop h j
  have hc : l.drop j = l[j] :: l.drop (j + 1) := List.drop_eq_getElem_cons hj
  have hb : nxB (l.drop j) = true := by unfold nxB; rw [hd, hc]; rfl
  refine ⟨?_, hb, ?_, ?_⟩
  · unfold plI
    rw [if_pos hd, ix_hit (j := 0) (by simp; omega) (by simp) (by simp)]
    rfl
  · unfold nxI; rw [if_pos hb, hc]; rfl
  · unfold nxL; rw [if_pos hb, hc]; rfl
theorem serve_end (l : List Int) : nxB (l.drop l.length) = false ∧ nxI (l.drop l.length) = 0 := by simp [nxB, nxI]
/-- There is room for no more than sixteen. -/
theorem nodup_le : ∀ (n : Nat) (l : List Int), l.Nodup → (∀ x ∈ l, 0 ≤ x ∧ x < n) → l.length ≤ n
  | 0, l, _, h => by
    cases l with
    | nil => simp
    | cons x r => have := h x (by simp); omega
  | n + 1, l, hd, h => by
    have h1 := nodup_le n (l.erase (n : Int)) (hd.sublist List.erase_sublist) (fun x hx => by
      have h2 := h x (List.mem_of_mem_erase hx)
      have h3 : x ≠ (n : Int) := fun e => by subst e; exact (hd.not_mem_erase) hx
      omega)
    have h4 := List.length_erase (a := (n : Int)) (l := l)
    split at h4 <;> omega
theorem ok_len {l : List Int} (h : okLn l = true) : l.length ≤ 16 := by
  obtain ⟨a, b⟩ := ok_iff.1 h
  exact nodup_le 16 l b (fun x hx => by have := a x hx; omega)
theorem ent_none {l : List Int} {i : Int} (h : okLn l = true) : (entE l i = 40 ↔ (i < 0 ∨ 15 < i)) := by
  unfold entE
  simp only [h, true_and, none_iff]
  split
  · rename_i hc
    split <;> omega
  · omega
theorem ent_ok_keep {l : List Int} {i : Int} (h : okLn l = true) : okLn (entL l i) = true := by
  unfold entL
  split
  · rename_i he; exact ok_snoc he
  · exact h
end Go.Proofs.Ytlgldniepcjfoaa
