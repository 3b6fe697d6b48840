/- Plain functions of layer 4 (who is late): dues, their order, what is put, dropped and late. -/
import Derived.Test.YthlpjlcadcgoeaaRow
namespace Go.Proofs.Ythlpjlcadcgoeaa
set_option linter.unusedVariables false
set_option linter.unusedSimpArgs false

/-- A due. -/
structure Du where
  tm : Int
  id : Int
def Du.cells (d : Du) : List Value := [.int .i64 d.tm, .int .i64 d.id]
theorem Du.enc : Enc 2 Du.cells := ⟨fun _ => rfl, fun x c hc => by simp [Du.cells] at hc; rcases hc with rfl | rfl <;> rfl⟩
def dahB (a b : Du) : Bool := decide (a.tm < b.tm) || (a.tm == b.tm && decide (a.id < b.id))
def inTB (d : Du) : Bool := decide (0 ≤ d.tm) && decide (d.tm ≤ 1099511627776)
def ofTB (d : Du) : Bool := decide (0 ≤ d.id) && decide (d.id < 16)

theorem inT_iff {d : Du} : inTB d = true ↔ 0 ≤ d.tm ∧ d.tm ≤ 1099511627776 := by simp [inTB]
theorem ahead_iff {a b : Du} : dahB a b = true ↔ a.tm < b.tm ∨ (a.tm = b.tm ∧ a.id < b.id) := by simp [dahB]
theorem nahead_iff {a b : Du} : dahB a b = false ↔ ¬ (a.tm < b.tm ∨ (a.tm = b.tm ∧ a.id < b.id)) := by
  rw [← ahead_iff]; simp
theorem ahead_trans {a b c : Du} (h : dahB a b = true) (k : dahB b c = true) : dahB a c = true := by rw [ahead_iff] at *; omega
theorem ahead_asymm {a b : Du} (h : dahB a b = true) : dahB b a = false := by rw [ahead_iff] at h; rw [nahead_iff]; omega
theorem nahead_trans {a b c : Du} (h : dahB a b = false) (k : dahB b c = false) : dahB a c = false := by rw [nahead_iff] at *; omega
theorem ahead_irrefl (a : Du) : dahB a a = false := by rw [nahead_iff]; omega
theorem nahead_of {a b c : Du} (h : dahB a c = false) (k : dahB b c = true) : dahB a b = false := by rw [nahead_iff] at *; rw [ahead_iff] at k; omega
theorem ahead_total {a b : Du} (h : a.id ≠ b.id) (k : dahB a b = false) : dahB b a = true := by rw [nahead_iff] at k; rw [ahead_iff]; omega
theorem du_eq {a b : Du} (h : dahB a b = false) (k : dahB b a = false) : a = b := by
  rw [nahead_iff] at h k
  obtain ⟨x, y⟩ := a
  obtain ⟨u, v⟩ := b
  simp only at h k
  obtain rfl : x = u := by omega
  obtain rfl : y = v := by omega
  rfl

/-- Each ahead of the one behind it. -/
abbrev Sorted (l : List Du) : Prop := l.Pairwise (fun a b => dahB a b = true)
/-- No two are one. -/
abbrev Apart (l : List Du) : Prop := l.Pairwise (fun a b => a.id ≠ b.id)
def okB (l : List Du) : Bool := l.all (fun d => inTB d && ofTB d) && decide (Sorted l) && decide (Apart l)
theorem ok_iff {l : List Du} : okB l = true ↔ (∀ d ∈ l, inTB d = true ∧ ofTB d = true) ∧ Sorted l ∧ Apart l := by
  simp [okB, and_assoc]
theorem ok_sub {l m : List Du} (h : okB l = true) (hs : m.Sublist l) : okB m = true := by
  rw [ok_iff] at *
  exact ⟨fun d hd => h.1 d (hs.subset hd), h.2.1.sublist hs, h.2.2.sublist hs⟩

theorem sorted_unique : ∀ {l m : List Du}, l.Perm m → Sorted l → Sorted m → l = m
  | [], m, h, _, _ => (List.nil_perm.1 h).symm
  | a :: l, m, h, hl, hm => by
    cases m with
    | nil => exact absurd h (by simp)
    | cons b m =>
      rw [Sorted, List.pairwise_cons] at hl hm
      have hab : a = b := by
        rcases List.mem_cons.1 (h.mem_iff.1 (List.mem_cons_self ..)) with e | ha
        · exact e
        rcases List.mem_cons.1 (h.mem_iff.2 (List.mem_cons_self ..)) with e | hb
        · exact e.symm
        have := ahead_asymm (hl.1 b hb)
        rw [hm.1 a ha] at this
        cases this
      subst hab
      rw [sorted_unique (List.perm_cons _ |>.1 h) hl.2 hm.2]

/-- One more, in its place. -/
def ins (d : Du) : List Du → List Du
  | [] => [d]
  | e :: l => if dahB d e = true then d :: e :: l else e :: ins d l
/-- In order. -/
def srt (l : List Du) : List Du := l.foldr ins []
theorem ins_perm (d : Du) : ∀ l : List Du, (ins d l).Perm (d :: l)
  | [] => List.Perm.refl _
  | e :: l => by
    unfold ins
    split
    · exact List.Perm.refl _
    · exact ((ins_perm d l).cons e).trans (List.Perm.swap d e l)
theorem ins_sorted {d : Du} : ∀ {l : List Du}, Sorted l → (∀ e ∈ l, e.id ≠ d.id) → Sorted (ins d l)
  | [], _, _ => by simp [ins, Sorted]
  | e :: l, h, hd => by
    unfold ins
    rw [Sorted, List.pairwise_cons] at h
    split
    · rename_i hde
      refine List.pairwise_cons.2 ⟨fun x hx => ?_, List.pairwise_cons.2 h⟩
      rcases List.mem_cons.1 hx with rfl | hx
      · exact hde
      · exact ahead_trans hde (h.1 x hx)
    · rename_i hde
      refine List.pairwise_cons.2 ⟨fun x hx => ?_, ins_sorted h.2 (fun y hy => hd y (List.mem_cons_of_mem _ hy))⟩
      rcases List.mem_cons.1 ((ins_perm d l).mem_iff.1 hx) with rfl | hx
      · exact ahead_total (Ne.symm (hd e (List.mem_cons_self ..))) (by simpa using hde)
      · exact h.1 x hx
theorem srt_perm : ∀ l : List Du, (srt l).Perm l
  | [] => List.Perm.refl _
  | d :: l => (ins_perm d _).trans ((srt_perm l).cons d)
theorem srt_sorted : ∀ {l : List Du}, Apart l → Sorted (srt l)
  | [], _ => by simp [srt]
  | d :: l, h => by
    rw [Apart, List.pairwise_cons] at h
    exact ins_sorted (srt_sorted h.2) (fun e he => Ne.symm (h.1 e ((srt_perm l).mem_iff.1 he)))
theorem srt_eq {l m : List Du} (h : m.Perm l) (hm : Sorted m) (ha : Apart l) : srt l = m := sorted_unique ((srt_perm l).trans h.symm) (srt_sorted ha) hm
theorem srt_id {l : List Du} (h : Sorted l) (ha : Apart l) : srt l = l := srt_eq (List.Perm.refl _) h ha
theorem srt_len (l : List Du) : (srt l).length = l.length := (srt_perm l).length_eq
theorem apart_perm {l m : List Du} (h : l.Perm m) (ha : Apart l) : Apart m := (h.pairwise_iff (fun {_ _} k => Ne.symm k)).1 ha

def hasB (l : List Du) (i : Int) : Bool := l.any (fun e => e.id == i)
theorem has_iff {l : List Du} {i : Int} : hasB l i = true ↔ ∃ e ∈ l, e.id = i := by simp [hasB]
theorem nhas_iff {l : List Du} {i : Int} : hasB l i = false ↔ ∀ e ∈ l, e.id ≠ i := by simp [hasB]
def codeI (l : List Du) (d : Du) : Int := if okB l = false then 40 else if inTB d = false then 50 else if ofTB d = false then 40 else if hasB l d.id = true then 60 else 0
def putL (l : List Du) (d : Du) : List Du := if codeI l d = 0 then srt (l ++ [d]) else l
def dropI (l : List Du) (i : Int) : Int := if okB l = true ∧ hasB l i = true then 0 else 40
def without (l : List Du) (i : Int) : List Du := l.filter (fun e => !(e.id == i))
def dropL (l : List Du) (i : Int) : List Du := if dropI l i = 0 then without l i else l
def lateB (now : Int) (d : Du) : Bool := decide (d.tm ≤ now)
theorem late_iff {now : Int} {d : Du} : lateB now d = true ↔ d.tm ≤ now := by simp [lateB]
def lateI (l : List Du) (now : Int) : List Int := if okB l = true then (l.takeWhile (lateB now)).map Du.id else []
def restL (l : List Du) (now : Int) : List Du := if okB l = true then l.dropWhile (lateB now) else l

/-- One more round of what lets threads stand. -/
theorem ok_snoc {l : List Du} {d : Du} (h : okB l = true) (h1 : hasB l d.id = false) (h2 : inTB d = true) (h3 : ofTB d = true) (h4 : ∀ e, l.getLast? = some e → dahB e d = true) : okB (l ++ [d]) = true := by
  rw [ok_iff] at *
  obtain ⟨ha, hs, hp⟩ := h
  refine ⟨fun e he => ?_, ?_, ?_⟩
  · rcases List.mem_append.1 he with he | he
    · exact ha e he
    · rw [List.mem_singleton] at he; subst he; exact ⟨h2, h3⟩
  · refine List.pairwise_append.2 ⟨hs, by simp, fun a hA b hb => ?_⟩
    rw [List.mem_singleton] at hb; subst hb
    cases hl : l.getLast? with
    | none => rw [List.getLast?_eq_none_iff] at hl; subst hl; simp at hA
    | some e =>
      have h5 := h4 e hl
      obtain ⟨k, rfl⟩ := List.getLast?_eq_some_iff.1 hl
      rw [Sorted, List.pairwise_append] at hs
      rcases List.mem_append.1 hA with hA | hA
      · exact ahead_trans (hs.2.2 a hA e (by simp)) h5
      · rw [List.mem_singleton] at hA; subst hA; exact h5
  · refine List.pairwise_append.2 ⟨hp, by simp, fun a hA b hb => ?_⟩
    rw [List.mem_singleton] at hb; subst hb
    exact nhas_iff.1 h1 a hA
theorem ok_not_snoc {l r : List Du} {d : Du} (h : hasB l d.id = true ∨ inTB d = false ∨ ofTB d = false ∨ ∃ e, l.getLast? = some e ∧ dahB e d = false) : okB (l ++ d :: r) = false := by
  cases hk : okB (l ++ d :: r)
  · rfl
  rw [ok_iff] at hk
  obtain ⟨ha, hs, hp⟩ := hk
  rw [Sorted, List.pairwise_append] at hs
  rw [Apart, List.pairwise_append] at hp
  have hd := ha d (by simp)
  rcases h with h | h | h | ⟨e, he, h⟩
  · obtain ⟨x, hx, hxd⟩ := has_iff.1 h
    exact absurd hxd (hp.2.2 x hx d (by simp))
  · rw [h] at hd; cases hd.1
  · rw [h] at hd; cases hd.2
  · rw [hs.2.2 e (List.mem_of_getLast? he) d (by simp)] at h; cases h

/-! ### The laws, of plain lists -/
theorem ok_put {l : List Du} {d : Du} (h : codeI l d = 0) : okB (srt (l ++ [d])) = true ∧ okB l = true ∧ inTB d = true ∧ ofTB d = true ∧ hasB l d.id = false := by
  unfold codeI at h
  cases h1 : okB l
  · rw [h1] at h; simp at h
  cases h2 : inTB d
  · rw [h1, h2] at h; simp at h
  cases h3 : ofTB d
  · rw [h1, h2, h3] at h; simp at h
  cases h4 : hasB l d.id
  · refine ⟨?_, rfl, rfl, rfl, rfl⟩
    rw [ok_iff] at *
    obtain ⟨ha, hs, hp⟩ := h1
    have hap : Apart (l ++ [d]) := List.pairwise_append.2 ⟨hp, by simp, fun a hA b hb => by
      rw [List.mem_singleton] at hb; subst hb; exact nhas_iff.1 h4 a hA⟩
    refine ⟨fun e he => ?_, srt_sorted hap, apart_perm (srt_perm _).symm hap⟩
    rcases List.mem_append.1 ((srt_perm _).mem_iff.1 he) with he | he
    · exact ha e he
    · rw [List.mem_singleton] at he; subst he; exact ⟨h2, h3⟩
  · rw [h1, h2, h3, h4] at h; simp at h
theorem code_mk {l : List Du} {d : Du} (h1 : okB l = true) (h2 : inTB d = true) (h3 : ofTB d = true) (h4 : hasB l d.id = false) : codeI l d = 0 := by simp [codeI, h1, h2, h3, h4]
theorem putL_ok {l : List Du} {d : Du} (h : codeI l d = 0) : putL l d = srt (l ++ [d]) := by simp [putL, h]
theorem putL_no {l : List Du} {d : Du} (h : codeI l d ≠ 0) : putL l d = l := by simp [putL, h]
theorem putL_len (l : List Du) (d : Du) : (putL l d).length ≤ l.length + 1 := by
  unfold putL; split
  · rw [srt_len]; simp
  · omega
theorem dropL_len (l : List Du) (i : Int) : (dropL l i).length ≤ l.length := by
  unfold dropL; split
  · exact List.length_filter_le _ _
  · omega
theorem has_put {l : List Du} {d : Du} (h : codeI l d = 0) : hasB (srt (l ++ [d])) d.id = true := has_iff.2 ⟨d, (srt_perm _).mem_iff.2 (by simp), rfl⟩
/-- Who was put, and dropped, leaves the others as they were. -/
theorem back {l : List Du} {d : Du} (h : codeI l d = 0) : dropI (putL l d) d.id = 0 ∧ dropL (putL l d) d.id = l ∧ okB (putL l d) = true ∧ (putL l d).length = l.length + 1 ∧ codeI (putL l d) d = 60 := by
  obtain ⟨h0, h1, h2, h3, h4⟩ := ok_put h
  rw [putL_ok h]
  have h5 := has_put h
  have h6 : dropI (srt (l ++ [d])) d.id = 0 := by simp [dropI, h0, h5]
  refine ⟨h6, ?_, h0, by rw [srt_len]; simp, by simp [codeI, h0, h2, h3, h5]⟩
  unfold dropL
  rw [if_pos h6]
  have hp : (without (srt (l ++ [d])) d.id).Perm l := by
    refine ((srt_perm (l ++ [d])).filter _).trans ?_
    rw [List.filter_append, List.filter_eq_self.2 (fun e he => by simpa using nhas_iff.1 h4 e he)]
    simp
  rw [ok_iff] at h0 h1
  exact sorted_unique hp (h0.2.1.filter _) h1.2.1

theorem late_ok {l : List Du} {now : Int} (h : okB l = true) : lateI l now = (l.takeWhile (lateB now)).map Du.id ∧ restL l now = l.dropWhile (lateB now) := by simp [lateI, restL, h]
theorem rest_sub (l : List Du) (now : Int) : (restL l now).Sublist l := by
  unfold restL; split
  · exact List.dropWhile_sublist _
  · exact List.Sublist.refl _
theorem takeWhile_two {lo hi : Int} (h : lo ≤ hi) : ∀ l : List Du, l.takeWhile (lateB lo) ++ (l.dropWhile (lateB lo)).takeWhile (lateB hi) = l.takeWhile (lateB hi) ∧ (l.dropWhile (lateB lo)).dropWhile (lateB hi) = l.dropWhile (lateB hi)
  | [] => by simp
  | d :: l => by
    obtain ⟨h1, h2⟩ := takeWhile_two h l
    by_cases hd : d.tm ≤ lo
    · have hd' : d.tm ≤ hi := by omega
      simp [List.takeWhile_cons, List.dropWhile_cons, lateB, hd, hd'] at *
      exact ⟨h1, h2⟩
    · simp [List.takeWhile_cons, List.dropWhile_cons, lateB, hd]
theorem late_two {l : List Du} {lo hi : Int} (h : okB l = true) (hl : lo ≤ hi) : lateI l lo ++ lateI (restL l lo) hi = lateI l hi ∧ restL (restL l lo) hi = restL l hi ∧ (lateI l lo).length + (restL l lo).length = l.length := by
  obtain ⟨a1, a2⟩ := late_ok (now := lo) h
  obtain ⟨b1, b2⟩ := late_ok (now := hi) h
  obtain ⟨c1, c2⟩ := late_ok (now := hi) (ok_sub h (rest_sub l lo))
  obtain ⟨d1, d2⟩ := takeWhile_two hl l
  rw [c1, c2, a1, a2, b1, b2, ← List.map_append, d1, d2]
  refine ⟨rfl, rfl, ?_⟩
  have := congrArg List.length (List.takeWhile_append_dropWhile (p := lateB lo) (l := l))
  rw [List.length_append] at this
  rw [List.length_map]
  exact this
theorem dropWhile_late {lo : Int} : ∀ {l : List Du}, Sorted l → ∀ d ∈ l.dropWhile (lateB lo), lo < d.tm
  | [], _, _, h => by simp at h
  | e :: l, hs, d, h => by
    rw [Sorted, List.pairwise_cons] at hs
    by_cases he : e.tm ≤ lo
    · rw [List.dropWhile_cons_of_pos (by simp [lateB, he])] at h
      exact dropWhile_late hs.2 d h
    · rw [List.dropWhile_cons_of_neg (by simp [lateB, he])] at h
      rcases List.mem_cons.1 h with rfl | h
      · omega
      · have := ahead_iff.1 (hs.1 d h); omega
theorem rest_late {l : List Du} {lo : Int} (h : okB l = true) : ∀ d ∈ restL l lo, lo < d.tm := by
  rw [(late_ok h).2]
  exact dropWhile_late (ok_iff.1 h).2.1

/-- Who may be put beside another one. -/
theorem code_put {l : List Du} {c d : Du} (hne : c.id ≠ d.id) : codeI (putL l c) d = codeI l d := by
  by_cases h : codeI l c = 0
  · obtain ⟨h0, h1, h2, h3, h4⟩ := ok_put h
    rw [putL_ok h]
    have : hasB (srt (l ++ [c])) d.id = hasB l d.id := by
      rw [Bool.eq_iff_iff, has_iff, has_iff]
      constructor
      · rintro ⟨e, he, hk⟩
        rcases List.mem_append.1 ((srt_perm _).mem_iff.1 he) with he | he
        · exact ⟨e, he, hk⟩
        · rw [List.mem_singleton] at he; subst he; exact absurd hk hne
      · rintro ⟨e, he, hk⟩
        exact ⟨e, (srt_perm _).mem_iff.2 (List.mem_append.2 (.inl he)), hk⟩
    simp [codeI, h0, h1, this]
  · rw [putL_no h]
theorem put_two {l : List Du} {c d : Du} (hne : c.id ≠ d.id) : putL (putL l c) d = putL (putL l d) c := by
  have hc := code_put (l := l) (Ne.symm hne)
  have hd := code_put (l := l) hne
  by_cases h1 : codeI l c = 0 <;> by_cases h2 : codeI l d = 0
  · rw [putL_ok (l := putL l c) (by rw [hd]; exact h2), putL_ok (l := putL l d) (by rw [hc]; exact h1), putL_ok h1, putL_ok h2]
    have p1 : (srt (l ++ [c]) ++ [d]).Perm (srt (l ++ [d]) ++ [c]) := by
      refine ((srt_perm _).append_right [d]).trans (List.Perm.trans ?_ ((srt_perm _).append_right [c]).symm)
      rw [List.append_assoc, List.append_assoc]
      exact (List.Perm.swap d c []).append_left l
    have hap : Apart (srt (l ++ [c]) ++ [d]) := by
      have h3 := (ok_put (l := putL l c) (d := d) (by rw [hd]; exact h2)).1
      rw [putL_ok h1, ok_iff] at h3
      exact apart_perm (srt_perm _) h3.2.2
    exact sorted_unique ((srt_perm _).trans (p1.trans (srt_perm _).symm)) (srt_sorted hap) (srt_sorted (apart_perm p1 hap))
  · rw [putL_no (l := putL l c) (by rw [hd]; exact h2), putL_no (l := l) h2]
  · rw [putL_no (l := l) h1, putL_no (l := putL l d) (by rw [hc]; exact h1)]
  · simp only [putL_no h1, putL_no h2]

/-- The first one, out. -/
theorem drop_first {d : Du} {l : List Du} (h : okB (d :: l) = true) : dropI (d :: l) d.id = 0 ∧ dropL (d :: l) d.id = l := by
  have h1 : dropI (d :: l) d.id = 0 := by simp [dropI, h, hasB]
  refine ⟨h1, ?_⟩
  unfold dropL
  rw [if_pos h1]
  rw [ok_iff] at h
  have hp := List.pairwise_cons.1 h.2.2
  unfold without
  rw [List.filter_cons_of_neg (by simp)]
  exact List.filter_eq_self.2 (fun e he => by simpa using Ne.symm (hp.1 e he))

/-- All so much later. -/
def shiftD (n : Int) (d : Du) : Du := ⟨d.tm + n, d.id⟩
theorem shift_tm (n : Int) (d : Du) : (shiftD n d).tm = d.tm + n := rfl
theorem ahead_shift (n : Int) (a b : Du) : dahB (shiftD n a) (shiftD n b) = dahB a b := by
  rw [Bool.eq_iff_iff, ahead_iff, ahead_iff]; simp only [shiftD]; omega
theorem ins_shift (n : Int) (d : Du) : ∀ l : List Du, ins (shiftD n d) (l.map (shiftD n)) = (ins d l).map (shiftD n)
  | [] => rfl
  | e :: l => by
    simp only [List.map_cons, ins, ahead_shift]
    split
    · simp
    · simp [ins_shift n d l]
theorem srt_shift (n : Int) : ∀ l : List Du, srt (l.map (shiftD n)) = (srt l).map (shiftD n)
  | [] => rfl
  | d :: l => by
    have := srt_shift n l
    simp only [srt, List.map_cons, List.foldr_cons] at *
    rw [this, ins_shift]
/-- Dues at times of 32 bits. -/
def small (d : Du) : Prop := 0 ≤ d.tm ∧ d.tm < 4294967296
theorem small_in {d : Du} (h : small d) : inTB d = true := by have := h.1; have := h.2; simp [inTB]; omega
theorem shift_in {d : Du} {n : Int} (h : small d) (h0 : 0 ≤ n) (h1 : n ≤ 4294967295) : inTB (shiftD n d) = true := by have h2 := h.1; have h3 := h.2; rw [inT_iff, shift_tm]; omega
theorem ok_shift {l : List Du} {n : Int} (hl : ∀ d ∈ l, small d) (h0 : 0 ≤ n) (h1 : n ≤ 4294967295) : okB (l.map (shiftD n)) = okB l := by
  rw [Bool.eq_iff_iff, ok_iff, ok_iff]
  simp only [List.mem_map, forall_exists_index, and_imp, forall_apply_eq_imp_iff₂, Sorted, Apart, List.pairwise_map, ahead_shift]
  constructor
  · rintro ⟨a, b, c⟩
    exact ⟨fun d hd => ⟨small_in (hl d hd), (a d hd).2⟩, b, c⟩
  · rintro ⟨a, b, c⟩
    exact ⟨fun d hd => ⟨shift_in (hl d hd) h0 h1, (a d hd).2⟩, b, c⟩
theorem code_shift {l : List Du} {d : Du} {n : Int} (hl : ∀ d ∈ l, small d) (hd : small d) (h0 : 0 ≤ n) (h1 : n ≤ 4294967295) : codeI (l.map (shiftD n)) (shiftD n d) = codeI l d := by
  have hh : hasB (l.map (shiftD n)) (shiftD n d).id = hasB l d.id := by simp [hasB, shiftD, List.any_map, Function.comp_def]
  simp only [codeI, ok_shift hl h0 h1, shift_in hd h0 h1, small_in hd, hh, show ofTB (shiftD n d) = ofTB d from rfl]
theorem put_shift {l : List Du} {d : Du} {n : Int} (hl : ∀ d ∈ l, small d) (hd : small d) (h0 : 0 ≤ n) (h1 : n ≤ 4294967295) : putL (l.map (shiftD n)) (shiftD n d) = (putL l d).map (shiftD n) := by
  unfold putL
  rw [code_shift hl hd h0 h1]
  split
  · rw [← srt_shift]; simp
  · rfl
theorem put_small {l : List Du} {d : Du} (hl : ∀ d ∈ l, small d) (hd : small d) : ∀ e ∈ putL l d, small e := by
  unfold putL
  split
  · intro e he
    rcases List.mem_append.1 ((srt_perm _).mem_iff.1 he) with he | he
    · exact hl e he
    · rw [List.mem_singleton] at he; subst he; exact hd
  · exact hl
theorem takeWhile_shift (n now : Int) : ∀ l : List Du, (l.map (shiftD n)).takeWhile (lateB (now + n)) = (l.takeWhile (lateB now)).map (shiftD n)
  | [] => rfl
  | d :: l => by
    have e : lateB (now + n) (shiftD n d) = lateB now d := by
      rw [Bool.eq_iff_iff, late_iff, late_iff, shift_tm]; omega
    have := takeWhile_shift n now l
    simp only [List.map_cons, List.takeWhile_cons, e]
    split
    · simp [this]
    · rfl
theorem late_shift {l : List Du} {n now : Int} (hl : ∀ d ∈ l, small d) (h0 : 0 ≤ n) (h1 : n ≤ 4294967295) : lateI (l.map (shiftD n)) (now + n) = lateI l now := by
  unfold lateI
  rw [ok_shift hl h0 h1, takeWhile_shift]
  split
  · simp [List.map_map, Function.comp_def, shiftD]
  · rfl
end Go.Proofs.Ythlpjlcadcgoeaa
