/- Maps of a call's own from integers to integers, told as a function: made, put into (whatever is there), asked. -/
import Derived.Test.YtlmiedgpibollaaOut
import Derived.MapKept
namespace Go.Proofs.Ytlmiedgpibollaa
set_option linter.unusedVariables false
set_option linter.unusedSimpArgs false
open Go.ChangeShapes Go.WideShapes Go.ChangeAt Go.RowKit

/-- Block mb is a map that tells what m does. -/
def MapI (w : World) (mb : Nat) (m : Int → Option Nat) : Prop :=
  ∃ es ck, w.heap[mb]? = some (.map es ck) ∧ (es.toList.map (·.key)).Nodup ∧ (∀ e ∈ es.toList, ∃ (i : Int) (v : Nat), e.key = .int .i64 i ∧ e.val = .int .i64 v ∧ m i = some v) ∧ ∀ i v, m i = some v → ∃ e ∈ es.toList, e.key = .int .i64 i
theorem MapI.of_block {w w' : World} {mb : Nat} {m : Int → Option Nat} (h : MapI w mb m) (hk : w'.heap[mb]? = w.heap[mb]?) : MapI w' mb m := by
  obtain ⟨es, ck, h1, h2⟩ := h
  exact ⟨es, ck, hk.trans h1, h2⟩
theorem MapI.lt {w : World} {mb : Nat} {m : Int → Option Nat} (h : MapI w mb m) : mb < w.heap.size := by
  obtain ⟨es, ck, h1, _⟩ := h
  exact (Array.getElem?_eq_some_iff.1 h1).1
theorem MapI.kept {w w' : World} {mb : Nat} {m : Int → Option Nat} (h : MapI w mb m) (hk : Below w.heap.size w w') : MapI w' mb m := h.of_block (hk.block _ h.lt)
theorem MapI.made (w : World) : MapI (w.alloc (.map #[] 0)) w.heap.size (fun _ => none) := ⟨#[], 0, (MapKept.heap_alloc w _).1, by simp, by simp, by simp⟩

theorem mapi_find {m : Int → Option Nat} {es : Array MapEntry} (h1 : ∀ e ∈ es.toList, ∃ (i : Int) (v : Nat), e.key = .int .i64 i ∧ e.val = .int .i64 v ∧ m i = some v) (h2 : ∀ i v, m i = some v → ∃ e ∈ es.toList, e.key = .int .i64 i) (i : Int) :
    (Instr.findNow (.int .i64) (.int .i64 i) es.toList 0 = some none ∧ m i = none) ∨
    ∃ (j : Nat) (v : Nat) (e : MapEntry), Instr.findNow (.int .i64) (.int .i64 i) es.toList 0 = some (some (j, .int .i64 v)) ∧ es[j]? = some e ∧ e.key = .int .i64 i ∧ m i = some v := by
  have hks : ∀ x ∈ es.toList, MapKept.IsKey (.int .i64) x.key := fun x hx => by
    obtain ⟨_, _, hk, _⟩ := h1 x hx
    rw [hk]; rfl
  rcases MapKept.findNow_spec (d := .int .i64) (k := .int .i64 i) rfl es.toList 0 hks with ⟨a, b⟩ | ⟨j, e, a, b, c⟩
  · left
    refine ⟨a, ?_⟩
    cases hm : m i with
    | none => rfl
    | some v =>
      obtain ⟨e, he, hk⟩ := h2 i v hm
      exact absurd hk (b e he)
  · right
    obtain ⟨i', v, hk, hv, hm⟩ := h1 e (List.mem_of_getElem? b)
    rw [c] at hk; cases hk
    exact ⟨j, v, e, by rw [a, hv, Nat.zero_add], by simpa using b, c, hm⟩
theorem int_zero (w : World) : (zeroValue 3).run Try.prog w = .ok (.int .i64 0) w := by kernel_rfl
/-- 'm[i]'. -/
theorem mapi_look {w : World} {mb : Nat} {m : Int → Option Nat} (h : MapI w mb m) (i : Int) : (Instr.lookup 40 (.map (some mb)) (.int .i64 i) false).run Try.prog w = .ok (.int .i64 ((m i).getD 0 : Nat)) w := by
  obtain ⟨es, ck, h0, hn, h1, h2⟩ := h
  have hu := Try.underlying40
  have hd := Try.underlying3
  have hg := MapKept.run_getObj_map (P := Try.prog) h0
  have hc := MapKept.run_checkKey (P := Try.prog) (w := w) (k := .int .i64 i) hd rfl es.isEmpty 9999
  have hz := int_zero w
  rcases mapi_find h1 h2 i with ⟨a, b⟩ | ⟨j, v, e, a, b, c, d⟩
  · have hf := MapKept.run_findKey (P := Try.prog) (w := w) hd a
    simp [Instr.lookup, run_underlying hu, hg, hc, hf, hz, b, Result.andThen]
  · have hf := MapKept.run_findKey (P := Try.prog) (w := w) hd a
    simp [Instr.lookup, run_underlying hu, hg, hc, hf, d, Result.andThen]
/-- 'v, is := m[i]'. -/
theorem mapi_is {w : World} {mb : Nat} {m : Int → Option Nat} (h : MapI w mb m) (i : Int) : (Instr.lookup 40 (.map (some mb)) (.int .i64 i) true).run Try.prog w = .ok (.tuple #[.int .i64 ((m i).getD 0 : Nat), .bool (m i).isSome]) w := by
  obtain ⟨es, ck, h0, hn, h1, h2⟩ := h
  have hu := Try.underlying40
  have hd := Try.underlying3
  have hg := MapKept.run_getObj_map (P := Try.prog) h0
  have hc := MapKept.run_checkKey (P := Try.prog) (w := w) (k := .int .i64 i) hd rfl es.isEmpty 9999
  have hz := int_zero w
  rcases mapi_find h1 h2 i with ⟨a, b⟩ | ⟨j, v, e, a, b, c, d⟩
  · have hf := MapKept.run_findKey (P := Try.prog) (w := w) hd a
    simp [Instr.lookup, run_underlying hu, hg, hc, hf, hz, b, Result.andThen]
  · have hf := MapKept.run_findKey (P := Try.prog) (w := w) hd a
    simp [Instr.lookup, run_underlying hu, hg, hc, hf, d, Result.andThen]
theorem block_out {w : World} {mb : Nat} {o o' : Obj} (h : w.heap[mb]? = some o) : Out [mb] w { w with heap := w.heap.setIfInBounds mb o' } ∧ ({ w with heap := w.heap.setIfInBounds mb o' } : World).heap.size = w.heap.size ∧ ({ w with heap := w.heap.setIfInBounds mb o' } : World).heap[mb]? = some o' := by
  have hs := MapKept.heap_set (o' := o') h
  exact ⟨⟨rfl, rfl, rfl, by simp, fun j _ hn => hs.2 j (by simpa using hn)⟩, by simp, hs.1⟩
def withI (m : Int → Option Nat) (i : Int) (v : Nat) (x : Int) : Option Nat := if x = i then some v else m x
/-- 'm[i] = v'. -/
theorem mapi_put {w : World} {mb : Nat} {m : Int → Option Nat} (h : MapI w mb m) (i : Int) (v : Nat) :
    ∃ w', (Instr.mapUpdate 40 (.map (some mb)) (.int .i64 i) (.int .i64 v)).run Try.prog w = .ok () w' ∧ MapI w' mb (withI m i v) ∧ Out [mb] w w' ∧ w'.heap.size = w.heap.size := by
  obtain ⟨es, ck, h0, hn, h1, h2⟩ := h
  have hu := Try.underlying40
  have hd := Try.underlying3
  have hg := MapKept.run_getObj_map (P := Try.prog) h0
  have hc := MapKept.run_checkKey (P := Try.prog) (w := w) (k := .int .i64 i) hd rfl false 9999
  have hks := MapKept.run_keyThatStays (P := Try.prog) (w := w) (d := .int .i64) (k := .int .i64 i) rfl
  rcases mapi_find h1 h2 i with ⟨a, b⟩ | ⟨j, u, e, a, b, c, d⟩
  · have hf := MapKept.run_findKey (P := Try.prog) (w := w) hd a
    obtain ⟨o1, o2, o3⟩ := block_out (o' := .map (es.push { key := .int .i64 i, val := .int .i64 v, born := ck }) (ck + 1)) h0
    refine ⟨_, by simp [Instr.mapUpdate, run_underlying hu, hg, hc, hf, MapKept.run_setObj_map _ h0, Result.andThen], ⟨_, _, o3, ?_, ?_, ?_⟩, o1, o2⟩
    · simp only [Array.toList_push, List.map_append, List.map_cons, List.map_nil]
      refine List.nodup_append.2 ⟨hn, by simp, ?_⟩
      intro x hx y hy
      simp only [List.mem_singleton] at hy
      subst hy
      obtain ⟨e, he, rfl⟩ := List.mem_map.1 hx
      obtain ⟨i', v', hk, _, hm⟩ := h1 e he
      rw [hk]; intro hk'; cases hk'; rw [b] at hm; cases hm
    · intro x hx
      simp only [Array.toList_push, List.mem_append, List.mem_singleton] at hx
      rcases hx with hx | rfl
      · obtain ⟨i', v', hk, hv, hm⟩ := h1 x hx
        refine ⟨i', v', hk, hv, ?_⟩
        unfold withI
        rw [if_neg (by rintro rfl; rw [b] at hm; cases hm), hm]
      · exact ⟨i, v, rfl, rfl, by simp [withI]⟩
    · intro k u hk
      unfold withI at hk
      split at hk
      · rename_i hki; subst hki
        exact ⟨{ key := .int .i64 k, val := .int .i64 v, born := ck }, by simp, rfl⟩
      · obtain ⟨e, he, hke⟩ := h2 k u hk
        exact ⟨e, by simp [he], hke⟩
  · have hf := MapKept.run_findKey (P := Try.prog) (w := w) hd a
    obtain ⟨o1, o2, o3⟩ := block_out (o' := .map (es.modify j fun e => { e with key := .int .i64 i, val := .int .i64 v }) ck) h0
    have hmk := MapKept.modify_keys (es := es) j (fun e => { e with key := .int .i64 i, val := .int .i64 v }) (fun e' he' => by rw [b] at he'; cases he'; exact c.symm)
    have hat : ∀ k x, (es.modify j fun e => { e with key := .int .i64 i, val := .int .i64 v })[k]? = some x → (k = j ∧ x.key = .int .i64 i ∧ x.val = .int .i64 v) ∨ (k ≠ j ∧ es[k]? = some x) := by
      intro k x hx
      rw [Array.getElem?_modify] at hx
      by_cases hkj : j = k
      · subst hkj
        rw [if_pos rfl, b] at hx
        cases hx
        exact .inl ⟨rfl, rfl, rfl⟩
      · rw [if_neg hkj] at hx
        exact .inr ⟨fun h => hkj h.symm, hx⟩
    refine ⟨_, by simp [Instr.mapUpdate, run_underlying hu, hg, hc, hf, b, c, hks, MapKept.run_setObj_map _ h0, Result.andThen], ⟨_, _, o3, by rw [hmk]; exact hn, ?_, ?_⟩, o1, o2⟩
    · intro x hx
      obtain ⟨k, hk⟩ := List.getElem?_of_mem hx
      rw [Array.getElem?_toList] at hk
      rcases hat k x hk with ⟨rfl, hx1, hx2⟩ | ⟨hne, hx1⟩
      · exact ⟨i, v, hx1, hx2, by simp [withI]⟩
      · obtain ⟨i', v', hk', hv', hm'⟩ := h1 x (List.mem_of_getElem? (i := k) (by rw [Array.getElem?_toList]; exact hx1))
        refine ⟨i', v', hk', hv', ?_⟩
        unfold withI
        rw [if_neg ?_, hm']
        rintro rfl
        have e1 : (es.toList.map (·.key))[k]? = some (.int .i64 i') := by simp [hx1, hk']
        have e2 : (es.toList.map (·.key))[j]? = some (.int .i64 i') := by simp [b, c]
        have hl : k < (es.toList.map (·.key)).length := (List.getElem?_eq_some_iff.1 e1).1
        exact hne ((List.getElem?_inj hl hn).1 (e1.trans e2.symm))
    · intro k u' hk
      have hex : ∃ e ∈ es.toList, e.key = .int .i64 k := by
        unfold withI at hk
        split at hk
        · rename_i hki; subst hki
          exact ⟨e, List.mem_of_getElem? (i := j) (by rw [Array.getElem?_toList]; exact b), c⟩
        · exact h2 k u' hk
      obtain ⟨e', he', hke'⟩ := hex
      have : (.int .i64 k : Value) ∈ (es.modify j fun e => { e with key := .int .i64 i, val := .int .i64 v }).toList.map (·.key) := by
        rw [hmk]; exact List.mem_map.2 ⟨e', he', hke'⟩
      obtain ⟨e2, h2', h3'⟩ := List.mem_map.1 this
      exact ⟨e2, h2', h3'⟩
end Go.Proofs.Ytlmiedgpibollaa
