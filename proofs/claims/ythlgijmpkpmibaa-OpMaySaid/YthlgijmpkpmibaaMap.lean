/- Maps of a call's own whose keys are integers: made, put into, asked, in whatever order they came. -/
import Derived.Test.YthlgijmpkpmibaaBase
import Derived.MapKept
import Derived.Maps.RangeRun
import Derived.ChangeMaps4
import Derived.Carry
namespace Go.Proofs.Ythlgijmpkpmibaa
set_option linter.unusedVariables false
set_option linter.unusedSimpArgs false
open Go.ChangeShapes Go.WideShapes Go.ChangeAt Go.RowKit

/-- The map's block: its keys and elements, in the order in which they came. -/
structure IMapAt (w : World) (mb : Nat) (l : List (Int × Value)) (es : Array MapEntry) (ck : Nat) : Prop where
  obj : w.heap[mb]? = some (.map es ck)
  ents : es.toList.map (fun e => (e.key, e.val)) = l.map (fun d => (Value.int .i64 d.1, d.2))
  born : ∀ x ∈ es.toList, x.born < ck
  nodup : (es.toList.map (·.born)).Nodup
def IMap (w : World) (mb : Nat) (l : List (Int × Value)) : Prop := ∃ es ck, IMapAt w mb l es ck

theorem IMap.of_block {w w' : World} {mb : Nat} {l : List (Int × Value)} (h : IMap w mb l) (hk : w'.heap[mb]? = w.heap[mb]?) : IMap w' mb l := by
  obtain ⟨es, ck, h1, h2, h3, h4⟩ := h
  exact ⟨es, ck, hk.trans h1, h2, h3, h4⟩
theorem IMap.lt {w : World} {mb : Nat} {l : List (Int × Value)} (h : IMap w mb l) : mb < w.heap.size := by
  obtain ⟨es, ck, h1, _⟩ := h
  exact (Array.getElem?_eq_some_iff.1 h1).1
theorem IMap.kept {w w' : World} {mb : Nat} {l : List (Int × Value)} (h : IMap w mb l) (hk : Below w.heap.size w w') : IMap w' mb l := h.of_block (hk.block _ h.lt)
theorem IMapAt.at {w : World} {mb : Nat} {l : List (Int × Value)} {es : Array MapEntry} {ck : Nat} (h : IMapAt w mb l es ck) {j : Nat} {e : MapEntry} (he : es.toList[j]? = some e) : ∃ d, l[j]? = some d ∧ e.key = .int .i64 d.1 ∧ e.val = d.2 := by
  have h1 := congrArg (·[j]?) h.ents
  simp only [List.getElem?_map, he, Option.map_some] at h1
  obtain ⟨d, hd, h2⟩ := Option.map_eq_some_iff.1 h1.symm
  simp only [Prod.mk.injEq] at h2
  exact ⟨d, hd, h2.1.symm, h2.2.symm⟩
theorem IMapAt.mem {w : World} {mb : Nat} {l : List (Int × Value)} {es : Array MapEntry} {ck : Nat} (h : IMapAt w mb l es ck) {e : MapEntry} (he : e ∈ es.toList) : ∃ d ∈ l, e.key = .int .i64 d.1 ∧ e.val = d.2 := by
  obtain ⟨j, hj⟩ := List.getElem?_of_mem he
  obtain ⟨d, hd, h1⟩ := h.at hj
  exact ⟨d, List.mem_of_getElem? hd, h1⟩
theorem IMapAt.find {w : World} {mb : Nat} {l : List (Int × Value)} {es : Array MapEntry} {ck : Nat} (h : IMapAt w mb l es ck) (i : Int) :
    (Instr.findNow (.int .i64) (.int .i64 i) es.toList 0 = some none ∧ ∀ d ∈ l, d.1 ≠ i) ∨
    ∃ j d, Instr.findNow (.int .i64) (.int .i64 i) es.toList 0 = some (some (j, d.2)) ∧ l[j]? = some d ∧ d.1 = i ∧ j < es.size := by
  have hks : ∀ x ∈ es.toList, MapKept.IsKey (.int .i64) x.key := fun x hx => by
    obtain ⟨d, _, hk, _⟩ := h.mem hx
    rw [hk]; rfl
  rcases MapKept.findNow_spec (d := .int .i64) (k := .int .i64 i) rfl es.toList 0 hks with ⟨h1, h2⟩ | ⟨j, e, h1, h2, h3⟩
  · left
    refine ⟨h1, fun d hd hdi => ?_⟩
    obtain ⟨j, hj⟩ := List.getElem?_of_mem hd
    have h4 := congrArg (·[j]?) h.ents
    simp only [List.getElem?_map, hj, Option.map_some] at h4
    obtain ⟨x, hx, h5⟩ := Option.map_eq_some_iff.1 h4
    simp only [Prod.mk.injEq] at h5
    exact h2 x (List.mem_of_getElem? hx) (by rw [h5.1, hdi])
  · right
    obtain ⟨d, hd, h4, h5⟩ := h.at h2
    refine ⟨j, d, by rw [h1, h5, Nat.zero_add], hd, ?_, by simpa using (List.getElem?_eq_some_iff.1 h2).1⟩
    rw [h4] at h3; cases h3; rfl
/-- One that has just been made. -/
theorem IMap.made (w : World) : IMap (w.alloc (.map #[] 0)) w.heap.size [] := ⟨#[], 0, (MapKept.heap_alloc w _).1, rfl, by simp, by simp⟩

section
variable {P : Program} {mty kt et : TypeId}
/-- 'm[i]', asked for its element alone. -/
theorem imap_look (hu : P.underlying mty = some (.map kt et)) (hd : P.underlying kt = some (.int .i64)) {w : World} {mb : Nat} {l : List (Int × Value)} (h : IMap w mb l) (hn : (l.map (·.1)).Nodup) {i : Int} {v : Value} (hi : (i, v) ∈ l) :
    (Instr.lookup mty (.map (some mb)) (.int .i64 i) false).run P w = .ok v w := by
  obtain ⟨es, ck, h⟩ := h
  have hg := MapKept.run_getObj_map (P := P) h.obj
  have hc := MapKept.run_checkKey (P := P) (w := w) (k := .int .i64 i) hd rfl es.isEmpty 9999
  rcases h.find i with ⟨h1, h2⟩ | ⟨j, d, h1, h2, h3, h4⟩
  · exact absurd rfl (h2 _ hi)
  · have hf := MapKept.run_findKey (P := P) (w := w) hd h1
    have hdv : d = (i, v) := by
      obtain ⟨j', hj'⟩ := List.getElem?_of_mem hi
      have e1 : (l.map (·.1))[j]? = some i := by simp [h2, h3]
      have e2 : (l.map (·.1))[j']? = some i := by simp [hj']
      have hl : j < (l.map (·.1)).length := (List.getElem?_eq_some_iff.1 e1).1
      have : j = j' := (List.getElem?_inj hl hn).1 (e1.trans e2.symm)
      subst this
      rw [h2] at hj'; cases hj'; rfl
    subst hdv
    simp [Instr.lookup, run_underlying hu, hg, hc, hf, Result.andThen]

/-- 'm[i] = v', where none is there. -/
theorem imap_put (hu : P.underlying mty = some (.map kt et)) (hd : P.underlying kt = some (.int .i64)) {w : World} {mb : Nat} {l : List (Int × Value)} (h : IMap w mb l) (i : Int) (v : Value) (hn : ∀ d ∈ l, d.1 ≠ i) :
    ∃ w', (Instr.mapUpdate mty (.map (some mb)) (.int .i64 i) v).run P w = .ok () w' ∧ IMap w' mb (l ++ [(i, v)]) ∧ w'.heap.size = w.heap.size ∧ (∀ n, n ≤ mb → Below n w w') := by
  obtain ⟨es, ck, h⟩ := h
  have hg := MapKept.run_getObj_map (P := P) h.obj
  have hc := MapKept.run_checkKey (P := P) (w := w) (k := .int .i64 i) hd rfl false 9999
  rcases h.find i with ⟨h1, h2⟩ | ⟨j, x, h1, h2, h3, h4⟩
  · have hf := MapKept.run_findKey (P := P) (w := w) hd h1
    have hs := MapKept.heap_set (o' := .map (es.push { key := .int .i64 i, val := v, born := ck }) (ck + 1)) h.obj
    refine ⟨{ w with heap := w.heap.setIfInBounds mb (.map (es.push { key := .int .i64 i, val := v, born := ck }) (ck + 1)) }, by simp [Instr.mapUpdate, run_underlying hu, hg, hc, hf, MapKept.run_setObj_map _ h.obj, Result.andThen], ⟨_, _, hs.1, ?_, ?_, ?_⟩, by simp, fun n hn => ⟨rfl, rfl, rfl, by simp, fun j hj => hs.2 j (by omega)⟩⟩
    · simp [h.ents]
    · intro x hx
      simp only [Array.toList_push, List.mem_append, List.mem_singleton] at hx
      rcases hx with hx | rfl
      · exact Nat.lt_succ_of_lt (h.born x hx)
      · exact Nat.lt_succ_self _
    · simp only [Array.toList_push, List.map_append, List.map_cons, List.map_nil]
      refine List.nodup_append.2 ⟨h.nodup, by simp, ?_⟩
      intro a ha b hb
      simp only [List.mem_singleton] at hb
      subst hb
      obtain ⟨x, hx, rfl⟩ := List.mem_map.1 ha
      exact Nat.ne_of_lt (h.born x hx)
  · exact absurd h3 (hn x (List.mem_of_getElem? h2))
end

/-! ### What is left of a range -/
theorem left_zero {es : Array MapEntry} {seen : Array Nat} (h : (leftOf es seen).size = 0) : (leftOf es seen).toList = [] := by
  have : leftOf es seen = #[] := Array.eq_empty_of_size_eq_zero h
  rw [this]
theorem left_all (es : Array MapEntry) : leftOf es #[] = es := by
  unfold leftOf
  exact Array.filter_eq_self.2 (fun a _ => by simp)
theorem left_push {es : Array MapEntry} {seen : Array Nat} {e x : MapEntry} : x ∈ (leftOf es (seen.push e.born)).toList ↔ x ∈ (leftOf es seen).toList ∧ x.born ≠ e.born := by
  unfold leftOf
  rw [Array.toList_filter, Array.toList_filter, List.mem_filter, List.mem_filter, contains_push]
  cases seen.contains x.born <;> by_cases h : x.born = e.born <;> simp [h]
def iterLeft (es : Array MapEntry) (r : Nat) (w : World) : Nat := (leftOf es (w.iterSeen r)).size
theorem iterLeft_eq {es : Array MapEntry} {r : Nat} {w : World} {m : Option Nat} {a c : Nat} {seen : Array Nat} (h : w.heap[r]? = some (.mapIter m a seen c)) : iterLeft es r w = (leftOf es seen).size := by
  unfold iterLeft World.iterSeen; rw [h]
end Go.Proofs.Ythlgijmpkpmibaa
