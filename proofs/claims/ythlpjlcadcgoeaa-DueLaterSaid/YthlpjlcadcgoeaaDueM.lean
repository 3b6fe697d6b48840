/- Layer 4: threads that stand with their dues: a map of the call's own, asked, put into, deleted from. -/
import Derived.Test.YthlpjlcadcgoeaaDueN
import Derived.MapKept
import Derived.Maps.RangeRun
import Derived.ChangeMaps4
namespace Go.Proofs.Ythlpjlcadcgoeaa
set_option linter.unusedVariables false
set_option linter.unusedSimpArgs false
open Go.ChangeShapes Go.WideShapes Go.ChangeAt Go.RowKit

/-- The map's block: who stands, in the order in which they came. -/
structure MapAt (w : World) (mb : Nat) (l : List Du) (es : Array MapEntry) (ck : Nat) : Prop where
  obj : w.heap[mb]? = some (.map es ck)
  ents : es.toList.map (fun e => (e.key, e.val)) = l.map (fun d => (Value.int .i64 d.id, .agg #[.int .i64 d.tm, .int .i64 d.id]))
  born : ∀ x ∈ es.toList, x.born < ck
  nodup : (es.toList.map (·.born)).Nodup
def MapD (w : World) (mb : Nat) (l : List Du) : Prop := ∃ es ck, MapAt w mb l es ck

theorem MapD.of_block {w w' : World} {mb : Nat} {l : List Du} (h : MapD w mb l) (hk : w'.heap[mb]? = w.heap[mb]?) : MapD w' mb l := by
  obtain ⟨es, ck, h1, h2, h3, h4⟩ := h
  exact ⟨es, ck, hk.trans h1, h2, h3, h4⟩
theorem MapD.lt {w : World} {mb : Nat} {l : List Du} (h : MapD w mb l) : mb < w.heap.size := by
  obtain ⟨es, ck, h1, _⟩ := h
  exact (Array.getElem?_eq_some_iff.1 h1).1
theorem MapD.kept {w w' : World} {mb : Nat} {l : List Du} (h : MapD w mb l) (hk : Below w.heap.size w w') : MapD w' mb l := h.of_block (hk.block _ h.lt)
theorem MapD.out {w w' : World} {mb : Nat} {l : List Du} {S : List Nat} (h : MapD w mb l) (hk : Out S w w') (hn : mb ∉ S) : MapD w' mb l := h.of_block (hk.block _ h.lt hn)
theorem MapAt.at {w : World} {mb : Nat} {l : List Du} {es : Array MapEntry} {ck : Nat} (h : MapAt w mb l es ck) {j : Nat} {e : MapEntry} (he : es.toList[j]? = some e) : ∃ d, l[j]? = some d ∧ e.key = .int .i64 d.id ∧ e.val = .agg #[.int .i64 d.tm, .int .i64 d.id] := by
  have h1 := congrArg (·[j]?) h.ents
  simp only [List.getElem?_map, he, Option.map_some] at h1
  obtain ⟨d, hd, h2⟩ := Option.map_eq_some_iff.1 h1.symm
  simp only [Prod.mk.injEq] at h2
  exact ⟨d, hd, h2.1.symm, h2.2.symm⟩
theorem MapAt.mem {w : World} {mb : Nat} {l : List Du} {es : Array MapEntry} {ck : Nat} (h : MapAt w mb l es ck) {e : MapEntry} (he : e ∈ es.toList) : ∃ d ∈ l, e.key = .int .i64 d.id ∧ e.val = .agg #[.int .i64 d.tm, .int .i64 d.id] := by
  obtain ⟨j, hj⟩ := List.getElem?_of_mem he
  obtain ⟨d, hd, h1⟩ := h.at hj
  exact ⟨d, List.mem_of_getElem? hd, h1⟩
theorem MapAt.size {w : World} {mb : Nat} {l : List Du} {es : Array MapEntry} {ck : Nat} (h : MapAt w mb l es ck) : es.size = l.length := by
  have := congrArg List.length h.ents
  simpa using this
theorem MapAt.find {w : World} {mb : Nat} {l : List Du} {es : Array MapEntry} {ck : Nat} (h : MapAt w mb l es ck) (i : Int) :
    (Instr.findNow (.int .i64) (.int .i64 i) es.toList 0 = some none ∧ hasB l i = false) ∨
    ∃ j d, Instr.findNow (.int .i64) (.int .i64 i) es.toList 0 = some (some (j, .agg #[.int .i64 d.tm, .int .i64 d.id])) ∧ l[j]? = some d ∧ d.id = i ∧ j < es.size ∧ hasB l i = true := by
  have hks : ∀ x ∈ es.toList, MapKept.IsKey (.int .i64) x.key := fun x hx => by
    obtain ⟨d, _, hk, _⟩ := h.mem hx
    rw [hk]; rfl
  rcases MapKept.findNow_spec (d := .int .i64) (k := .int .i64 i) rfl es.toList 0 hks with ⟨h1, h2⟩ | ⟨j, e, h1, h2, h3⟩
  · left
    refine ⟨h1, nhas_iff.2 fun d hd hdi => ?_⟩
    obtain ⟨j, hj⟩ := List.getElem?_of_mem hd
    have h4 := congrArg (·[j]?) h.ents
    simp only [List.getElem?_map, hj, Option.map_some] at h4
    obtain ⟨x, hx, h5⟩ := Option.map_eq_some_iff.1 h4
    simp only [Prod.mk.injEq] at h5
    exact h2 x (List.mem_of_getElem? hx) (by rw [h5.1, hdi])
  · right
    obtain ⟨d, hd, h4, h5⟩ := h.at h2
    refine ⟨j, d, by rw [h1, h5, Nat.zero_add], hd, ?_, by simpa using (List.getElem?_eq_some_iff.1 h2).1, has_iff.2 ⟨d, List.mem_of_getElem? hd, ?_⟩⟩
    · rw [h4] at h3; cases h3; rfl
    · rw [h4] at h3; cases h3; rfl

theorem due_zero (w : World) : (zeroValue 24).run Try.prog w = .ok (.agg #[.int .i64 0, .int .i64 0]) w := by kernel_rfl
/-- 'm[i]', asked whether it is there. -/
theorem map_look {w : World} {mb : Nat} {l : List Du} (h : MapD w mb l) (i : Int) : ∃ x : Du, (Instr.lookup 43 (.map (some mb)) (.int .i64 i) true).run Try.prog w = .ok (.tuple #[.agg #[.int .i64 x.tm, .int .i64 x.id], .bool (hasB l i)]) w := by
  obtain ⟨es, ck, h⟩ := h
  have hu := Try.underlying43
  have hd := Try.underlying3
  have hg := MapKept.run_getObj_map (P := Try.prog) h.obj
  have hc := MapKept.run_checkKey (P := Try.prog) (w := w) (k := .int .i64 i) hd rfl es.isEmpty 9999
  have hz := due_zero w
  rcases h.find i with ⟨h1, h2⟩ | ⟨j, d, h1, h2, h3, h4, h5⟩
  · have hf := MapKept.run_findKey (P := Try.prog) (w := w) hd h1
    exact ⟨⟨0, 0⟩, by simp [Instr.lookup, run_underlying hu, hg, hc, hf, hz, h2, Result.andThen]⟩
  · have hf := MapKept.run_findKey (P := Try.prog) (w := w) hd h1
    exact ⟨d, by simp [Instr.lookup, run_underlying hu, hg, hc, hf, h5, Result.andThen]⟩
theorem nil_look (w : World) (i : Int) : (Instr.lookup 43 (.map none) (.int .i64 i) true).run Try.prog w = .ok (.tuple #[.agg #[.int .i64 0, .int .i64 0], .bool false]) w := by
  have hu := Try.underlying43
  have hd := Try.underlying3
  have hc := MapKept.run_checkKey (P := Try.prog) (w := w) (k := .int .i64 i) hd rfl true 9999
  have hf := MapKept.run_findKey (P := Try.prog) (w := w) (k := .int .i64 i) (l := []) (a := none) hd rfl
  have hz := due_zero w
  simp [Instr.lookup, run_underlying hu, hc, hf, hz, Result.andThen]

theorem out_set {w : World} {mb : Nat} {o o' : Obj} (h : w.heap[mb]? = some o) : Out [mb] w { w with heap := w.heap.setIfInBounds mb o' } ∧ ({ w with heap := w.heap.setIfInBounds mb o' } : World).heap.size = w.heap.size ∧ ({ w with heap := w.heap.setIfInBounds mb o' } : World).heap[mb]? = some o' := by
  have hs := MapKept.heap_set (o' := o') h
  exact ⟨⟨rfl, rfl, rfl, by simp, fun j _ hn => hs.2 j (by simpa using hn)⟩, by simp, hs.1⟩
/-- 'm[i] = d', where none is there. -/
theorem map_put {w : World} {mb : Nat} {l : List Du} (h : MapD w mb l) (d : Du) (hn : hasB l d.id = false) :
    ∃ w', (Instr.mapUpdate 43 (.map (some mb)) (.int .i64 d.id) (.agg #[.int .i64 d.tm, .int .i64 d.id])).run Try.prog w = .ok () w' ∧ MapD w' mb (l ++ [d]) ∧ Out [mb] w w' ∧ w'.heap.size = w.heap.size := by
  obtain ⟨es, ck, h⟩ := h
  have hu := Try.underlying43
  have hd := Try.underlying3
  have hg := MapKept.run_getObj_map (P := Try.prog) h.obj
  have hc := MapKept.run_checkKey (P := Try.prog) (w := w) (k := .int .i64 d.id) hd rfl false 9999
  rcases h.find d.id with ⟨h1, h2⟩ | ⟨j, x, h1, h2, h3, h4, h5⟩
  · have hf := MapKept.run_findKey (P := Try.prog) (w := w) hd h1
    obtain ⟨o1, o2, o3⟩ := out_set (o' := .map (es.push { key := .int .i64 d.id, val := .agg #[.int .i64 d.tm, .int .i64 d.id], born := ck }) (ck + 1)) h.obj
    refine ⟨_, by simp [Instr.mapUpdate, run_underlying hu, hg, hc, hf, MapKept.run_setObj_map _ h.obj, Result.andThen], ⟨_, _, o3, ?_, ?_, ?_⟩, o1, o2⟩
    · simp [h.ents]
    · intro x hx
      simp only [Array.toList_push, List.mem_append, List.mem_singleton] at hx
      rcases hx with hx | rfl
      · exact Nat.lt_succ_of_lt (h.born x hx)
      · exact Nat.lt_succ_self _
    · simp only [Array.toList_push, List.map_append, List.map_cons, List.map_nil]
      refine List.nodup_append.2 ⟨h.nodup, by simp, ?_⟩
      intro a ha b hb
      simp only [List.mem_singleton] at hb
      subst hb
      obtain ⟨x, hx, rfl⟩ := List.mem_map.1 ha
      exact Nat.ne_of_lt (h.born x hx)
  · rw [hn] at h5; cases h5

theorem erase_without : ∀ {l : List Du} {j : Nat} {d : Du}, Apart l → l[j]? = some d → l.eraseIdx j = without l d.id
  | [], _, _, _, h => by simp at h
  | e :: l, 0, d, ha, h => by
    simp only [List.getElem?_cons_zero, Option.some.injEq] at h
    subst h
    have hp := (List.pairwise_cons.1 ha).1
    unfold without
    rw [List.eraseIdx_cons_zero, List.filter_cons_of_neg (by simp), List.filter_eq_self.2 (fun x hx => by simpa using Ne.symm (hp x hx))]
  | e :: l, j + 1, d, ha, h => by
    simp only [List.getElem?_cons_succ] at h
    have hp := List.pairwise_cons.1 ha
    have ih := erase_without hp.2 h
    have hne : e.id ≠ d.id := hp.1 d (List.mem_of_getElem? h)
    unfold without at *
    rw [List.eraseIdx_cons_succ, ih, List.filter_cons_of_pos (by simpa using hne)]
theorem without_none {l : List Du} {i : Int} (h : hasB l i = false) : without l i = l := List.filter_eq_self.2 (fun x hx => by simpa using nhas_iff.1 h x hx)
theorem erase_toList (es : Array MapEntry) {j : Nat} (hj : j < es.size) : (es.eraseIdxIfInBounds j).toList = es.toList.eraseIdx j := by
  unfold Array.eraseIdxIfInBounds
  rw [dif_pos hj]
  simp
/-- 'delete(m, i)'. -/
theorem map_drop {w : World} {mb : Nat} {l : List Du} (h : MapD w mb l) (i : Int) (ha : Apart l) (ty : TypeId) :
    ∃ w', (Builtin.delete_ #[43, 3] ty #[.map (some mb), .int .i64 i]).run Try.prog w = .ok (.tuple #[]) w' ∧ MapD w' mb (without l i) ∧ Out [mb] w w' ∧ w'.heap.size = w.heap.size := by
  obtain ⟨es, ck, h⟩ := h
  have hu := Try.underlying43
  have hd := Try.underlying3
  have hg := MapKept.run_getObj_map (P := Try.prog) h.obj
  have hc := MapKept.run_checkKey (P := Try.prog) (w := w) (k := .int .i64 i) hd rfl es.isEmpty 9999
  rcases h.find i with ⟨h1, h2⟩ | ⟨j, x, h1, h2, h3, h4, h5⟩
  · have hf := MapKept.run_findKey (P := Try.prog) (w := w) hd h1
    obtain ⟨o1, o2, o3⟩ := out_set (o' := .map es ck) h.obj
    refine ⟨_, by simp [Builtin.delete_, run_underlying hu, hg, hc, hf, MapKept.run_setObj_map _ h.obj, Result.andThen], ⟨_, _, o3, ?_, h.born, h.nodup⟩, o1, o2⟩
    rw [without_none h2]; exact h.ents
  · have hf := MapKept.run_findKey (P := Try.prog) (w := w) hd h1
    obtain ⟨o1, o2, o3⟩ := out_set (o' := .map (es.eraseIdxIfInBounds j) ck) h.obj
    have ht := erase_toList es h4
    refine ⟨_, by simp [Builtin.delete_, run_underlying hu, hg, hc, hf, MapKept.run_setObj_map _ h.obj, Result.andThen], ⟨_, _, o3, ?_, ?_, ?_⟩, o1, o2⟩
    · rw [ht, ← h3, ← erase_without ha h2, Go.ChangeMaps.map_eraseIdx, Go.ChangeMaps.map_eraseIdx, h.ents]
    · intro x hx
      rw [ht] at hx
      exact h.born x ((List.eraseIdx_sublist _ _).subset hx)
    · rw [ht]
      exact ((List.eraseIdx_sublist _ _).map _).nodup h.nodup
/-- An operation that hands back nothing. -/
theorem wpList_skipped {P : Program} {w w' : World} {ops : Array Oper} {rest : List Oper} {o : Oper} {a : Act} {Q : Exit → Act → World → Prop} (hg : o.guard = none) {n : Next} (hr : (execOp a.eval o).run P w = .ok n w') (hn : n = .skip ∨ ∃ v, n = .value v)
    (hd : o.dst = none) (h : wpList P ops Q rest a w') : wpList P ops Q (o :: rest) a w := by
  refine wpList_plain hg fun K hK => ?_
  unfold Oper.wp
  rw [hr]
  have e : ∀ v, a.put o.dst v = a := fun v => by rw [hd]; rfl
  rcases hn with rfl | ⟨v, rfl⟩ <;> (show K (a.put o.dst _) w'; rw [e]; exact hK _ _ h)
end Go.Proofs.Ythlpjlcadcgoeaa
