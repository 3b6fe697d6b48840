/- The program's table of what may be told (layer 3): a map whose keys are structs of two numbers, looked up. -/
import Derived.Test.YthlgijmpkpmibaaFifoL
import Derived.Laws.StructEq
import Derived.WideKeyRuns
import Derived.MapKept
import Derived.Carry
namespace Go.Proofs.Ythlgijmpkpmibaa
set_option linter.unusedVariables false
set_option linter.unusedSimpArgs false
open Go.ChangeShapes Go.WideShapes Go.ChangeAt Go.RowKit

def keyV (s r : Int) : Value := .agg #[.int .i64 s, .int .i64 r]
def fnV (f : Nat) : Value := .func (.func f) #[] #[]
theorem keyV_inj {a b c d : Int} : keyV a b = keyV c d ↔ a = c ∧ b = d := by simp [keyV]

theorem key_equal (s r a b : Int) (w : World) : (Op.equal 52 (keyV s r) (keyV a b)).run Try.prog w = .ok (s == a && r == b) w := by
  have hu := Try.underlying52
  have h3 := Try.underlying3
  have hp : Try.prog.stoodInHeld 52 = false := by kernel_rfl
  have hc : Try.prog.info? 3 = _ := rfl
  unfold Op.equal keyV Op.maxDepth
  rw [run_equalIn_struct w 9999 _ _ _ (by unfold Program.fieldsOf; rw [hu]) hp]
  unfold Program.fieldsOf
  rw [hu]
  cases h : (s == a) <;> cases h2 : (r == b)
  all_goals simp [Op.eqFields, part, isAgg, run_underlying h3, run_equalIn_int _ _ _ _ _ _ _ h3, h, h2]

theorem key_check1 (s r : Int) (e : Bool) (n : Nat) (w : World) : (Instr.checkKey e (n + 2) 52 (keyV s r)).run Try.prog w = .ok () w := by
  have hu := Try.underlying52
  have h3 := Try.underlying3
  unfold keyV
  simp [Instr.checkKey, run_underlying hu, part, isAgg, run_underlying h3]
theorem key_check (s r : Int) (e : Bool) (w : World) : (Instr.checkKey e 10000 52 (keyV s r)).run Try.prog w = .ok () w := key_check1 s r e 9998 w

theorem key_find (s r : Int) (w : World) : ∀ (es : List MapEntry) (i : Nat), (∀ e ∈ es, ∃ a b, e.key = keyV a b) →
    ((Instr.findAsking 52 (keyV s r) es i).run Try.prog w = .ok none w ∧ ∀ e ∈ es, e.key ≠ keyV s r) ∨
    ∃ j e, (Instr.findAsking 52 (keyV s r) es i).run Try.prog w = .ok (some (j, e.val)) w ∧ e ∈ es ∧ e.key = keyV s r
  | [], i, _ => .inl ⟨by simp [Instr.findAsking], by simp⟩
  | e :: es, i, h => by
    obtain ⟨a, b, hk⟩ := h e (by simp)
    have he := key_equal s r a b w
    cases hc : (s == a && r == b)
    · have hne : e.key ≠ keyV s r := by
        rw [hk]; intro h'; rw [keyV_inj] at h'; simp [h'.1, h'.2] at hc
      rcases key_find s r w es (i + 1) (fun e he => h e (by simp [he])) with ⟨h1, h2⟩ | ⟨j, e', h1, h2, h3⟩
      · left
        refine ⟨by simp [Instr.findAsking, hk, he, hc, h1], fun y hy => ?_⟩
        rcases List.mem_cons.1 hy with rfl | hy
        · exact hne
        · exact h2 y hy
      · exact .inr ⟨j, e', by simp [Instr.findAsking, hk, he, hc, h1], by simp [h2], h3⟩
    · refine .inr ⟨i, e, by simp [Instr.findAsking, hk, he, hc], by simp, ?_⟩
      rw [hk, keyV_inj]
      simp at hc
      exact ⟨hc.1.symm, hc.2.symm⟩

theorem key_wide : (match Try.prog.underlying 52 with | some (.array _ _) | some (.struct _) => true | _ => false) = true := by rw [Try.underlying52]

/-- What may be told, by the sort of its kind and its result. -/
def ruleTab : List (Int × Int × Nat) := [(1, 1, 34), (1, 2, 35), (1, 3, 36), (1, 5, 37), (1, 6, 38), (1, 7, 39),
  (4, 1, 40), (4, 4, 41), (4, 5, 37), (4, 6, 42), (4, 7, 39), (9, 1, 43), (7, 1, 44), (8, 1, 45)]
def keyAt (i : Nat) : Value := keyV (ruleTab.getD i (0, 0, 0)).1 (ruleTab.getD i (0, 0, 0)).2.1
def fnAt (i : Nat) : Value := fnV (ruleTab.getD i (0, 0, 0)).2.2
theorem keyAt_inj : ∀ i, i < 14 → ∀ j, j < 14 → ((ruleTab.getD i (0, 0, 0)).1 = (ruleTab.getD j (0, 0, 0)).1 ∧ (ruleTab.getD i (0, 0, 0)).2.1 = (ruleTab.getD j (0, 0, 0)).2.1) → i = j := by decide
/-- Entries are those that are listed, each where its key is. -/
def Listed (ok : Nat → Bool) (es : List MapEntry) : Prop := (∀ e ∈ es, ∃ i, i < 14 ∧ ok i = true ∧ e.key = keyAt i ∧ e.val = fnAt i) ∧ ∀ i, i < 14 → ok i = true → ∃ e ∈ es, e.key = keyAt i
theorem Listed.keys {ok : Nat → Bool} {es : List MapEntry} (h : Listed ok es) : ∀ e ∈ es, ∃ a b, e.key = keyV a b := fun e he => by
  obtain ⟨i, _, _, hk, _⟩ := h.1 e he
  exact ⟨_, _, hk⟩

/-- The block mb is the table. -/
def RulesAt (w : World) (mb : Nat) : Prop := ∃ es ck, w.heap[mb]? = some (.map es ck) ∧ Listed (fun _ => true) es.toList
theorem RulesAt.kept {w w' : World} {mb : Nat} (h : RulesAt w mb) (hk : w'.heap[mb]? = w.heap[mb]?) : RulesAt w' mb := by
  obtain ⟨es, ck, h1, h2⟩ := h
  exact ⟨es, ck, hk.trans h1, h2⟩
theorem RulesAt.lt {w : World} {mb : Nat} (h : RulesAt w mb) : mb < w.heap.size := by
  obtain ⟨es, ck, h1, h2⟩ := h
  exact (Array.getElem?_eq_some_iff.1 h1).1

def lookV : Option (Nat × Value) → Value
  | some (_, v) => .tuple #[v, .bool true]
  | none => .tuple #[.nilFunc, .bool false]
theorem rules_run {w : World} {mb : Nat} {es : Array MapEntry} {ck : Nat} (h1 : w.heap[mb]? = some (.map es ck)) (s r : Int) (x : Option (Nat × Value)) (hx : (Instr.findAsking 52 (keyV s r) es.toList).run Try.prog w = .ok x w) :
    (Instr.lookup 45 (.map (some mb)) (keyV s r) true).run Try.prog w = .ok (lookV x) w := by
  have hu := Try.underlying45
  have hf := (run_findKey_eq (P := Try.prog) w key_wide (keyV s r) es.toList).trans hx
  have hc := key_check s r es.isEmpty w
  have hzz : (zeroValue 49).run Try.prog w = .ok .nilFunc w := by kernel_rfl
  simp only [Instr.lookup, Sem.run_bind, run_underlying hu, Result.andThen_ok]
  have hg : (getObj mb).run Try.prog w = .ok (.map es ck) w := MapKept.run_getObj_map h1
  cases x with
  | none => simp [hg, hc, hf, hzz, lookV]
  | some y => simp [hg, hc, hf, hzz, lookV]
/-- The table is asked. -/
theorem rules_look {w : World} {mb : Nat} (h : RulesAt w mb) (s r : Int) :
    (∃ i, i < 14 ∧ keyV s r = keyAt i ∧ (Instr.lookup 45 (.map (some mb)) (keyV s r) true).run Try.prog w = .ok (.tuple #[fnAt i, .bool true]) w) ∨
    (∀ i, i < 14 → keyV s r ≠ keyAt i) ∧ (Instr.lookup 45 (.map (some mb)) (keyV s r) true).run Try.prog w = .ok (.tuple #[.nilFunc, .bool false]) w := by
  obtain ⟨es, ck, h1, h2⟩ := h
  rcases key_find s r w es.toList 0 h2.keys with ⟨h3, h4⟩ | ⟨j, e, h3, h4, h5⟩
  · right
    refine ⟨fun i hi hk => ?_, rules_run h1 s r none h3⟩
    obtain ⟨e, he, hek⟩ := h2.2 i hi rfl
    exact h4 e he (hek.trans hk.symm)
  · left
    obtain ⟨i, hi, _, hk, hv⟩ := h2.1 e h4
    exact ⟨i, hi, h5.symm.trans hk, by rw [rules_run h1 s r _ h3, lookV, hv]⟩

/-- One more is listed. -/
theorem rules_put {w : World} {mb : Nat} {es : Array MapEntry} {ck : Nat} {ok : Nat → Bool} (h1 : w.heap[mb]? = some (.map es ck)) (h2 : Listed ok es.toList) (i : Nat) (hi : i < 14) (hk : ok i = false) :
    ∃ w' es' ck', (Instr.mapUpdate 45 (.map (some mb)) (keyAt i) (fnAt i)).run Try.prog w = .ok () w' ∧ w'.heap[mb]? = some (.map es' ck') ∧ Listed (fun j => ok j || j == i) es'.toList ∧
      w'.os = w.os ∧ w'.tape = w.tape ∧ w'.output = w.output ∧ w'.heap.size = w.heap.size ∧ ∀ j, j ≠ mb → w'.heap[j]? = w.heap[j]? := by
  have hu := Try.underlying45
  have hlt : mb < w.heap.size := (Array.getElem?_eq_some_iff.1 h1).1
  have hno : (Instr.findKey 52 (keyAt i) es.toList).run Try.prog w = .ok none w := by
    refine (run_findKey_eq (P := Try.prog) w key_wide (keyAt i) es.toList).trans ?_
    rcases key_find _ _ w es.toList 0 h2.keys with ⟨h3, _⟩ | ⟨j, e, h3, h4, h5⟩
    · exact h3
    · obtain ⟨j', hj', hok, hkk, _⟩ := h2.1 e h4
      have : keyAt j' = keyAt i := hkk.symm.trans h5
      rw [keyAt, keyAt, keyV_inj] at this
      have := keyAt_inj j' hj' i hi this
      subst this
      rw [hk] at hok; cases hok
  have hc := key_check (ruleTab.getD i (0, 0, 0)).1 (ruleTab.getD i (0, 0, 0)).2.1 false w
  refine ⟨{ w with heap := w.heap.setIfInBounds mb (.map (es.push { key := keyAt i, val := fnAt i, born := ck }) (ck + 1)) }, es.push { key := keyAt i, val := fnAt i, born := ck }, ck + 1, ?_, ?_, ⟨fun e he => ?_, fun j hj hok => ?_⟩, rfl, rfl, rfl, by simp, fun j hj => ?_⟩
  · have hc' : (Instr.checkKey false 10000 52 (keyAt i)).run Try.prog w = .ok () w := hc
    have hg := MapKept.run_getObj_map (P := Try.prog) h1
    have hs := MapKept.run_setObj_map (P := Try.prog) (.map (es.push { key := keyAt i, val := fnAt i, born := ck }) (ck + 1)) h1
    simp [Instr.mapUpdate, run_underlying hu, hg, hc', hno, hs]
  · simp [hlt]
  · simp only [Array.toList_push, List.mem_append, List.mem_singleton] at he
    rcases he with he | rfl
    · obtain ⟨j, hj, hok, h5⟩ := h2.1 e he
      exact ⟨j, hj, by simp [hok], h5⟩
    · exact ⟨i, hi, by simp, rfl, rfl⟩
  · simp only [Array.toList_push, List.mem_append, List.mem_singleton]
    by_cases hji : j = i
    · subst hji
      exact ⟨_, .inr rfl, rfl⟩
    · obtain ⟨e, he, hek⟩ := h2.2 j hj (by simpa [hji] using hok)
      exact ⟨e, .inl he, hek⟩
  · simp [Array.getElem?_setIfInBounds, Ne.symm hj]
end Go.Proofs.Ythlgijmpkpmibaa
