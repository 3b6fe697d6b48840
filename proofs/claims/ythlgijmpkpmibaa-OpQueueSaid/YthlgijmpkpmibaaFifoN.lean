/- The program's table of what may be told (layer 3) is made: its rows are laid in whatever order. -/
import Derived.Test.YthlgijmpkpmibaaFifoM
import Derived.Test.YthlgijmpkpmibaaInv
namespace Go.Proofs.Ythlgijmpkpmibaa
set_option linter.unusedVariables false
set_option linter.unusedSimpArgs false
open Go.ChangeShapes Go.WideShapes Go.ChangeAt Go.RowKit

theorem Listed.congr {ok ok' : Nat → Bool} {es : List MapEntry} (h : Listed ok es) (e : ∀ i, i < 14 → ok i = ok' i) : Listed ok' es :=
  ⟨fun x hx => by obtain ⟨i, hi, h1, h2⟩ := h.1 x hx; exact ⟨i, hi, (e i hi).symm.trans h1, h2⟩, fun i hi h1 => h.2 i hi ((e i hi).trans h1)⟩

/-- What stands while the rows are laid. -/
def Laying (W : World) (listed : Array Bool) (a : Act) (w : World) : Prop :=
  Below W.heap.size W w ∧ a.tmps.size = 17 ∧ a.defers = [] ∧ (∀ k, k < 14 → listed.getD (2 * k + 1) true = true → a.tmps[k + 2]? = some (keyAt k)) ∧
  (listed.getD 0 true = true → ∃ mb es ck, W.heap.size ≤ mb ∧ a.tmps[1]? = some (.map (some mb)) ∧ w.heap[mb]? = some (.map es ck) ∧ Listed (fun k => listed.getD (2 * k + 2) true) es.toList ∧
    (listed.getD 29 true = true → a.tmps[16]? = some (.map (some mb))) ∧ (listed.getD 30 true = true → a.tmps[0]? = some (.map (some mb)))) ∧
  (listed.getD 0 true = false → (∀ k, k < 14 → listed.getD (2 * k + 2) true = false) ∧ listed.getD 29 true = false ∧ listed.getD 30 true = false)

/-- How the table's rows stand in the text. -/
structure TabOps (l : List Oper) : Prop where
  len : l.length = 31
  make : ∃ o, l[0]? = some o ∧ o.guard = none ∧ o.dst = some 1 ∧ o.op = .makeMap 45 none
  key : ∀ k, k < 14 → ∃ o, l[2 * k + 1]? = some o ∧ o.guard = none ∧ o.dst = some (k + 2) ∧ o.op = .build 52 #[(0, .const (.int .i64 (ruleTab.getD k (0, 0, 0)).1)), (1, .const (.int .i64 (ruleTab.getD k (0, 0, 0)).2.1))]
  row : ∀ k, k < 14 → ∃ o, l[2 * k + 2]? = some o ∧ o.guard = none ∧ o.dst = none ∧ o.op = .insert 45 (.tmp 1) (.tmp (k + 2)) (.func (ruleTab.getD k (0, 0, 0)).2.2) ∧
    (∃ e ∈ o.after, Region.binds .any e = true ∧ e.on = 0) ∧ ∃ e ∈ o.after, Region.binds .any e = true ∧ e.on = 2 * k + 1
  move : ∃ o, l[29]? = some o ∧ o.guard = none ∧ o.dst = some 16 ∧ o.op = .move (.tmp 1) ∧ ∃ e ∈ o.after, Region.binds .any e = true ∧ e.on = 0
  last : ∃ o, l[30]? = some o ∧ o.guard = none ∧ o.dst = some 0 ∧ o.op = .assign (.tmp 16) ∧ (∃ e ∈ o.after, Region.binds .any e = true ∧ e.on = 0) ∧ ∃ e ∈ o.after, Region.binds .any e = true ∧ e.on = 29

theorem run_build_key (s r : Int) (w : World) : (Instr.build 52 #[(0, .int .i64 s), (1, .int .i64 r)]).run Try.prog w = .ok (keyV s r) w := by
  kernel_rfl

theorem getD_set_self {listed : Array Bool} {i : Nat} (h : i < listed.size) : (listed.setIfInBounds i true).getD i true = true := by simp [Array.getD, h]
theorem getD_set_other {listed : Array Bool} {i j : Nat} (h : j ≠ i) : (listed.setIfInBounds i true).getD j true = listed.getD j true := by
  by_cases hj : j < listed.size
  · simp [Array.getD, hj, Array.getElem_setIfInBounds, Ne.symm h]
  · simp [Array.getD, hj]
theorem getD_true {listed : Array Bool} {j : Nat} (h : listed.getD j false = true) : listed.getD j true = true := by
  by_cases hj : j < listed.size
  · simpa [Array.getD, hj] using h
  · simp [Array.getD, hj]

theorem put_other {a : Act} {d : Nat} {v : Value} {j : Nat} (h : j ≠ d) : (a.put (some d) v).tmps[j]? = a.tmps[j]? := by simp [Act.put, Array.getElem?_setIfInBounds, Ne.symm h]
theorem put_self {a : Act} {d : Nat} {v : Value} (h : d < a.tmps.size) : (a.put (some d) v).tmps[d]? = some v := by simp [Act.put, h]
theorem eval_tmp {a : Act} {t : Nat} {v : Value} (h : a.tmps[t]? = some v) : a.eval (.tmp t) = v := by simp [Act.eval, h]

theorem laying_step {W : World} {l : List Oper} (T : TabOps l) {Q : Exit → Act → World → Prop} (listed : Array Bool) (a : Act) (w : World) (i : Nat) (o : Oper) (hs : listed.size = l.length) (hI : Laying W listed a w) (hi : l[i]? = some o)
    (hn : listed.getD i true = false) (hw : ∀ e ∈ o.after, Region.binds .any e = true → listed.getD e.on false = true) : wpOp Try.prog l.toArray Q i (Laying W (listed.setIfInBounds i true)) a w := by
  obtain ⟨hB, hz, hd, hkey, hmap, hnot⟩ := hI
  rw [T.len] at hs
  have hil : i < 31 := by have := (List.getElem?_eq_some_iff.1 hi).1; rw [T.len] at this; exact this
  by_cases h0 : i = 0
  · subst h0
    obtain ⟨o', ho, hg, hdst, hop⟩ := T.make
    obtain rfl : o' = o := Option.some.inj (ho.symm.trans hi)
    have hnot' := hnot hn
    refine wpOp_value (v := .map (some w.heap.size)) (w' := w.alloc (.map #[] 0)) hi hg ?_ ?_
    · simp [execOp, hop, run_makeMap]
    · rw [hdst]
      refine ⟨hB.alloc hB.size _, by simpa [Act.put] using hz, hd, fun k hk h => ?_, fun _ => ⟨w.heap.size, #[], 0, hB.size, put_self (by omega), (MapKept.heap_alloc w _).1, ⟨by simp, fun k hk h => ?_⟩, fun h => ?_, fun h => ?_⟩, fun h => ?_⟩
      · rw [put_other (by omega)]; exact hkey k hk (by rwa [getD_set_other (by omega)] at h)
      · have h' : (listed.setIfInBounds 0 true).getD (2 * k + 2) true = true := h
        rw [getD_set_other (by omega), hnot'.1 k hk] at h'; cases h'
      · rw [getD_set_other (by omega), hnot'.2.1] at h; cases h
      · rw [getD_set_other (by omega), hnot'.2.2] at h; cases h
      · rw [getD_set_self (by omega)] at h; cases h
  · by_cases h29 : i = 29
    · subst h29
      obtain ⟨o', ho, hg, hdst, hop, e, he, heb, heo⟩ := T.move
      obtain rfl : o' = o := Option.some.inj (ho.symm.trans hi)
      have hd0 : listed.getD 0 true = true := getD_true (heo ▸ hw e he heb)
      obtain ⟨mb, es, ck, h1, h2, h3, h4, h5, h6⟩ := hmap hd0
      refine wpOp_value (v := .map (some mb)) (w' := w) hi hg ?_ ?_
      · simp [execOp, hop, eval_tmp h2]
      · rw [hdst]
        refine ⟨hB, by simpa [Act.put] using hz, hd, fun k hk h => ?_, fun _ => ⟨mb, es, ck, h1, by rw [put_other (by omega)]; exact h2, h3, h4.congr fun k hk => (getD_set_other (by omega)).symm, fun _ => put_self (by omega), fun h => ?_⟩, fun h => ?_⟩
        · rw [put_other (by omega)]; exact hkey k hk (by rwa [getD_set_other (by omega)] at h)
        · rw [put_other (by omega)]; exact h6 (by rwa [getD_set_other (by omega)] at h)
        · rw [getD_set_other (by omega), hd0] at h; cases h
    · by_cases h30 : i = 30
      · subst h30
        obtain ⟨o', ho, hg, hdst, hop, ⟨e, he, heb, heo⟩, e', he', heb', heo'⟩ := T.last
        obtain rfl : o' = o := Option.some.inj (ho.symm.trans hi)
        have hd0 : listed.getD 0 true = true := getD_true (heo ▸ hw e he heb)
        have hd29 : listed.getD 29 true = true := getD_true (heo' ▸ hw e' he' heb')
        obtain ⟨mb, es, ck, h1, h2, h3, h4, h5, h6⟩ := hmap hd0
        refine wpOp_value (v := .map (some mb)) (w' := w) hi hg ?_ ?_
        · simp [execOp, hop, eval_tmp (h5 hd29)]
        · rw [hdst]
          refine ⟨hB, by simpa [Act.put] using hz, hd, fun k hk h => ?_, fun _ => ⟨mb, es, ck, h1, by rw [put_other (by omega)]; exact h2, h3, h4.congr fun k hk => (getD_set_other (by omega)).symm, fun h => ?_, fun _ => put_self (by omega)⟩, fun h => ?_⟩
          · rw [put_other (by omega)]; exact hkey k hk (by rwa [getD_set_other (by omega)] at h)
          · rw [put_other (by omega)]; exact h5 hd29
          · rw [getD_set_other (by omega), hd0] at h; cases h
      · by_cases hodd : i % 2 = 1
        · obtain ⟨k, hk, rfl⟩ : ∃ k, k < 14 ∧ i = 2 * k + 1 := ⟨i / 2, by omega, by omega⟩
          obtain ⟨o', ho, hg, hdst, hop⟩ := T.key k hk
          obtain rfl : o' = o := Option.some.inj (ho.symm.trans hi)
          refine wpOp_value (v := keyAt k) (w' := w) hi hg ?_ ?_
          · unfold keyAt
            generalize (ruleTab.getD k (0, 0, 0)).1 = s at hop ⊢
            generalize (ruleTab.getD k (0, 0, 0)).2.1 = r at hop ⊢
            have := run_build_key s r w
            simp [execOp, hop, Act.eval, this]
          · rw [hdst]
            refine ⟨hB, by simpa [Act.put] using hz, hd, fun j hj h => ?_, fun h => ?_, fun h => ?_⟩
            · by_cases hjk : j = k
              · subst hjk; exact put_self (by omega)
              · rw [put_other (by omega)]; exact hkey j hj (by rwa [getD_set_other (by omega)] at h)
            · obtain ⟨mb, es, ck, h1, h2, h3, h4, h5, h6⟩ := hmap (by rwa [getD_set_other (by omega)] at h)
              exact ⟨mb, es, ck, h1, by rw [put_other (by omega)]; exact h2, h3, h4.congr fun j hj => (getD_set_other (by omega)).symm,
                fun h => by rw [put_other (by omega)]; exact h5 (by rwa [getD_set_other (by omega)] at h), fun h => by rw [put_other (by omega)]; exact h6 (by rwa [getD_set_other (by omega)] at h)⟩
            · obtain ⟨g1, g2, g3⟩ := hnot (by rwa [getD_set_other (by omega)] at h)
              exact ⟨fun j hj => by rw [getD_set_other (by omega)]; exact g1 j hj, by rw [getD_set_other (by omega)]; exact g2, by rw [getD_set_other (by omega)]; exact g3⟩
        · obtain ⟨k, hk, rfl⟩ : ∃ k, k < 14 ∧ i = 2 * k + 2 := ⟨i / 2 - 1, by omega, by omega⟩
          obtain ⟨o', ho, hg, hdst, hop, ⟨e, he, heb, heo⟩, e', he', heb', heo'⟩ := T.row k hk
          obtain rfl : o' = o := Option.some.inj (ho.symm.trans hi)
          have hd0 : listed.getD 0 true = true := getD_true (heo ▸ hw e he heb)
          have hdk : listed.getD (2 * k + 1) true = true := getD_true (heo' ▸ hw e' he' heb')
          obtain ⟨mb, es, ck, h1, h2, h3, h4, h5, h6⟩ := hmap hd0
          have hkt := hkey k hk hdk
          obtain ⟨w', es', ck', hr, g1, g2, g3, g4, g5, g6, g7⟩ := rules_put h3 h4 k hk hn
          refine wpOp_skip (w' := w') hi hg hdst ?_ ?_
          · simp only [execOp, hop, eval_tmp h2, eval_tmp hkt]
            have : a.eval (.func (ruleTab.getD k (0, 0, 0)).2.2) = fnAt k := rfl
            rw [this]
            simp [hr]
          · refine ⟨hB.trans ⟨g3, g4, g5, by omega, fun j hj => g7 j (by omega)⟩, hz, hd, fun j hj h => hkey j hj (by rwa [getD_set_other (by omega)] at h), fun _ => ⟨mb, es', ck', h1, h2, g1, g2.congr fun j hj => ?_, fun h => h5 (by rwa [getD_set_other (by omega)] at h), fun h => h6 (by rwa [getD_set_other (by omega)] at h)⟩, fun h => ?_⟩
            · by_cases hjk : j = k
              · subst hjk; rw [getD_set_self (by omega)]; simp
              · rw [getD_set_other (by omega)]; simp [hjk]
            · rw [getD_set_other (by omega), hd0] at h; cases h

/-- The table. -/
def RetTab (w : World) (e : Ending) (w' : World) : Prop := ∃ mb, e = .returned (.map (some mb)) ∧ w.heap.size ≤ mb ∧ RulesAt w' mb ∧ Kept w w'

set_option maxHeartbeats 1000000 in
theorem prules_any (w : World) : Calls Try.prog 27 #[] w (RetTab w) := by
  go_enter Try.func27, Try.ntmps27
  go_wp2
  refine wp_region_inv (Laying w) (by kernel_rfl) (by kernel_rfl) ?_ (fun listed a W i o h1 h2 h3 h4 h5 => laying_step ?_ listed a W i o h1 h2 h3 h4 h5) ?_
  · refine ⟨⟨rfl, rfl, rfl, Nat.le_refl _, fun _ _ => rfl⟩, rfl, rfl, fun k hk h => ?_, fun h => ?_, fun _ => ⟨fun k hk => ?_, rfl, rfl⟩⟩
    · simp [Array.getD, show 2 * k + 1 < 31 by omega] at h
    · simp [Array.getD] at h
    · simp [Array.getD, show 2 * k + 2 < 31 by omega]
  · refine ⟨rfl, ⟨_, rfl, rfl, rfl, rfl⟩, fun k hk => ?_, fun k hk => ?_, ⟨_, rfl, rfl, rfl, rfl, ⟨0, .data⟩, by simp, rfl, rfl⟩, ⟨_, rfl, rfl, rfl, rfl, ⟨⟨0, .phase⟩, by simp, rfl, rfl⟩, ⟨29, .data⟩, by simp, rfl, rfl⟩⟩
    · obtain rfl | rfl | rfl | rfl | rfl | rfl | rfl | rfl | rfl | rfl | rfl | rfl | rfl | rfl : k = 0 ∨ k = 1 ∨ k = 2 ∨ k = 3 ∨ k = 4 ∨ k = 5 ∨ k = 6 ∨ k = 7 ∨ k = 8 ∨ k = 9 ∨ k = 10 ∨ k = 11 ∨ k = 12 ∨ k = 13 := by omega
      all_goals exact ⟨_, rfl, rfl, rfl, rfl⟩
    · obtain rfl | rfl | rfl | rfl | rfl | rfl | rfl | rfl | rfl | rfl | rfl | rfl | rfl | rfl : k = 0 ∨ k = 1 ∨ k = 2 ∨ k = 3 ∨ k = 4 ∨ k = 5 ∨ k = 6 ∨ k = 7 ∨ k = 8 ∨ k = 9 ∨ k = 10 ∨ k = 11 ∨ k = 12 ∨ k = 13 := by omega
      all_goals exact ⟨_, rfl, rfl, rfl, rfl, ⟨⟨0, .data⟩, by simp, rfl, rfl⟩, ⟨_, .data⟩, (by first | (simp; done) | (simp; rfl)), rfl, rfl⟩
  · intro a' w' h
    obtain ⟨hB, hz, hd, -, hm, -⟩ := h
    obtain ⟨mb, es, ck, h1, h2, h3, h4, h5, h6⟩ := hm (by simp [Array.getD])
    have h0 := h6 (by simp [Array.getD])
    rename_i K hK
    refine hK _ _ ?_
    refine wp_ret ?_
    refine bodyPost_ret (v := .map (some mb)) ?_ hd ?_
    · simp [results, Try.results27, go_sem, h0]
    · exact ⟨mb, rfl, h1, ⟨es, ck, h3, h4.congr fun k hk => by simp [Array.getD, show 2 * k + 2 < 31 by omega]⟩, hB⟩
end Go.Proofs.Ythlgijmpkpmibaa
