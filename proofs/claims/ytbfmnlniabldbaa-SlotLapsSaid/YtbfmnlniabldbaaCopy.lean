/- 'copy' into a row of the call's own, of elements of whatever size, as lists. -/
import Derived.Test.YtbfmnlniabldbaaRow
import Derived.Laws.CopyOwn
namespace Go.Proofs.Ytbfmnlniabldbaa
set_option linter.unusedVariables false
set_option linter.unusedSimpArgs false
open Go.ChangeShapes Go.WideShapes Go.ChangeAt Go.RowKit

theorem run_copy_wide {P : Program} (w : World) (dT sT ty elem : TypeId) (g dLen dCap sLen sCap k : Nat) (sp : Option Addr) (cur : Array Value) (t : TypeId) (cs : List Value)
    (hu : P.underlying dT = some (.slice elem)) (hs : (P.info? elem).map (·.size) = some k) (hg : w.heap[g]? = some (.cells cur t (0, 0))) (hn : cs.length = Nat.min sLen dLen * k)
    (hsrc : cs ≠ [] → ∃ a, sp = some a ∧ ∀ j v, cs[j]? = some v → w.cell? (a.add j) = some v) (hfit : cs.length ≤ cur.size) (h1 : ∀ v ∈ cs, v.oneCell' = true) :
    (Builtin.copy_ #[dT, sT] ty #[.slice (some ⟨g, 0, none⟩) dLen dCap, .slice sp sLen sCap]).run P w = .ok (goInt (Nat.min sLen dLen)) (w.setRow g (cs ++ cur.toList.drop cs.length).toArray) := by
  have hst := run_storeCells_at P g 0 t cs 0 cur w hg (by simpa using hfit) h1
  simp only [Nat.zero_add, List.take_zero, List.nil_append] at hst
  cases hq : P.info? elem with
  | none => simp [hq] at hs
  | some i =>
    have hi : i.size = k := by simpa [hq] using hs
    by_cases h0 : cs = []
    · subst h0
      have h2 : Nat.min sLen dLen * k = 0 := by simpa using hn.symm
      simp only [List.length_nil, List.drop_zero, List.nil_append, Array.toArray_toList] at hst ⊢
      cases sp with
      | none => simp [Builtin.copy_, run_underlying hu, Builtin.lenOf, Builtin.firstCells, sizeOf, typeInfo, hq, hi, h2, hst, loadCells, loadCellsFrom]
      | some a => simp [Builtin.copy_, run_underlying hu, Builtin.lenOf, Builtin.firstCells, sizeOf, typeInfo, hq, hi, h2, hst, loadCells, loadCellsFrom]
    · obtain ⟨a, rfl, hc⟩ := hsrc h0
      have hl := run_loadCells_list (P := P) w a cs hc
      simp [Builtin.copy_, run_underlying hu, Builtin.lenOf, Builtin.firstCells, sizeOf, typeInfo, hq, hi, ← hn, hl, hst]

theorem add_plain (b o j : Nat) : (⟨b, o, none⟩ : Addr).add j = ⟨b, o + j, none⟩ := by unfold Addr.add; split <;> simp_all

/-- What a slice's cells are, one by one. -/
theorem Sl.flat {α : Type} {W : World} {k : Nat} {enc : α → List Value} (he : Enc k enc) (hk : 0 < k) {xs : List α} {p : Option Addr} {n c : Nat} (h : Sl W k enc xs (.slice p n c)) (hne : xs ≠ []) :
    ∃ a, p = some a ∧ ∀ j v, (xs.flatMap enc)[j]? = some v → W.cell? (a.add j) = some v := by
  obtain ⟨_, _, e, _, _, _, h4⟩ := h.is
  cases e
  obtain ⟨b, off, rfl, _, hcell⟩ := h4 hne
  refine ⟨_, rfl, fun j v hj => ?_⟩
  have hj' := (List.getElem?_eq_some_iff.1 hj).1
  rw [flat_len he] at hj'
  have hd : j / k < xs.length := Nat.div_lt_of_lt_mul (by rw [Nat.mul_comm]; exact hj')
  have hmo := Nat.mod_lt j hk
  have hdm : j / k * k + j % k = j := by rw [Nat.mul_comm]; exact Nat.div_add_mod j k
  have h1 := hcell (j / k) xs[j / k] (List.getElem?_eq_getElem hd) (j % k) hmo
  have h2 := flat_get he xs (j / k) (j % k) xs[j / k] (List.getElem?_eq_getElem hd) hmo
  rw [hdm, hj] at h2
  rw [← h2, Nat.add_assoc, hdm] at h1
  rw [← h1, add_plain]

/-- 'copy(m, l)', m the call's own, as long as l. -/
theorem wpList_copy_all {P : Program} {w wb : World} {α : Type} {ops : Array Oper} {rest : List Oper} {o : Oper} {a : Act} {Q : Exit → Act → World → Prop} (hgd : o.guard = none) (d s : Operand) (dT sT : TypeId)
    (ho : o.op = .call { callee := .builtin .copy, args := #[d, s], argTypes := #[dT, sT] }) {elem e : TypeId} (hu : P.underlying dT = some (.slice elem)) {k : Nat} (hsz : (P.info? elem).map (·.size) = some k) (hk : 0 < k)
    {enc : α → List Value} (he : Enc k enc) {xs ys : List α} {g n c cap : Nat} {p : Option Addr} (hd : a.eval d = .slice (some ⟨g, 0, none⟩) n cap) (hs : a.eval s = .slice p n c) (hx : xs.length = n) (hy : ys.length = n)
    (hown : Ow w wb.heap.size e k enc xs (.slice (some ⟨g, 0, none⟩) n cap)) (hsl : Sl w k enc ys (.slice p n c)) (hB : Below wb.heap.size wb w)
    (h : ∀ w', Ow w' wb.heap.size e k enc ys (.slice (some ⟨g, 0, none⟩) n cap) → Below wb.heap.size wb w' → wpList P ops Q rest (a.put o.dst (goInt n)) w') : wpList P ops Q (o :: rest) a w := by
  obtain ⟨_, ⟨e1, _⟩ | ⟨_, _, cur, e1, hb, hg, hl, hm, hcs, ht⟩⟩ := hown
  · cases e1
  cases e1
  rw [← hy] at hsl h hs hd hl
  have hfl := flat_len he ys
  have hrun := run_copy_wide (P := P) w dT sT o.type elem g ys.length cap ys.length c k p cur e (ys.flatMap enc) hu hsz hg (by rw [hfl]; simp [Nat.min_def]) (fun hne => Sl.flat he hk hsl (by rintro rfl; simp at hne)) (by rw [hfl, hcs]; exact Nat.mul_le_mul_right k (by omega)) (fun v hv => by
    obtain ⟨y, _, hy⟩ := List.mem_flatMap.1 hv
    exact he.one y v hy)
  have hmin : Nat.min ys.length ys.length = ys.length := Nat.min_self _
  rw [hmin] at hrun
  obtain ⟨F, hF⟩ : ∃ F, ys.flatMap enc = F := ⟨_, rfl⟩
  rw [hF] at hrun hfl
  have hsz2 : (F ++ cur.toList.drop F.length).length = cap * k := by
    have : ys.length * k ≤ cap * k := Nat.mul_le_mul_right k (by omega)
    have h3 : cur.toList.length = cap * k := by simpa using hcs
    rw [List.length_append, List.length_drop, hfl, h3]; omega
  have htk : (F ++ cur.toList.drop F.length).take (ys.length * k) = F := by
    rw [List.take_append_of_le_length (by rw [hfl]; exact Nat.le_refl _), List.take_of_length_le (by rw [hfl]; exact Nat.le_refl _)]
  generalize F ++ cur.toList.drop F.length = G at *
  refine wpList_plain hgd fun K hK => ?_
  unfold Oper.wp
  simp [execOp, ho, resolve, invoke, builtin, hd, hs, hrun, Result.andThen]
  exact hK _ _ (h _ ⟨by rw [hF]; exact hfl, .inr ⟨g, cap, G.toArray, rfl, hb, setRow_heap w g cur _ e _ hg, hl, hm, by simpa using hsz2, by rw [hF]; exact htk⟩⟩ (below_setRow hB hb _))
end Go.Proofs.Ytbfmnlniabldbaa
