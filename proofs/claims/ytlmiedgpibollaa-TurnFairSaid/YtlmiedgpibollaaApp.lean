/- Appends to slices of the call's own, and in which block what comes out lies. -/
import Derived.Test.YtlmiedgpibollaaRow
namespace Go.Proofs.Ytlmiedgpibollaa
set_option linter.unusedVariables false
set_option linter.unusedSimpArgs false
open Go.ChangeShapes Go.WideShapes Go.ChangeAt Go.RowKit
section
variable {P : Program} {w : World}
/-- Where what comes out of an append lies: where it lay, or in a new block. -/
theorem append_block {base : Nat} (t ty e : TypeId) (i : TypeInfo) (z : Value) (size bytes : Nat) (ht : P.underlying t = some (.slice e)) (hi : P.info? e = some i) (hz : i.zero = some z)
    (hsize : i.size = size) (hby : i.bytes = bytes) (v : Value) (n : Nat) (xs : List Value) (hown : w.ownsRow base e size v n xs)
    (a : Addr) (m c : Nat) (news : List Value) (hl : news.length = m * size) (hnews : ∀ j u, news[j]? = some u → w.cell? (a.add j) = some u) (h1 : ∀ u ∈ news, u.oneCell' = true)
    (h63 : n + m ≤ maxLen) (hbytes : (n + m) * bytes ≤ 140737488355328) {v' : Value} {w' : World} (hr : (Builtin.append_ #[t, t] ty #[v, .slice (some a) m c]).run P w = .ok v' w') :
    ∀ g, v'.ownBlock = some g → v.ownBlock = some g ∨ g = w.heap.size := by
  subst hsize
  subst hby
  rcases hown.2 with ⟨rfl, rfl⟩ | ⟨g, cap, cur, rfl, hbg, hg, hnc, hcm, hcs, htake⟩
  · by_cases hm : m = 0
    · subst hm
      have hn : news = [] := List.eq_nil_of_length_eq_zero (by simpa using hl)
      subst hn
      have h2 : (Builtin.append_ #[t, t] ty #[.slice none 0 0, .slice (some a) 0 c]).run P w = .ok (.slice none 0 0) w := by
        simp [Builtin.append_, run_underlying ht, sizeOf, typeInfo, hi, Builtin.lenOf, Builtin.firstCells, loadCells, loadCellsFrom]
      rw [h2] at hr
      cases hr
      intro g hg; simp [Value.ownBlock] at hg
    · have h2 := run_append_nil (P := P) w t ty e i z ht hi hz a m c news hl hnews (by omega) (by simp only [maxLen] at h63; omega) (by have hb := hbytes; simp only [Nat.zero_add] at hb; omega)
      rw [h2] at hr
      cases hr
      intro g hg; simp [Value.ownBlock] at hg; exact .inr hg.symm
  · by_cases hroom : n + m ≤ cap
    · have hfit : n * i.size + news.length ≤ cur.size := by rw [hl, hcs, ← Nat.add_mul]; exact Nat.mul_le_mul_right _ hroom
      have h2 := run_append_room (P := P) w t ty e i ht hi g n cap cur hg a m c news hl hnews h1 hroom hfit
      rw [h2] at hr
      cases hr
      intro g' hg'; exact .inl hg'
    · have holds : ∀ j u, xs[j]? = some u → w.cell? ((⟨g, 0, none⟩ : Addr).add j) = some u := hown.cells (g := g) rfl
      have h2 := run_append_grow (P := P) w t ty e i z ht hi hz ⟨g, 0, none⟩ n cap xs hown.1 holds a m c news hl hnews (by omega) (by simp only [maxLen] at h63; omega) (growslice_fits (by omega) hbytes)
      rw [h2] at hr
      cases hr
      intro g' hg'; simp [Value.ownBlock] at hg'; exact .inr hg'.symm

theorem wpList_appw {wb : World} {α : Type} {ops : Array Oper} {rest : List Oper} {o : Oper} {a : Act} {Q : Exit → Act → World → Prop} (hgd : Region.wanted o (yielded ops a.tmps) = true) (s x : Operand) (t : TypeId)
    (ho : o.op = .call { callee := .builtin .append, args := #[s, x], argTypes := #[t, t] }) {k : Nat} {e : TypeId} {enc : α → List Value} (z : Value) (bytes : Nat) (ht : P.underlying t = some (.slice e))
    (hinfo : (P.info? e).map (fun i => (i.zero, i.size, i.bytes)) = some (some z, k, bytes)) (hzs : z.cells.size = k) (hk : 0 < k) (he : Enc k enc)
    {v u : Value} {xs ys : List α} (hs : a.eval s = v) (hx : a.eval x = u) (hown : Ow w wb.heap.size e k enc xs v) (hu : Sl w k enc ys u) (hB : Below wb.heap.size wb w)
    (hm : xs.length + ys.length ≤ maxLen) (hbytes : (xs.length + ys.length) * bytes ≤ 140737488355328)
    (h : ∀ v' w', Ow w' wb.heap.size e k enc (xs ++ ys) v' → Below wb.heap.size wb w' → w.grownBy w' v.ownBlock → (∀ g, v'.ownBlock = some g → v.ownBlock = some g ∨ g = w.heap.size) → wpList P ops Q rest (a.put o.dst v') w') : wpList P ops Q (o :: rest) a w := by
  obtain ⟨i, hi, hz0, hz1, hz2⟩ := info_parts hinfo
  obtain ⟨p, cap, rfl, hlc, hcm, hp, hc⟩ := hu.is
  cases p with
  | none =>
    have : cap = 0 := hp rfl
    subst this
    have : ys = [] := List.length_eq_zero_iff.1 (by omega)
    subst this
    have hrun := run_append_owned_none (P := P) (w := w) wb.heap.size t o.type e i k ht hi v _ _ hown
    have hx' : a.eval x = .slice none 0 0 := by rw [hx]; rfl
    refine wpList_step fun _ hK => ?_
    rw [if_pos hgd]
    unfold Oper.wp
    simp [execOp, ho, resolve, invoke, builtin, hs, hx', hrun, Result.andThen]
    exact hK _ _ (h v w (by rw [List.append_nil]; exact hown) hB ⟨rfl, rfl, rfl, Nat.le_refl _, fun _ _ _ => rfl⟩ (fun g hg => .inl hg))
  | some ad =>
    have hnews : ∀ j c, (ys.flatMap enc)[j]? = some c → w.cell? (ad.add j) = some c := by
      intro j c hj
      have hj' := (List.getElem?_eq_some_iff.1 hj).1
      rw [flat_len he] at hj'
      have hne : ys ≠ [] := by rintro rfl; simp at hj'
      obtain ⟨b, off, hab, _, hcell⟩ := hc hne
      cases hab
      have hd : j / k < ys.length := Nat.div_lt_of_lt_mul (by rw [Nat.mul_comm]; exact hj')
      have hmo := Nat.mod_lt j hk
      have hdm : j / k * k + j % k = j := by rw [Nat.mul_comm]; exact Nat.div_add_mod j k
      have h1 := hcell (j / k) ys[j / k] (List.getElem?_eq_getElem hd) (j % k) hmo
      have h2 := flat_get he ys (j / k) (j % k) ys[j / k] (List.getElem?_eq_getElem hd) hmo
      rw [hdm, hj] at h2
      rw [← h2, Nat.add_assoc, hdm] at h1
      rw [← h1]
      congr 1
      unfold Addr.add
      split
      · rename_i h0; rw [h0]; rfl
      · rfl
    have hone : ∀ c ∈ ys.flatMap enc, c.oneCell' = true := by
      intro c hc'
      obtain ⟨y, _, hy⟩ := List.mem_flatMap.1 hc'
      exact he.one y c hy
    obtain ⟨v', w', hr, h2, h3, _⟩ := run_append_own (P := P) w wb.heap.size t o.type e i z k bytes ht hi hz0 hz1 hz2 hzs hk v _ _ hown ad ys.length cap (ys.flatMap enc) (flat_len he ys) hnews hone hm hbytes hB.size
    have hb := append_block (P := P) (w := w) t o.type e i z k bytes ht hi hz0 hz1 hz2 v _ _ hown ad ys.length cap (ys.flatMap enc) (flat_len he ys) hnews hone hm hbytes hr
    have ho' : Ow w' wb.heap.size e k enc (xs ++ ys) v' := by unfold Ow; rw [List.length_append, List.flatMap_append]; exact h2
    refine wpList_step fun _ hK => ?_
    rw [if_pos hgd]
    unfold Oper.wp
    simp [execOp, ho, resolve, invoke, builtin, hs, hx, hr, Result.andThen]
    exact hK _ _ (h v' w' ho' (Ow.below hown hB h3) h3 hb)
theorem wpList_appb {wb : World} {α : Type} {ops : Array Oper} {rest : List Oper} {o : Oper} {a : Act} {Q : Exit → Act → World → Prop} (hgd : o.guard = none) (s x : Operand) (t : TypeId)
    (ho : o.op = .call { callee := .builtin .append, args := #[s, x], argTypes := #[t, t] }) {k : Nat} {e : TypeId} {enc : α → List Value} (z : Value) (bytes : Nat) (ht : P.underlying t = some (.slice e))
    (hinfo : (P.info? e).map (fun i => (i.zero, i.size, i.bytes)) = some (some z, k, bytes)) (hzs : z.cells.size = k) (hk : 0 < k) (he : Enc k enc)
    {v u : Value} {xs ys : List α} (hs : a.eval s = v) (hx : a.eval x = u) (hown : Ow w wb.heap.size e k enc xs v) (hu : Sl w k enc ys u) (hB : Below wb.heap.size wb w)
    (hm : xs.length + ys.length ≤ maxLen) (hbytes : (xs.length + ys.length) * bytes ≤ 140737488355328)
    (h : ∀ v' w', Ow w' wb.heap.size e k enc (xs ++ ys) v' → Below wb.heap.size wb w' → w.grownBy w' v.ownBlock → (∀ g, v'.ownBlock = some g → v.ownBlock = some g ∨ g = w.heap.size) → wpList P ops Q rest (a.put o.dst v') w') : wpList P ops Q (o :: rest) a w :=
  wpList_appw (by simp [Region.wanted, hgd]) s x t ho z bytes ht hinfo hzs hk he hs hx hown hu hB hm hbytes h
/-- A step of a region that draws its order: what comes out, in which block. -/
theorem step_appb {α : Type} {ops : Array Oper} {o : Oper} {a : Act} {K : Act → World → Prop} {Q : Exit → Act → World → Prop} {E : Prop} (hgd : o.guard = none) (s x : Operand) (t : TypeId)
    (ho : o.op = .call { callee := .builtin .append, args := #[s, x], argTypes := #[t, t] }) {base k : Nat} {e : TypeId} {enc : α → List Value} (z : Value) (bytes : Nat) (ht : P.underlying t = some (.slice e))
    (hinfo : (P.info? e).map (fun i => (i.zero, i.size, i.bytes)) = some (some z, k, bytes)) (hzs : z.cells.size = k) (hk : 0 < k) (he : Enc k enc)
    {v u : Value} {xs ys : List α} (hs : a.eval s = v) (hx : a.eval x = u) (hown : Ow w base e k enc xs v) (hu : Sl w k enc ys u) (hne : ys ≠ []) (hbase : base ≤ w.heap.size)
    (hm : xs.length + ys.length ≤ maxLen) (hbytes : (xs.length + ys.length) * bytes ≤ 140737488355328)
    (h : ∀ v' w', Ow w' base e k enc (xs ++ ys) v' → w.grownBy w' v.ownBlock → (∀ g, v'.ownBlock = some g → v.ownBlock = some g ∨ g = w.heap.size) → K (a.put o.dst v') w') :
    if Region.wanted o (yielded ops a.tmps) = true then Oper.wp P o a w K Q else E := by
  rw [if_pos (by simp [Region.wanted, hgd])]
  obtain ⟨i, hi, hz0, hz1, hz2⟩ := info_parts hinfo
  obtain ⟨p, cap, rfl, hlc, hcm, hp, hc⟩ := hu.is
  obtain ⟨b, off, rfl, _, hcell⟩ := hc hne
  have hnews : ∀ j c, (ys.flatMap enc)[j]? = some c → w.cell? ((⟨b, off, none⟩ : Addr).add j) = some c := by
    intro j c hj
    have hj' := (List.getElem?_eq_some_iff.1 hj).1
    rw [flat_len he] at hj'
    have hd : j / k < ys.length := Nat.div_lt_of_lt_mul (by rw [Nat.mul_comm]; exact hj')
    have hmo := Nat.mod_lt j hk
    have hdm : j / k * k + j % k = j := by rw [Nat.mul_comm]; exact Nat.div_add_mod j k
    have h1 := hcell (j / k) ys[j / k] (List.getElem?_eq_getElem hd) (j % k) hmo
    have h2 := flat_get he ys (j / k) (j % k) ys[j / k] (List.getElem?_eq_getElem hd) hmo
    rw [hdm, hj] at h2
    rw [← h2, Nat.add_assoc, hdm] at h1
    rw [← h1]
    congr 1
    unfold Addr.add
    split
    · rename_i h0; rw [h0]; rfl
    · rfl
  have hone : ∀ c ∈ ys.flatMap enc, c.oneCell' = true := by
    intro c hc'
    obtain ⟨y, _, hy⟩ := List.mem_flatMap.1 hc'
    exact he.one y c hy
  obtain ⟨v', w', hr, h2, h3, _⟩ := run_append_own (P := P) w base t o.type e i z k bytes ht hi hz0 hz1 hz2 hzs hk v _ _ hown ⟨b, off, none⟩ ys.length cap (ys.flatMap enc) (flat_len he ys) hnews hone hm hbytes hbase
  have hb := append_block (P := P) (w := w) t o.type e i z k bytes ht hi hz0 hz1 hz2 v _ _ hown ⟨b, off, none⟩ ys.length cap (ys.flatMap enc) (flat_len he ys) hnews hone hm hbytes hr
  have ho' : Ow w' base e k enc (xs ++ ys) v' := by unfold Ow; rw [List.length_append, List.flatMap_append]; exact h2
  unfold Oper.wp
  simp [execOp, ho, resolve, invoke, builtin, hs, hx, hr, Result.andThen]
  exact h v' w' ho' h3 hb
end
end Go.Proofs.Ytlmiedgpibollaa
