/- SLICES OF THE CALL'S OWN: made, appended to, read: as lists ('Ow'), and as arguments of a callee ('Sl'). -/
import Derived.Test.YtacfgjjahnobjaaRead
import Derived.OwnWalk
import Derived.Laws.AppendOwnNone
namespace Go.Proofs.Ytacfgjjahnobjaa
set_option linter.unusedVariables false
set_option linter.unusedSimpArgs false
open Go.ChangeShapes Go.WideShapes Go.ChangeAt Go.RowKit

/-- An element's cells: k of them, none of them more than a cell. -/
structure Enc {α : Type} (k : Nat) (enc : α → List Value) : Prop where
  len : ∀ x, (enc x).length = k
  one : ∀ x, ∀ c ∈ enc x, c.oneCell' = true

theorem flat_len {α : Type} {k : Nat} {enc : α → List Value} (h : Enc k enc) (xs : List α) : (xs.flatMap enc).length = xs.length * k := by
  induction xs with
  | nil => simp
  | cons x xs ih => simp [ih, h.len, Nat.add_mul, Nat.add_comm]
theorem flat_get {α : Type} {k : Nat} {enc : α → List Value} (h : Enc k enc) : ∀ (xs : List α) (i j : Nat) (x : α), xs[i]? = some x → j < k → (xs.flatMap enc)[i * k + j]? = (enc x)[j]?
  | [], i, j, x, hx, _ => by simp at hx
  | y :: ys, 0, j, x, hx, hj => by
    simp only [List.getElem?_cons_zero, Option.some.injEq] at hx
    subst hx
    rw [List.flatMap_cons, Nat.zero_mul, Nat.zero_add, List.getElem?_append_left (by rw [h.len]; exact hj)]
  | y :: ys, i + 1, j, x, hx, hj => by
    simp only [List.getElem?_cons_succ] at hx
    have := flat_get h ys i j x hx hj
    rw [List.flatMap_cons, List.getElem?_append_right (by rw [h.len, Nat.add_mul]; omega), h.len, ← this]
    congr 1
    rw [Nat.add_mul]; omega

/-- What stands from place i on: 's[i:]', in the walk's own spelling. -/
theorem Sl.drop {α : Type} {W : World} {k : Nat} {enc : α → List Value} {xs : List α} {b o n c : Nat} (i : Nat) (h : Sl W k enc xs (.slice (some ⟨b, o, none⟩) n c)) (hi : i ≤ xs.length) {a : Addr} (ha : i < c → a = ⟨b, o + i * k, none⟩) {n' c' : Nat} (hn : n' = n - i) (hc' : c' = c - i) :
    Sl W k enc (xs.drop i) (.slice (some a) n' c') := by
  obtain ⟨p, cap, hv, h1, h2, h3, h4⟩ := h.is
  cases hv
  subst hn hc'
  refine ⟨some a, c - i, by simp, by simp; omega, by omega, (fun h => by cases h), fun hne => ?_⟩
  have hlt : i < xs.length := by
    rcases Nat.lt_or_ge i xs.length with h | h
    · exact h
    · exact absurd (List.drop_eq_nil_of_le h) hne
  obtain ⟨b', o', hp, hb, hcell⟩ := h4 (by intro h; subst h; simp at hlt)
  cases hp
  refine ⟨b, o + i * k, by rw [ha (by omega)], hb, fun j x hx l hl => ?_⟩
  rw [List.getElem?_drop] at hx
  rw [← hcell (i + j) x hx l hl]
  congr 2
  rw [Nat.add_mul]; omega

/-- v IS A SLICE OF THE CALL's OWN (no block below base) that holds xs. -/
def Ow {α : Type} (W : World) (base : Nat) (e : TypeId) (k : Nat) (enc : α → List Value) (xs : List α) (v : Value) : Prop := W.ownsRow base e k v xs.length (xs.flatMap enc)

theorem Ow.sl {α : Type} {W : World} {base k : Nat} {e : TypeId} {enc : α → List Value} {xs : List α} {v : Value} (he : Enc k enc) (h : Ow W base e k enc xs v) : Sl W k enc xs v := by
  obtain ⟨_, ⟨rfl, h0⟩ | ⟨g, cap, cur, rfl, hb, hg, hl, hm, hs, ht⟩⟩ := h
  · have : xs = [] := List.length_eq_zero_iff.1 h0
    subst this
    exact ⟨none, 0, rfl, by simp, by simp, fun _ => rfl, fun h => absurd rfl h⟩
  · refine ⟨some ⟨g, 0, none⟩, cap, rfl, hl, hm, (fun h => by cases h), fun _ => ⟨g, 0, rfl, (Array.getElem?_eq_some_iff.1 hg).1, fun i x hx j hj => ?_⟩⟩
    have hc : W.cell? ⟨g, 0 + i * k + j, none⟩ = cur[0 + i * k + j]? := by simp [World.cell?, hg]
    have hi : i < xs.length := (List.getElem?_eq_some_iff.1 hx).1
    have hik : i * k + j < xs.length * k := by
      have := Nat.mul_le_mul_right k (show i + 1 ≤ xs.length by omega)
      rw [Nat.add_mul] at this; omega
    rw [hc, ← flat_get he xs i j x hx hj, ← ht, List.getElem?_take_of_lt hik, Nat.zero_add]
    simp
theorem Ow.kept {α : Type} {W W' : World} {base k : Nat} {e : TypeId} {enc : α → List Value} {xs : List α} {v : Value} (h : Ow W base e k enc xs v) (hk : Below W.heap.size W W') : Ow W' base e k enc xs v := by
  obtain ⟨h0, h1 | ⟨g, cap, cur, hv, hb, hg, hl, hm, hs, ht⟩⟩ := h
  · exact ⟨h0, .inl h1⟩
  · exact ⟨h0, .inr ⟨g, cap, cur, hv, hb, (hk.block g (Array.getElem?_eq_some_iff.1 hg).1).trans hg, hl, hm, hs, ht⟩⟩
/-- A literal's row. -/
theorem Ow.made {α : Type} {W : World} {base k : Nat} {e : TypeId} {enc : α → List Value} (he : Enc k enc) (xs : List α) (cells : Array Value) (hc : cells.toList = xs.flatMap enc) (hb : base ≤ W.heap.size) (hm : xs.length ≤ maxLen) {g n : Nat} (hg : W.heap.size = g) (hn : xs.length = n) :
    Ow (W.alloc (.cells cells e)) base e k enc xs (.slice (some ⟨g, 0, none⟩) n n) := by
  subst hg hn
  have hl := flat_len he xs
  have hs : cells.size = xs.length * k := by rw [← hl, ← hc]; simp
  exact ⟨hl, .inr ⟨W.heap.size, xs.length, cells, rfl, hb, heap_alloc_new W _, Nat.le_refl _, hm, hs, by rw [← hc, List.take_of_length_le (by simp [hs])]⟩⟩
theorem Ow.below {α : Type} {w W W' : World} {k : Nat} {e : TypeId} {enc : α → List Value} {xs : List α} {v : Value} (h : Ow W w.heap.size e k enc xs v) (hB : Below w.heap.size w W) (hg : W.grownBy W' v.ownBlock) : Below w.heap.size w W' :=
  hB.grown hg hB.size (fun i e => (World.ownsRow.lt h i e).1)

theorem Ow.lt {α : Type} {W : World} {base k : Nat} {e : TypeId} {enc : α → List Value} {xs : List α} {v : Value} (h : Ow W base e k enc xs v) : ∀ g, v.ownBlock = some g → base ≤ g ∧ g < W.heap.size := World.ownsRow.lt h
/-- An append to another row leaves this one. -/
theorem Ow.grown {α : Type} {W W' : World} {base k : Nat} {e : TypeId} {enc : α → List Value} {xs : List α} {v : Value} {row : Option Nat} (h : Ow W base e k enc xs v) (hg : W.grownBy W' row) (hne : ∀ g, v.ownBlock = some g → row ≠ some g) : Ow W' base e k enc xs v := by
  obtain ⟨h0, h1 | ⟨g, cap, cur, rfl, hb, hg', hl, hm, hs, ht⟩⟩ := h
  · exact ⟨h0, .inl h1⟩
  · exact ⟨h0, .inr ⟨g, cap, cur, rfl, hb, (hg.block g (Array.getElem?_eq_some_iff.1 hg').1 (fun e => hne g rfl e.symm)).trans hg', hl, hm, hs, ht⟩⟩

theorem Ow.setCell {α : Type} {W : World} {base k : Nat} {e : TypeId} {enc : α → List Value} {xs : List α} {v : Value} (h : Ow W base e k enc xs v) {p : Addr} (hp : p.block < base) (u : Value) : Ow (W.setCell p u) base e k enc xs v := ownsRow_setCell_below h hp u

/-- 'append(s, x...)', s the call's own, x whatever slice: one operation. -/
theorem wp_app {P : Program} {w : World} {α : Type} {o : Oper} {a : Act} {K : Act → World → Prop} {Q : Exit → Act → World → Prop} (s x : Operand) (t : TypeId)
    (ho : o.op = .call { callee := .builtin .append, args := #[s, x], argTypes := #[t, t] }) {base k : Nat} {e : TypeId} {enc : α → List Value} (z : Value) (bytes : Nat) (ht : P.underlying t = some (.slice e))
    (hinfo : (P.info? e).map (fun i => (i.zero, i.size, i.bytes)) = some (some z, k, bytes)) (hzs : z.cells.size = k) (hk : 0 < k) (he : Enc k enc)
    {v u : Value} {xs ys : List α} (hs : a.eval s = v) (hx : a.eval x = u) (hown : Ow w base e k enc xs v) (hu : Sl w k enc ys u)
    (hm : xs.length + ys.length ≤ maxLen) (hbytes : (xs.length + ys.length) * bytes ≤ 140737488355328) (hbase : base ≤ w.heap.size)
    (h : ∀ v' w', Ow w' base e k enc (xs ++ ys) v' → w.grownBy w' v.ownBlock → K (a.put o.dst v') w') : o.wp P a w K Q := by
  obtain ⟨i, hi, hz0, hz1, hz2⟩ := info_parts hinfo
  obtain ⟨p, cap, rfl, hlc, hcm, hp, hc⟩ := hu.is
  cases p with
  | none =>
    have : cap = 0 := hp rfl
    subst this
    have : ys = [] := List.length_eq_zero_iff.1 (by omega)
    subst this
    have hrun := run_append_owned_none (P := P) (w := w) base t o.type e i k ht hi v _ _ hown
    have hx' : a.eval x = .slice none 0 0 := by rw [hx]; rfl
    unfold Oper.wp
    simp [execOp, ho, resolve, invoke, builtin, hs, hx', hrun, Result.andThen]
    exact h v w (by rw [List.append_nil]; exact hown) ⟨rfl, rfl, rfl, Nat.le_refl _, fun _ _ _ => rfl⟩
  | some ad =>
    refine wp_append_own w s x t ho base e i z k bytes ht hi hz0 hz1 hz2 hzs hk v _ _ hs hown ad ys.length cap (ys.flatMap enc) hx (flat_len he ys) ?_ ?_ hm hbytes hbase (fun v' w' h1 h2 _ => h v' w' ?_ h2)
    · intro j c hj
      have hj' := (List.getElem?_eq_some_iff.1 hj).1
      rw [flat_len he] at hj'
      have hne : ys ≠ [] := by rintro rfl; simp at hj'
      obtain ⟨b, off, hab, _, hcell⟩ := hc hne
      cases hab
      have hd : j / k < ys.length := Nat.div_lt_of_lt_mul (by rw [Nat.mul_comm]; exact hj')
      have hmo := Nat.mod_lt j hk
      have hdm : j / k * k + j % k = j := by rw [Nat.mul_comm]; exact Nat.div_add_mod j k
      have h1 := hcell (j / k) ys[j / k] (List.getElem?_eq_getElem hd) (j % k) hmo
      have h2 := flat_get he ys (j / k) (j % k) ys[j / k] (List.getElem?_eq_getElem hd) hmo
      rw [hdm, hj] at h2
      rw [← h2, Nat.add_assoc, hdm] at h1
      rw [← h1]
      congr 1
      unfold Addr.add
      split
      · rename_i h0; rw [h0]; rfl
      · rfl
    · intro c hc'
      obtain ⟨y, _, hy⟩ := List.mem_flatMap.1 hc'
      exact he.one y c hy
    · unfold Ow; rw [List.length_append, List.flatMap_append]; exact h1
theorem wpList_app {P : Program} {w : World} {α : Type} {ops : Array Oper} {rest : List Oper} {o : Oper} {a : Act} {Q : Exit → Act → World → Prop} (hgd : o.guard = none) (s x : Operand) (t : TypeId)
    (ho : o.op = .call { callee := .builtin .append, args := #[s, x], argTypes := #[t, t] }) {base k : Nat} {e : TypeId} {enc : α → List Value} (z : Value) (bytes : Nat) (ht : P.underlying t = some (.slice e))
    (hinfo : (P.info? e).map (fun i => (i.zero, i.size, i.bytes)) = some (some z, k, bytes)) (hzs : z.cells.size = k) (hk : 0 < k) (he : Enc k enc)
    {v u : Value} {xs ys : List α} (hs : a.eval s = v) (hx : a.eval x = u) (hown : Ow w base e k enc xs v) (hu : Sl w k enc ys u)
    (hm : xs.length + ys.length ≤ maxLen) (hbytes : (xs.length + ys.length) * bytes ≤ 140737488355328) (hbase : base ≤ w.heap.size)
    (h : ∀ v' w', Ow w' base e k enc (xs ++ ys) v' → w.grownBy w' v.ownBlock → wpList P ops Q rest (a.put o.dst v') w') : wpList P ops Q (o :: rest) a w :=
  wpList_plain hgd fun _ hK => wp_app s x t ho z bytes ht hinfo hzs hk he hs hx hown hu hm hbytes hbase (fun v' w' h1 h2 => hK _ _ (h v' w' h1 h2))
/-- A step of a region that draws its order. -/
theorem step_app {P : Program} {w wb : World} {α : Type} {ops : Array Oper} {o : Oper} {a : Act} {K : Act → World → Prop} {Q : Exit → Act → World → Prop} {E : Prop} (hgd : o.guard = none) (s x : Operand) (t : TypeId)
    (ho : o.op = .call { callee := .builtin .append, args := #[s, x], argTypes := #[t, t] }) {k : Nat} {e : TypeId} {enc : α → List Value} (z : Value) (bytes : Nat) (ht : P.underlying t = some (.slice e))
    (hinfo : (P.info? e).map (fun i => (i.zero, i.size, i.bytes)) = some (some z, k, bytes)) (hzs : z.cells.size = k) (hk : 0 < k) (he : Enc k enc)
    {v u : Value} {xs ys : List α} (hs : a.eval s = v) (hx : a.eval x = u) (hown : Ow w wb.heap.size e k enc xs v) (hu : Sl w k enc ys u) (hB : Below wb.heap.size wb w)
    (hm : xs.length + ys.length ≤ maxLen) (hbytes : (xs.length + ys.length) * bytes ≤ 140737488355328)
    (h : ∀ v' w', Ow w' wb.heap.size e k enc (xs ++ ys) v' → Below wb.heap.size wb w' → w.grownBy w' v.ownBlock → K (a.put o.dst v') w') : if Region.wanted o (yielded ops a.tmps) = true then Oper.wp P o a w K Q else E := by
  rw [if_pos (by simp [Region.wanted, hgd])]
  exact wp_app s x t ho z bytes ht hinfo hzs hk he hs hx hown hu hm hbytes hB.size (fun v' w' h1 h2 => h v' w' h1 (Ow.below hown hB h2) h2)
/-- The same, where the call's own blocks begin at wb's end. -/
theorem wpList_app' {P : Program} {w wb : World} {α : Type} {ops : Array Oper} {rest : List Oper} {o : Oper} {a : Act} {Q : Exit → Act → World → Prop} (hgd : o.guard = none) (s x : Operand) (t : TypeId)
    (ho : o.op = .call { callee := .builtin .append, args := #[s, x], argTypes := #[t, t] }) {k : Nat} {e : TypeId} {enc : α → List Value} (z : Value) (bytes : Nat) (ht : P.underlying t = some (.slice e))
    (hinfo : (P.info? e).map (fun i => (i.zero, i.size, i.bytes)) = some (some z, k, bytes)) (hzs : z.cells.size = k) (hk : 0 < k) (he : Enc k enc)
    {v u : Value} {xs ys : List α} (hs : a.eval s = v) (hx : a.eval x = u) (hown : Ow w wb.heap.size e k enc xs v) (hu : Sl w k enc ys u) (hB : Below wb.heap.size wb w)
    (hm : xs.length + ys.length ≤ maxLen) (hbytes : (xs.length + ys.length) * bytes ≤ 140737488355328)
    (h : ∀ v' w', Ow w' wb.heap.size e k enc (xs ++ ys) v' → Below wb.heap.size wb w' → wpList P ops Q rest (a.put o.dst v') w') : wpList P ops Q (o :: rest) a w :=
  wpList_app hgd s x t ho z bytes ht hinfo hzs hk he hs hx hown hu hm hbytes hB.size (fun v' w' h1 h2 => h v' w' h1 (Ow.below hown hB h2))
end Go.Proofs.Ytacfgjjahnobjaa
