/- The program's own queue: a block that is written where it is, its values in a block of the call's own, from whatever place on. -/
import Derived.Test.YthlgijmpkpmibaaFifoF
import Derived.Deep.AppendSrc
import Derived.Lib.SmallJoins
import Derived.Lib.Hide
namespace Go.Proofs.Ythlgijmpkpmibaa
set_option linter.unusedVariables false
set_option linter.unusedSimpArgs false
open Go.ChangeShapes Go.WideShapes Go.ChangeAt Go.RowKit

/-- Numbers that lie in a block of the call's own (none below base), with room for k in all. -/
def Ov (w : World) (base : Nat) (l : List Int) (p : Option Addr) (k : Nat) : Prop :=
  ∃ g o cur, p = some ⟨g, o, none⟩ ∧ base ≤ g ∧ w.heap[g]? = some (.cells cur 3 (0, 0)) ∧ l.length ≤ k ∧ k ≤ maxLen ∧ o + k ≤ cur.size ∧ ∀ (i : Nat) (x : Int), l[i]? = some x → cur[o + i]? = some (Value.int .i64 x)

/-- The queue's own block. -/
structure At (w : World) (base qb : Nat) (a : Qu) (p : Option Addr) (k : Nat) : Prop where
  ge : base ≤ qb
  obj : w.heap[qb]? = some (.cells #[.slice p a.vals.length k, .int .i64 a.cap, .int .i64 a.pol, .int .i64 a.mode] 42 (0, 0))
  own : Ov w base a.vals p k
  ne : ∀ x, p = some x → x.block ≠ qb

/-- What was there is kept, but for these two blocks. -/
structure Chg (qb : Nat) (p : Option Addr) (w w' : World) : Prop where
  os : w'.os = w.os
  tape : w'.tape = w.tape
  output : w'.output = w.output
  size : w.heap.size ≤ w'.heap.size
  block : ∀ j, j < w.heap.size → j ≠ qb → (∀ x, p = some x → j ≠ x.block) → w'.heap[j]? = w.heap[j]?

theorem Ov.len {w : World} {base : Nat} {l : List Int} {p : Option Addr} {k : Nat} (h : Ov w base l p k) : l.length ≤ k := by
  obtain ⟨_, _, _, _, _, _, h, _⟩ := h; exact h
theorem Ov.max {w : World} {base : Nat} {l : List Int} {p : Option Addr} {k : Nat} (h : Ov w base l p k) : k ≤ maxLen := by
  obtain ⟨_, _, _, _, _, _, _, h, _⟩ := h; exact h
theorem Ov.of_block {w w' : World} {base : Nat} {l : List Int} {p : Option Addr} {k : Nat} (h : Ov w base l p k) (hb : ∀ x, p = some x → w'.heap[x.block]? = w.heap[x.block]?) : Ov w' base l p k := by
  obtain ⟨g, o, cur, rfl, h1, h2, h3⟩ := h
  exact ⟨g, o, cur, rfl, h1, (hb _ rfl).trans h2, h3⟩
theorem Ov.lt {w : World} {base : Nat} {l : List Int} {p : Option Addr} {k : Nat} (h : Ov w base l p k) : ∀ x, p = some x → base ≤ x.block ∧ x.block < w.heap.size := by
  obtain ⟨g, o, cur, rfl, h1, h2, h3⟩ := h
  intro x hx; cases hx
  exact ⟨h1, (Array.getElem?_eq_some_iff.1 h2).1⟩
theorem Ov.kept {w w' : World} {base : Nat} {l : List Int} {p : Option Addr} {k : Nat} (h : Ov w base l p k) (hk : Below w.heap.size w w') : Ov w' base l p k :=
  h.of_block fun x hx => hk.block _ (h.lt x hx).2
theorem Ov.sl {w : World} {base : Nat} {l : List Int} {p : Option Addr} {k : Nat} (h : Ov w base l p k) : Sl w 1 intC l (.slice p l.length k) := by
  obtain ⟨g, o, cur, rfl, h1, h2, h3, h4, h5, h6⟩ := h
  refine ⟨some ⟨g, o, none⟩, k, rfl, h3, h4, (fun h => by cases h), fun _ => ⟨g, o, rfl, (Array.getElem?_eq_some_iff.1 h2).1, fun i x hx j hj => ?_⟩⟩
  obtain rfl : j = 0 := by omega
  have := h6 i x hx
  simp [World.cell?, h2, intC, this]
/-- Without the first one. -/
theorem Ov.tail {w : World} {base : Nat} {v : Int} {r : List Int} {g o k : Nat} {x : Addr} (h : Ov w base (v :: r) (some ⟨g, o, none⟩) k) (hx : 1 < k → x = ⟨g, o + 1, none⟩) (hx1 : k ≤ 1 → x = ⟨g, o, none⟩) : Ov w base r (some x) (k - 1) := by
  obtain ⟨g, o, cur, hp, h1, h2, h3, h4, h5, h6⟩ := h
  cases hp
  simp only [List.length_cons] at h3
  by_cases hk : 1 < k
  · rw [hx hk]
    exact ⟨g, o + 1, cur, rfl, h1, h2, by omega, by omega, by omega, fun i y hy => by
      have := h6 (i + 1) y (by simpa using hy); rw [← this]; congr 1; omega⟩
  · have : r = [] := List.length_eq_zero_iff.1 (by omega)
    subst this
    rw [hx1 (by omega)]
    exact ⟨g, o, cur, rfl, h1, h2, by simp, by omega, by omega, fun i y hy => by simp at hy⟩
theorem Ov.made {W : World} {base : Nat} {l : List Int} {cur : Array Value} {g k : Nat} (hb : base ≤ g) (hg : W.heap[g]? = some (.cells cur 3 (0, 0))) (hl : l.length ≤ k) (hm : k ≤ maxLen) (hc : k ≤ cur.size) (h : ∀ (i : Nat) (x : Int), l[i]? = some x → cur[i]? = some (Value.int .i64 x)) : Ov W base l (some ⟨g, 0, none⟩) k :=
  ⟨g, 0, cur, rfl, hb, hg, hl, hm, by omega, fun i x hx => by rw [Nat.zero_add]; exact h i x hx⟩

theorem Chg.refl (qb : Nat) (p : Option Addr) (w : World) : Chg qb p w w := ⟨rfl, rfl, rfl, Nat.le_refl _, fun _ _ _ _ => rfl⟩
theorem Chg.of_kept {qb : Nat} {p : Option Addr} {w w' : World} (h : Below w.heap.size w w') : Chg qb p w w' := ⟨h.os, h.tape, h.output, h.size, fun j hj _ _ => h.block j hj⟩
theorem Chg.after {qb : Nat} {p : Option Addr} {w w' w'' : World} (h : Below w.heap.size w w') (k : Chg qb p w' w'') : Chg qb p w w'' :=
  ⟨k.os.trans h.os, k.tape.trans h.tape, k.output.trans h.output, Nat.le_trans h.size k.size, fun j hj h1 h2 => (k.block j (Nat.lt_of_lt_of_le hj h.size) h1 h2).trans (h.block j hj)⟩
theorem Chg.then {qb : Nat} {p : Option Addr} {w w' w'' : World} (k : Chg qb p w w') (h : Below w'.heap.size w' w'') : Chg qb p w w'' :=
  ⟨h.os.trans k.os, h.tape.trans k.tape, h.output.trans k.output, Nat.le_trans k.size h.size, fun j hj h1 h2 => (h.block j (Nat.lt_of_lt_of_le hj k.size)).trans (k.block j hj h1 h2)⟩
theorem Chg.set {qb : Nat} {p : Option Addr} {w w' : World} (h : Chg qb p w w') {x : Addr} (hx : x.block = qb) (u : Value) : Chg qb p w (w'.setCell x u) :=
  ⟨h.os, h.tape, h.output, by simpa using h.size, fun j hj h1 h2 => (Below.heap_setCell _ _ _ _ (by rw [hx]; exact h1)).trans (h.block j hj h1 h2)⟩
/-- What is below the base is kept. -/
theorem Chg.below {base qb : Nat} {p : Option Addr} {w0 w w' : World} (hb : Below base w0 w) (h : Chg qb p w w') (hq : base ≤ qb) (hp : ∀ x, p = some x → base ≤ x.block) (hs : base ≤ w.heap.size) : Below base w0 w' :=
  hb.trans ⟨h.os, h.tape, h.output, h.size, fun j hj => h.block j (by omega) (by omega) (fun x hx => by have := hp x hx; omega)⟩

theorem At.kept {w w' : World} {base qb : Nat} {a : Qu} {p : Option Addr} {k : Nat} (h : At w base qb a p k) (hk : Below w.heap.size w w') : At w' base qb a p k :=
  ⟨h.ge, (hk.block _ (Array.getElem?_eq_some_iff.1 h.obj).1).trans h.obj, h.own.kept hk, h.ne⟩
theorem At.lt {w : World} {base qb : Nat} {a : Qu} {p : Option Addr} {k : Nat} (h : At w base qb a p k) : qb < w.heap.size := (Array.getElem?_eq_some_iff.1 h.obj).1
theorem At.cells {w : World} {base qb : Nat} {a : Qu} {p : Option Addr} {k : Nat} (h : At w base qb a p k) :
    (w.cell? ⟨qb, 0, none⟩ = some (.slice p a.vals.length k) ∧ w.cell? ⟨qb, 1, none⟩ = some (.int .i64 a.cap) ∧ w.cell? ⟨qb, 2, none⟩ = some (.int .i64 a.pol) ∧ w.cell? ⟨qb, 3, none⟩ = some (.int .i64 a.mode)) ∧ ∀ j, w.frozen? ⟨qb, j, none⟩ = false :=
  ⟨⟨by simp [World.cell?, h.obj], by simp [World.cell?, h.obj], by simp [World.cell?, h.obj], by simp [World.cell?, h.obj]⟩, fun j => by simp [World.frozen?, h.obj]⟩
theorem heap_set {w : World} {b i : Nat} {c : Array Value} {t : TypeId} {f : Nat × Nat} (h : w.heap[b]? = some (.cells c t f)) (v : Value) : (w.setCell ⟨b, i, none⟩ v).heap[b]? = some (.cells (c.setIfInBounds i v) t f) := by
  simp [World.setCell, Array.getElem?_modify, h]
/-- Its values turn. -/
theorem At.setVals {w : World} {base qb : Nat} {a : Qu} {p q : Option Addr} {k m n : Nat} {l : List Int} (h : w.heap[qb]? = some (.cells #[.slice p n k, .int .i64 a.cap, .int .i64 a.pol, .int .i64 a.mode] 42 (0, 0))) (hge : base ≤ qb) (ho : Ov w base l q m) (hq : ∀ x, q = some x → x.block ≠ qb) :
    At (w.setCell ⟨qb, 0, none⟩ (.slice q l.length m)) base qb (a.with l) q m :=
  ⟨hge, (heap_set h _).trans rfl, ho.of_block fun x hx => Below.heap_setCell _ _ _ _ (hq x hx), hq⟩
/-- Its mode turns. -/
theorem At.setMode {w : World} {base qb : Nat} {a : Qu} {p : Option Addr} {k : Nat} (m : Int) (h : At w base qb a p k) : At (w.setCell ⟨qb, 3, none⟩ (.int .i64 m)) base qb ⟨a.vals, a.cap, a.pol, m⟩ p k :=
  ⟨h.ge, (heap_set h.obj _).trans rfl, h.own.of_block fun x hx => Below.heap_setCell _ _ _ _ (h.ne x hx), h.ne⟩

/-- What one who is told leaves. -/
def Told (base qb : Nat) (p : Option Addr) (r : Qu × Bool) (w : World) (e : Ending) (w' : World) : Prop :=
  e = .returned (.bool r.2) ∧ ∃ p' k', At w' base qb r.1 p' k' ∧ Chg qb p w w' ∧ ∀ x, p' = some x → (∃ y, p = some y ∧ x.block = y.block) ∨ w.heap.size ≤ x.block
theorem told_of_kept {base qb : Nat} {a : Qu} {p : Option Addr} {k : Nat} {b : Bool} {w : World} {e : Ending} {w' : World} (hA : At w base qb a p k) (h : e = .returned (.bool b) ∧ Kept w w') : Told base qb p (a, b) w e w' :=
  ⟨h.1, p, k, hA.kept h.2, Chg.of_kept h.2, fun x hx => .inl ⟨x, hx, rfl⟩⟩

section
variable {P : Program}
/-- 'append(s, v)', s in a block of the call's own. -/
theorem run_append_ov (w : World) (t ty : TypeId) (ht : P.underlying t = some (.slice 3)) (hinfo : (P.info? 3).map (fun i => (i.zero, i.size, i.bytes)) = some (some (.int .i64 0), 1, 8))
    {base : Nat} {l : List Int} {p : Option Addr} {k : Nat} (h : Ov w base l p k) (va : Int) (s : Addr) (c : Nat) (hs : w.cell? s = some (.int .i64 va)) (hm : l.length ≤ 1000) (hbase : base ≤ w.heap.size) :
    ∃ p' k' w', (Builtin.append_ #[t, t] ty #[.slice p l.length k, .slice (some s) 1 c]).run P w = .ok (.slice p' (l.length + 1) k') w' ∧ Ov w' base (l ++ [va]) p' k' ∧
      (∀ qb, Chg qb p w w') ∧ (∀ x, p' = some x → (∃ y, p = some y ∧ x.block = y.block) ∨ w.heap.size ≤ x.block) := by
  obtain ⟨i, hi, hz0, hz1, hz2⟩ := info_parts hinfo
  obtain ⟨g, o, cur, rfl, h1, h2, h3, h4, h5, h6⟩ := h
  have hsrc : Src P i.size t (.slice (some s) 1 c) 1 [.int .i64 va] w := Src.ofSlice w ht s 1 c [.int .i64 va] (by rw [hz1]; rfl) (fun j u hu => by
    cases j with
    | zero => simp at hu; subst hu; simpa [Addr.add] using hs
    | succ j => simp at hu) (fun u hu => by simp at hu; subst hu; rfl)
  have hlt : g < w.heap.size := (Array.getElem?_eq_some_iff.1 h2).1
  by_cases hroom : l.length + 1 ≤ k
  · have hin : o + l.length < cur.size := by omega
    have hr := run_append_room_src (P := P) w t t ty 3 i ht hi g o l.length k (.slice (some s) 1 c) 1 [.int .i64 va] hsrc hroom
      (fun j hj => by simp at hj; subst hj; rw [hz1]; simp [World.cell?, h2, hin]) (fun j hj => by simp [World.frozen?, h2])
    rw [hz1, Nat.mul_one] at hr
    refine ⟨_, _, _, hr, ⟨g, o, cur.setIfInBounds (o + l.length) (.int .i64 va), rfl, h1, heap_set h2 _, by simpa using hroom, h4, by simpa using h5, fun i x hx => ?_⟩, fun qb => ⟨rfl, rfl, rfl, by show w.heap.size ≤ (World.setCell w _ _).heap.size; simp, fun j hj h1 h2 => Below.heap_setCell _ _ _ _ (by show j ≠ g; exact h2 _ rfl)⟩, fun x hx => by cases hx; exact .inl ⟨_, rfl, rfl⟩⟩
    rw [Array.getElem?_setIfInBounds]
    by_cases hil : i < l.length
    · rw [if_neg (by omega)]
      rw [List.getElem?_append_left hil] at hx
      exact h6 i x hx
    · have : i = l.length := by
        have := (List.getElem?_eq_some_iff.1 hx).1
        simp at this; omega
      subst this
      simp at hx
      subst hx
      simp [hin]
  · have hold : (Builtin.firstCells i.size l.length (.slice (some ⟨g, o, none⟩) l.length k)).run P w.drew = .ok (l.map (Value.int .i64)).toArray w.drew :=
      run_firstCells_some (P := P) w.drew i.size l.length ⟨g, o, none⟩ l.length k (l.map (Value.int .i64)) (by rw [hz1]; simp) (fun j v hv => by
        simp only [List.getElem?_map, Option.map_eq_some_iff] at hv
        obtain ⟨x, hx, rfl⟩ := hv
        have hadd : (⟨g, o, none⟩ : Addr).add j = ⟨g, o + j, none⟩ := by unfold Addr.add; split <;> simp_all
        rw [hadd]
        show World.cell? w _ = _
        simp [World.cell?, h2, h6 j x hx])
    have hr := run_append_grow_src (P := P) w t t ty 3 i (.int .i64 0) ht hi hz0 (some ⟨g, o, none⟩) l.length k (l.map (Value.int .i64)) hold (.slice (some s) 1 c) 1 [.int .i64 va] hsrc (by omega) (by omega) (growslice_fits (by omega) (by rw [hz2]; omega))
    have hcap := grownCap_ge w (l.length + 1) k 3
    have hcm := grownCap_le_maxLen w (l.length + 1) k 3 (by unfold maxLen; omega)
    refine ⟨_, _, _, hr, Ov.made hbase (heap_alloc_new w.drew _) (by simpa using hcap) hcm ?_ ?_, fun qb => ⟨rfl, rfl, rfl, by simp, fun j hj _ _ => (by first | exact heap_alloc_old w.drew j _ hj | exact World.alloc_heap_old w.drew _ hj | exact Below.heap_alloc w.drew _ j hj)⟩, fun x hx => by cases hx; exact .inr (Nat.le_refl _)⟩
    · simp [Builtin.zeroCells, Value.cells]; omega
    · intro i x hx
      have hil := (List.getElem?_eq_some_iff.1 hx).1
      simp only [List.length_append, List.length_singleton] at hil
      rw [Array.getElem?_append_left (by simpa using hil)]
      have : (List.map (Value.int .i64) l ++ [Value.int .i64 va]) = (l ++ [va]).map (Value.int .i64) := by simp
      rw [List.getElem?_toArray]
      rw [this, List.getElem?_map, hx]
      rfl
end
end Go.Proofs.Ythlgijmpkpmibaa
