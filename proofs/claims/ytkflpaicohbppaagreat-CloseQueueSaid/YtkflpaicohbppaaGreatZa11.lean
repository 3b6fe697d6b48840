/- Texts merged: FifoRQ, FifoWQ, FifoPQ, FifoQQ, FifoLQ, FifoMQ, FifoNQ, TailQ, FifoOQ, FifoTQ, FifoUQ, FifoDQ, FdoQ. -/
import Derived.Test.YtkflpaicohbppaaGreatZa4
import Derived.Test.YtkflpaicohbppaaGreatZa7
import Derived.LoopTactic
import Derived.Lib.Hide
import Derived.Deep.AppendSrc
import Derived.Lib.SmallJoins
import Derived.RegionTactic
import Derived.ChangeAlike
import Derived.Deep.RegionHeld3
import Derived.Deep.RegionLaw
import Derived.Laws.StructEq
import Derived.WideKeyRuns
import Derived.MapKept
import Derived.Carry
import Derived.Test.YtkflpaicohbppaaGreatZa1
import Derived.StillTail
import Derived.Laws.CopyOwn
import Derived.Deep.OwnRows
import Derived.Deep.QuietTactic
import Derived.Test.YtkflpaicohbppaaGreatZa10
/- Contracts of the document's functions of layer 3: numbers' lists, and queues, held against each other. -/
namespace Go.Proofs.YtkflpaicohbppaaGreat
set_option linter.unusedVariables false
set_option linter.unusedSimpArgs false
open Go.ChangeShapes Go.WideShapes Go.ChangeAt Go.RowKit

end Go.Proofs.YtkflpaicohbppaaGreat

/- The program's own queue: a block that is written where it is, its values in a block of the call's own, from whatever place on. -/
namespace Go.Proofs.YtkflpaicohbppaaGreat
set_option linter.unusedVariables false
set_option linter.unusedSimpArgs false
open Go.ChangeShapes Go.WideShapes Go.ChangeAt Go.RowKit

/-- Numbers that lie in a block of the call's own (none below base), with room for k in all. -/
def Ov (w : World) (base : Nat) (l : List Int) (p : Option Addr) (k : Nat) : Prop :=
  ∃ g o cur, p = some ⟨g, o, none⟩ ∧ base ≤ g ∧ w.heap[g]? = some (.cells cur 3 (0, 0)) ∧ l.length ≤ k ∧ k ≤ maxLen ∧ o + k ≤ cur.size ∧ ∀ (i : Nat) (x : Int), l[i]? = some x → cur[o + i]? = some (Value.int .i64 x)

/-- The queue's own block. -/
structure At (w : World) (base qb : Nat) (a : Qu) (p : Option Addr) (k : Nat) : Prop where
  ge : base ≤ qb
  obj : w.heap[qb]? = some (.cells #[.slice p a.vals.length k, .int .i64 a.cap, .int .i64 a.pol, .int .i64 a.mode] 85 (0, 0))
  own : Ov w base a.vals p k
  ne : ∀ x, p = some x → x.block ≠ qb

/-- What was there is kept, but for these two blocks. -/
structure Chg (qb : Nat) (p : Option Addr) (w w' : World) : Prop where
  os : w'.os = w.os
  tape : w'.tape = w.tape
  output : w'.output = w.output
  size : w.heap.size ≤ w'.heap.size
  block : ∀ j, j < w.heap.size → j ≠ qb → (∀ x, p = some x → j ≠ x.block) → w'.heap[j]? = w.heap[j]?

theorem Ov.len {w : World} {base : Nat} {l : List Int} {p : Option Addr} {k : Nat} (h : Ov w base l p k) : l.length ≤ k := by
  obtain ⟨_, _, _, _, _, _, h, _⟩ := h; exact h
theorem Ov.max {w : World} {base : Nat} {l : List Int} {p : Option Addr} {k : Nat} (h : Ov w base l p k) : k ≤ maxLen := by
  obtain ⟨_, _, _, _, _, _, _, h, _⟩ := h; exact h
theorem Ov.of_block {w w' : World} {base : Nat} {l : List Int} {p : Option Addr} {k : Nat} (h : Ov w base l p k) (hb : ∀ x, p = some x → w'.heap[x.block]? = w.heap[x.block]?) : Ov w' base l p k := by
  obtain ⟨g, o, cur, rfl, h1, h2, h3⟩ := h
  exact ⟨g, o, cur, rfl, h1, (hb _ rfl).trans h2, h3⟩
theorem Ov.lt {w : World} {base : Nat} {l : List Int} {p : Option Addr} {k : Nat} (h : Ov w base l p k) : ∀ x, p = some x → base ≤ x.block ∧ x.block < w.heap.size := by
  obtain ⟨g, o, cur, rfl, h1, h2, h3⟩ := h
  intro x hx; cases hx
  exact ⟨h1, (Array.getElem?_eq_some_iff.1 h2).1⟩
theorem Ov.kept {w w' : World} {base : Nat} {l : List Int} {p : Option Addr} {k : Nat} (h : Ov w base l p k) (hk : Below w.heap.size w w') : Ov w' base l p k :=
  h.of_block fun x hx => hk.block _ (h.lt x hx).2
theorem Ov.sl {w : World} {base : Nat} {l : List Int} {p : Option Addr} {k : Nat} (h : Ov w base l p k) : Sl w 1 intC l (.slice p l.length k) := by
  obtain ⟨g, o, cur, rfl, h1, h2, h3, h4, h5, h6⟩ := h
  refine ⟨some ⟨g, o, none⟩, k, rfl, h3, h4, (fun h => by cases h), fun _ => ⟨g, o, rfl, (Array.getElem?_eq_some_iff.1 h2).1, fun i x hx j hj => ?_⟩⟩
  obtain rfl : j = 0 := by omega
  have := h6 i x hx
  simp [World.cell?, h2, intC, this]
/-- Without the first one. -/
theorem Ov.tail {w : World} {base : Nat} {v : Int} {r : List Int} {g o k : Nat} {x : Addr} (h : Ov w base (v :: r) (some ⟨g, o, none⟩) k) (hx : 1 < k → x = ⟨g, o + 1, none⟩) (hx1 : k ≤ 1 → x = ⟨g, o, none⟩) : Ov w base r (some x) (k - 1) := by
  obtain ⟨g, o, cur, hp, h1, h2, h3, h4, h5, h6⟩ := h
  cases hp
  simp only [List.length_cons] at h3
  by_cases hk : 1 < k
  · rw [hx hk]
    exact ⟨g, o + 1, cur, rfl, h1, h2, by omega, by omega, by omega, fun i y hy => by
      have := h6 (i + 1) y (by simpa using hy); rw [← this]; congr 1; omega⟩
  · have : r = [] := List.length_eq_zero_iff.1 (by omega)
    subst this
    rw [hx1 (by omega)]
    exact ⟨g, o, cur, rfl, h1, h2, by simp, by omega, by omega, fun i y hy => by simp at hy⟩
theorem Ov.made {W : World} {base : Nat} {l : List Int} {cur : Array Value} {g k : Nat} (hb : base ≤ g) (hg : W.heap[g]? = some (.cells cur 3 (0, 0))) (hl : l.length ≤ k) (hm : k ≤ maxLen) (hc : k ≤ cur.size) (h : ∀ (i : Nat) (x : Int), l[i]? = some x → cur[i]? = some (Value.int .i64 x)) : Ov W base l (some ⟨g, 0, none⟩) k :=
  ⟨g, 0, cur, rfl, hb, hg, hl, hm, by omega, fun i x hx => by rw [Nat.zero_add]; exact h i x hx⟩

theorem Chg.refl (qb : Nat) (p : Option Addr) (w : World) : Chg qb p w w := ⟨rfl, rfl, rfl, Nat.le_refl _, fun _ _ _ _ => rfl⟩
theorem Chg.of_kept {qb : Nat} {p : Option Addr} {w w' : World} (h : Below w.heap.size w w') : Chg qb p w w' := ⟨h.os, h.tape, h.output, h.size, fun j hj _ _ => h.block j hj⟩
theorem Chg.after {qb : Nat} {p : Option Addr} {w w' w'' : World} (h : Below w.heap.size w w') (k : Chg qb p w' w'') : Chg qb p w w'' :=
  ⟨k.os.trans h.os, k.tape.trans h.tape, k.output.trans h.output, Nat.le_trans h.size k.size, fun j hj h1 h2 => (k.block j (Nat.lt_of_lt_of_le hj h.size) h1 h2).trans (h.block j hj)⟩
theorem Chg.then {qb : Nat} {p : Option Addr} {w w' w'' : World} (k : Chg qb p w w') (h : Below w'.heap.size w' w'') : Chg qb p w w'' :=
  ⟨h.os.trans k.os, h.tape.trans k.tape, h.output.trans k.output, Nat.le_trans k.size h.size, fun j hj h1 h2 => (h.block j (Nat.lt_of_lt_of_le hj k.size)).trans (k.block j hj h1 h2)⟩
theorem Chg.set {qb : Nat} {p : Option Addr} {w w' : World} (h : Chg qb p w w') {x : Addr} (hx : x.block = qb) (u : Value) : Chg qb p w (w'.setCell x u) :=
  ⟨h.os, h.tape, h.output, by simpa using h.size, fun j hj h1 h2 => (Below.heap_setCell _ _ _ _ (by rw [hx]; exact h1)).trans (h.block j hj h1 h2)⟩
/-- What is below the base is kept. -/
theorem Chg.below {base qb : Nat} {p : Option Addr} {w0 w w' : World} (hb : Below base w0 w) (h : Chg qb p w w') (hq : base ≤ qb) (hp : ∀ x, p = some x → base ≤ x.block) (hs : base ≤ w.heap.size) : Below base w0 w' :=
  hb.trans ⟨h.os, h.tape, h.output, h.size, fun j hj => h.block j (by omega) (by omega) (fun x hx => by have := hp x hx; omega)⟩

theorem At.kept {w w' : World} {base qb : Nat} {a : Qu} {p : Option Addr} {k : Nat} (h : At w base qb a p k) (hk : Below w.heap.size w w') : At w' base qb a p k :=
  ⟨h.ge, (hk.block _ (Array.getElem?_eq_some_iff.1 h.obj).1).trans h.obj, h.own.kept hk, h.ne⟩
theorem At.lt {w : World} {base qb : Nat} {a : Qu} {p : Option Addr} {k : Nat} (h : At w base qb a p k) : qb < w.heap.size := (Array.getElem?_eq_some_iff.1 h.obj).1
theorem At.cells {w : World} {base qb : Nat} {a : Qu} {p : Option Addr} {k : Nat} (h : At w base qb a p k) :
    (w.cell? ⟨qb, 0, none⟩ = some (.slice p a.vals.length k) ∧ w.cell? ⟨qb, 1, none⟩ = some (.int .i64 a.cap) ∧ w.cell? ⟨qb, 2, none⟩ = some (.int .i64 a.pol) ∧ w.cell? ⟨qb, 3, none⟩ = some (.int .i64 a.mode)) ∧ ∀ j, w.frozen? ⟨qb, j, none⟩ = false :=
  ⟨⟨by simp [World.cell?, h.obj], by simp [World.cell?, h.obj], by simp [World.cell?, h.obj], by simp [World.cell?, h.obj]⟩, fun j => by simp [World.frozen?, h.obj]⟩
theorem heap_set {w : World} {b i : Nat} {c : Array Value} {t : TypeId} {f : Nat × Nat} (h : w.heap[b]? = some (.cells c t f)) (v : Value) : (w.setCell ⟨b, i, none⟩ v).heap[b]? = some (.cells (c.setIfInBounds i v) t f) := by
  simp [World.setCell, Array.getElem?_modify, h]
/-- Its values turn. -/
theorem At.setVals {w : World} {base qb : Nat} {a : Qu} {p q : Option Addr} {k m n : Nat} {l : List Int} (h : w.heap[qb]? = some (.cells #[.slice p n k, .int .i64 a.cap, .int .i64 a.pol, .int .i64 a.mode] 85 (0, 0))) (hge : base ≤ qb) (ho : Ov w base l q m) (hq : ∀ x, q = some x → x.block ≠ qb) :
    At (w.setCell ⟨qb, 0, none⟩ (.slice q l.length m)) base qb (a.with l) q m :=
  ⟨hge, (heap_set h _).trans rfl, ho.of_block fun x hx => Below.heap_setCell _ _ _ _ (hq x hx), hq⟩
/-- Its mode turns. -/
theorem At.setMode {w : World} {base qb : Nat} {a : Qu} {p : Option Addr} {k : Nat} (m : Int) (h : At w base qb a p k) : At (w.setCell ⟨qb, 3, none⟩ (.int .i64 m)) base qb ⟨a.vals, a.cap, a.pol, m⟩ p k :=
  ⟨h.ge, (heap_set h.obj _).trans rfl, h.own.of_block fun x hx => Below.heap_setCell _ _ _ _ (h.ne x hx), h.ne⟩

/-- What one who is told leaves. -/
def Told (base qb : Nat) (p : Option Addr) (r : Qu × Bool) (w : World) (e : Ending) (w' : World) : Prop :=
  e = .returned (.bool r.2) ∧ ∃ p' k', At w' base qb r.1 p' k' ∧ Chg qb p w w' ∧ ∀ x, p' = some x → (∃ y, p = some y ∧ x.block = y.block) ∨ w.heap.size ≤ x.block
theorem told_of_kept {base qb : Nat} {a : Qu} {p : Option Addr} {k : Nat} {b : Bool} {w : World} {e : Ending} {w' : World} (hA : At w base qb a p k) (h : e = .returned (.bool b) ∧ Kept w w') : Told base qb p (a, b) w e w' :=
  ⟨h.1, p, k, hA.kept h.2, Chg.of_kept h.2, fun x hx => .inl ⟨x, hx, rfl⟩⟩

section
variable {P : Program}
/-- 'append(s, v)', s in a block of the call's own. -/
theorem run_append_ov (w : World) (t ty : TypeId) (ht : P.underlying t = some (.slice 3)) (hinfo : (P.info? 3).map (fun i => (i.zero, i.size, i.bytes)) = some (some (.int .i64 0), 1, 8))
    {base : Nat} {l : List Int} {p : Option Addr} {k : Nat} (h : Ov w base l p k) (va : Int) (s : Addr) (c : Nat) (hs : w.cell? s = some (.int .i64 va)) (hm : l.length ≤ 1000) (hbase : base ≤ w.heap.size) :
    ∃ p' k' w', (Builtin.append_ #[t, t] ty #[.slice p l.length k, .slice (some s) 1 c]).run P w = .ok (.slice p' (l.length + 1) k') w' ∧ Ov w' base (l ++ [va]) p' k' ∧
      (∀ qb, Chg qb p w w') ∧ (∀ x, p' = some x → (∃ y, p = some y ∧ x.block = y.block) ∨ w.heap.size ≤ x.block) := by
  obtain ⟨i, hi, hz0, hz1, hz2⟩ := info_parts hinfo
  obtain ⟨g, o, cur, rfl, h1, h2, h3, h4, h5, h6⟩ := h
  have hsrc : Src P i.size t (.slice (some s) 1 c) 1 [.int .i64 va] w := Src.ofSlice w ht s 1 c [.int .i64 va] (by rw [hz1]; rfl) (fun j u hu => by
    cases j with
    | zero => simp at hu; subst hu; simpa [Addr.add] using hs
    | succ j => simp at hu) (fun u hu => by simp at hu; subst hu; rfl)
  have hlt : g < w.heap.size := (Array.getElem?_eq_some_iff.1 h2).1
  by_cases hroom : l.length + 1 ≤ k
  · have hin : o + l.length < cur.size := by omega
    have hr := run_append_room_src (P := P) w t t ty 3 i ht hi g o l.length k (.slice (some s) 1 c) 1 [.int .i64 va] hsrc hroom
      (fun j hj => by simp at hj; subst hj; rw [hz1]; simp [World.cell?, h2, hin]) (fun j hj => by simp [World.frozen?, h2])
    rw [hz1, Nat.mul_one] at hr
    refine ⟨_, _, _, hr, ⟨g, o, cur.setIfInBounds (o + l.length) (.int .i64 va), rfl, h1, heap_set h2 _, by simpa using hroom, h4, by simpa using h5, fun i x hx => ?_⟩, fun qb => ⟨rfl, rfl, rfl, by show w.heap.size ≤ (World.setCell w _ _).heap.size; simp, fun j hj h1 h2 => Below.heap_setCell _ _ _ _ (by show j ≠ g; exact h2 _ rfl)⟩, fun x hx => by cases hx; exact .inl ⟨_, rfl, rfl⟩⟩
    rw [Array.getElem?_setIfInBounds]
    by_cases hil : i < l.length
    · rw [if_neg (by omega)]
      rw [List.getElem?_append_left hil] at hx
      exact h6 i x hx
    · have : i = l.length := by
        have := (List.getElem?_eq_some_iff.1 hx).1
        simp at this; omega
      subst this
      simp at hx
      subst hx
      simp [hin]
  · have hold : (Builtin.firstCells i.size l.length (.slice (some ⟨g, o, none⟩) l.length k)).run P w.drew = .ok (l.map (Value.int .i64)).toArray w.drew :=
      run_firstCells_some (P := P) w.drew i.size l.length ⟨g, o, none⟩ l.length k (l.map (Value.int .i64)) (by rw [hz1]; simp) (fun j v hv => by
        simp only [List.getElem?_map, Option.map_eq_some_iff] at hv
        obtain ⟨x, hx, rfl⟩ := hv
        have hadd : (⟨g, o, none⟩ : Addr).add j = ⟨g, o + j, none⟩ := by unfold Addr.add; split <;> simp_all
        rw [hadd]
        show World.cell? w _ = _
        simp [World.cell?, h2, h6 j x hx])
    have hr := run_append_grow_src (P := P) w t t ty 3 i (.int .i64 0) ht hi hz0 (some ⟨g, o, none⟩) l.length k (l.map (Value.int .i64)) hold (.slice (some s) 1 c) 1 [.int .i64 va] hsrc (by omega) (by omega) (growslice_fits (by omega) (by rw [hz2]; omega))
    have hcap := grownCap_ge w (l.length + 1) k 3
    have hcm := grownCap_le_maxLen w (l.length + 1) k 3 (by unfold maxLen; omega)
    refine ⟨_, _, _, hr, Ov.made hbase (heap_alloc_new w.drew _) (by simpa using hcap) hcm ?_ ?_, fun qb => ⟨rfl, rfl, rfl, by simp, fun j hj _ _ => (by first | exact heap_alloc_old w.drew j _ hj | exact World.alloc_heap_old w.drew _ hj | exact Below.heap_alloc w.drew _ j hj)⟩, fun x hx => by cases hx; exact .inr (Nat.le_refl _)⟩
    · simp [Builtin.zeroCells, Value.cells]; omega
    · intro i x hx
      have hil := (List.getElem?_eq_some_iff.1 hx).1
      simp only [List.length_append, List.length_singleton] at hil
      rw [Array.getElem?_append_left (by simpa using hil)]
      have : (List.map (Value.int .i64) l ++ [Value.int .i64 va]) = (l ++ [va]).map (Value.int .i64) := by simp
      rw [List.getElem?_toArray]
      rw [this, List.getElem?_map, hx]
      rfl
end
end Go.Proofs.YtkflpaicohbppaaGreat

/- Contracts of the program's own functions of layer 3 that only look. -/
namespace Go.Proofs.YtkflpaicohbppaaGreat
set_option linter.unusedVariables false
set_option linter.unusedSimpArgs false
open Go.ChangeShapes Go.WideShapes Go.ChangeAt Go.RowKit

/-- The sort of a kind. -/
def sortI (k : Int) : Int := if sendsB k then 1 else if recvsB k then 4 else k
theorem psends_any (k : Int) (w : World) : Calls Tryz.prog 125 #[.int .i64 k] w fun e w' => e = .returned (.bool (sendsB k)) ∧ Kept w w' := by
  go_enter Tryz.func125, Tryz.ntmps125
  go_wp2
  all_goals (go_ret; exact ⟨ret_bool (by first | (rw [Bool.eq_iff_iff]; simp [sendsB]; omega) | (simp [sendsB, *]; done) | (simp [sendsB, *]; omega) | (simp [sendsB, *]; intros; omega)), by repeat' (first | (with_reducible exact Below.refl _ _) | (with_reducible assumption) | (with_reducible refine kept_alloc ?_ _) | (with_reducible refine kept_drewN ?_ _) | (with_reducible refine Below.drew ?_) | (with_reducible refine Below.setCell ?_ (by first | omega | (simp; omega) | (simp; done)) _) | (refine kept_trans ?_ (by with_reducible assumption)))⟩)
theorem precvs_any (k : Int) (w : World) : Calls Tryz.prog 126 #[.int .i64 k] w fun e w' => e = .returned (.bool (recvsB k)) ∧ Kept w w' := by
  go_enter Tryz.func126, Tryz.ntmps126
  go_wp2
  all_goals (go_ret; exact ⟨ret_bool (by first | (rw [Bool.eq_iff_iff]; simp [recvsB]; omega) | (simp [recvsB, *]; done) | (simp [recvsB, *]; omega) | (simp [recvsB, *]; intros; omega)), by repeat' (first | (with_reducible exact Below.refl _ _) | (with_reducible assumption) | (with_reducible refine kept_alloc ?_ _) | (with_reducible refine kept_drewN ?_ _) | (with_reducible refine Below.drew ?_) | (with_reducible refine Below.setCell ?_ (by first | omega | (simp; omega) | (simp; done)) _) | (refine kept_trans ?_ (by with_reducible assumption)))⟩)
theorem psort_any (k : Int) (w : World) : Calls Tryz.prog 82 #[.int .i64 k] w fun e w' => e = .returned (.int .i64 (sortI k)) ∧ Kept w w' := by
  cases h1 : sendsB k <;> cases h2 : recvsB k
  all_goals
    go_enter Tryz.func82, Tryz.ntmps82
    go_wp2_with (first | (go_at_call 125; refine (psends_any _ _).mono ?_; rintro e wx ⟨rfl, hgx⟩) | (go_at_call 126; refine (precvs_any _ _).mono ?_; rintro e wx ⟨rfl, hgx⟩))
    all_goals (go_ret; exact ⟨ret_int (by simp [sortI, *]), by repeat' (first | (with_reducible exact Below.refl _ _) | (with_reducible assumption) | (with_reducible refine kept_alloc ?_ _) | (with_reducible refine kept_drewN ?_ _) | (with_reducible refine Below.drew ?_) | (with_reducible refine Below.setCell ?_ (by first | omega | (simp; omega) | (simp; done)) _) | (refine kept_trans ?_ (by with_reducible assumption)))⟩)

set_option maxHeartbeats 1000000 in
theorem pfull_any (qb : Nat) (l : List Int) (qc qp qm : Int) (p : Option Addr) (k : Nat) (w : World) (hz : qb < w.heap.size) (c0 : w.cell? ⟨qb, 0, none⟩ = some (.slice p l.length k)) (c1 : w.cell? ⟨qb, 1, none⟩ = some (.int .i64 qc)) (c2 : w.cell? ⟨qb, 2, none⟩ = some (.int .i64 qp)) (c3 : w.cell? ⟨qb, 3, none⟩ = some (.int .i64 qm)) : Calls Tryz.prog 127 #[.pointer (some ⟨qb, 0, none⟩)] w fun e w' => e = .returned (.bool (decide (qc ≤ (l.length : Int)))) ∧ Kept w w' := by
  go_enter Tryz.func127, Tryz.ntmps127
  go_wp2
  go_region
  all_goals go_wp2
  all_goals (go_ret; exact ⟨ret_bool (by first | rfl | (simp; done) | (rw [Bool.eq_iff_iff]; simp; omega)), by repeat' (first | (with_reducible exact Below.refl _ _) | (with_reducible assumption) | (with_reducible refine kept_alloc ?_ _) | (with_reducible refine kept_drewN ?_ _) | (with_reducible refine Below.drew ?_) | (with_reducible refine Below.setCell ?_ (by first | omega | (simp; omega) | (simp; done)) _) | (refine kept_trans ?_ (by with_reducible assumption)))⟩)

set_option maxHeartbeats 1000000 in
theorem pturns_any (qb : Nat) (l : List Int) (qc qp qm : Int) (p : Option Addr) (k : Nat) (w : World) (hz : qb < w.heap.size) (c0 : w.cell? ⟨qb, 0, none⟩ = some (.slice p l.length k)) (c1 : w.cell? ⟨qb, 1, none⟩ = some (.int .i64 qc)) (c2 : w.cell? ⟨qb, 2, none⟩ = some (.int .i64 qp)) (c3 : w.cell? ⟨qb, 3, none⟩ = some (.int .i64 qm)) (po : Int) : Calls Tryz.prog 128 #[.pointer (some ⟨qb, 0, none⟩), .int .i64 po] w fun e w' => e = .returned (.bool (decide (qm = 0) && decide (qc ≤ (l.length : Int)) && decide (qp = po))) ∧ Kept w w' := by
  have b3 : decide (qp = po) = (qp == po) := rfl
  have b2 : decide (qm = 0) = (qm == 0) := rfl
  cases b0 : (qm == 0) <;> cases b1 : decide (qc ≤ (l.length : Int))
  all_goals
    go_enter Tryz.func128, Tryz.ntmps128
    go_wp2_with (first | (go_at_call 127; refine (pfull_any qb l qc qp qm p k _ (by first | assumption | (simp; omega)) (by first | assumption | (refine (World.cell?_alloc_past _ _ _ (by first | assumption | (simp; omega))).trans ?_; assumption)) (by first | assumption | (refine (World.cell?_alloc_past _ _ _ (by first | assumption | (simp; omega))).trans ?_; assumption)) (by first | assumption | (refine (World.cell?_alloc_past _ _ _ (by first | assumption | (simp; omega))).trans ?_; assumption)) (by first | assumption | (refine (World.cell?_alloc_past _ _ _ (by first | assumption | (simp; omega))).trans ?_; assumption))).mono ?_; rintro e wx ⟨rfl, hgx⟩; obtain ⟨hcx, hfx⟩ := bcell hgx))
    all_goals (go_ret; exact ⟨ret_bool (by first | rfl | (simp only [*, Bool.true_and, Bool.and_true, Bool.false_and, Bool.and_false, Bool.true_or, Bool.false_or, Bool.or_true, Bool.or_false]; done) | (simp [*]; done)), by repeat' (first | (with_reducible exact Below.refl _ _) | (with_reducible assumption) | (with_reducible refine kept_alloc ?_ _) | (with_reducible refine kept_drewN ?_ _) | (with_reducible refine Below.drew ?_) | (with_reducible refine Below.setCell ?_ (by first | omega | (simp; omega) | (simp; done)) _) | (refine kept_trans ?_ (by with_reducible assumption)))⟩)

set_option maxHeartbeats 1000000 in
theorem pblocks_any (qb : Nat) (l : List Int) (qc qp qm : Int) (p : Option Addr) (k : Nat) (w : World) (hz : qb < w.heap.size) (c0 : w.cell? ⟨qb, 0, none⟩ = some (.slice p l.length k)) (c1 : w.cell? ⟨qb, 1, none⟩ = some (.int .i64 qc)) (c2 : w.cell? ⟨qb, 2, none⟩ = some (.int .i64 qp)) (c3 : w.cell? ⟨qb, 3, none⟩ = some (.int .i64 qm)) (th ki va re go : Int) : Calls Tryz.prog 84 #[.pointer (some ⟨qb, 0, none⟩), .agg #[.int .i64 th, .int .i64 ki, .int .i64 va, .int .i64 re, .int .i64 go]] w fun e w' => e = .returned (.bool (decide (qm = 0) && decide (qc ≤ (l.length : Int)) && decide (qp = 0) && decide (ki = 2))) ∧ Kept w w' := by
  have b2 : decide (ki = 2) = (ki == 2) := rfl
  cases b0 : (ki == 2)
  all_goals
    go_enter Tryz.func84, Tryz.ntmps84
    go_wp2_with (first | (go_at_call 128; refine (pturns_any qb l qc qp qm p k _ (by first | assumption | (simp; omega)) (by first | assumption | (refine (World.cell?_alloc_past _ _ _ (by first | assumption | (simp; omega))).trans ?_; assumption)) (by first | assumption | (refine (World.cell?_alloc_past _ _ _ (by first | assumption | (simp; omega))).trans ?_; assumption)) (by first | assumption | (refine (World.cell?_alloc_past _ _ _ (by first | assumption | (simp; omega))).trans ?_; assumption)) (by first | assumption | (refine (World.cell?_alloc_past _ _ _ (by first | assumption | (simp; omega))).trans ?_; assumption)) _).mono ?_; rintro e wx ⟨rfl, hgx⟩; obtain ⟨hcx, hfx⟩ := bcell hgx; have hz0 : w.heap.size < wx.heap.size := (by have := hgx.size; (try simp at this); omega)))
    all_goals (go_ret; exact ⟨ret_bool (by first | rfl | (simp only [*, Bool.true_and, Bool.and_true, Bool.false_and, Bool.and_false, Bool.true_or, Bool.false_or, Bool.or_true, Bool.or_false]; done) | (simp [*]; done)), by repeat' (first | (with_reducible exact Below.refl _ _) | (with_reducible assumption) | (with_reducible refine kept_alloc ?_ _) | (with_reducible refine kept_drewN ?_ _) | (with_reducible refine Below.drew ?_) | (with_reducible refine Below.setCell ?_ (by first | omega | (simp; omega) | (simp; done)) _) | (refine kept_trans ?_ (by with_reducible assumption)))⟩)
set_option maxHeartbeats 1000000 in
theorem pdrops_any (qb : Nat) (l : List Int) (qc qp qm : Int) (p : Option Addr) (k : Nat) (w : World) (hz : qb < w.heap.size) (c0 : w.cell? ⟨qb, 0, none⟩ = some (.slice p l.length k)) (c1 : w.cell? ⟨qb, 1, none⟩ = some (.int .i64 qc)) (c2 : w.cell? ⟨qb, 2, none⟩ = some (.int .i64 qp)) (c3 : w.cell? ⟨qb, 3, none⟩ = some (.int .i64 qm)) (th ki va re go : Int) : Calls Tryz.prog 85 #[.pointer (some ⟨qb, 0, none⟩), .agg #[.int .i64 th, .int .i64 ki, .int .i64 va, .int .i64 re, .int .i64 go]] w fun e w' => e = .returned (.bool (decide (qm = 0) && decide (qc ≤ (l.length : Int)) && decide (qp = 1))) ∧ Kept w w' := by
  go_enter Tryz.func85, Tryz.ntmps85
  go_wp2_with (first | (go_at_call 128; refine (pturns_any qb l qc qp qm p k _ (by first | assumption | (simp; omega)) (by first | assumption | (refine (World.cell?_alloc_past _ _ _ (by first | assumption | (simp; omega))).trans ?_; assumption)) (by first | assumption | (refine (World.cell?_alloc_past _ _ _ (by first | assumption | (simp; omega))).trans ?_; assumption)) (by first | assumption | (refine (World.cell?_alloc_past _ _ _ (by first | assumption | (simp; omega))).trans ?_; assumption)) (by first | assumption | (refine (World.cell?_alloc_past _ _ _ (by first | assumption | (simp; omega))).trans ?_; assumption)) _).mono ?_; rintro e wx ⟨rfl, hgx⟩; obtain ⟨hcx, hfx⟩ := bcell hgx; have hz0 : w.heap.size < wx.heap.size := (by have := hgx.size; (try simp at this); omega)))
  all_goals (go_ret; exact ⟨rfl, by repeat' (first | (with_reducible exact Below.refl _ _) | (with_reducible assumption) | (with_reducible refine kept_alloc ?_ _) | (with_reducible refine kept_drewN ?_ _) | (with_reducible refine Below.drew ?_) | (with_reducible refine Below.setCell ?_ (by first | omega | (simp; omega) | (simp; done)) _) | (refine kept_trans ?_ (by with_reducible assumption)))⟩)
set_option maxHeartbeats 1000000 in
theorem plate_any (qb : Nat) (w : World) (th ki va re go : Int) : Calls Tryz.prog 86 #[.pointer (some ⟨qb, 0, none⟩), .agg #[.int .i64 th, .int .i64 ki, .int .i64 va, .int .i64 re, .int .i64 go]] w fun e w' => e = .returned (.bool (or (decide (ki = 3)) (decide (ki = 6)))) ∧ Kept w w' := by
  have b2 : decide (ki = 3) = (ki == 3) := rfl
  have b3 : decide (ki = 6) = (ki == 6) := rfl
  cases b0 : (ki == 3)
  all_goals
    go_enter Tryz.func86, Tryz.ntmps86
    go_wp2
    all_goals (go_ret; exact ⟨ret_bool (by first | rfl | (simp only [*, Bool.true_and, Bool.and_true, Bool.false_and, Bool.and_false, Bool.true_or, Bool.false_or, Bool.or_true, Bool.or_false]; done) | (simp [*]; done)), by repeat' (first | (with_reducible exact Below.refl _ _) | (with_reducible assumption) | (with_reducible refine kept_alloc ?_ _) | (with_reducible refine kept_drewN ?_ _) | (with_reducible refine Below.drew ?_) | (with_reducible refine Below.setCell ?_ (by first | omega | (simp; omega) | (simp; done)) _) | (refine kept_trans ?_ (by with_reducible assumption)))⟩)
set_option maxHeartbeats 1000000 in
theorem pdrains_any (qb : Nat) (l : List Int) (qc qp qm : Int) (p : Option Addr) (k : Nat) (w : World) (hz : qb < w.heap.size) (c0 : w.cell? ⟨qb, 0, none⟩ = some (.slice p l.length k)) (c1 : w.cell? ⟨qb, 1, none⟩ = some (.int .i64 qc)) (c2 : w.cell? ⟨qb, 2, none⟩ = some (.int .i64 qp)) (c3 : w.cell? ⟨qb, 3, none⟩ = some (.int .i64 qm)) (th ki va re go : Int) : Calls Tryz.prog 87 #[.pointer (some ⟨qb, 0, none⟩), .agg #[.int .i64 th, .int .i64 ki, .int .i64 va, .int .i64 re, .int .i64 go]] w fun e w' => e = .returned (.bool (decide (qm = 1))) ∧ Kept w w' := by
  go_enter Tryz.func87, Tryz.ntmps87
  go_wp2
  all_goals (go_ret; exact ⟨ret_bool (by first | rfl | (simp only [*, Bool.true_and, Bool.and_true, Bool.false_and, Bool.and_false, Bool.true_or, Bool.false_or, Bool.or_true, Bool.or_false]; done) | (simp [*]; done)), by repeat' (first | (with_reducible exact Below.refl _ _) | (with_reducible assumption) | (with_reducible refine kept_alloc ?_ _) | (with_reducible refine kept_drewN ?_ _) | (with_reducible refine Below.drew ?_) | (with_reducible refine Below.setCell ?_ (by first | omega | (simp; omega) | (simp; done)) _) | (refine kept_trans ?_ (by with_reducible assumption)))⟩)
set_option maxHeartbeats 1000000 in
theorem phalts_any (qb : Nat) (l : List Int) (qc qp qm : Int) (p : Option Addr) (k : Nat) (w : World) (hz : qb < w.heap.size) (c0 : w.cell? ⟨qb, 0, none⟩ = some (.slice p l.length k)) (c1 : w.cell? ⟨qb, 1, none⟩ = some (.int .i64 qc)) (c2 : w.cell? ⟨qb, 2, none⟩ = some (.int .i64 qp)) (c3 : w.cell? ⟨qb, 3, none⟩ = some (.int .i64 qm)) (th ki va re go : Int) : Calls Tryz.prog 88 #[.pointer (some ⟨qb, 0, none⟩), .agg #[.int .i64 th, .int .i64 ki, .int .i64 va, .int .i64 re, .int .i64 go]] w fun e w' => e = .returned (.bool (decide (qm = 2))) ∧ Kept w w' := by
  go_enter Tryz.func88, Tryz.ntmps88
  go_wp2
  all_goals (go_ret; exact ⟨ret_bool (by first | rfl | (simp only [*, Bool.true_and, Bool.and_true, Bool.false_and, Bool.and_false, Bool.true_or, Bool.false_or, Bool.or_true, Bool.or_false]; done) | (simp [*]; done)), by repeat' (first | (with_reducible exact Below.refl _ _) | (with_reducible assumption) | (with_reducible refine kept_alloc ?_ _) | (with_reducible refine kept_drewN ?_ _) | (with_reducible refine Below.drew ?_) | (with_reducible refine Below.setCell ?_ (by first | omega | (simp; omega) | (simp; done)) _) | (refine kept_trans ?_ (by with_reducible assumption)))⟩)
set_option maxHeartbeats 1000000 in
theorem placks_any (qb : Nat) (l : List Int) (qc qp qm : Int) (p : Option Addr) (k : Nat) (w : World) (hz : qb < w.heap.size) (c0 : w.cell? ⟨qb, 0, none⟩ = some (.slice p l.length k)) (c1 : w.cell? ⟨qb, 1, none⟩ = some (.int .i64 qc)) (c2 : w.cell? ⟨qb, 2, none⟩ = some (.int .i64 qp)) (c3 : w.cell? ⟨qb, 3, none⟩ = some (.int .i64 qm)) (th ki va re go : Int) : Calls Tryz.prog 90 #[.pointer (some ⟨qb, 0, none⟩), .agg #[.int .i64 th, .int .i64 ki, .int .i64 va, .int .i64 re, .int .i64 go]] w fun e w' => e = .returned (.bool (decide (qm = 0) && decide (l.length = 0) && decide (ki = 5))) ∧ Kept w w' := by
  have b2 : decide (ki = 5) = (ki == 5) := rfl
  have b3 : decide (qm = 0) = (qm == 0) := rfl
  have b4 : decide (l.length = 0) = ((l.length : Int) == 0) := by rw [Bool.eq_iff_iff]; simp
  cases b0 : (ki == 5) <;> cases b1 : (qm == 0)
  all_goals
    go_enter Tryz.func90, Tryz.ntmps90
    go_wp2
    all_goals (go_ret; exact ⟨ret_bool (by first | rfl | (simp only [*, Bool.true_and, Bool.and_true, Bool.false_and, Bool.and_false, Bool.true_or, Bool.false_or, Bool.or_true, Bool.or_false]; done) | (simp [*]; done)), by repeat' (first | (with_reducible exact Below.refl _ _) | (with_reducible assumption) | (with_reducible refine kept_alloc ?_ _) | (with_reducible refine kept_drewN ?_ _) | (with_reducible refine Below.drew ?_) | (with_reducible refine Below.setCell ?_ (by first | omega | (simp; omega) | (simp; done)) _) | (refine kept_trans ?_ (by with_reducible assumption)))⟩)
set_option maxHeartbeats 1000000 in
theorem pdrained_any (qb : Nat) (l : List Int) (qc qp qm : Int) (p : Option Addr) (k : Nat) (w : World) (hz : qb < w.heap.size) (c0 : w.cell? ⟨qb, 0, none⟩ = some (.slice p l.length k)) (c1 : w.cell? ⟨qb, 1, none⟩ = some (.int .i64 qc)) (c2 : w.cell? ⟨qb, 2, none⟩ = some (.int .i64 qp)) (c3 : w.cell? ⟨qb, 3, none⟩ = some (.int .i64 qm)) (th ki va re go : Int) : Calls Tryz.prog 91 #[.pointer (some ⟨qb, 0, none⟩), .agg #[.int .i64 th, .int .i64 ki, .int .i64 va, .int .i64 re, .int .i64 go]] w fun e w' => e = .returned (.bool (decide (qm = 1) && decide (l.length = 0))) ∧ Kept w w' := by
  have b3 : decide (qm = 1) = (qm == 1) := rfl
  have b4 : decide (l.length = 0) = ((l.length : Int) == 0) := by rw [Bool.eq_iff_iff]; simp
  cases b1 : (qm == 1)
  all_goals
    go_enter Tryz.func91, Tryz.ntmps91
    go_wp2
    all_goals (go_ret; exact ⟨ret_bool (by first | rfl | (simp only [*, Bool.true_and, Bool.and_true, Bool.false_and, Bool.and_false, Bool.true_or, Bool.false_or, Bool.or_true, Bool.or_false]; done) | (simp [*]; done)), by repeat' (first | (with_reducible exact Below.refl _ _) | (with_reducible assumption) | (with_reducible refine kept_alloc ?_ _) | (with_reducible refine kept_drewN ?_ _) | (with_reducible refine Below.drew ?_) | (with_reducible refine Below.setCell ?_ (by first | omega | (simp; omega) | (simp; done)) _) | (refine kept_trans ?_ (by with_reducible assumption)))⟩)
end Go.Proofs.YtkflpaicohbppaaGreat

/- Contracts of the program's own functions of layer 3 that turn the queue. -/
namespace Go.Proofs.YtkflpaicohbppaaGreat
set_option linter.unusedVariables false
set_option linter.unusedSimpArgs false
open Go.ChangeShapes Go.WideShapes Go.ChangeAt Go.RowKit

theorem Ov.head {w : World} {base : Nat} {v : Int} {r : List Int} {g o k : Nat} (h : Ov w base (v :: r) (some ⟨g, o, none⟩) k) : w.cell? ⟨g, o, none⟩ = some (.int .i64 v) := by
  obtain ⟨g, o, cur, hp, h1, h2, h3, h4, h5, h6⟩ := h
  cases hp
  have := h6 0 v rfl
  simp [World.cell?, h2, ← this]

set_option maxHeartbeats 1000000 in
theorem ptake_any (base qb : Nat) (a : Qu) (p : Option Addr) (k : Nat) (w : World) (hA : At w base qb a p k) (n : Int) : Calls Tryz.prog 129 #[.pointer (some ⟨qb, 0, none⟩), .int .i64 n] w (Told base qb p (a.gone n) w) := by
  have hz := hA.lt
  obtain ⟨⟨c0, c1, c2, c3⟩, hf⟩ := hA.cells
  obtain ⟨l, qc, qp, qm⟩ := a
  have hf0 := hf 0
  have hlen := hA.own.len
  have hmx := hA.own.max
  unfold maxLen at hmx
  clear hf
  simp only at *
  cases l with
  | nil =>
    have hq : Hid (Qu.gone ⟨[], qc, qp, qm⟩ n = (⟨[], qc, qp, qm⟩, false)) := Lib.hid rfl
    go_enter Tryz.func129, Tryz.ntmps129
    go_wp2
    go_ret
    rw [hq.out]
    exact told_of_kept hA ⟨rfl, by repeat' (first | (with_reducible exact Below.refl _ _) | (with_reducible assumption) | (with_reducible refine kept_alloc ?_ _) | (with_reducible refine kept_drewN ?_ _) | (with_reducible refine Below.drew ?_) | (with_reducible refine Below.setCell ?_ (by first | omega | (simp; omega) | (simp; done)) _) | (refine kept_trans ?_ (by with_reducible assumption)))⟩
  | cons v r =>
    obtain ⟨g, o, hp⟩ : ∃ g o, p = some ⟨g, o, none⟩ := by obtain ⟨g, o, _, h, _⟩ := hA.own; exact ⟨g, o, h⟩
    subst hp
    have ch := hA.own.head
    have hne : g ≠ qb := hA.ne _ rfl
    obtain ⟨N, hN⟩ : ∃ N, (v :: r).length = N := ⟨_, rfl⟩
    have hNr : r.length + 1 = N := hN
    rw [hN] at c0 hlen
    have h0 : ((N : Int) == 0) = false := by simp; omega
    have h1 : (0 : Int) < (N : Int) := by omega
    have h2 : (1 : Int) ≤ (N : Int) := by omega
    have h3 : (N : Int) ≤ (k : Int) := by omega
    have hNh := Lib.hid hN
    have hNr' := Lib.hid hNr
    clear hN hNr
    cases hv : (v != n)
    · obtain rfl : v = n := by simpa using hv
      have hq : Hid (Qu.gone ⟨v :: r, qc, qp, qm⟩ v = (⟨r, qc, qp, qm⟩, true)) := Lib.hid (by simp [Qu.gone, Qu.with])
      by_cases hk3 : k = 1
      · subst hk3
        obtain rfl : N = 1 := by omega
        go_enter Tryz.func129, Tryz.ntmps129
        go_wp2
        go_ret
        rw [hq.out]
        have hrl : r.length = 0 := by have := hNr'.out; omega
        have hT : Ov w base r (some ⟨g, o, none⟩) 0 := hA.own.tail (x := ⟨g, o, none⟩) (fun h => absurd h (by omega)) (fun _ => rfl)
        have hS := At.setVals (a := ⟨v :: r, qc, qp, qm⟩) hA.obj hA.ge hT hA.ne
        rw [hrl] at hS
        exact ⟨rfl, _, _, hS, (Chg.refl qb _ w).set (x := ⟨qb, 0, none⟩) rfl _, fun x hx => .inl ⟨_, rfl, by cases hx; rfl⟩⟩
      · have hk4 : ((1 : Int) == (k : Int)) = false := by simp; omega
        go_enter Tryz.func129, Tryz.ntmps129
        go_wp2
        go_ret
        rw [hq.out]
        have hrl : r.length = N - 1 := by have := hNr'.out; omega
        have hT : Ov w base r (some ⟨g, o + 1, none⟩) (k - 1) := hA.own.tail (x := ⟨g, o + 1, none⟩) (fun _ => rfl) (fun h => absurd h (by omega))
        have hS := At.setVals (a := ⟨v :: r, qc, qp, qm⟩) hA.obj hA.ge hT (fun x hx => by cases hx; exact hne)
        rw [hrl] at hS
        exact ⟨rfl, _, _, hS, (Chg.refl qb _ w).set (x := ⟨qb, 0, none⟩) rfl _, fun x hx => .inl ⟨_, rfl, by cases hx; rfl⟩⟩
    · have hn : v ≠ n := by simpa using hv
      have hq : Hid (Qu.gone ⟨v :: r, qc, qp, qm⟩ n = (⟨v :: r, qc, qp, qm⟩, false)) := Lib.hid (by simp [Qu.gone, hn])
      clear hn
      go_enter Tryz.func129, Tryz.ntmps129
      go_wp2
      go_ret
      rw [hq.out]
      exact told_of_kept hA ⟨rfl, by repeat' (first | (with_reducible exact Below.refl _ _) | (with_reducible assumption) | (with_reducible refine kept_alloc ?_ _) | (with_reducible refine kept_drewN ?_ _) | (with_reducible refine Below.drew ?_) | (with_reducible refine Below.setCell ?_ (by first | omega | (simp; omega) | (simp; done)) _) | (refine kept_trans ?_ (by with_reducible assumption)))⟩

theorem Told.after {base qb : Nat} {p : Option Addr} {r : Qu × Bool} {w w1 : World} {e : Ending} {w' : World} (hk : Below w.heap.size w w1) (h : Told base qb p r w1 e w') : Told base qb p r w e w' := by
  obtain ⟨he, p', k', h1, h2, h3⟩ := h
  exact ⟨he, p', k', h1, Chg.after hk h2, fun x hx => (h3 x hx).imp id (fun h => Nat.le_trans hk.size h)⟩

set_option maxHeartbeats 1000000 in
theorem pgive_any (base qb : Nat) (a : Qu) (p : Option Addr) (k : Nat) (w : World) (hA : At w base qb a p k) (th ki va re go : Int) : Calls Tryz.prog 89 #[.pointer (some ⟨qb, 0, none⟩), .agg #[.int .i64 th, .int .i64 ki, .int .i64 va, .int .i64 re, .int .i64 go]] w (Told base qb p (if a.mode = 2 then (a, false) else a.gone go) w) := by
  have hz := hA.lt
  obtain ⟨⟨c0, c1, c2, c3⟩, -⟩ := hA.cells
  cases b0 : (a.mode != 2)
  · have h2 : a.mode = 2 := by simpa using b0
    have hq : Hid ((if a.mode = 2 then (a, false) else a.gone go) = (a, false)) := Lib.hid (by rw [if_pos h2])
    clear h2
    rw [hq.out]
    go_enter Tryz.func89, Tryz.ntmps89
    go_wp2
    go_ret
    exact told_of_kept hA ⟨rfl, by repeat' (first | (with_reducible exact Below.refl _ _) | (with_reducible assumption) | (with_reducible refine kept_alloc ?_ _) | (with_reducible refine kept_drewN ?_ _) | (with_reducible refine Below.drew ?_) | (with_reducible refine Below.setCell ?_ (by first | omega | (simp; omega) | (simp; done)) _) | (refine kept_trans ?_ (by with_reducible assumption)))⟩
  · have h2 : a.mode ≠ 2 := by simpa using b0
    have hq : Hid ((if a.mode = 2 then (a, false) else a.gone go) = a.gone go) := Lib.hid (by rw [if_neg h2])
    clear h2
    rw [hq.out]
    go_enter Tryz.func89, Tryz.ntmps89
    go_wp2_with ((go_at_call 129; refine (ptake_any base qb a p k _ (hA.kept (by repeat' (first | (with_reducible exact Below.refl _ _) | (with_reducible assumption) | (with_reducible refine kept_alloc ?_ _) | (with_reducible refine kept_drewN ?_ _) | (with_reducible refine Below.drew ?_) | (with_reducible refine Below.setCell ?_ (by first | omega | (simp; omega) | (simp; done)) _) | (refine kept_trans ?_ (by with_reducible assumption))))) _).mono ?_; rintro e wx hT; obtain ⟨rfl, hT2⟩ := hT))
    go_ret
    exact Told.after (by repeat' (first | (with_reducible exact Below.refl _ _) | (with_reducible assumption) | (with_reducible refine kept_alloc ?_ _) | (with_reducible refine kept_drewN ?_ _) | (with_reducible refine Below.drew ?_) | (with_reducible refine Below.setCell ?_ (by first | omega | (simp; omega) | (simp; done)) _) | (refine kept_trans ?_ (by with_reducible assumption)))) ⟨rfl, hT2⟩

set_option maxHeartbeats 1000000 in
theorem pevict_any (base qb : Nat) (a : Qu) (p : Option Addr) (k : Nat) (w : World) (hA : At w base qb a p k) (th ki va re go : Int) : Calls Tryz.prog 92 #[.pointer (some ⟨qb, 0, none⟩), .agg #[.int .i64 th, .int .i64 ki, .int .i64 va, .int .i64 re, .int .i64 go]] w (Told base qb p (if decide (a.mode = 0) && decide (a.cap ≤ (a.vals.length : Int)) && decide (a.pol = 2) then a.gone go else (a, false)) w) := by
  have hz := hA.lt
  obtain ⟨⟨c0, c1, c2, c3⟩, -⟩ := hA.cells
  cases b0 : (decide (a.mode = 0) && decide (a.cap ≤ (a.vals.length : Int)) && decide (a.pol = 2))
  · go_enter Tryz.func92, Tryz.ntmps92
    go_wp2_with ((go_at_call 128; refine (pturns_any qb a.vals a.cap a.pol a.mode p k _ (by first | assumption | (simp; omega)) (by first | assumption | (refine (World.cell?_alloc_past _ _ _ (by first | assumption | (simp; omega))).trans ?_; assumption)) (by first | assumption | (refine (World.cell?_alloc_past _ _ _ (by first | assumption | (simp; omega))).trans ?_; assumption)) (by first | assumption | (refine (World.cell?_alloc_past _ _ _ (by first | assumption | (simp; omega))).trans ?_; assumption)) (by first | assumption | (refine (World.cell?_alloc_past _ _ _ (by first | assumption | (simp; omega))).trans ?_; assumption)) _).mono ?_; rintro e wx ⟨rfl, hgx⟩; rw [b0]; obtain ⟨hcx, hfx⟩ := bcell hgx; have hz0 : w.heap.size < wx.heap.size := (by have := hgx.size; simp at this; omega)))
    go_ret
    exact told_of_kept hA ⟨rfl, by repeat' (first | (with_reducible exact Below.refl _ _) | (with_reducible assumption) | (with_reducible refine kept_alloc ?_ _) | (with_reducible refine kept_drewN ?_ _) | (with_reducible refine Below.drew ?_) | (with_reducible refine Below.setCell ?_ (by first | omega | (simp; omega) | (simp; done)) _) | (refine kept_trans ?_ (by with_reducible assumption)))⟩
  · go_enter Tryz.func92, Tryz.ntmps92
    go_wp2_with (first | (go_at_call 128; refine (pturns_any qb a.vals a.cap a.pol a.mode p k _ (by first | assumption | (simp; omega)) (by first | assumption | (refine (World.cell?_alloc_past _ _ _ (by first | assumption | (simp; omega))).trans ?_; assumption)) (by first | assumption | (refine (World.cell?_alloc_past _ _ _ (by first | assumption | (simp; omega))).trans ?_; assumption)) (by first | assumption | (refine (World.cell?_alloc_past _ _ _ (by first | assumption | (simp; omega))).trans ?_; assumption)) (by first | assumption | (refine (World.cell?_alloc_past _ _ _ (by first | assumption | (simp; omega))).trans ?_; assumption)) _).mono ?_; rintro e wx ⟨rfl, hgx⟩; rw [b0]; obtain ⟨hcx, hfx⟩ := bcell hgx; have hz0 : w.heap.size < wx.heap.size := (by have := hgx.size; simp at this; omega)) | (go_at_call 129; refine (ptake_any base qb a p k _ (hA.kept (by repeat' (first | (with_reducible exact Below.refl _ _) | (with_reducible assumption) | (with_reducible refine kept_alloc ?_ _) | (with_reducible refine kept_drewN ?_ _) | (with_reducible refine Below.drew ?_) | (with_reducible refine Below.setCell ?_ (by first | omega | (simp; omega) | (simp; done)) _) | (refine kept_trans ?_ (by with_reducible assumption))))) _).mono ?_; rintro e wy hT; obtain ⟨rfl, hT2⟩ := hT))
    go_ret
    exact Told.after (by repeat' (first | (with_reducible exact Below.refl _ _) | (with_reducible assumption) | (with_reducible refine kept_alloc ?_ _) | (with_reducible refine kept_drewN ?_ _) | (with_reducible refine Below.drew ?_) | (with_reducible refine Below.setCell ?_ (by first | omega | (simp; omega) | (simp; done)) _) | (refine kept_trans ?_ (by with_reducible assumption)))) ⟨rfl, hT2⟩

set_option maxHeartbeats 1000000 in
theorem pdrain_any (base qb : Nat) (a : Qu) (p : Option Addr) (k : Nat) (w : World) (hA : At w base qb a p k) (th ki va re go : Int) : Calls Tryz.prog 93 #[.pointer (some ⟨qb, 0, none⟩), .agg #[.int .i64 th, .int .i64 ki, .int .i64 va, .int .i64 re, .int .i64 go]] w (Told base qb p (⟨a.vals, a.cap, a.pol, drainI a.mode⟩, true) w) := by
  have hz := hA.lt
  obtain ⟨⟨c0, c1, c2, c3⟩, hf⟩ := hA.cells
  have hf3 := hf 3
  clear hf
  obtain ⟨l, qc, qp, qm⟩ := a
  simp only at *
  cases b0 : (qm == 0)
  · have h2 : qm ≠ 0 := by simpa using b0
    have hq : Hid (drainI qm = qm) := Lib.hid (by simp [drainI, h2])
    clear h2
    go_enter Tryz.func93, Tryz.ntmps93
    go_wp2
    go_ret
    rw [hq.out]
    exact told_of_kept hA ⟨rfl, by repeat' (first | (with_reducible exact Below.refl _ _) | (with_reducible assumption) | (with_reducible refine kept_alloc ?_ _) | (with_reducible refine kept_drewN ?_ _) | (with_reducible refine Below.drew ?_) | (with_reducible refine Below.setCell ?_ (by first | omega | (simp; omega) | (simp; done)) _) | (refine kept_trans ?_ (by with_reducible assumption)))⟩
  · have h2 : qm = 0 := by simpa using b0
    have hq : Hid (drainI qm = 1) := Lib.hid (by simp [drainI, h2])
    clear h2
    go_enter Tryz.func93, Tryz.ntmps93
    go_wp2
    go_ret
    rw [hq.out]
    exact ⟨rfl, _, _, (hA.setMode 1).kept ((Below.refl _ _).alloc (Nat.le_refl _) _), ((Chg.refl qb p w).set (x := ⟨qb, 3, none⟩) rfl _).then ((Below.refl _ _).alloc (Nat.le_refl _) _), fun x hx => .inl ⟨_, hx, rfl⟩⟩

set_option maxHeartbeats 1000000 in
theorem phalt_any (base qb : Nat) (a : Qu) (p : Option Addr) (k : Nat) (w : World) (hA : At w base qb a p k) (th ki va re go : Int) : Calls Tryz.prog 94 #[.pointer (some ⟨qb, 0, none⟩), .agg #[.int .i64 th, .int .i64 ki, .int .i64 va, .int .i64 re, .int .i64 go]] w (Told base qb p (⟨a.vals, a.cap, a.pol, 2⟩, true) w) := by
  have hz := hA.lt
  obtain ⟨⟨c0, c1, c2, c3⟩, hf⟩ := hA.cells
  have hf3 := hf 3
  clear hf
  obtain ⟨l, qc, qp, qm⟩ := a
  simp only at *
  go_enter Tryz.func94, Tryz.ntmps94
  go_wp2
  go_ret
  exact ⟨rfl, _, _, (hA.setMode 2).kept ((Below.refl _ _).alloc (Nat.le_refl _) _), ((Chg.refl qb p w).set (x := ⟨qb, 3, none⟩) rfl _).then ((Below.refl _ _).alloc (Nat.le_refl _) _), fun x hx => .inl ⟨_, hx, rfl⟩⟩
end Go.Proofs.YtkflpaicohbppaaGreat

/- Contract of the program's own function of layer 3 that lets in. -/
namespace Go.Proofs.YtkflpaicohbppaaGreat
set_option linter.unusedVariables false
set_option linter.unusedSimpArgs false
open Go.ChangeShapes Go.WideShapes Go.ChangeAt Go.RowKit

set_option maxHeartbeats 1000000 in
theorem pletin_no (base qb : Nat) (a : Qu) (p : Option Addr) (k : Nat) (w : World) (hA : At w base qb a p k) (th ki va re go : Int) (h : a.mode ≠ 0 ∨ a.cap ≤ a.vals.length) : Calls Tryz.prog 83 #[.pointer (some ⟨qb, 0, none⟩), .agg #[.int .i64 th, .int .i64 ki, .int .i64 va, .int .i64 re, .int .i64 go]] w (Told base qb p (a, false) w) := by
  have hz := hA.lt
  obtain ⟨⟨c0, c1, c2, c3⟩, -⟩ := hA.cells
  cases b0 : (a.mode != 0)
  · have h2 : a.mode = 0 := by simpa using b0
    have h3 : decide (a.cap ≤ (a.vals.length : Int)) = true := by simp; omega
    clear h h2
    go_enter Tryz.func83, Tryz.ntmps83
    go_wp2_with ((go_at_call 127; refine (pfull_any qb a.vals a.cap a.pol a.mode p k _ (by first | assumption | (simp; omega)) (by first | assumption | (refine (World.cell?_alloc_past _ _ _ (by first | assumption | (simp; omega))).trans ?_; assumption)) (by first | assumption | (refine (World.cell?_alloc_past _ _ _ (by first | assumption | (simp; omega))).trans ?_; assumption)) (by first | assumption | (refine (World.cell?_alloc_past _ _ _ (by first | assumption | (simp; omega))).trans ?_; assumption)) (by first | assumption | (refine (World.cell?_alloc_past _ _ _ (by first | assumption | (simp; omega))).trans ?_; assumption))).mono ?_; rintro e wx ⟨rfl, hgx⟩; rw [h3]))
    go_ret
    exact told_of_kept hA ⟨rfl, by repeat' (first | (with_reducible exact Below.refl _ _) | (with_reducible assumption) | (with_reducible refine kept_alloc ?_ _) | (with_reducible refine kept_drewN ?_ _) | (with_reducible refine Below.drew ?_) | (with_reducible refine Below.setCell ?_ (by first | omega | (simp; omega) | (simp; done)) _) | (refine kept_trans ?_ (by with_reducible assumption)))⟩
  · clear h
    go_enter Tryz.func83, Tryz.ntmps83
    go_wp2
    go_ret
    exact told_of_kept hA ⟨rfl, by repeat' (first | (with_reducible exact Below.refl _ _) | (with_reducible assumption) | (with_reducible refine kept_alloc ?_ _) | (with_reducible refine kept_drewN ?_ _) | (with_reducible refine Below.drew ?_) | (with_reducible refine Below.setCell ?_ (by first | omega | (simp; omega) | (simp; done)) _) | (refine kept_trans ?_ (by with_reducible assumption)))⟩

theorem step_ov {P : Program} {ops : Array Oper} {o : Oper} {a : Act} {w w2 : World} {K : Act → World → Prop} {Q : Exit → Act → World → Prop} {E : Prop} (hgd : o.guard = none) (s x : Operand) (t : TypeId)
    (ho : o.op = .call { callee := .builtin .append, args := #[s, x], argTypes := #[t, t] }) {v u r : Value} (hs : a.eval s = v) (hx : a.eval x = u) (hrun : (Builtin.append_ #[t, t] o.type #[v, u]).run P w = .ok r w2)
    (h : K (a.put o.dst r) w2) : if Region.wanted o (yielded ops a.tmps) = true then Oper.wp P o a w K Q else E := by
  rw [if_pos (by simp [Region.wanted, hgd])]
  unfold Oper.wp
  simp [execOp, ho, resolve, invoke, builtin, hs, hx, hrun, Result.andThen]
  exact h

set_option maxHeartbeats 1000000 in
theorem pletin_yes (base qb : Nat) (a : Qu) (p : Option Addr) (k : Nat) (w : World) (hA : At w base qb a p k) (th ki va re go : Int) (h0 : a.mode = 0) (h1 : (a.vals.length : Int) < a.cap) (hm : a.vals.length ≤ 1000) : Calls Tryz.prog 83 #[.pointer (some ⟨qb, 0, none⟩), .agg #[.int .i64 th, .int .i64 ki, .int .i64 va, .int .i64 re, .int .i64 go]] w (Told base qb p (a.with (a.vals ++ [va]), true) w) := by
  have hz := hA.lt
  obtain ⟨⟨c0, c1, c2, c3⟩, hf⟩ := hA.cells
  have hf0 := hf 0
  clear hf
  have h3 : decide (a.cap ≤ (a.vals.length : Int)) = false := by simp; omega
  have b0 : (a.mode != 0) = false := by simp [h0]
  clear h0 h1
  go_enter Tryz.func83, Tryz.ntmps83
  go_wp2_with ((go_at_call 127; refine (pfull_any qb a.vals a.cap a.pol a.mode p k _ (by first | assumption | (simp; omega)) (by first | assumption | (refine (World.cell?_alloc_past _ _ _ (by first | assumption | (simp; omega))).trans ?_; assumption)) (by first | assumption | (refine (World.cell?_alloc_past _ _ _ (by first | assumption | (simp; omega))).trans ?_; assumption)) (by first | assumption | (refine (World.cell?_alloc_past _ _ _ (by first | assumption | (simp; omega))).trans ?_; assumption)) (by first | assumption | (refine (World.cell?_alloc_past _ _ _ (by first | assumption | (simp; omega))).trans ?_; assumption))).mono ?_; rintro e wx ⟨rfl, hgx⟩; rw [h3]))
  have hA' : At wx base qb a p k := (hA.kept (w' := w.alloc (.cells #[.int .i64 th, .int .i64 ki, .int .i64 va, .int .i64 re, .int .i64 go] 51)) (by repeat' (first | (with_reducible exact Below.refl _ _) | (with_reducible assumption) | (with_reducible refine kept_alloc ?_ _) | (with_reducible refine kept_drewN ?_ _) | (with_reducible refine Below.drew ?_) | (with_reducible refine Below.setCell ?_ (by first | omega | (simp; omega) | (simp; done)) _) | (refine kept_trans ?_ (by with_reducible assumption))))).kept hgx
  have d0 := hA'.cells.1.1
  have f0 := hA'.cells.2 0
  have d2 : wx.cell? ⟨w.heap.size, 2, none⟩ = some (.int .i64 va) := (hgx.cell (p := ⟨w.heap.size, 2, none⟩) (by simp)).trans (by simp)
  have hz1 := hA'.lt
  have hz2 : w.heap.size < wx.heap.size := by have := hgx.size; simp at this; omega
  obtain ⟨p', k', w2, hrun, hO, hC, hpb⟩ := run_append_ov (P := Tryz.prog) (wx.alloc (.cells #[.int .i64 va] 3)).drew 27 27 Tryz.underlying27 int_info (hA'.own.kept (w' := (wx.alloc (.cells #[.int .i64 va] 3)).drew) ((Below.refl _ _).alloc (Nat.le_refl _) _).drew) va ⟨wx.heap.size, 0, none⟩ 1 (by simp) hm (by have := hA'.ge; simp; omega)
  have hC1 : Chg qb p w w2 := Chg.after (by repeat' (first | (with_reducible exact Below.refl _ _) | (with_reducible assumption) | (with_reducible refine kept_alloc ?_ _) | (with_reducible refine kept_drewN ?_ _) | (with_reducible refine Below.drew ?_) | (with_reducible refine Below.setCell ?_ (by first | omega | (simp; omega) | (simp; done)) _) | (refine kept_trans ?_ (by with_reducible assumption)))) (hC qb)
  have hob : w2.heap[qb]? = _ := ((hC (qb + 1)).block qb (by simp; omega) (by omega) (fun x hx => (hA'.ne x hx).symm)).trans ((Below.heap_alloc wx _ qb hz1).trans hA'.obj)
  have e0 : w2.cell? ⟨qb, 0, none⟩ = some (.slice p a.vals.length k) := by simp [World.cell?, hob]
  have e1 : w2.frozen? ⟨qb, 0, none⟩ = false := by simp [World.frozen?, hob]
  have hne : ∀ x, p' = some x → x.block ≠ qb := fun x hx => by
    rcases hpb x hx with ⟨y, hy, e⟩ | h
    · rw [e]; exact hA'.ne y hy
    · simp at h; omega
  have hS := At.setVals (a := a) hob hA'.ge hO hne
  have hpb' : ∀ x, p' = some x → (∃ y, p = some y ∧ x.block = y.block) ∨ w.heap.size ≤ x.block := fun x hx => (hpb x hx).imp id (fun h => by simp at h; omega)
  have hl : (a.vals ++ [va]).length = a.vals.length + 1 := by simp
  rw [hl] at hS
  have hS' := Lib.hid hS
  have hl' := Lib.hid hl
  have hob' := Lib.hid hob
  clear hC hO hob hpb hS hl hne
  go_region_law ((refine step_ov (by rfl) _ _ 27 (by rfl) (by rfl) (by rfl) hrun ?_))
  all_goals go_wp2
  all_goals go_ret
  all_goals exact ⟨rfl, _, _, hS'.out, hC1.set (x := ⟨qb, 0, none⟩) rfl _, hpb'⟩
theorem pletin_any (base qb : Nat) (a : Qu) (p : Option Addr) (k : Nat) (w : World) (hA : At w base qb a p k) (th ki va re go : Int) (hm : a.vals.length ≤ 1000) : Calls Tryz.prog 83 #[.pointer (some ⟨qb, 0, none⟩), .agg #[.int .i64 th, .int .i64 ki, .int .i64 va, .int .i64 re, .int .i64 go]] w (Told base qb p (if decide (a.mode ≠ 0) || a.full then (a, false) else (a.with (a.vals ++ [va]), true)) w) := by
  by_cases h0 : a.mode = 0
  · by_cases h1 : (a.vals.length : Int) < a.cap
    · have : (if decide (a.mode ≠ 0) || a.full then (a, false) else (a.with (a.vals ++ [va]), true)) = (a.with (a.vals ++ [va]), true) := by rw [if_neg]; simp [h0, Qu.full]; omega
      rw [this]
      exact pletin_yes base qb a p k w hA th ki va re go h0 h1 hm
    · have : (if decide (a.mode ≠ 0) || a.full then (a, false) else (a.with (a.vals ++ [va]), true)) = (a, false) := by rw [if_pos]; simp [h0, Qu.full]; omega
      rw [this]
      exact pletin_no base qb a p k w hA th ki va re go (.inr (by omega))
  · have : (if decide (a.mode ≠ 0) || a.full then (a, false) else (a.with (a.vals ++ [va]), true)) = (a, false) := by rw [if_pos]; simp [h0]
    rw [this]
    exact pletin_no base qb a p k w hA th ki va re go (.inl h0)
end Go.Proofs.YtkflpaicohbppaaGreat

/- The program's table of what may be told (layer 3): a map whose keys are structs of two numbers, looked up. -/
namespace Go.Proofs.YtkflpaicohbppaaGreat
set_option linter.unusedVariables false
set_option linter.unusedSimpArgs false
open Go.ChangeShapes Go.WideShapes Go.ChangeAt Go.RowKit

def keyV (s r : Int) : Value := .agg #[.int .i64 s, .int .i64 r]
def fnV (f : Nat) : Value := .func (.func f) #[] #[]
theorem keyV_inj {a b c d : Int} : keyV a b = keyV c d ↔ a = c ∧ b = d := by simp [keyV]

theorem key_equal (s r a b : Int) (w : World) : (Op.equal 120 (keyV s r) (keyV a b)).run Tryz.prog w = .ok (s == a && r == b) w := by
  have hu := Tryz.underlying120
  have h3 := Tryz.underlying3
  have hp : Tryz.prog.stoodInHeld 120 = false := by kernel_rfl
  have hc : Tryz.prog.info? 3 = _ := rfl
  unfold Op.equal keyV Op.maxDepth
  rw [run_equalIn_struct w 9999 _ _ _ (by unfold Program.fieldsOf; rw [hu]) hp]
  unfold Program.fieldsOf
  rw [hu]
  cases h : (s == a) <;> cases h2 : (r == b)
  all_goals simp [Op.eqFields, part, isAgg, run_underlying h3, run_equalIn_int _ _ _ _ _ _ _ h3, h, h2]

theorem key_check1 (s r : Int) (e : Bool) (n : Nat) (w : World) : (Instr.checkKey e (n + 2) 120 (keyV s r)).run Tryz.prog w = .ok () w := by
  have hu := Tryz.underlying120
  have h3 := Tryz.underlying3
  unfold keyV
  simp [Instr.checkKey, run_underlying hu, part, isAgg, run_underlying h3]
theorem key_check (s r : Int) (e : Bool) (w : World) : (Instr.checkKey e 10000 120 (keyV s r)).run Tryz.prog w = .ok () w := key_check1 s r e 9998 w

theorem key_find (s r : Int) (w : World) : ∀ (es : List MapEntry) (i : Nat), (∀ e ∈ es, ∃ a b, e.key = keyV a b) →
    ((Instr.findAsking 120 (keyV s r) es i).run Tryz.prog w = .ok none w ∧ ∀ e ∈ es, e.key ≠ keyV s r) ∨
    ∃ j e, (Instr.findAsking 120 (keyV s r) es i).run Tryz.prog w = .ok (some (j, e.val)) w ∧ e ∈ es ∧ e.key = keyV s r
  | [], i, _ => .inl ⟨by simp [Instr.findAsking], by simp⟩
  | e :: es, i, h => by
    obtain ⟨a, b, hk⟩ := h e (by simp)
    have he := key_equal s r a b w
    cases hc : (s == a && r == b)
    · have hne : e.key ≠ keyV s r := by
        rw [hk]; intro h'; rw [keyV_inj] at h'; simp [h'.1, h'.2] at hc
      rcases key_find s r w es (i + 1) (fun e he => h e (by simp [he])) with ⟨h1, h2⟩ | ⟨j, e', h1, h2, h3⟩
      · left
        refine ⟨by simp [Instr.findAsking, hk, he, hc, h1], fun y hy => ?_⟩
        rcases List.mem_cons.1 hy with rfl | hy
        · exact hne
        · exact h2 y hy
      · exact .inr ⟨j, e', by simp [Instr.findAsking, hk, he, hc, h1], by simp [h2], h3⟩
    · refine .inr ⟨i, e, by simp [Instr.findAsking, hk, he, hc], by simp, ?_⟩
      rw [hk, keyV_inj]
      simp at hc
      exact ⟨hc.1.symm, hc.2.symm⟩

theorem key_wide : (match Tryz.prog.underlying 120 with | some (.array _ _) | some (.struct _) => true | _ => false) = true := by rw [Tryz.underlying120]

/-- What may be told, by the sort of its kind and its result. -/
def ruleTab : List (Int × Int × Nat) := [(1, 1, 83), (1, 2, 84), (1, 3, 85), (1, 5, 86), (1, 6, 87), (1, 7, 88),
  (4, 1, 89), (4, 4, 90), (4, 5, 86), (4, 6, 91), (4, 7, 88), (9, 1, 92), (7, 1, 93), (8, 1, 94)]
def keyAt (i : Nat) : Value := keyV (ruleTab.getD i (0, 0, 0)).1 (ruleTab.getD i (0, 0, 0)).2.1
def fnAt (i : Nat) : Value := fnV (ruleTab.getD i (0, 0, 0)).2.2
theorem keyAt_inj : ∀ i, i < 14 → ∀ j, j < 14 → ((ruleTab.getD i (0, 0, 0)).1 = (ruleTab.getD j (0, 0, 0)).1 ∧ (ruleTab.getD i (0, 0, 0)).2.1 = (ruleTab.getD j (0, 0, 0)).2.1) → i = j := by decide
/-- Entries are those that are listed, each where its key is. -/
def Listed (ok : Nat → Bool) (es : List MapEntry) : Prop := (∀ e ∈ es, ∃ i, i < 14 ∧ ok i = true ∧ e.key = keyAt i ∧ e.val = fnAt i) ∧ ∀ i, i < 14 → ok i = true → ∃ e ∈ es, e.key = keyAt i
theorem Listed.keys {ok : Nat → Bool} {es : List MapEntry} (h : Listed ok es) : ∀ e ∈ es, ∃ a b, e.key = keyV a b := fun e he => by
  obtain ⟨i, _, _, hk, _⟩ := h.1 e he
  exact ⟨_, _, hk⟩

/-- The block mb is the table. -/
def RulesAt (w : World) (mb : Nat) : Prop := ∃ es ck, w.heap[mb]? = some (.map es ck) ∧ Listed (fun _ => true) es.toList
theorem RulesAt.kept {w w' : World} {mb : Nat} (h : RulesAt w mb) (hk : w'.heap[mb]? = w.heap[mb]?) : RulesAt w' mb := by
  obtain ⟨es, ck, h1, h2⟩ := h
  exact ⟨es, ck, hk.trans h1, h2⟩
theorem RulesAt.lt {w : World} {mb : Nat} (h : RulesAt w mb) : mb < w.heap.size := by
  obtain ⟨es, ck, h1, h2⟩ := h
  exact (Array.getElem?_eq_some_iff.1 h1).1

def lookV : Option (Nat × Value) → Value
  | some (_, v) => .tuple #[v, .bool true]
  | none => .tuple #[.nilFunc, .bool false]
set_option maxRecDepth 100000 in
theorem rules_run {w : World} {mb : Nat} {es : Array MapEntry} {ck : Nat} (h1 : w.heap[mb]? = some (.map es ck)) (s r : Int) (x : Option (Nat × Value)) (hx : (Instr.findAsking 120 (keyV s r) es.toList).run Tryz.prog w = .ok x w) :
    (Instr.lookup 88 (.map (some mb)) (keyV s r) true).run Tryz.prog w = .ok (lookV x) w := by
  have hu := Tryz.underlying88
  have hf := (run_findKey_eq (P := Tryz.prog) w key_wide (keyV s r) es.toList).trans hx
  have hc := key_check s r es.isEmpty w
  have hzz : (zeroValue 117).run Tryz.prog w = .ok .nilFunc w := by kernel_rfl
  simp only [Instr.lookup, Sem.run_bind, run_underlying hu, Result.andThen_ok]
  have hg : (getObj mb).run Tryz.prog w = .ok (.map es ck) w := MapKept.run_getObj_map h1
  cases x with
  | none => simp [hg, hc, hf, hzz, lookV]
  | some y => simp [hg, hc, hf, hzz, lookV]
/-- The table is asked. -/
theorem rules_look {w : World} {mb : Nat} (h : RulesAt w mb) (s r : Int) :
    (∃ i, i < 14 ∧ keyV s r = keyAt i ∧ (Instr.lookup 88 (.map (some mb)) (keyV s r) true).run Tryz.prog w = .ok (.tuple #[fnAt i, .bool true]) w) ∨
    (∀ i, i < 14 → keyV s r ≠ keyAt i) ∧ (Instr.lookup 88 (.map (some mb)) (keyV s r) true).run Tryz.prog w = .ok (.tuple #[.nilFunc, .bool false]) w := by
  obtain ⟨es, ck, h1, h2⟩ := h
  rcases key_find s r w es.toList 0 h2.keys with ⟨h3, h4⟩ | ⟨j, e, h3, h4, h5⟩
  · right
    refine ⟨fun i hi hk => ?_, rules_run h1 s r none h3⟩
    obtain ⟨e, he, hek⟩ := h2.2 i hi rfl
    exact h4 e he (hek.trans hk.symm)
  · left
    obtain ⟨i, hi, _, hk, hv⟩ := h2.1 e h4
    exact ⟨i, hi, h5.symm.trans hk, by rw [rules_run h1 s r _ h3, lookV, hv]⟩

set_option maxRecDepth 100000 in
/-- One more is listed. -/
theorem rules_put {w : World} {mb : Nat} {es : Array MapEntry} {ck : Nat} {ok : Nat → Bool} (h1 : w.heap[mb]? = some (.map es ck)) (h2 : Listed ok es.toList) (i : Nat) (hi : i < 14) (hk : ok i = false) :
    ∃ w' es' ck', (Instr.mapUpdate 88 (.map (some mb)) (keyAt i) (fnAt i)).run Tryz.prog w = .ok () w' ∧ w'.heap[mb]? = some (.map es' ck') ∧ Listed (fun j => ok j || j == i) es'.toList ∧
      w'.os = w.os ∧ w'.tape = w.tape ∧ w'.output = w.output ∧ w'.heap.size = w.heap.size ∧ ∀ j, j ≠ mb → w'.heap[j]? = w.heap[j]? := by
  have hu := Tryz.underlying88
  have hlt : mb < w.heap.size := (Array.getElem?_eq_some_iff.1 h1).1
  have hno : (Instr.findKey 120 (keyAt i) es.toList).run Tryz.prog w = .ok none w := by
    refine (run_findKey_eq (P := Tryz.prog) w key_wide (keyAt i) es.toList).trans ?_
    rcases key_find _ _ w es.toList 0 h2.keys with ⟨h3, _⟩ | ⟨j, e, h3, h4, h5⟩
    · exact h3
    · obtain ⟨j', hj', hok, hkk, _⟩ := h2.1 e h4
      have : keyAt j' = keyAt i := hkk.symm.trans h5
      rw [keyAt, keyAt, keyV_inj] at this
      have := keyAt_inj j' hj' i hi this
      subst this
      rw [hk] at hok; cases hok
  have hc := key_check (ruleTab.getD i (0, 0, 0)).1 (ruleTab.getD i (0, 0, 0)).2.1 false w
  refine ⟨{ w with heap := w.heap.setIfInBounds mb (.map (es.push { key := keyAt i, val := fnAt i, born := ck }) (ck + 1)) }, es.push { key := keyAt i, val := fnAt i, born := ck }, ck + 1, ?_, ?_, ⟨fun e he => ?_, fun j hj hok => ?_⟩, rfl, rfl, rfl, by simp, fun j hj => ?_⟩
  · have hc' : (Instr.checkKey false 10000 120 (keyAt i)).run Tryz.prog w = .ok () w := hc
    have hg := MapKept.run_getObj_map (P := Tryz.prog) h1
    have hs := MapKept.run_setObj_map (P := Tryz.prog) (.map (es.push { key := keyAt i, val := fnAt i, born := ck }) (ck + 1)) h1
    simp [Instr.mapUpdate, run_underlying hu, hg, hc', hno, hs]
  · simp [hlt]
  · simp only [Array.toList_push, List.mem_append, List.mem_singleton] at he
    rcases he with he | rfl
    · obtain ⟨j, hj, hok, h5⟩ := h2.1 e he
      exact ⟨j, hj, by simp [hok], h5⟩
    · exact ⟨i, hi, by simp, rfl, rfl⟩
  · simp only [Array.toList_push, List.mem_append, List.mem_singleton]
    by_cases hji : j = i
    · subst hji
      exact ⟨_, .inr rfl, rfl⟩
    · obtain ⟨e, he, hek⟩ := h2.2 j hj (by simpa [hji] using hok)
      exact ⟨e, .inl he, hek⟩
  · simp [Array.getElem?_setIfInBounds, Ne.symm hj]
end Go.Proofs.YtkflpaicohbppaaGreat

/- The program's table of what may be told (layer 3) is made: its rows are laid in whatever order. -/
namespace Go.Proofs.YtkflpaicohbppaaGreat
set_option linter.unusedVariables false
set_option linter.unusedSimpArgs false
open Go.ChangeShapes Go.WideShapes Go.ChangeAt Go.RowKit

theorem Listed.congr {ok ok' : Nat → Bool} {es : List MapEntry} (h : Listed ok es) (e : ∀ i, i < 14 → ok i = ok' i) : Listed ok' es :=
  ⟨fun x hx => by obtain ⟨i, hi, h1, h2⟩ := h.1 x hx; exact ⟨i, hi, (e i hi).symm.trans h1, h2⟩, fun i hi h1 => h.2 i hi ((e i hi).trans h1)⟩

/-- What stands while the rows are laid. -/
def Laying (W : World) (listed : Array Bool) (a : Act) (w : World) : Prop :=
  Below W.heap.size W w ∧ a.tmps.size = 17 ∧ a.defers = [] ∧ (∀ k, k < 14 → listed.getD (2 * k + 1) true = true → a.tmps[k + 2]? = some (keyAt k)) ∧
  (listed.getD 0 true = true → ∃ mb es ck, W.heap.size ≤ mb ∧ a.tmps[1]? = some (.map (some mb)) ∧ w.heap[mb]? = some (.map es ck) ∧ Listed (fun k => listed.getD (2 * k + 2) true) es.toList ∧
    (listed.getD 29 true = true → a.tmps[16]? = some (.map (some mb))) ∧ (listed.getD 30 true = true → a.tmps[0]? = some (.map (some mb)))) ∧
  (listed.getD 0 true = false → (∀ k, k < 14 → listed.getD (2 * k + 2) true = false) ∧ listed.getD 29 true = false ∧ listed.getD 30 true = false)

/-- How the table's rows stand in the text. -/
structure TabOps (l : List Oper) : Prop where
  len : l.length = 31
  make : ∃ o, l[0]? = some o ∧ o.guard = none ∧ o.dst = some 1 ∧ o.op = .makeMap 88 none
  key : ∀ k, k < 14 → ∃ o, l[2 * k + 1]? = some o ∧ o.guard = none ∧ o.dst = some (k + 2) ∧ o.op = .build 120 #[(0, .const (.int .i64 (ruleTab.getD k (0, 0, 0)).1)), (1, .const (.int .i64 (ruleTab.getD k (0, 0, 0)).2.1))]
  row : ∀ k, k < 14 → ∃ o, l[2 * k + 2]? = some o ∧ o.guard = none ∧ o.dst = none ∧ o.op = .insert 88 (.tmp 1) (.tmp (k + 2)) (.func (ruleTab.getD k (0, 0, 0)).2.2) ∧
    (∃ e ∈ o.after, Region.binds .any e = true ∧ e.on = 0) ∧ ∃ e ∈ o.after, Region.binds .any e = true ∧ e.on = 2 * k + 1
  move : ∃ o, l[29]? = some o ∧ o.guard = none ∧ o.dst = some 16 ∧ o.op = .move (.tmp 1) ∧ ∃ e ∈ o.after, Region.binds .any e = true ∧ e.on = 0
  last : ∃ o, l[30]? = some o ∧ o.guard = none ∧ o.dst = some 0 ∧ o.op = .assign (.tmp 16) ∧ (∃ e ∈ o.after, Region.binds .any e = true ∧ e.on = 0) ∧ ∃ e ∈ o.after, Region.binds .any e = true ∧ e.on = 29

theorem run_build_key (s r : Int) (w : World) : (Instr.build 120 #[(0, .int .i64 s), (1, .int .i64 r)]).run Tryz.prog w = .ok (keyV s r) w := by
  kernel_rfl

theorem getD_set_self {listed : Array Bool} {i : Nat} (h : i < listed.size) : (listed.setIfInBounds i true).getD i true = true := by simp [Array.getD, h]
theorem getD_set_other {listed : Array Bool} {i j : Nat} (h : j ≠ i) : (listed.setIfInBounds i true).getD j true = listed.getD j true := by
  by_cases hj : j < listed.size
  · simp [Array.getD, hj, Array.getElem_setIfInBounds, Ne.symm h]
  · simp [Array.getD, hj]
theorem getD_true {listed : Array Bool} {j : Nat} (h : listed.getD j false = true) : listed.getD j true = true := by
  by_cases hj : j < listed.size
  · simpa [Array.getD, hj] using h
  · simp [Array.getD, hj]

theorem put_other {a : Act} {d : Nat} {v : Value} {j : Nat} (h : j ≠ d) : (a.put (some d) v).tmps[j]? = a.tmps[j]? := by simp [Act.put, Array.getElem?_setIfInBounds, Ne.symm h]
theorem put_self {a : Act} {d : Nat} {v : Value} (h : d < a.tmps.size) : (a.put (some d) v).tmps[d]? = some v := by simp [Act.put, h]
theorem eval_tmp {a : Act} {t : Nat} {v : Value} (h : a.tmps[t]? = some v) : a.eval (.tmp t) = v := by simp [Act.eval, h]

theorem laying_step {W : World} {l : List Oper} (T : TabOps l) {Q : Exit → Act → World → Prop} (listed : Array Bool) (a : Act) (w : World) (i : Nat) (o : Oper) (hs : listed.size = l.length) (hI : Laying W listed a w) (hi : l[i]? = some o)
    (hn : listed.getD i true = false) (hw : ∀ e ∈ o.after, Region.binds .any e = true → listed.getD e.on false = true) : wpOp Tryz.prog l.toArray Q i (Laying W (listed.setIfInBounds i true)) a w := by
  obtain ⟨hB, hz, hd, hkey, hmap, hnot⟩ := hI
  rw [T.len] at hs
  have hil : i < 31 := by have := (List.getElem?_eq_some_iff.1 hi).1; rw [T.len] at this; exact this
  by_cases h0 : i = 0
  · subst h0
    obtain ⟨o', ho, hg, hdst, hop⟩ := T.make
    obtain rfl : o' = o := Option.some.inj (ho.symm.trans hi)
    have hnot' := hnot hn
    refine wpOp_value (v := .map (some w.heap.size)) (w' := w.alloc (.map #[] 0)) hi hg ?_ ?_
    · simp [execOp, hop, run_makeMap]
    · rw [hdst]
      refine ⟨hB.alloc hB.size _, by simpa [Act.put] using hz, hd, fun k hk h => ?_, fun _ => ⟨w.heap.size, #[], 0, hB.size, put_self (by omega), (MapKept.heap_alloc w _).1, ⟨by simp, fun k hk h => ?_⟩, fun h => ?_, fun h => ?_⟩, fun h => ?_⟩
      · rw [put_other (by omega)]; exact hkey k hk (by rwa [getD_set_other (by omega)] at h)
      · have h' : (listed.setIfInBounds 0 true).getD (2 * k + 2) true = true := h
        rw [getD_set_other (by omega), hnot'.1 k hk] at h'; cases h'
      · rw [getD_set_other (by omega), hnot'.2.1] at h; cases h
      · rw [getD_set_other (by omega), hnot'.2.2] at h; cases h
      · rw [getD_set_self (by omega)] at h; cases h
  · by_cases h29 : i = 29
    · subst h29
      obtain ⟨o', ho, hg, hdst, hop, e, he, heb, heo⟩ := T.move
      obtain rfl : o' = o := Option.some.inj (ho.symm.trans hi)
      have hd0 : listed.getD 0 true = true := getD_true (heo ▸ hw e he heb)
      obtain ⟨mb, es, ck, h1, h2, h3, h4, h5, h6⟩ := hmap hd0
      refine wpOp_value (v := .map (some mb)) (w' := w) hi hg ?_ ?_
      · simp [execOp, hop, eval_tmp h2]
      · rw [hdst]
        refine ⟨hB, by simpa [Act.put] using hz, hd, fun k hk h => ?_, fun _ => ⟨mb, es, ck, h1, by rw [put_other (by omega)]; exact h2, h3, h4.congr fun k hk => (getD_set_other (by omega)).symm, fun _ => put_self (by omega), fun h => ?_⟩, fun h => ?_⟩
        · rw [put_other (by omega)]; exact hkey k hk (by rwa [getD_set_other (by omega)] at h)
        · rw [put_other (by omega)]; exact h6 (by rwa [getD_set_other (by omega)] at h)
        · rw [getD_set_other (by omega), hd0] at h; cases h
    · by_cases h30 : i = 30
      · subst h30
        obtain ⟨o', ho, hg, hdst, hop, ⟨e, he, heb, heo⟩, e', he', heb', heo'⟩ := T.last
        obtain rfl : o' = o := Option.some.inj (ho.symm.trans hi)
        have hd0 : listed.getD 0 true = true := getD_true (heo ▸ hw e he heb)
        have hd29 : listed.getD 29 true = true := getD_true (heo' ▸ hw e' he' heb')
        obtain ⟨mb, es, ck, h1, h2, h3, h4, h5, h6⟩ := hmap hd0
        refine wpOp_value (v := .map (some mb)) (w' := w) hi hg ?_ ?_
        · simp [execOp, hop, eval_tmp (h5 hd29)]
        · rw [hdst]
          refine ⟨hB, by simpa [Act.put] using hz, hd, fun k hk h => ?_, fun _ => ⟨mb, es, ck, h1, by rw [put_other (by omega)]; exact h2, h3, h4.congr fun k hk => (getD_set_other (by omega)).symm, fun h => ?_, fun _ => put_self (by omega)⟩, fun h => ?_⟩
          · rw [put_other (by omega)]; exact hkey k hk (by rwa [getD_set_other (by omega)] at h)
          · rw [put_other (by omega)]; exact h5 hd29
          · rw [getD_set_other (by omega), hd0] at h; cases h
      · by_cases hodd : i % 2 = 1
        · obtain ⟨k, hk, rfl⟩ : ∃ k, k < 14 ∧ i = 2 * k + 1 := ⟨i / 2, by omega, by omega⟩
          obtain ⟨o', ho, hg, hdst, hop⟩ := T.key k hk
          obtain rfl : o' = o := Option.some.inj (ho.symm.trans hi)
          refine wpOp_value (v := keyAt k) (w' := w) hi hg ?_ ?_
          · unfold keyAt
            generalize (ruleTab.getD k (0, 0, 0)).1 = s at hop ⊢
            generalize (ruleTab.getD k (0, 0, 0)).2.1 = r at hop ⊢
            have := run_build_key s r w
            simp [execOp, hop, Act.eval, this]
          · rw [hdst]
            refine ⟨hB, by simpa [Act.put] using hz, hd, fun j hj h => ?_, fun h => ?_, fun h => ?_⟩
            · by_cases hjk : j = k
              · subst hjk; exact put_self (by omega)
              · rw [put_other (by omega)]; exact hkey j hj (by rwa [getD_set_other (by omega)] at h)
            · obtain ⟨mb, es, ck, h1, h2, h3, h4, h5, h6⟩ := hmap (by rwa [getD_set_other (by omega)] at h)
              exact ⟨mb, es, ck, h1, by rw [put_other (by omega)]; exact h2, h3, h4.congr fun j hj => (getD_set_other (by omega)).symm,
                fun h => by rw [put_other (by omega)]; exact h5 (by rwa [getD_set_other (by omega)] at h), fun h => by rw [put_other (by omega)]; exact h6 (by rwa [getD_set_other (by omega)] at h)⟩
            · obtain ⟨g1, g2, g3⟩ := hnot (by rwa [getD_set_other (by omega)] at h)
              exact ⟨fun j hj => by rw [getD_set_other (by omega)]; exact g1 j hj, by rw [getD_set_other (by omega)]; exact g2, by rw [getD_set_other (by omega)]; exact g3⟩
        · obtain ⟨k, hk, rfl⟩ : ∃ k, k < 14 ∧ i = 2 * k + 2 := ⟨i / 2 - 1, by omega, by omega⟩
          obtain ⟨o', ho, hg, hdst, hop, ⟨e, he, heb, heo⟩, e', he', heb', heo'⟩ := T.row k hk
          obtain rfl : o' = o := Option.some.inj (ho.symm.trans hi)
          have hd0 : listed.getD 0 true = true := getD_true (heo ▸ hw e he heb)
          have hdk : listed.getD (2 * k + 1) true = true := getD_true (heo' ▸ hw e' he' heb')
          obtain ⟨mb, es, ck, h1, h2, h3, h4, h5, h6⟩ := hmap hd0
          have hkt := hkey k hk hdk
          obtain ⟨w', es', ck', hr, g1, g2, g3, g4, g5, g6, g7⟩ := rules_put h3 h4 k hk hn
          refine wpOp_skip (w' := w') hi hg hdst ?_ ?_
          · simp only [execOp, hop, eval_tmp h2, eval_tmp hkt]
            have : a.eval (.func (ruleTab.getD k (0, 0, 0)).2.2) = fnAt k := rfl
            rw [this]
            simp [hr]
          · refine ⟨hB.trans ⟨g3, g4, g5, by omega, fun j hj => g7 j (by omega)⟩, hz, hd, fun j hj h => hkey j hj (by rwa [getD_set_other (by omega)] at h), fun _ => ⟨mb, es', ck', h1, h2, g1, g2.congr fun j hj => ?_, fun h => h5 (by rwa [getD_set_other (by omega)] at h), fun h => h6 (by rwa [getD_set_other (by omega)] at h)⟩, fun h => ?_⟩
            · by_cases hjk : j = k
              · subst hjk; rw [getD_set_self (by omega)]; simp
              · rw [getD_set_other (by omega)]; simp [hjk]
            · rw [getD_set_other (by omega), hd0] at h; cases h

/-- The table. -/
def RetTab (w : World) (e : Ending) (w' : World) : Prop := ∃ mb, e = .returned (.map (some mb)) ∧ w.heap.size ≤ mb ∧ RulesAt w' mb ∧ Kept w w'

set_option maxHeartbeats 1000000 in
theorem prules_any (w : World) : Calls Tryz.prog 47 #[] w (RetTab w) := by
  go_enter Tryz.func47, Tryz.ntmps47
  go_wp2
  refine wp_region_inv (Laying w) (by kernel_rfl) (by kernel_rfl) ?_ (fun listed a W i o h1 h2 h3 h4 h5 => laying_step ?_ listed a W i o h1 h2 h3 h4 h5) ?_
  · refine ⟨⟨rfl, rfl, rfl, Nat.le_refl _, fun _ _ => rfl⟩, rfl, rfl, fun k hk h => ?_, fun h => ?_, fun _ => ⟨fun k hk => ?_, rfl, rfl⟩⟩
    · simp [Array.getD, show 2 * k + 1 < 31 by omega] at h
    · simp [Array.getD] at h
    · simp [Array.getD, show 2 * k + 2 < 31 by omega]
  · refine ⟨rfl, ⟨_, rfl, rfl, rfl, rfl⟩, fun k hk => ?_, fun k hk => ?_, ⟨_, rfl, rfl, rfl, rfl, ⟨0, .data⟩, by simp, rfl, rfl⟩, ⟨_, rfl, rfl, rfl, rfl, ⟨⟨0, .phase⟩, by simp, rfl, rfl⟩, ⟨29, .data⟩, by simp, rfl, rfl⟩⟩
    · obtain rfl | rfl | rfl | rfl | rfl | rfl | rfl | rfl | rfl | rfl | rfl | rfl | rfl | rfl : k = 0 ∨ k = 1 ∨ k = 2 ∨ k = 3 ∨ k = 4 ∨ k = 5 ∨ k = 6 ∨ k = 7 ∨ k = 8 ∨ k = 9 ∨ k = 10 ∨ k = 11 ∨ k = 12 ∨ k = 13 := by omega
      all_goals exact ⟨_, rfl, rfl, rfl, rfl⟩
    · obtain rfl | rfl | rfl | rfl | rfl | rfl | rfl | rfl | rfl | rfl | rfl | rfl | rfl | rfl : k = 0 ∨ k = 1 ∨ k = 2 ∨ k = 3 ∨ k = 4 ∨ k = 5 ∨ k = 6 ∨ k = 7 ∨ k = 8 ∨ k = 9 ∨ k = 10 ∨ k = 11 ∨ k = 12 ∨ k = 13 := by omega
      all_goals exact ⟨_, rfl, rfl, rfl, rfl, ⟨⟨0, .data⟩, by simp, rfl, rfl⟩, ⟨_, .data⟩, (by first | (simp; done) | (simp; rfl)), rfl, rfl⟩
  · intro a' w' h
    obtain ⟨hB, hz, hd, -, hm, -⟩ := h
    obtain ⟨mb, es, ck, h1, h2, h3, h4, h5, h6⟩ := hm (by simp [Array.getD])
    have h0 := h6 (by simp [Array.getD])
    rename_i K hK
    refine hK _ _ ?_
    refine wp_ret ?_
    refine bodyPost_ret (v := .map (some mb)) ?_ hd ?_
    · simp [results, Tryz.results47, go_sem, h0]
    · exact ⟨mb, rfl, h1, ⟨es, ck, h3, h4.congr fun k hk => by simp [Array.getD, show 2 * k + 2 < 31 by omega]⟩, hB⟩
end Go.Proofs.YtkflpaicohbppaaGreat

/- A region that draws its order, whose operations read, reckon and call what keeps the world, and which ends in stores, one behind the other ('return q, f(q) && g(q)', a struct among the results): one walk in the text's order, its head over a class of worlds, its tail as a list. -/
namespace Go.Proofs.YtkflpaicohbppaaGreat
set_option linter.unusedVariables false
set_option linter.unusedSimpArgs false
open Go.RowKit
section
variable {P : Program} {ops : Array Oper} {md : Region.Mode} {C : World → Prop}

end

/-- These blocks hold these objects. -/
def ObjsAt (W : World) : List (Nat × Obj) → Prop
  | [] => True
  | x :: r => W.heap[x.1]? = some x.2 ∧ ObjsAt W r
theorem objs_keep {W w1 : World} (hg : Below W.heap.size W w1) : ∀ {l : List (Nat × Obj)}, ObjsAt W l → ObjsAt w1 l
  | [], _ => trivial
  | _ :: _, h => ⟨(hg.block _ (Array.getElem?_eq_some_iff.1 h.1).1).trans h.1, objs_keep hg h.2⟩
theorem obj_cell {W : World} {b : Nat} {c : Array Value} {t : TypeId} {f : Nat × Nat} (h : W.heap[b]? = some (.cells c t f)) (i : Nat) : W.cell? ⟨b, i, none⟩ = c[i]? := by simp [World.cell?, h]
theorem obj_lt {W : World} {b : Nat} {o : Obj} (h : W.heap[b]? = some o) : b < W.heap.size := (Array.getElem?_eq_some_iff.1 h).1
theorem obj_at {W : World} {o : Obj} {n : Nat} (h : n = W.heap.size) : (W.alloc o).heap[n]? = some o := by
  subst h
  show (W.heap.push o)[W.heap.size]? = some o
  simp
theorem obj_past {W : World} {o p : Obj} {n : Nat} (h : n < W.heap.size) (h' : W.heap[n]? = some p) : (W.alloc o).heap[n]? = some p := (Below.heap_alloc W o n h).trans h'
/-- THE CLASS OF WORLDS: what was there is kept, and these blocks hold these objects. -/
def Wo (w : World) (l : List (Nat × Obj)) : Type := { w' : World // Below w.heap.size w w' ∧ ObjsAt w' l }
def Wo.at {w : World} {l : List (Nat × Obj)} (x : Wo w l) : World := x.1
theorem Wo.kept {w : World} {l : List (Nat × Obj)} (x : Wo w l) : Below w.heap.size w x.at := x.2.1
theorem Wo.objs {w : World} {l : List (Nat × Obj)} (x : Wo w l) : ObjsAt x.at l := x.2.2
theorem Wo.mk {w W : World} {l : List (Nat × Obj)} (h : Below w.heap.size w W) (c : ObjsAt W l) : ∃ x : Wo w l, W = x.at := ⟨⟨W, h, c⟩, rfl⟩
theorem quiet_callo {P : Program} {f : FuncId} {args : Array Value} {w : World} {l : List (Nat × Obj)} {x : Wo w l} {v : Value}
    (h : Calls P f args x.at fun e w' => e = .returned v ∧ Kept x.at w') : Calls P f args x.at fun e w'' => e = .returned v ∧ ∃ y : Wo w l, w'' = y.at :=
  h.mono fun _ _ ⟨he, hk⟩ => ⟨he, Wo.mk (kept_trans x.kept hk) (objs_keep hk x.objs)⟩
theorem wp_region_objs {P : Program} {id : Nat} {Q : Exit → Act → World → Prop} {a : Act} {w W : World} {l : List Oper} (os : List (Nat × Obj)) (hm : P.follows .mixedOrders = true) (hB : Region.lexB .any l.toArray = true)
    (hk : Below w.heap.size w W) (hC : ObjsAt W os)
    (h : Nonempty (Wo w os) → wpQuiet P l.toArray (fun w' => ∃ x : Wo w os, w' = x.at) (fun a' => ∀ w', (∃ x : Wo w os, w' = x.at) → Q .normal a' w') l a) : (Code.region id l.toArray true).wp P Q a W := by
  have hd : Below W.heap.size W { W with drawn := W.drawn + 1 } := ⟨rfl, rfl, rfl, Nat.le_refl _, fun _ _ => rfl⟩
  refine wp_region_quiet (C := fun w' => ∃ x : Wo w os, w' = x.at) hm hB (Wo.mk (kept_trans hk hd) (objs_keep hd hC)) ?_
  simpa using h ⟨⟨W, hk, hC⟩⟩
end Go.Proofs.YtkflpaicohbppaaGreat

/- Contract of the program's own function of layer 3 that lays a queue in memory of its own. -/
namespace Go.Proofs.YtkflpaicohbppaaGreat
set_option linter.unusedVariables false
set_option linter.unusedSimpArgs false
open Go.ChangeShapes Go.WideShapes Go.ChangeAt Go.RowKit

theorem Ov.setCell {w : World} {base : Nat} {l : List Int} {x : Addr} {k : Nat} (h : Ov w base l (some x) k) {p : Addr} (hp : x.block ≠ p.block) (u : Value) : Ov (w.setCell p u) base l (some x) k :=
  h.of_block fun y hy => by cases hy; exact Below.heap_setCell _ _ _ _ hp

/-- A queue with values of its own. -/
def RetOwn (w : World) (a : Qu) (e : Ending) (w' : World) : Prop :=
  ∃ g, e = .returned (.agg #[.slice (some ⟨g, 0, none⟩) a.vals.length a.vals.length, .int .i64 a.cap, .int .i64 a.pol, .int .i64 a.mode]) ∧ w.heap.size ≤ g ∧ Ov w' w.heap.size a.vals (some ⟨g, 0, none⟩) a.vals.length ∧ Kept w w'

set_option maxHeartbeats 1000000 in
theorem plaid_any (a : Qu) (p : Option Addr) (k : Nat) (w : World) (hl : Sl w 1 intC a.vals (.slice p a.vals.length k)) (hm : a.vals.length ≤ 1000) :
    Calls Tryz.prog 45 #[.agg #[.slice p a.vals.length k, .int .i64 a.cap, .int .i64 a.pol, .int .i64 a.mode]] w (RetOwn w a) := by
  obtain ⟨l, qc, qp, qm⟩ := a
  simp only at *
  obtain ⟨_, _, e1, _, _, hnone, hlc⟩ := hl.is
  cases e1
  have hmk := run_make_row' (P := Tryz.prog) 27 3 (.int .i64 0) 8 Tryz.underlying27 int_info rfl .i64 .i64 l.length (by omega) (by omega)
  obtain ⟨M, hM⟩ : ∃ M, madeCells #[Value.int .i64 0] l.length = M := ⟨_, rfl⟩
  have hMs : M.size = l.length := by rw [← hM]; simp [madeCells]
  rw [hM] at hmk
  have hL := Lib.hid hlc
  clear hlc
  go_enter Tryz.func45, Tryz.ntmps45
  go_wp2_with ((with_reducible refine wpList_copy_splice (o := ⟨some 11, _, _, _, _, _⟩) rfl (.tmp 8) (.tmp 10) 27 27 rfl 3 Tryz.underlying27 (by kernel_rfl) _ _ _ _ _ _ rfl rfl (w.heap.size + 1 + 1) 0 M.toList 3 ?_ (l.map (Value.int .i64)) ?_ ?_ ?_ ?_ (w.heap.size + 1 + 1) ((w.alloc (.cells #[.slice p l.length k, .int .i64 qc, .int .i64 qp, .int .i64 qm] 46)).alloc (.cells #[.slice none 0 0, .int .i64 0, .int .i64 0, .int .i64 0] 85)) ?_ (Nat.le_refl _) ?_))
  · rw [Array.toArray_toList]; exact obj_at (by simp)
  · simp
  · intro h0
    obtain ⟨b, o, rfl, hb, hc⟩ := hL.out (by intro h; subst h; simp at h0)
    refine ⟨⟨b, o, none⟩, rfl, fun j x hx => ?_⟩
    have hadd : (⟨b, o, none⟩ : Addr).add j = ⟨b, o + j, none⟩ := by unfold Addr.add; split <;> simp_all
    have h1 := hc j x hx 0 (by omega)
    simp only [intC, Nat.mul_one, Nat.add_zero, List.getElem?_cons_zero] at h1
    rw [hadd, World.cell?_alloc_past _ _ _ (by simp; omega), World.cell?_alloc_past _ _ _ (by simp; omega), World.cell?_alloc_past _ _ _ hb]
    exact h1
  · simp [hMs]
  · intro v hv
    obtain ⟨x, _, rfl⟩ := List.mem_map.1 hv
    rfl
  · exact (Below.refl _ _).alloc (by simp) _
  · intro wx hgx' hbx
    obtain ⟨V, hV⟩ : ∃ V, (w.alloc (.cells #[.slice p l.length k, .int .i64 qc, .int .i64 qp, .int .i64 qm] 46)).alloc (.cells #[.slice none 0 0, .int .i64 0, .int .i64 0, .int .i64 0] 85) = V := ⟨_, rfl⟩
    have hVs : w.heap.size + 1 + 1 = V.heap.size := by rw [← hV]; simp
    have hcs : CellsAt V [(w.heap.size, 0, .slice p l.length k), (w.heap.size, 1, .int .i64 qc), (w.heap.size, 2, .int .i64 qp), (w.heap.size, 3, .int .i64 qm), (w.heap.size + 1, 0, .slice none 0 0), (w.heap.size + 1, 1, .int .i64 0), (w.heap.size + 1, 2, .int .i64 0), (w.heap.size + 1, 3, .int .i64 0)] := by rw [← hV]; (simp only [CellsAt]; (repeat' (first | exact trivial | (refine And.intro ?_ ?_))); all_goals (first | (focus ((try simp only [World.size_setCell, World.size_alloc]); omega)) | (repeat (first | rfl | assumption | (refine (World.cell?_alloc_past _ _ _ ?_).trans ?_; focus ((try simp only [World.size_setCell, World.size_alloc]); omega)) | (refine (World.cell?_alloc_at _ _ _ _ ?_).trans ?_; focus ((try simp only [World.size_setCell, World.size_alloc]); done)) | (refine (World.cell?_setCell_other _ _ _ _ ?_).trans ?_; focus (simp; done)) | (refine (World.cell?_setCell_other _ _ _ _ ?_).trans ?_; focus (simp; omega)) | (refine World.cell?_setCell_same' _ _ _ ?_; focus (simp; done))))))
    have hB : Below w.heap.size w V := by rw [← hV]; repeat' (first | (with_reducible exact Below.refl _ _) | (with_reducible assumption) | (with_reducible refine kept_alloc ?_ _) | (with_reducible refine kept_drewN ?_ _) | (with_reducible refine Below.drew ?_) | (with_reducible refine Below.setCell ?_ (by first | omega | (simp; omega) | (simp; done)) _) | (refine kept_trans ?_ (by with_reducible assumption)))
    have hfr : ∀ j, V.frozen? ⟨w.heap.size, j, none⟩ = false := by intro j; rw [← hV, World.frozen?_alloc_past _ _ _ (by simp)]; exact World.frozen?_alloc_at _ _ _ _ rfl
    have hfr1 : ∀ j, V.frozen? ⟨w.heap.size + 1, j, none⟩ = false := by intro j; rw [← hV]; exact World.frozen?_alloc_at _ _ _ _ (by simp)
    rw [hV, hVs] at hbx
    have hcs := cells_keep hbx hcs
    have hq0 := hcs.1.2; have hq1 := hcs.2.1.2; have hq2 := hcs.2.2.1.2; have hq3 := hcs.2.2.2.1.2; have hq4 := hcs.2.2.2.2.1.2; have hq5 := hcs.2.2.2.2.2.1.2; have hq6 := hcs.2.2.2.2.2.2.1.2; have hq7 := hcs.2.2.2.2.2.2.2.1.2; have hz0 := hcs.1.1; have hz1 := hcs.2.2.2.2.1.1
    have hq0f : wx.frozen? ⟨w.heap.size, 0, none⟩ = false := (hbx.frozen (p := ⟨w.heap.size, 0, none⟩) (by show w.heap.size < _; omega)).trans (hfr 0)
    have hr0 : wx.frozen? ⟨w.heap.size + 1, 0, none⟩ = false := (hbx.frozen (p := ⟨w.heap.size + 1, 0, none⟩) (by show w.heap.size + 1 < _; omega)).trans (hfr1 0)
    have hr1 : wx.frozen? ⟨w.heap.size + 1, 1, none⟩ = false := (hbx.frozen (p := ⟨w.heap.size + 1, 1, none⟩) (by show w.heap.size + 1 < _; omega)).trans (hfr1 1)
    have hr2 : wx.frozen? ⟨w.heap.size + 1, 2, none⟩ = false := (hbx.frozen (p := ⟨w.heap.size + 1, 2, none⟩) (by show w.heap.size + 1 < _; omega)).trans (hfr1 2)
    have hr3 : wx.frozen? ⟨w.heap.size + 1, 3, none⟩ = false := (hbx.frozen (p := ⟨w.heap.size + 1, 3, none⟩) (by show w.heap.size + 1 < _; omega)).trans (hfr1 3)
    have hsp : splice M.toList 0 (l.map (Value.int .i64)) = l.map (Value.int .i64) := by simp [splice, hMs]
    rw [hsp] at hgx'
    have hO : Ov wx w.heap.size l (some ⟨w.heap.size + 1 + 1, 0, none⟩) l.length := Ov.made (by omega) hgx'.out (Nat.le_refl _) (by unfold maxLen; omega) (by simp) (fun i x hx => by simp [hx])
    have hBx : Below w.heap.size w wx := hB.trans (hbx.mono hB.size)
    have hVh := Lib.hid hVs
    have hMh := Lib.hid hM
    have hMsh := Lib.hid hMs
    clear hsp hgx' hfr hfr1 hV hVs hmk hM hMs hbx
    go_wp2
    refine bodyPost_ret (v := .agg #[.slice (some ⟨w.heap.size + 1 + 1, 0, none⟩) l.length l.length, .int .i64 qc, .int .i64 qp, .int .i64 qm]) (by simp [results, Tryz.results45, go_sem, *]) rfl ?_
    refine ⟨_, rfl, by omega, ?_, ?_⟩
    · refine Ov.setCell (Ov.setCell (Ov.setCell (Ov.setCell (Ov.setCell hO ?_ _) ?_ _) ?_ _) ?_ _) ?_ _ <;> (show _ ≠ _; simp; try omega)
    · repeat' (first | (with_reducible exact Below.refl _ _) | (with_reducible assumption) | (with_reducible refine kept_alloc ?_ _) | (with_reducible refine kept_drewN ?_ _) | (with_reducible refine Below.drew ?_) | (with_reducible refine Below.setCell ?_ (by first | omega | (simp; omega) | (simp; done)) _) | (refine kept_trans ?_ (by with_reducible assumption)))
end Go.Proofs.YtkflpaicohbppaaGreat

/- Contract of the program's own function of layer 3 that tells an entry. -/
namespace Go.Proofs.YtkflpaicohbppaaGreat
set_option linter.unusedVariables false
set_option linter.unusedSimpArgs false
open Go.ChangeShapes Go.WideShapes Go.ChangeAt Go.RowKit

/-- What a row of the table makes of a queue. -/
def Qu.rule (a : Qu) (e : En) : Nat → Qu × Bool
  | 0 => if decide (a.mode ≠ 0) || a.full then (a, false) else (a.with (a.vals ++ [e.va]), true)
  | 1 => (a, decide (a.mode = 0) && decide (a.cap ≤ (a.vals.length : Int)) && decide (a.pol = 0) && decide (e.ki = 2))
  | 2 => (a, decide (a.mode = 0) && decide (a.cap ≤ (a.vals.length : Int)) && decide (a.pol = 1))
  | 3 => (a, or (decide (e.ki = 3)) (decide (e.ki = 6)))
  | 4 => (a, decide (a.mode = 1))
  | 5 => (a, decide (a.mode = 2))
  | 6 => if a.mode = 2 then (a, false) else a.gone e.go
  | 7 => (a, decide (a.mode = 0) && decide (a.vals.length = 0) && decide (e.ki = 5))
  | 8 => (a, or (decide (e.ki = 3)) (decide (e.ki = 6)))
  | 9 => (a, decide (a.mode = 1) && decide (a.vals.length = 0))
  | 10 => (a, decide (a.mode = 2))
  | 11 => if decide (a.mode = 0) && decide (a.cap ≤ (a.vals.length : Int)) && decide (a.pol = 2) then a.gone e.go else (a, false)
  | 12 => (⟨a.vals, a.cap, a.pol, drainI a.mode⟩, true)
  | 13 => (⟨a.vals, a.cap, a.pol, 2⟩, true)
  | _ => (a, false)

theorem sort_1 {k : Int} : sortI k = 1 ↔ sendsB k = true := by
  simp [sortI, sendsB, recvsB]; (repeat' split) <;> omega
theorem sort_4 {k : Int} : sortI k = 4 ↔ recvsB k = true := by
  simp [sortI, sendsB, recvsB]; (repeat' split) <;> omega
theorem sort_hi {k m : Int} (hm : 7 ≤ m) : sortI k = m ↔ k = m := by
  simp [sortI, sendsB, recvsB]; (repeat' split) <;> omega
theorem sends_ki {k : Int} (h : sendsB k = true) : 1 ≤ k ∧ k ≤ 3 := by simpa [sendsB] using h
theorem recvs_ki {k : Int} (h : recvsB k = true) : 4 ≤ k ∧ k ≤ 6 := by simpa [recvsB] using h

theorem tell_sends {a : Qu} {e : En} (h : sendsB e.ki = true) : a.tell e = a.send e := by simp [Qu.tell, h]
theorem tell_recvs {a : Qu} {e : En} (h : recvsB e.ki = true) : a.tell e = a.recv e := by
  have := recvs_ki h
  have h' : sendsB e.ki = false := by simp [sendsB]; omega
  simp [Qu.tell, h, h']
theorem tell_else {a : Qu} {e : En} (h : sendsB e.ki = false) (h' : recvsB e.ki = false) : a.tell e = if e.re ≠ 1 then (a, false)
  else if e.ki = 7 then (⟨a.vals, a.cap, a.pol, drainI a.mode⟩, true)
  else if e.ki = 8 then (⟨a.vals, a.cap, a.pol, 2⟩, true)
  else if e.ki = 9 then (if a.mode ≠ 0 ∨ a.pol ≠ 2 ∨ (a.vals.length : Int) < a.cap then (a, false) else a.gone e.go)
  else (a, false) := by simp [Qu.tell, h, h']

theorem tell_rule {a : Qu} {e : En} (i : Nat) (hi : i < 14) (h : keyV (sortI e.ki) e.re = keyAt i) : a.tell e = a.rule e i := by
  rw [keyAt, keyV_inj] at h
  obtain ⟨h1, h2⟩ := h
  obtain rfl | rfl | rfl | rfl | rfl | rfl | rfl | rfl | rfl | rfl | rfl | rfl | rfl | rfl : i = 0 ∨ i = 1 ∨ i = 2 ∨ i = 3 ∨ i = 4 ∨ i = 5 ∨ i = 6 ∨ i = 7 ∨ i = 8 ∨ i = 9 ∨ i = 10 ∨ i = 11 ∨ i = 12 ∨ i = 13 := by omega
  all_goals simp only [ruleTab, List.getD_cons_zero, List.getD_cons_succ] at h1 h2
  all_goals first
    | (have hs := sort_1.1 h1; have hk := sends_ki hs; have h6 : ¬ e.ki = 6 := (by omega); rw [tell_sends hs]; simp [Qu.send, Qu.rule, Qu.full, h2, h6]; done)
    | (have hs := sort_4.1 h1; have hk := recvs_ki hs; have h6 : ¬ e.ki = 3 := (by omega); rw [tell_recvs hs]; simp [Qu.recv, Qu.rule, Qu.full, h2, h6]; done)
    | (have hk := (sort_hi (by omega)).1 h1; rw [tell_else (by simp [sendsB, hk]) (by simp [recvsB, hk])]; simp [Qu.rule, h2, hk]; done)
    | (have hk := (sort_hi (by omega)).1 h1; rw [tell_else (by simp [sendsB, hk]) (by simp [recvsB, hk])]; simp only [Qu.rule, h2, hk]; by_cases q0 : a.mode = 0 <;> by_cases q1 : a.pol = 2 <;> by_cases q2 : a.cap ≤ (a.vals.length : Int) <;> simp [q0, q1, q2] <;> omega)
theorem tell_none {a : Qu} {e : En} (h : ∀ i, i < 14 → keyV (sortI e.ki) e.re ≠ keyAt i) : a.tell e = (a, false) := by
  have g : ∀ i, i < 14 → ¬ (sortI e.ki = (ruleTab.getD i (0, 0, 0)).1 ∧ e.re = (ruleTab.getD i (0, 0, 0)).2.1) := fun i hi h' => h i hi (by rw [keyAt, keyV_inj]; exact h')
  clear h
  have g0 := g 0 (by omega); have g1 := g 1 (by omega); have g2 := g 2 (by omega); have g3 := g 3 (by omega); have g4 := g 4 (by omega); have g5 := g 5 (by omega); have g6 := g 6 (by omega)
  have g7 := g 7 (by omega); have g8 := g 8 (by omega); have g9 := g 9 (by omega); have g10 := g 10 (by omega); have g11 := g 11 (by omega); have g12 := g 12 (by omega); have g13 := g 13 (by omega)
  clear g
  simp only [ruleTab, List.getD_cons_zero, List.getD_cons_succ, sort_1, sort_4, sort_hi (show (7 : Int) ≤ 7 by omega), sort_hi (show (7 : Int) ≤ 8 by omega), sort_hi (show (7 : Int) ≤ 9 by omega)] at *
  cases hs : sendsB e.ki
  · cases hr : recvsB e.ki
    · rw [tell_else hs hr]
      by_cases h1 : e.re = 1
      · have : e.ki ≠ 7 := fun h => g12 ⟨h, h1⟩
        have : e.ki ≠ 8 := fun h => g13 ⟨h, h1⟩
        have : e.ki ≠ 9 := fun h => g11 ⟨h, h1⟩
        simp [*]
      · simp [h1]
    · rw [tell_recvs hr]
      simp [hr] at g6 g7 g8 g9 g10
      simp [Qu.recv, *]
  · rw [tell_sends hs]
    simp [hs] at g0 g1 g2 g3 g4 g5
    simp [Qu.send, *]

/-- Each row's function by its contract. -/
theorem prule_any (base qb : Nat) (a : Qu) (p : Option Addr) (k : Nat) (w : World) (hA : At w base qb a p k) (e : En) (hm : a.vals.length ≤ 1000) (i : Nat) (hi : i < 14) : Calls Tryz.prog (ruleTab.getD i (0, 0, 0)).2.2 #[.pointer (some ⟨qb, 0, none⟩), .agg #[.int .i64 e.th, .int .i64 e.ki, .int .i64 e.va, .int .i64 e.re, .int .i64 e.go]] w (Told base qb p (a.rule e i) w) := by
  obtain ⟨th, ki, va, re, go⟩ := e
  have hz := hA.lt
  obtain ⟨⟨c0, c1, c2, c3⟩, -⟩ := hA.cells
  have K : ∀ {f : Nat} {b : Bool}, (Calls Tryz.prog f #[.pointer (some ⟨qb, 0, none⟩), .agg #[.int .i64 th, .int .i64 ki, .int .i64 va, .int .i64 re, .int .i64 go]] w fun e w' => e = .returned (.bool b) ∧ Kept w w') → Calls Tryz.prog f #[.pointer (some ⟨qb, 0, none⟩), .agg #[.int .i64 th, .int .i64 ki, .int .i64 va, .int .i64 re, .int .i64 go]] w (Told base qb p (a, b) w) := fun h => h.mono fun e w' h => told_of_kept hA h
  obtain rfl | rfl | rfl | rfl | rfl | rfl | rfl | rfl | rfl | rfl | rfl | rfl | rfl | rfl : i = 0 ∨ i = 1 ∨ i = 2 ∨ i = 3 ∨ i = 4 ∨ i = 5 ∨ i = 6 ∨ i = 7 ∨ i = 8 ∨ i = 9 ∨ i = 10 ∨ i = 11 ∨ i = 12 ∨ i = 13 := by omega
  · exact pletin_any base qb a p k w hA th ki va re go hm
  · exact K (pblocks_any qb a.vals a.cap a.pol a.mode p k w hz c0 c1 c2 c3 th ki va re go)
  · exact K (pdrops_any qb a.vals a.cap a.pol a.mode p k w hz c0 c1 c2 c3 th ki va re go)
  · exact K (plate_any qb w th ki va re go)
  · exact K (pdrains_any qb a.vals a.cap a.pol a.mode p k w hz c0 c1 c2 c3 th ki va re go)
  · exact K (phalts_any qb a.vals a.cap a.pol a.mode p k w hz c0 c1 c2 c3 th ki va re go)
  · exact pgive_any base qb a p k w hA th ki va re go
  · exact K (placks_any qb a.vals a.cap a.pol a.mode p k w hz c0 c1 c2 c3 th ki va re go)
  · exact K (plate_any qb w th ki va re go)
  · exact K (pdrained_any qb a.vals a.cap a.pol a.mode p k w hz c0 c1 c2 c3 th ki va re go)
  · exact K (phalts_any qb a.vals a.cap a.pol a.mode p k w hz c0 c1 c2 c3 th ki va re go)
  · exact pevict_any base qb a p k w hA th ki va re go
  · exact pdrain_any base qb a p k w hA th ki va re go
  · exact phalt_any base qb a p k w hA th ki va re go
end Go.Proofs.YtkflpaicohbppaaGreat

/- Contract of the program's own function of layer 3 that tells an entry. -/
namespace Go.Proofs.YtkflpaicohbppaaGreat
set_option linter.unusedVariables false
set_option linter.unusedSimpArgs false
open Go.ChangeShapes Go.WideShapes Go.ChangeAt Go.RowKit

theorem look_hit {s r : Int} {mb i : Nat} (hi : i < 14) (hk : keyV s r = keyAt i) {W : World} (h : RulesAt W mb) :
    (Instr.lookup 88 (.map (some mb)) (keyV s r) true).run Tryz.prog W = .ok (.tuple #[fnAt i, .bool true]) W := by
  rcases rules_look h s r with ⟨j, hj, hkj, hr⟩ | ⟨hno, _⟩
  · have : i = j := by
      have := hk.symm.trans hkj
      rw [keyAt, keyAt, keyV_inj] at this
      exact keyAt_inj i hi j hj this
    subst this
    exact hr
  · exact absurd hk (hno i hi)
theorem look_miss {s r : Int} {mb : Nat} (hk : ∀ i, i < 14 → keyV s r ≠ keyAt i) {W : World} (h : RulesAt W mb) :
    (Instr.lookup 88 (.map (some mb)) (keyV s r) true).run Tryz.prog W = .ok (.tuple #[.nilFunc, .bool false]) W := by
  rcases rules_look h s r with ⟨j, hj, hkj, hr⟩ | ⟨_, hr⟩
  · exact absurd hkj (hk j hj)
  · exact hr


set_option maxHeartbeats 4000000 in
theorem ptell_miss (base qb : Nat) (a : Qu) (p : Option Addr) (k : Nat) (w : World) (hA : At w base qb a p k) (th ki va re go : Int) (mb : Nat) (hR : RulesAt w mb) (hk : ∀ i, i < 14 → keyV (sortI ki) re ≠ keyAt i) : Calls Tryz.prog 46 #[.pointer (some ⟨qb, 0, none⟩), .map (some mb), .agg #[.int .i64 th, .int .i64 ki, .int .i64 va, .int .i64 re, .int .i64 go]] w (Told base qb p (a, false) w) := by
  obtain ⟨es, ck, ho, hL⟩ := hR; have hlt : mb < w.heap.size := obj_lt ho; obtain ⟨L, hLL⟩ : ∃ L : List (Nat × Obj), [(mb, Obj.map es ck), (w.heap.size, .cells #[.int .i64 th, .int .i64 ki, .int .i64 va, .int .i64 re, .int .i64 go] 51 (0, 0))] = L := ⟨_, rfl⟩; have hL2 : ∀ x : Wo w L, ObjsAt x.at [(mb, Obj.map es ck), (w.heap.size, .cells #[.int .i64 th, .int .i64 ki, .int .i64 va, .int .i64 re, .int .i64 go] 51 (0, 0))] := fun x => hLL.symm ▸ x.objs
  have hlk : ∀ x : Wo w L, (Instr.lookup 88 (.map (some mb)) (.agg #[.int .i64 (sortI ki), .int .i64 re]) true).run Tryz.prog x.at = .ok (.tuple #[.nilFunc, .bool false]) x.at := fun x => look_miss hk ⟨es, ck, (hL2 x).1, hL⟩
  have q1 : ∀ x : Wo w L, x.at.cell? ⟨w.heap.size, 1, none⟩ = some (.int .i64 ki) := fun x => obj_cell (hL2 x).2.1 1; have q3 : ∀ x : Wo w L, x.at.cell? ⟨w.heap.size, 3, none⟩ = some (.int .i64 re) := fun x => obj_cell (hL2 x).2.1 3; have hob : ObjsAt (w.alloc (.cells #[.int .i64 th, .int .i64 ki, .int .i64 va, .int .i64 re, .int .i64 go] 51 (0, 0))) L := (by rw [← hLL]; exact ⟨obj_past hlt ho, obj_at rfl, trivial⟩); have hLh := Lib.hid hLL; have hL2h := Lib.hid hL2; have hkh := Lib.hid hk; have hoh := Lib.hid ho; clear hLL hk ho hL2
  go_enter Tryz.func46, Tryz.ntmps46
  go_wp2
  refine wp_region_objs (w := w) L (by kernel_rfl) (by kernel_rfl) (by repeat' (first | (with_reducible exact Below.refl _ _) | (with_reducible assumption) | (with_reducible refine kept_alloc ?_ _) | (with_reducible refine kept_drewN ?_ _) | (with_reducible refine Below.drew ?_) | (with_reducible refine Below.setCell ?_ (by first | omega | (simp; omega) | (simp; done)) _) | (refine kept_trans ?_ (by with_reducible assumption)))) hob (fun hne => ?_); (repeat (go_big_quiet_step ((go_at_call 82; exact quiet_callo (psort_any _ _))))); refine wpQuiet_nil ?_; intro wq hwq; obtain ⟨xwd, hxwd⟩ := hwq; have hgx : Below w.heap.size w wq := (by rw [hxwd]; exact xwd.kept); have hoe : wq.heap[w.heap.size]? = some (.cells #[.int .i64 th, .int .i64 ki, .int .i64 va, .int .i64 re, .int .i64 go] 51 (0, 0)) := (by rw [hxwd]; exact (hL2h.out xwd).2.1); clear hlk q1 q3 hxwd xwd hne hL2h; have u0 := obj_cell hoe 0; have u1 := obj_cell hoe 1; have u2 := obj_cell hoe 2; have u3 := obj_cell hoe 3; have u4 := obj_cell hoe 4; have huz := obj_lt hoe; have hoeh := Lib.hid hoe; clear hoe
  go_wp2
  go_ret
  exact told_of_kept hA ⟨rfl, by repeat' (first | (with_reducible exact Below.refl _ _) | (with_reducible assumption) | (with_reducible refine kept_alloc ?_ _) | (with_reducible refine kept_drewN ?_ _) | (with_reducible refine Below.drew ?_) | (with_reducible refine Below.setCell ?_ (by first | omega | (simp; omega) | (simp; done)) _) | (refine kept_trans ?_ (by with_reducible assumption)))⟩

set_option maxHeartbeats 4000000 in
theorem ptell_hit (base qb : Nat) (a : Qu) (p : Option Addr) (k : Nat) (w : World) (hA : At w base qb a p k) (th ki va re go : Int) (hm : a.vals.length ≤ 1000) (mb : Nat) (hR : RulesAt w mb) (i : Nat) (hi : i < 14) (hk : keyV (sortI ki) re = keyAt i) : Calls Tryz.prog 46 #[.pointer (some ⟨qb, 0, none⟩), .map (some mb), .agg #[.int .i64 th, .int .i64 ki, .int .i64 va, .int .i64 re, .int .i64 go]] w (Told base qb p (a.rule ⟨th, ki, va, re, go⟩ i) w) := by
  obtain ⟨es, ck, ho, hL⟩ := hR; have hlt : mb < w.heap.size := obj_lt ho; obtain ⟨L, hLL⟩ : ∃ L : List (Nat × Obj), [(mb, Obj.map es ck), (w.heap.size, .cells #[.int .i64 th, .int .i64 ki, .int .i64 va, .int .i64 re, .int .i64 go] 51 (0, 0))] = L := ⟨_, rfl⟩; have hL2 : ∀ x : Wo w L, ObjsAt x.at [(mb, Obj.map es ck), (w.heap.size, .cells #[.int .i64 th, .int .i64 ki, .int .i64 va, .int .i64 re, .int .i64 go] 51 (0, 0))] := fun x => hLL.symm ▸ x.objs
  have hlk : ∀ x : Wo w L, (Instr.lookup 88 (.map (some mb)) (.agg #[.int .i64 (sortI ki), .int .i64 re]) true).run Tryz.prog x.at = .ok (.tuple #[fnAt i, .bool true]) x.at := fun x => look_hit hi hk ⟨es, ck, (hL2 x).1, hL⟩
  have hC : ∀ W, Below w.heap.size w W → Calls Tryz.prog (ruleTab.getD i (0, 0, 0)).2.2 #[.pointer (some ⟨qb, 0, none⟩), .agg #[.int .i64 th, .int .i64 ki, .int .i64 va, .int .i64 re, .int .i64 go]] W (Told base qb p (a.rule ⟨th, ki, va, re, go⟩ i) W) := fun W hW => prule_any base qb a p k W (hA.kept hW) ⟨th, ki, va, re, go⟩ hm i hi
  have q1 : ∀ x : Wo w L, x.at.cell? ⟨w.heap.size, 1, none⟩ = some (.int .i64 ki) := fun x => obj_cell (hL2 x).2.1 1; have q3 : ∀ x : Wo w L, x.at.cell? ⟨w.heap.size, 3, none⟩ = some (.int .i64 re) := fun x => obj_cell (hL2 x).2.1 3; have hob : ObjsAt (w.alloc (.cells #[.int .i64 th, .int .i64 ki, .int .i64 va, .int .i64 re, .int .i64 go] 51 (0, 0))) L := (by rw [← hLL]; exact ⟨obj_past hlt ho, obj_at rfl, trivial⟩); have hLh := Lib.hid hLL; have hL2h := Lib.hid hL2; have hkh := Lib.hid hk; have hoh := Lib.hid ho; clear hLL hk ho hL2
  unfold fnAt fnV at hlk
  generalize hr : a.rule ⟨th, ki, va, re, go⟩ i = rr at hC ⊢
  have hrh := Lib.hid hr
  clear hr
  obtain rfl | rfl | rfl | rfl | rfl | rfl | rfl | rfl | rfl | rfl | rfl | rfl | rfl | rfl : i = 0 ∨ i = 1 ∨ i = 2 ∨ i = 3 ∨ i = 4 ∨ i = 5 ∨ i = 6 ∨ i = 7 ∨ i = 8 ∨ i = 9 ∨ i = 10 ∨ i = 11 ∨ i = 12 ∨ i = 13 := by omega
  all_goals
    simp only [ruleTab, List.getD_cons_zero, List.getD_cons_succ] at hlk hC
    go_enter Tryz.func46, Tryz.ntmps46
    go_wp2
    refine wp_region_objs (w := w) L (by kernel_rfl) (by kernel_rfl) (by repeat' (first | (with_reducible exact Below.refl _ _) | (with_reducible assumption) | (with_reducible refine kept_alloc ?_ _) | (with_reducible refine kept_drewN ?_ _) | (with_reducible refine Below.drew ?_) | (with_reducible refine Below.setCell ?_ (by first | omega | (simp; omega) | (simp; done)) _) | (refine kept_trans ?_ (by with_reducible assumption)))) hob (fun hne => ?_); (repeat (go_big_quiet_step ((go_at_call 82; exact quiet_callo (psort_any _ _))))); refine wpQuiet_nil ?_; intro wq hwq; obtain ⟨xwd, hxwd⟩ := hwq; have hgx : Below w.heap.size w wq := (by rw [hxwd]; exact xwd.kept); have hoe : wq.heap[w.heap.size]? = some (.cells #[.int .i64 th, .int .i64 ki, .int .i64 va, .int .i64 re, .int .i64 go] 51 (0, 0)) := (by rw [hxwd]; exact (hL2h.out xwd).2.1); clear hlk q1 q3 hxwd xwd hne hL2h; have u0 := obj_cell hoe 0; have u1 := obj_cell hoe 1; have u2 := obj_cell hoe 2; have u3 := obj_cell hoe 3; have u4 := obj_cell hoe 4; have huz := obj_lt hoe; have hoeh := Lib.hid hoe; clear hoe
    go_wp2_with ((refine (hC _ (by repeat' (first | (with_reducible exact Below.refl _ _) | (with_reducible assumption) | (with_reducible refine kept_alloc ?_ _) | (with_reducible refine kept_drewN ?_ _) | (with_reducible refine Below.drew ?_) | (with_reducible refine Below.setCell ?_ (by first | omega | (simp; omega) | (simp; done)) _) | (refine kept_trans ?_ (by with_reducible assumption))))).mono ?_; rintro e wy hT; obtain ⟨rfl, hT2⟩ := hT))
    go_ret
    exact Told.after (by repeat' (first | (with_reducible exact Below.refl _ _) | (with_reducible assumption) | (with_reducible refine kept_alloc ?_ _) | (with_reducible refine kept_drewN ?_ _) | (with_reducible refine Below.drew ?_) | (with_reducible refine Below.setCell ?_ (by first | omega | (simp; omega) | (simp; done)) _) | (refine kept_trans ?_ (by with_reducible assumption)))) ⟨rfl, hT2⟩

theorem ptell_any (base qb : Nat) (a : Qu) (p : Option Addr) (k : Nat) (w : World) (hA : At w base qb a p k) (e : En) (hm : a.vals.length ≤ 1000) (mb : Nat) (hR : RulesAt w mb) : Calls Tryz.prog 46 #[.pointer (some ⟨qb, 0, none⟩), .map (some mb), .agg #[.int .i64 e.th, .int .i64 e.ki, .int .i64 e.va, .int .i64 e.re, .int .i64 e.go]] w (Told base qb p (a.tell e) w) := by
  by_cases h : ∃ i, i < 14 ∧ keyV (sortI e.ki) e.re = keyAt i
  · obtain ⟨i, hi, hk⟩ := h
    rw [tell_rule i hi hk]
    exact ptell_hit base qb a p k w hA e.th e.ki e.va e.re e.go hm mb hR i hi hk
  · have hk : ∀ i, i < 14 → keyV (sortI e.ki) e.re ≠ keyAt i := fun i hi hk => h ⟨i, hi, hk⟩
    rw [tell_none hk]
    exact ptell_miss base qb a p k w hA e.th e.ki e.va e.re e.go mb hR hk
end Go.Proofs.YtkflpaicohbppaaGreat

/- Contract of the program's own Do (layer 3). -/
namespace Go.Proofs.YtkflpaicohbppaaGreat
set_option linter.unusedVariables false
set_option linter.unusedSimpArgs false
open Go.ChangeShapes Go.WideShapes Go.ChangeAt Go.RowKit

set_option maxHeartbeats 4000000 in
theorem pdo_any (a : Qu) (e : En) (p : Option Addr) (k : Nat) (w : World) (hl : Sl w 1 intC a.vals (.slice p a.vals.length k)) (hm : a.vals.length ≤ 1000) :
    Calls Tryz.prog 18 #[.agg #[.slice p a.vals.length k, .int .i64 a.cap, .int .i64 a.pol, .int .i64 a.mode], .agg #[.int .i64 e.th, .int .i64 e.ki, .int .i64 e.va, .int .i64 e.re, .int .i64 e.go]] w (RetQ w a.vals p (a.tell e)) := by
  obtain ⟨th, ki, va, re, go⟩ := e
  simp only at *
  go_enter Tryz.func18, Tryz.ntmps18
  go_wp2_with ((go_at_call 45; refine (plaid_any a p k _ (hl.kept (by repeat' (first | (with_reducible exact Below.refl _ _) | (with_reducible assumption) | (with_reducible refine kept_alloc ?_ _) | (with_reducible refine kept_drewN ?_ _) | (with_reducible refine Below.drew ?_) | (with_reducible refine Below.setCell ?_ (by first | omega | (simp; omega) | (simp; done)) _) | (refine kept_trans ?_ (by with_reducible assumption))))) hm).mono ?_; rintro e wx hT; obtain ⟨g, rfl, hg, hO, hgx⟩ := hT; obtain ⟨hcx, hfx⟩ := bcell hgx; have hz0 : w.heap.size + 1 + 1 < wx.heap.size := (by have := (hO.lt _ rfl).2; simp at hg this; omega)))
  obtain ⟨V0, hV0⟩ : ∃ V0, ((w.alloc (.cells #[.slice p a.vals.length k, .int .i64 a.cap, .int .i64 a.pol, .int .i64 a.mode] 46)).alloc (.cells #[.int .i64 th, .int .i64 ki, .int .i64 va, .int .i64 re, .int .i64 go] 51)).alloc (.cells #[.slice none 0 0, .int .i64 0, .int .i64 0, .int .i64 0] 46) = V0 := ⟨_, rfl⟩
  have hs0 : V0.heap.size = w.heap.size + 3 := by rw [← hV0]; simp
  have hcs0 : CellsAt V0 [(w.heap.size + 1, 0, .int .i64 th), (w.heap.size + 1, 1, .int .i64 ki), (w.heap.size + 1, 2, .int .i64 va), (w.heap.size + 1, 3, .int .i64 re), (w.heap.size + 1, 4, .int .i64 go), (w.heap.size + 1 + 1, 0, .slice none 0 0), (w.heap.size + 1 + 1, 1, .int .i64 0), (w.heap.size + 1 + 1, 2, .int .i64 0), (w.heap.size + 1 + 1, 3, .int .i64 0)] := by rw [← hV0]; (simp only [CellsAt]; (repeat' (first | exact trivial | (refine And.intro ?_ ?_))); all_goals (first | (focus ((try simp only [World.size_setCell, World.size_alloc]); omega)) | (repeat (first | rfl | assumption | (refine (World.cell?_alloc_past _ _ _ ?_).trans ?_; focus ((try simp only [World.size_setCell, World.size_alloc]); omega)) | (refine (World.cell?_alloc_at _ _ _ _ ?_).trans ?_; focus ((try simp only [World.size_setCell, World.size_alloc]); done)) | (refine (World.cell?_setCell_other _ _ _ _ ?_).trans ?_; focus (simp; done)) | (refine (World.cell?_setCell_other _ _ _ _ ?_).trans ?_; focus (simp; omega)) | (refine World.cell?_setCell_same' _ _ _ ?_; focus (simp; done))))))
  have hfr0 : ∀ j, V0.frozen? ⟨w.heap.size + 1 + 1, j, none⟩ = false := by intro j; rw [← hV0]; exact World.frozen?_alloc_at _ _ _ _ (by simp)
  have hB0 : Below w.heap.size w V0 := by rw [← hV0]; repeat' (first | (with_reducible exact Below.refl _ _) | (with_reducible assumption) | (with_reducible refine kept_alloc ?_ _) | (with_reducible refine kept_drewN ?_ _) | (with_reducible refine Below.drew ?_) | (with_reducible refine Below.setCell ?_ (by first | omega | (simp; omega) | (simp; done)) _) | (refine kept_trans ?_ (by with_reducible assumption)))
  rw [hV0] at hg hO hgx
  clear hcx hfx hV0
  rw [hs0] at hg hO
  obtain ⟨V, hV⟩ : ∃ V, wx.alloc (.cells #[.slice (some ⟨g, 0, none⟩) a.vals.length a.vals.length, .int .i64 a.cap, .int .i64 a.pol, .int .i64 a.mode] 85) = V := ⟨_, rfl⟩
  have hgV : Below V0.heap.size V0 V := by rw [← hV]; exact hgx.alloc hgx.size _
  have hA : At V (w.heap.size + 3) wx.heap.size a (some ⟨g, 0, none⟩) a.vals.length := by
    rw [← hV]
    refine ⟨?_, obj_at rfl, hO.kept (by repeat' (first | (with_reducible exact Below.refl _ _) | (with_reducible assumption) | (with_reducible refine kept_alloc ?_ _) | (with_reducible refine kept_drewN ?_ _) | (with_reducible refine Below.drew ?_) | (with_reducible refine Below.setCell ?_ (by first | omega | (simp; omega) | (simp; done)) _) | (refine kept_trans ?_ (by with_reducible assumption)))), fun x hx => ?_⟩
    · have := hgx.size; omega
    · have := (hO.lt x hx).2; omega
  rw [hV]
  clear hV hO
  have hcs := cells_keep hgV hcs0
  have hq0 := hcs.1.2; have hq1 := hcs.2.1.2; have hq2 := hcs.2.2.1.2; have hq3 := hcs.2.2.2.1.2; have hq4 := hcs.2.2.2.2.1.2; have hq5 := hcs.2.2.2.2.2.1.2; have hq6 := hcs.2.2.2.2.2.2.1.2; have hq7 := hcs.2.2.2.2.2.2.2.1.2; have hq8 := hcs.2.2.2.2.2.2.2.2.1.2; have hz0 := hcs.1.1
  have hzr : w.heap.size + 1 + 1 < V.heap.size := by have := hgV.size; omega
  have hAh := Lib.hid hA
  have hs0h := Lib.hid hs0
  have hfr0h := Lib.hid hfr0
  have hcs0h := Lib.hid hcs0
  clear hA hs0 hfr0 hcs0 hcs
  go_region_held3 (fun w' => w'.cell? ⟨w.heap.size + 1, 0, none⟩ = some (.int .i64 th) ∧ w'.cell? ⟨w.heap.size + 1, 1, none⟩ = some (.int .i64 ki) ∧ w'.cell? ⟨w.heap.size + 1, 2, none⟩ = some (.int .i64 va) ∧ w'.cell? ⟨w.heap.size + 1, 3, none⟩ = some (.int .i64 re) ∧ w'.cell? ⟨w.heap.size + 1, 4, none⟩ = some (.int .i64 go))
    (first
      | (go_split_ands; refine ⟨?_, ?_, ?_, ?_, ?_⟩ <;> (refine (hgy.cell (p := ⟨_, _, none⟩) (by show w.heap.size + 1 < V.heap.size; omega)).trans ?_; assumption))
      | (go_split_ands; refine ⟨?_, ?_, ?_, ?_, ?_⟩ <;> (refine (hBt.cell (p := ⟨_, _, none⟩) (by show w.heap.size + 1 < w.heap.size + 3; omega)).trans ?_; assumption))
      | go_keep)
    ((first
      | (go_at_call 47; refine (prules_any _).mono ?_; rintro e wy hT; obtain ⟨mb, rfl, hmb, hRt, hgy0⟩ := hT; have hgy : Below V.heap.size V wy := kept_trans (by repeat' (first | (with_reducible exact Below.refl _ _) | (with_reducible assumption) | (with_reducible refine kept_alloc ?_ _) | (with_reducible refine kept_drewN ?_ _) | (with_reducible refine Below.drew ?_) | (with_reducible refine Below.setCell ?_ (by first | omega | (simp; omega) | (simp; done)) _) | (refine kept_trans ?_ (by with_reducible assumption)))) hgy0; clear hgy0)
      | (go_at_call 46; refine (ptell_any (w.heap.size + 3) wx.heap.size a (some ⟨g, 0, none⟩) a.vals.length _ (hAh.out.kept hgy) ⟨th, ki, va, re, go⟩ hm mb hRt).mono ?_; rintro e wt hT; obtain ⟨rfl, p', k', hA', hC, hp'⟩ := hT; have hle1 : w.heap.size + 3 ≤ V.heap.size := (by have := hgV.size; have := hs0h.out; omega); have hBt : Below (w.heap.size + 3) V wt := Chg.below (hgy.mono hle1) hC hAh.out.ge (fun x hx => (hAh.out.own.lt x hx).1) (Nat.le_trans hle1 hgy.size))))
  obtain ⟨⟨t0, t1, t2, t3⟩, -⟩ := hA'.cells
  have r0 := (hBt.cell (p := ⟨w.heap.size + 1 + 1, 0, none⟩) (by show w.heap.size + 1 + 1 < w.heap.size + 3; omega)).trans hq5
  have r1 := (hBt.cell (p := ⟨w.heap.size + 1 + 1, 1, none⟩) (by show w.heap.size + 1 + 1 < w.heap.size + 3; omega)).trans hq6
  have r2 := (hBt.cell (p := ⟨w.heap.size + 1 + 1, 2, none⟩) (by show w.heap.size + 1 + 1 < w.heap.size + 3; omega)).trans hq7
  have r3 := (hBt.cell (p := ⟨w.heap.size + 1 + 1, 3, none⟩) (by show w.heap.size + 1 + 1 < w.heap.size + 3; omega)).trans hq8
  have hfrt : ∀ j, wt.frozen? ⟨w.heap.size + 1 + 1, j, none⟩ = false := fun j => (hBt.frozen (p := ⟨w.heap.size + 1 + 1, j, none⟩) (by show w.heap.size + 1 + 1 < w.heap.size + 3; omega)).trans ((hgV.frozen (p := ⟨w.heap.size + 1 + 1, j, none⟩) (by have := hs0h.out; show w.heap.size + 1 + 1 < _; omega)).trans (hfr0h.out j))
  have f0 := hfrt 0
  have f1 := hfrt 1
  have f2 := hfrt 2
  have f3 := hfrt 3
  have hO' := hA'.own
  have hge := hA'.ge
  have hlt' := hA'.lt
  generalize hrr : a.tell ⟨th, ki, va, re, go⟩ = rr at *
  have hrh := Lib.hid hrr
  have hA'h := Lib.hid hA'
  have hO'h := Lib.hid hO'
  have hCh := Lib.hid hC
  have hp'h := Lib.hid hp'
  clear hrr hfrt hA' hO' hC hp' hq0 hq1 hq2 hq3 hq4 hq5 hq6 hq7 hq8
  go_wp2
  refine bodyPost_ret (v := .tuple #[.agg #[.slice p' rr.1.vals.length k', .int .i64 rr.1.cap, .int .i64 rr.1.pol, .int .i64 rr.1.mode], .bool rr.2]) (by simp [results, Tryz.results18, go_sem, *]) rfl ?_
  refine ⟨p', k', rfl, ?_, ?_, fun _ x hx => .inr (by have := (hO'h.out.lt x hx).1; omega)⟩
  · obtain ⟨x, hx⟩ : ∃ x, p' = some x := by obtain ⟨g, o, _, h, _⟩ := hO'h.out; exact ⟨_, h⟩
    have hO := hO'h.out
    subst hx
    have hlx := (hO.lt x rfl).1
    exact (Ov.setCell (Ov.setCell (Ov.setCell (Ov.setCell hO (by show _ ≠ w.heap.size + 1 + 1; omega) _) (by show _ ≠ w.heap.size + 1 + 1; omega) _) (by show _ ≠ w.heap.size + 1 + 1; omega) _) (by show _ ≠ w.heap.size + 1 + 1; omega) _).sl
  · have hB1 : Below w.heap.size w wt := hB0.trans ((hgV.mono (by have := hs0h.out; omega)).trans (hBt.mono (by omega)))
    repeat' (first | (with_reducible exact Below.refl _ _) | (with_reducible assumption) | (with_reducible refine kept_alloc ?_ _) | (with_reducible refine kept_drewN ?_ _) | (with_reducible refine Below.drew ?_) | (with_reducible refine Below.setCell ?_ (by first | omega | (simp; omega) | (simp; done)) _) | (refine kept_trans ?_ (by with_reducible assumption)))
end Go.Proofs.YtkflpaicohbppaaGreat

/- fifo.Do, and Same of a queue with itself, by contracts told by abstract values. -/
namespace Go.Proofs.YtkflpaicohbppaaGreat
set_option linter.unusedVariables false
set_option linter.unusedSimpArgs false
open Go.RowKit
theorem ac_fdo {q r : Qu} {e : En} {b : Bool} (h : q.tell e = (r, b)) (hm : q.vals.length ≤ 1000) : AC Tryz.prog 18 [quT q, enT e] (.tuple #[quT r, .bool b]) := by
  intro O W vs hl hat
  obtain ⟨ys, rfl, _, _, rfl, h0, _, _, rfl, h1, rfl⟩ := args_of hat
  obtain ⟨us, rfl, hu⟩ := rp_aggL.1 h0
  obtain ⟨_, _, rfl, g0, _, _, rfl, g1, _, _, rfl, g2, _, _, rfl, g3, rfl⟩ := hu
  obtain ⟨p, k, rfl, hs⟩ := rp_rowI.1 g0
  rw [rp_int] at g1 g2 g3
  rw [rp_enT] at h1
  subst g1 g2 g3 h1
  refine (pdo_any q e p k W hs.s hm).mono ?_
  rintro e' W' ⟨p', k', rfl, hS, hk, hb⟩
  rw [h] at hS hb ⊢
  refine ⟨_, rfl, tup2 (rp_aggL.2 ⟨_, rfl, _, _, rfl, rp_rowI.2 ⟨p', k', rfl, ⟨hS, fun hne x hx => ?_⟩⟩, _, _, rfl, rp_int.2 rfl, _, _, rfl, rp_int.2 rfl, _, _, rfl, rp_int.2 rfl, rfl⟩) (rp_bool.2 rfl), hk⟩
  rcases hb hne x hx with ⟨h2, y, hy, hxy⟩ | h2
  · rw [hxy]
    have := hs.i h2 y hy
    exact this
  · exact own_low hl _ h2
set_option maxRecDepth 100000 in
theorem ac_rqsame {q : Qu} (hm : q.vals.length ≤ 1000000) : AC Tryz.prog 16 [quT q, quT q] (.bool true) := by
  rw [show (true : Bool) = (q.mode == q.mode) by simp]
  exact ac_path mixed (ext := [26]) (fuel := 9) (n := 3) (orc := [vD true, .bool true, .bool true]) (an (ac_rints q.vals hm) <| an (show (q.cap == q.cap) = true by simp) <| an (show (q.pol == q.pol) = true by simp) trivial) (by kernel_rfl)
end Go.Proofs.YtkflpaicohbppaaGreat
