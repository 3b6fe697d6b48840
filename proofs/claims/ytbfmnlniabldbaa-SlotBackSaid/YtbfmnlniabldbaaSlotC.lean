/- Layer 9: slots in memory; laid anew; the two closures; one changed. -/
import Derived.Test.YtbfmnlniabldbaaSlotF
import Derived.Test.YtbfmnlniabldbaaCopy
import Derived.Test.YtbfmnlniabldbaaApp
import Derived.LoopTactic
import Derived.Lib.Hide
import Derived.Laws.OwnMore
namespace Go.Proofs.Ytbfmnlniabldbaa
set_option linter.unusedVariables false
set_option linter.unusedSimpArgs false
open Go.ChangeShapes Go.WideShapes Go.ChangeAt Go.RowKit

theorem slo_info : (Try.prog.info? 36).map (fun i => (i.zero, i.size, i.bytes)) = some (some (.agg #[.int .i64 0, .int .i64 0]), 2, 16) := by kernel_rfl
theorem slo_size : (Try.prog.info? 36).map (·.size) = some 2 := by kernel_rfl
theorem ss_nil (w : World) : Sl w 2 Slo.cells [] (.slice none 0 0) := ⟨none, 0, rfl, by simp, by simp, fun _ => rfl, fun h => absurd rfl h⟩
theorem ss_at {W : World} {l : List Slo} {b o n c : Nat} (h : Sl W 2 Slo.cells l (.slice (some ⟨b, o, none⟩) n c)) {j : Nat} (hj : j < l.length) : W.cell? ⟨b, o + j * 2, none⟩ = some (.int .i64 (gs l j).st) ∧ W.cell? ⟨b, o + j * 2 + 1, none⟩ = some (.int .i64 (gs l j).vl) := by
  obtain ⟨p, k, e, _, _, _, h4⟩ := h.is
  cases e
  obtain ⟨b', o', e, _, h5⟩ := h4 (by intro h; subst h; simp at hj)
  cases e
  have h6 := h5 j (gs l j) (gs_some hj)
  have h7 := h6 0 (by omega)
  have h8 := h6 1 (by omega)
  exact ⟨by simpa [Slo.cells] using h7, by simpa [Slo.cells] using h8⟩
theorem Ow.len {w : World} {base n cap : Nat} {p : Option Addr} {l : List Slo} (h : Ow w base 36 2 Slo.cells l (.slice p n cap)) : n = l.length := by
  obtain ⟨_, ⟨e, h0⟩ | ⟨_, _, cur, e, _⟩⟩ := h
  · cases e; exact h0.symm
  · cases e; rfl
theorem Ow.slots {w : World} {base g n cap : Nat} {l : List Slo} (h : Ow w base 36 2 Slo.cells l (.slice (some ⟨g, 0, none⟩) n cap)) {i : Nat} (hi : i < l.length) :
    w.cell? ⟨g, i * 2, none⟩ = some (.int .i64 (gs l i).st) ∧ w.cell? ⟨g, i * 2 + 1, none⟩ = some (.int .i64 (gs l i).vl) ∧ w.frozen? ⟨g, i * 2, none⟩ = false ∧ w.frozen? ⟨g, i * 2 + 1, none⟩ = false := by
  have h1 := ss_at (Ow.sl Slo.enc h) hi
  rw [Nat.zero_add] at h1
  obtain ⟨_, ⟨e, _⟩ | ⟨_, _, cur, e, _, hg, _⟩⟩ := h
  · cases e
  cases e
  exact ⟨h1.1, h1.2, by simp [World.frozen?, hg], by simp [World.frozen?, hg]⟩
theorem flat_setS : ∀ (l : List Slo) (i : Nat) (x : Int), (l.flatMap Slo.cells).set (i * 2) (.int .i64 x) = (l.set i ⟨x, (gs l i).vl⟩).flatMap Slo.cells
  | [], _, _ => rfl
  | _ :: _, 0, _ => rfl
  | e :: l, i + 1, x => by
    have ih := flat_setS l i x
    rw [show (i + 1) * 2 = i * 2 + 1 + 1 by omega]
    simp only [List.flatMap_cons, Slo.cells, List.cons_append, List.nil_append, List.set_cons_succ, gs, List.getD_cons_succ] at ih ⊢
    rw [ih]
theorem flat_setV : ∀ (l : List Slo) (i : Nat) (x : Int), (l.flatMap Slo.cells).set (i * 2 + 1) (.int .i64 x) = (l.set i ⟨(gs l i).st, x⟩).flatMap Slo.cells
  | [], _, _ => rfl
  | _ :: _, 0, _ => rfl
  | e :: l, i + 1, x => by
    have ih := flat_setV l i x
    rw [show (i + 1) * 2 + 1 = i * 2 + 1 + 1 + 1 by omega]
    simp only [List.flatMap_cons, Slo.cells, List.cons_append, List.nil_append, List.set_cons_succ, gs, List.getD_cons_succ] at ih ⊢
    rw [ih]
theorem Ow.setSt {w : World} {base g n cap : Nat} {l : List Slo} (h : Ow w base 36 2 Slo.cells l (.slice (some ⟨g, 0, none⟩) n cap)) (i : Nat) (x : Int) :
    Ow (w.setCell ⟨g, i * 2, none⟩ (.int .i64 x)) base 36 2 Slo.cells (l.set i ⟨x, (gs l i).vl⟩) (.slice (some ⟨g, 0, none⟩) n cap) := by
  obtain ⟨h0, ⟨h1, _⟩ | ⟨_, _, cur, h1, hb, hg, hl, hm, hs, ht⟩⟩ := h
  · cases h1
  cases h1
  refine ⟨flat_len Slo.enc _, .inr ⟨g, cap, cur.setIfInBounds (i * 2) (.int .i64 x), by rw [List.length_set], hb, ?_, by simpa using hl, hm, by simpa using hs, ?_⟩⟩
  · simp [World.setCell, Array.getElem?_modify, hg]
  · rw [← flat_setS l i x, ← ht, List.length_set]
    simp [List.take_set]
theorem Ow.setVl {w : World} {base g n cap : Nat} {l : List Slo} (h : Ow w base 36 2 Slo.cells l (.slice (some ⟨g, 0, none⟩) n cap)) (i : Nat) (x : Int) :
    Ow (w.setCell ⟨g, i * 2 + 1, none⟩ (.int .i64 x)) base 36 2 Slo.cells (l.set i ⟨(gs l i).st, x⟩) (.slice (some ⟨g, 0, none⟩) n cap) := by
  obtain ⟨h0, ⟨h1, _⟩ | ⟨_, _, cur, h1, hb, hg, hl, hm, hs, ht⟩⟩ := h
  · cases h1
  cases h1
  refine ⟨flat_len Slo.enc _, .inr ⟨g, cap, cur.setIfInBounds (i * 2 + 1) (.int .i64 x), by rw [List.length_set], hb, ?_, by simpa using hl, hm, by simpa using hs, ?_⟩⟩
  · simp [World.setCell, Array.getElem?_modify, hg]
  · rw [← flat_setV l i x, ← ht, List.length_set]
    simp [List.take_set]
theorem zero_slots (k : Nat) : (List.replicate k (⟨0, 0⟩ : Slo)).flatMap Slo.cells = List.replicate (k * 2) (.int .i64 0) := by
  induction k with
  | zero => rfl
  | succ k ih => rw [List.replicate_succ, List.flatMap_cons, ih, show (k + 1) * 2 = k * 2 + 1 + 1 by omega, List.replicate_succ, List.replicate_succ]; rfl
theorem made_slots (k : Nat) : (madeCells #[Value.int .i64 0, .int .i64 0] (k * 2)).toList = (List.replicate k (⟨0, 0⟩ : Slo)).flatMap Slo.cells := by
  rw [zero_slots]
  apply List.ext_getElem?
  intro j
  by_cases hj : j < k * 2
  · have : j % 2 = 0 ∨ j % 2 = 1 := by omega
    rcases this with e | e <;> simp [madeCells, hj, e]
  · rw [List.getElem?_eq_none (by simp [size_madeCells]; omega), List.getElem?_eq_none (by simp; omega)]
/-- A row of zeros. -/
theorem Ow.zeroS {w0 w : World} (k : Nat) (hk : k ≤ 1000) (hB : Below w0.heap.size w0 w) : Ow (w.alloc (.cells (madeCells #[Value.int .i64 0, .int .i64 0] (k * 2)) 36)) w0.heap.size 36 2 Slo.cells (List.replicate k ⟨0, 0⟩) (.slice (some ⟨w.heap.size, 0, none⟩) k k) := by
  have hl : (List.replicate k (⟨0, 0⟩ : Slo)).length = k := by simp
  exact Ow.made (W := w) (base := w0.heap.size) (e := 36) Slo.enc (List.replicate k ⟨0, 0⟩) (madeCells #[Value.int .i64 0, .int .i64 0] (k * 2)) (made_slots k) hB.size (by simp; unfold maxLen; omega) rfl hl
theorem mk_slots (c : Int) (k : Nat) (hc : c = (k : Int)) (hk : k ≤ 1000) (W : World) : (Instr.makeSlice 22 (.int .i64 c) (.int .i64 c)).run Try.prog W = .ok (.slice (some ⟨W.heap.size, 0, none⟩) k k) (W.alloc (.cells (madeCells #[Value.int .i64 0, .int .i64 0] (k * 2)) 36)) := by
  subst hc
  obtain ⟨i, hi, hz0, hz1, hz2⟩ := info_parts slo_info
  have := run_makeSlice (P := Try.prog) (w := W) 22 36 i (.agg #[.int .i64 0, .int .i64 0]) Try.underlying22 hi hz0 .i64 .i64 k k (by omega) (Int.le_refl _) (by rw [hz1]; simp; omega) (by rw [hz2]; omega) (by omega)
  rw [hz1] at this
  simpa [Value.cells] using this

/-- What a call that hands back slots of its own leaves. -/
def RetS (w : World) (r : List Slo) (e : Ending) (w' : World) : Prop :=
  ∃ g, e = .returned (.slice (some ⟨g, 0, none⟩) r.length r.length) ∧ w.heap.size ≤ g ∧ Ow w' w.heap.size 36 2 Slo.cells r (.slice (some ⟨g, 0, none⟩) r.length r.length) ∧ Kept w w'

theorem slaid_any (l : List Slo) (p : Option Addr) (k : Nat) (w : World) (hl : Sl w 2 Slo.cells l (.slice p l.length k)) (hm : l.length ≤ 1000) : Calls Try.prog 23 #[.slice p l.length k] w (RetS w l) := by
  have H := Lib.hid hl
  obtain ⟨N, hN⟩ : ∃ N, l.length = N := ⟨_, rfl⟩
  rw [hN] at hl hm
  unfold RetS
  rw [hN]
  have HN := Lib.hid hN
  have hmk := mk_slots N N rfl hm
  have HZ := Lib.hid (Ow.zeroS (w0 := w) (w := w) N hm (Below.refl _ _))
  have HL := Lib.hid (hl.kept (kept_alloc (Below.refl _ _) (.cells (madeCells #[Value.int .i64 0, .int .i64 0] (N * 2)) 36)))
  clear hN hl
  go_enter Try.func23, Try.ntmps23
  go_wp2_with (with_reducible refine wpList_copy_all (o := ⟨some 9, _, _, _, _, _⟩) (wb := w) rfl (.tmp 7) (.tmp 8) 22 22 rfl Try.underlying22 slo_size (by decide) Slo.enc rfl rfl (by simp) HN.out HZ.out HL.out (kept_alloc (Below.refl _ _) _) ?_; intro w1 ho1 hb1; have HO := Lib.hid ho1; clear ho1)
  go_ret
  exact ⟨w.heap.size, rfl, Nat.le_refl _, HO.out, hb1⟩
end Go.Proofs.Ytbfmnlniabldbaa
