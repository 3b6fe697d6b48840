/- Layer 4: the pile in memory: a block that holds a slice, whose array lies in another block of the call's own. -/
import Derived.Test.YthlpjlcadcgoeaaDueH
import Derived.Deep.RegionHeld3
import Derived.MapKept
namespace Go.Proofs.Ythlpjlcadcgoeaa
set_option linter.unusedVariables false
set_option linter.unusedSimpArgs false
open Go.ChangeShapes Go.WideShapes Go.ChangeAt Go.RowKit

/-- What was there is kept, but for these blocks. -/
structure Out (S : List Nat) (w w' : World) : Prop where
  os : w'.os = w.os
  tape : w'.tape = w.tape
  output : w'.output = w.output
  size : w.heap.size ≤ w'.heap.size
  block : ∀ j, j < w.heap.size → j ∉ S → w'.heap[j]? = w.heap[j]?
theorem Out.refl (S : List Nat) (w : World) : Out S w w := ⟨rfl, rfl, rfl, Nat.le_refl _, fun _ _ _ => rfl⟩
theorem Out.of_kept {S : List Nat} {w w' : World} (h : Below w.heap.size w w') : Out S w w' := ⟨h.os, h.tape, h.output, h.size, fun j hj _ => h.block j hj⟩
theorem Out.trans {S T : List Nat} {a b c : World} (h : Out S a b) (k : Out T b c) (hs : ∀ j ∈ T, j ∈ S ∨ a.heap.size ≤ j) : Out S a c :=
  ⟨k.os.trans h.os, k.tape.trans h.tape, k.output.trans h.output, Nat.le_trans h.size k.size, fun j hj hn =>
    (k.block j (Nat.lt_of_lt_of_le hj h.size) (fun hT => by rcases hs j hT with h1 | h1; exact hn h1; omega)).trans (h.block j hj hn)⟩
theorem Out.then {S : List Nat} {a b c : World} (h : Out S a b) (k : Below b.heap.size b c) : Out S a c := h.trans (Out.of_kept (S := []) k) (by simp)
theorem Out.after {S : List Nat} {a b c : World} (k : Below a.heap.size a b) (h : Out S b c) : Out S a c := (Out.of_kept (S := S) k).trans h (fun _ h => .inl h)
theorem Out.set {S : List Nat} {w w' : World} (h : Out S w w') {x : Addr} (hx : x.block ∈ S ∨ w.heap.size ≤ x.block) (u : Value) : Out S w (w'.setCell x u) :=
  ⟨h.os, h.tape, h.output, by simpa using h.size, fun j hj hn => (Below.heap_setCell _ _ _ _ (by rcases hx with hx | hx; (intro e; subst e; exact hn hx); omega)).trans (h.block j hj hn)⟩
theorem Out.alloc {S : List Nat} {w w' : World} (h : Out S w w') (o : Obj) : Out S w (w'.alloc o) := h.then ((Below.refl _ _).alloc (Nat.le_refl _) o)
theorem Out.drewN {S : List Nat} {w w' : World} (h : Out S w w') (n : Nat) : Out S w (w'.drewN n) := h.then (below_drewN (Below.refl _ _) n)
theorem Out.grown {S : List Nat} {w w' w'' : World} (h : Out S w w') {row : Option Nat} (k : w'.grownBy w'' row) (hr : ∀ g, row = some g → g ∈ S ∨ w.heap.size ≤ g) : Out S w w'' :=
  h.trans (T := row.toList) ⟨k.os, k.tape, k.output, k.size, fun j hj hn => k.block j hj (fun e => hn (by simp [e]))⟩ (fun j hj => hr j (by simpa using hj))
theorem Out.below {S : List Nat} {base : Nat} {w0 w w' : World} (hb : Below base w0 w) (h : Out S w w') (hS : ∀ j ∈ S, base ≤ j) (hs : base ≤ w.heap.size) : Below base w0 w' :=
  hb.trans ⟨h.os, h.tape, h.output, h.size, fun j hj => h.block j (by omega) (fun hm => by have := hS j hm; omega)⟩
theorem cell_of_block {w w' : World} {b o : Nat} (h : w'.heap[b]? = w.heap[b]?) : w'.cell? ⟨b, o, none⟩ = w.cell? ⟨b, o, none⟩ := by simp [World.cell?, h]
theorem frozen_of_block {w w' : World} {b o : Nat} (h : w'.heap[b]? = w.heap[b]?) : w'.frozen? ⟨b, o, none⟩ = w.frozen? ⟨b, o, none⟩ := by simp [World.frozen?, h]

theorem Ow.of_block {α : Type} {W W' : World} {base k : Nat} {e : TypeId} {enc : α → List Value} {xs : List α} {v : Value} (h : Ow W base e k enc xs v) (hk : ∀ g, v.ownBlock = some g → W'.heap[g]? = W.heap[g]?) : Ow W' base e k enc xs v := by
  obtain ⟨h0, h1 | ⟨g, cap, cur, hv, hb, hg, hl, hm, hs, ht⟩⟩ := h
  · exact ⟨h0, .inl h1⟩
  · exact ⟨h0, .inr ⟨g, cap, cur, hv, hb, (hk g (by subst hv; rfl)).trans hg, hl, hm, hs, ht⟩⟩

theorem flat_set : ∀ (l : List Du) (i : Nat) (d : Du), i < l.length → ((l.flatMap Du.cells).set (i * 2) (.int .i64 d.tm)).set (i * 2 + 1) (.int .i64 d.id) = (l.set i d).flatMap Du.cells
  | [], _, _, h => by simp at h
  | e :: l, 0, d, _ => rfl
  | e :: l, i + 1, d, h => by
    have ih := flat_set l i d (by simpa using h)
    rw [show (i + 1) * 2 + 1 = i * 2 + 1 + 1 + 1 by omega, show (i + 1) * 2 = i * 2 + 1 + 1 by omega]
    simp only [List.flatMap_cons, Du.cells, List.cons_append, List.nil_append, List.set_cons_succ]
    rw [ih]

/-- The pile: block pb holds the slice, block g its array. -/
structure Pile (w : World) (pb g cap : Nat) (l : List Du) : Prop where
  ne : g ≠ pb
  obj : w.heap[pb]? = some (.cells #[.slice (some ⟨g, 0, none⟩) l.length cap] 56 (0, 0))
  own : Ow w 0 24 2 Du.cells l (.slice (some ⟨g, 0, none⟩) l.length cap)
theorem Pile.lt {w : World} {pb g cap : Nat} {l : List Du} (h : Pile w pb g cap l) : pb < w.heap.size ∧ g < w.heap.size := ⟨(Array.getElem?_eq_some_iff.1 h.obj).1, (Ow.lt h.own g rfl).2⟩
theorem Pile.of_block {w w' : World} {pb g cap : Nat} {l : List Du} (h : Pile w pb g cap l) (h1 : w'.heap[pb]? = w.heap[pb]?) (h2 : w'.heap[g]? = w.heap[g]?) : Pile w' pb g cap l :=
  ⟨h.ne, h1.trans h.obj, h.own.of_block (fun x hx => by cases hx; exact h2)⟩
theorem Pile.kept {w w' : World} {pb g cap : Nat} {l : List Du} (h : Pile w pb g cap l) (hk : Below w.heap.size w w') : Pile w' pb g cap l := h.of_block (hk.block _ h.lt.1) (hk.block _ h.lt.2)
theorem Pile.out {w w' : World} {pb g cap : Nat} {l : List Du} {S : List Nat} (h : Pile w pb g cap l) (hk : Out S w w') (h1 : pb ∉ S) (h2 : g ∉ S) : Pile w' pb g cap l := h.of_block (hk.block _ h.lt.1 h1) (hk.block _ h.lt.2 h2)
theorem Pile.slice {w : World} {pb g cap : Nat} {l : List Du} (h : Pile w pb g cap l) : w.cell? ⟨pb, 0, none⟩ = some (.slice (some ⟨g, 0, none⟩) l.length cap) ∧ w.frozen? ⟨pb, 0, none⟩ = false := by
  simp [World.cell?, World.frozen?, h.obj]
theorem Pile.bd {w : World} {pb g cap : Nat} {l : List Du} (h : Pile w pb g cap l) : l.length ≤ cap ∧ cap ≤ maxLen := by
  obtain ⟨_, ⟨h1, _⟩ | ⟨_, _, cur, h1, _, _, h2, h3, _⟩⟩ := h.own
  · cases h1
  · cases h1; exact ⟨h2, h3⟩
theorem Pile.cells {w : World} {pb g cap : Nat} {l : List Du} (h : Pile w pb g cap l) {i : Nat} (hi : i < l.length) :
    w.cell? ⟨g, i * 2, none⟩ = some (.int .i64 (gt l i).tm) ∧ w.cell? ⟨g, i * 2 + 1, none⟩ = some (.int .i64 (gt l i).id) ∧ w.frozen? ⟨g, i * 2, none⟩ = false ∧ w.frozen? ⟨g, i * 2 + 1, none⟩ = false := by
  obtain ⟨p, c, e, _, _, _, h4⟩ := (Ow.sl Du.enc h.own).is
  cases e
  obtain ⟨b, o, e, _, h5⟩ := h4 (by intro h; subst h; simp at hi)
  cases e
  have h6 := h5 i (gt l i) (gt_some hi)
  have h7 := h6 0 (by omega)
  have h8 := h6 1 (by omega)
  obtain ⟨_, ⟨e, _⟩ | ⟨_, _, cur, e, _, hg, _⟩⟩ := h.own
  · cases e
  cases e
  refine ⟨by simpa [Du.cells] using h7, by simpa [Du.cells] using h8, ?_, ?_⟩ <;> simp [World.frozen?, hg]
theorem Ow.setAt {w : World} {base : Nat} {g cap : Nat} {l : List Du} (h : Ow w base 24 2 Du.cells l (.slice (some ⟨g, 0, none⟩) l.length cap)) {i : Nat} (hi : i < l.length) (d : Du) :
    Ow ((w.setCell ⟨g, i * 2, none⟩ (.int .i64 d.tm)).setCell ⟨g, i * 2 + 1, none⟩ (.int .i64 d.id)) base 24 2 Du.cells (l.set i d) (.slice (some ⟨g, 0, none⟩) (l.set i d).length cap) := by
  obtain ⟨h0, ⟨h1, _⟩ | ⟨_, _, cur, h1, hb, hg, hl, hm, hs, ht⟩⟩ := h
  · cases h1
  cases h1
  refine ⟨flat_len Du.enc _, .inr ⟨g, cap, (cur.setIfInBounds (i * 2) (.int .i64 d.tm)).setIfInBounds (i * 2 + 1) (.int .i64 d.id), rfl, hb, ?_, by simpa using hl, hm, by simpa using hs, ?_⟩⟩
  · simp [World.setCell, Array.getElem?_modify, hg]
  · rw [← flat_set l i d hi, ← ht, List.length_set]
    simp [List.take_set]
theorem Pile.setAt {w : World} {pb g cap : Nat} {l : List Du} (h : Pile w pb g cap l) {i : Nat} (hi : i < l.length) (d : Du) :
    Pile ((w.setCell ⟨g, i * 2, none⟩ (.int .i64 d.tm)).setCell ⟨g, i * 2 + 1, none⟩ (.int .i64 d.id)) pb g cap (l.set i d) := by
  refine ⟨h.ne, ?_, Ow.setAt h.own hi d⟩
  rw [Below.heap_setCell _ _ _ _ (Ne.symm h.ne), Below.heap_setCell _ _ _ _ (Ne.symm h.ne), h.obj, List.length_set]
/-- Less is there, or more. -/
theorem Pile.with {w : World} {pb g n c cap : Nat} {p : Option Addr} {l : List Du} (hp : w.heap[pb]? = some (.cells #[.slice p n c] 56 (0, 0))) (ho : Ow w 0 24 2 Du.cells l (.slice (some ⟨g, 0, none⟩) l.length cap)) (hne : g ≠ pb) :
    Pile (w.setCell ⟨pb, 0, none⟩ (.slice (some ⟨g, 0, none⟩) l.length cap)) pb g cap l :=
  ⟨hne, by simp [World.setCell, Array.getElem?_modify, hp], ho.of_block (fun x hx => by cases hx; exact Below.heap_setCell _ _ _ _ hne)⟩
theorem Ow.take {w : World} {base g cap n : Nat} {l : List Du} (h : Ow w base 24 2 Du.cells l (.slice (some ⟨g, 0, none⟩) l.length cap)) (hn : n ≤ l.length) : Ow w base 24 2 Du.cells (l.take n) (.slice (some ⟨g, 0, none⟩) (l.take n).length cap) := by
  obtain ⟨h0, ⟨h1, _⟩ | ⟨_, _, cur, h1, hb, hg, hl, hm, hs, ht⟩⟩ := h
  · cases h1
  cases h1
  have hln : (l.take n).length = n := by simp; omega
  have hf : (l.take n).flatMap Du.cells = (l.flatMap Du.cells).take (n * 2) := by
    have : l.flatMap Du.cells = (l.take n).flatMap Du.cells ++ (l.drop n).flatMap Du.cells := by rw [← List.flatMap_append, List.take_append_drop]
    rw [this, List.take_left' (by rw [flat_len Du.enc, hln])]
  refine ⟨flat_len Du.enc _, .inr ⟨g, cap, cur, rfl, hb, hg, by omega, hm, hs, ?_⟩⟩
  rw [hln, hf, ← ht, List.take_take]
  congr 1
  omega
end Go.Proofs.Ythlpjlcadcgoeaa
