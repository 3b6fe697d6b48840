/- Worlds in which all is kept but some blocks. -/
import Derived.Test.YtlmiedgpibollaaRow
namespace Go.Proofs.Ytlmiedgpibollaa
set_option linter.unusedVariables false
set_option linter.unusedSimpArgs false
open Go.ChangeShapes Go.WideShapes Go.ChangeAt Go.RowKit

/-- What was there is kept, but for these blocks. -/
structure Out (S : List Nat) (w w' : World) : Prop where
  os : w'.os = w.os
  tape : w'.tape = w.tape
  output : w'.output = w.output
  size : w.heap.size ≤ w'.heap.size
  block : ∀ j, j < w.heap.size → j ∉ S → w'.heap[j]? = w.heap[j]?
theorem Out.refl (S : List Nat) (w : World) : Out S w w := ⟨rfl, rfl, rfl, Nat.le_refl _, fun _ _ _ => rfl⟩
theorem Out.of_kept {S : List Nat} {w w' : World} (h : Below w.heap.size w w') : Out S w w' := ⟨h.os, h.tape, h.output, h.size, fun j hj _ => h.block j hj⟩
theorem Out.trans {S T : List Nat} {a b c : World} (h : Out S a b) (k : Out T b c) (hs : ∀ j ∈ T, j ∈ S ∨ a.heap.size ≤ j) : Out S a c :=
  ⟨k.os.trans h.os, k.tape.trans h.tape, k.output.trans h.output, Nat.le_trans h.size k.size, fun j hj hn =>
    (k.block j (Nat.lt_of_lt_of_le hj h.size) (fun hT => by rcases hs j hT with h1 | h1; exact hn h1; omega)).trans (h.block j hj hn)⟩
theorem Out.then {S : List Nat} {a b c : World} (h : Out S a b) (k : Below b.heap.size b c) : Out S a c := h.trans (Out.of_kept (S := []) k) (by simp)
theorem Out.after {S : List Nat} {a b c : World} (k : Below a.heap.size a b) (h : Out S b c) : Out S a c := (Out.of_kept (S := S) k).trans h (fun _ h => .inl h)
theorem Out.set {S : List Nat} {w w' : World} (h : Out S w w') {x : Addr} (hx : x.block ∈ S ∨ w.heap.size ≤ x.block) (u : Value) : Out S w (w'.setCell x u) :=
  ⟨h.os, h.tape, h.output, by simpa using h.size, fun j hj hn => (Below.heap_setCell _ _ _ _ (by rcases hx with hx | hx; (intro e; subst e; exact hn hx); omega)).trans (h.block j hj hn)⟩
theorem Out.alloc {S : List Nat} {w w' : World} (h : Out S w w') (o : Obj) : Out S w (w'.alloc o) := h.then ((Below.refl _ _).alloc (Nat.le_refl _) o)
theorem Out.drewN {S : List Nat} {w w' : World} (h : Out S w w') (n : Nat) : Out S w (w'.drewN n) := h.then (below_drewN (Below.refl _ _) n)
theorem Out.grown {S : List Nat} {w w' w'' : World} (h : Out S w w') {row : Option Nat} (k : w'.grownBy w'' row) (hr : ∀ g, row = some g → g ∈ S ∨ w.heap.size ≤ g) : Out S w w'' :=
  h.trans (T := row.toList) ⟨k.os, k.tape, k.output, k.size, fun j hj hn => k.block j hj (fun e => hn (by simp [e]))⟩ (fun j hj => hr j (by simpa using hj))
theorem Out.below {S : List Nat} {base : Nat} {w0 w w' : World} (hb : Below base w0 w) (h : Out S w w') (hS : ∀ j ∈ S, base ≤ j) (hs : base ≤ w.heap.size) : Below base w0 w' :=
  hb.trans ⟨h.os, h.tape, h.output, h.size, fun j hj => h.block j (by omega) (fun hm => by have := hS j hm; omega)⟩
theorem cell_of_block {w w' : World} {b o : Nat} (h : w'.heap[b]? = w.heap[b]?) : w'.cell? ⟨b, o, none⟩ = w.cell? ⟨b, o, none⟩ := by simp [World.cell?, h]
theorem frozen_of_block {w w' : World} {b o : Nat} (h : w'.heap[b]? = w.heap[b]?) : w'.frozen? ⟨b, o, none⟩ = w.frozen? ⟨b, o, none⟩ := by simp [World.frozen?, h]

theorem Ow.of_block {α : Type} {W W' : World} {base k : Nat} {e : TypeId} {enc : α → List Value} {xs : List α} {v : Value} (h : Ow W base e k enc xs v) (hk : ∀ g, v.ownBlock = some g → W'.heap[g]? = W.heap[g]?) : Ow W' base e k enc xs v := by
  obtain ⟨h0, h1 | ⟨g, cap, cur, hv, hb, hg, hl, hm, hs, ht⟩⟩ := h
  · exact ⟨h0, .inl h1⟩
  · exact ⟨h0, .inr ⟨g, cap, cur, hv, hb, (hk g (by subst hv; rfl)).trans hg, hl, hm, hs, ht⟩⟩
end Go.Proofs.Ytlmiedgpibollaa
