/- Texts merged: LineJQ, LineKQ, LineLQ, LineNQ, IntsQ, LineMQ, EventGQ, CopyQ, SlotCQ, SlotDQ, SlotEQ, OpCQ, ThCQ, ThDQ. -/
import Derived.Test.YtfhjllchbgclaaaGreatZb6
import Derived.Test.YtfhjllchbgclaaaGreatZb4
import Derived.LoopTactic
import Derived.Lib.Hide
import Derived.Test.YtfhjllchbgclaaaGreatZb5
import Derived.Laws.CopyOwn
import Derived.Laws.OwnMore
import Derived.Shelf.Abstract
import Derived.Deep.RegionHeld3
/- Layer 5: Next. -/
namespace Go.Proofs.YtfhjllchbgclaaaGreat
set_option linter.unusedVariables false
set_option linter.unusedSimpArgs false
open Go.ChangeShapes Go.WideShapes Go.ChangeAt Go.RowKit

end Go.Proofs.YtfhjllchbgclaaaGreat

/- Layer 5: the document's own answers: at, Check, Place, Enter. -/
namespace Go.Proofs.YtfhjllchbgclaaaGreat
set_option linter.unusedVariables false
set_option linter.unusedSimpArgs false
open Go.ChangeShapes Go.WideShapes Go.ChangeAt Go.RowKit

end Go.Proofs.YtfhjllchbgclaaaGreat

/- Layer 5: the document's own answers: Enter, Leave, Next. -/
namespace Go.Proofs.YtfhjllchbgclaaaGreat
set_option linter.unusedVariables false
set_option linter.unusedSimpArgs false
open Go.ChangeShapes Go.WideShapes Go.ChangeAt Go.RowKit

end Go.Proofs.YtfhjllchbgclaaaGreat

/- Layer 5: First. -/
namespace Go.Proofs.YtfhjllchbgclaaaGreat
set_option linter.unusedVariables false
set_option linter.unusedSimpArgs false
open Go.ChangeShapes Go.WideShapes Go.ChangeAt Go.RowKit

end Go.Proofs.YtfhjllchbgclaaaGreat

/- The document's look whether two lists of integers are one (sakiaref03.Ints). -/
namespace Go.Proofs.YtfhjllchbgclaaaGreat
set_option linter.unusedVariables false
set_option linter.unusedSimpArgs false
open Go.ChangeShapes Go.WideShapes Go.ChangeAt Go.RowKit

end Go.Proofs.YtfhjllchbgclaaaGreat

/- Layer 5: what every statement asks first; arguments opened. -/
namespace Go.Proofs.YtfhjllchbgclaaaGreat
set_option linter.unusedVariables false
set_option linter.unusedSimpArgs false
open Go.ChangeShapes Go.WideShapes Go.ChangeAt Go.RowKit

/-! ### A slice of integers as an argument -/
end Go.Proofs.YtfhjllchbgclaaaGreat

/- Layer 6: Check, Prepare, a copy of an event, how many are enough (a closure). -/
namespace Go.Proofs.YtfhjllchbgclaaaGreat
set_option linter.unusedVariables false
set_option linter.unusedSimpArgs false
open Go.ChangeShapes Go.WideShapes Go.ChangeAt Go.RowKit

/-! ### How many are enough -/
end Go.Proofs.YtfhjllchbgclaaaGreat

/- 'copy' into a row of the call's own, of elements of whatever size, as lists. -/
namespace Go.Proofs.YtfhjllchbgclaaaGreat
set_option linter.unusedVariables false
set_option linter.unusedSimpArgs false
open Go.ChangeShapes Go.WideShapes Go.ChangeAt Go.RowKit

end Go.Proofs.YtfhjllchbgclaaaGreat

/- Layer 9: slots in memory; laid anew; the two closures; one changed. -/
namespace Go.Proofs.YtfhjllchbgclaaaGreat
set_option linter.unusedVariables false
set_option linter.unusedSimpArgs false
open Go.ChangeShapes Go.WideShapes Go.ChangeAt Go.RowKit

theorem ss_at {W : World} {l : List Slo} {b o n c : Nat} (h : Sl W 2 Slo.cells l (.slice (some ⟨b, o, none⟩) n c)) {j : Nat} (hj : j < l.length) : W.cell? ⟨b, o + j * 2, none⟩ = some (.int .i64 (gs l j).st) ∧ W.cell? ⟨b, o + j * 2 + 1, none⟩ = some (.int .i64 (gs l j).vl) := by
  obtain ⟨p, k, e, _, _, _, h4⟩ := h.is
  cases e
  obtain ⟨b', o', e, _, h5⟩ := h4 (by intro h; subst h; simp at hj)
  cases e
  have h6 := h5 j (gs l j) (gs_some hj)
  have h7 := h6 0 (by omega)
  have h8 := h6 1 (by omega)
  exact ⟨by simpa [Slo.cells] using h7, by simpa [Slo.cells] using h8⟩
theorem Ow.len {w : World} {base n cap : Nat} {p : Option Addr} {l : List Slo} (h : Ow w base 104 2 Slo.cells l (.slice p n cap)) : n = l.length := by
  obtain ⟨_, ⟨e, h0⟩ | ⟨_, _, cur, e, _⟩⟩ := h
  · cases e; exact h0.symm
  · cases e; rfl
theorem Ow.slots {w : World} {base g n cap : Nat} {l : List Slo} (h : Ow w base 104 2 Slo.cells l (.slice (some ⟨g, 0, none⟩) n cap)) {i : Nat} (hi : i < l.length) :
    w.cell? ⟨g, i * 2, none⟩ = some (.int .i64 (gs l i).st) ∧ w.cell? ⟨g, i * 2 + 1, none⟩ = some (.int .i64 (gs l i).vl) ∧ w.frozen? ⟨g, i * 2, none⟩ = false ∧ w.frozen? ⟨g, i * 2 + 1, none⟩ = false := by
  have h1 := ss_at (Ow.sl Slo.enc h) hi
  rw [Nat.zero_add] at h1
  obtain ⟨_, ⟨e, _⟩ | ⟨_, _, cur, e, _, hg, _⟩⟩ := h
  · cases e
  cases e
  exact ⟨h1.1, h1.2, by simp [World.frozen?, hg], by simp [World.frozen?, hg]⟩
end Go.Proofs.YtfhjllchbgclaaaGreat

/- Layer 9: what a closure does to a slot; one changed; whether slots may be; places at first. -/
namespace Go.Proofs.YtfhjllchbgclaaaGreat
set_option linter.unusedVariables false
set_option linter.unusedSimpArgs false
open Go.ChangeShapes Go.WideShapes Go.ChangeAt Go.RowKit

end Go.Proofs.YtfhjllchbgclaaaGreat

/- Layer 9: places at first. -/
namespace Go.Proofs.YtfhjllchbgclaaaGreat
set_option linter.unusedVariables false
set_option linter.unusedSimpArgs false
open Go.ChangeShapes Go.WideShapes Go.ChangeAt Go.RowKit
end Go.Proofs.YtfhjllchbgclaaaGreat

/- Layer 11: what each small call returns, as the plain functions say; what was there is kept. -/
namespace Go.Proofs.YtfhjllchbgclaaaGreat
set_option linter.unusedVariables false
set_option linter.unusedSimpArgs false
open Go.ChangeShapes Go.WideShapes Go.ChangeAt Go.RowKit

end Go.Proofs.YtfhjllchbgclaaaGreat

/- Layer 12: what each small call returns, as the plain functions say; what was there is kept. -/
namespace Go.Proofs.YtfhjllchbgclaaaGreat
set_option linter.unusedVariables false
set_option linter.unusedSimpArgs false
open Go.ChangeShapes Go.WideShapes Go.ChangeAt Go.RowKit

end Go.Proofs.YtfhjllchbgclaaaGreat

/- Layer 12: whether a thread may be, and whether it is late: the program's, and the document's. -/
namespace Go.Proofs.YtfhjllchbgclaaaGreat
set_option linter.unusedVariables false
set_option linter.unusedSimpArgs false
open Go.ChangeShapes Go.WideShapes Go.ChangeAt Go.RowKit
end Go.Proofs.YtfhjllchbgclaaaGreat
