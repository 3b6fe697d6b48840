/- A configuration (api.Config), by value: its cells, and how one is read off an argument. -/
import Derived.Test.YtacfgjjahnobjaaRead
import Derived.Test.YtacfgjjahnobjaaRow
namespace Go.Proofs.Ytacfgjjahnobjaa
set_option linter.unusedVariables false
set_option linter.unusedSimpArgs false
open Go.ChangeShapes Go.WideShapes Go.ChangeAt Go.RowKit

/-- A configuration. -/
structure Cf where
  lg : Int
  th : Int
  po : Int
  wt : Int
  sp : Int
  yi : Int
  si : Bool
def Cf.cells (c : Cf) : List Value := [.int .i64 c.lg, .int .i64 c.th, .int .i64 c.po, .int .i64 c.wt, .int .i64 c.sp, .int .i64 c.yi, .bool c.si]

def Cf.shape : List (Ck 0) := [.int .i64, .int .i64, .int .i64, .int .i64, .int .i64, .int .i64, .bool]
abbrev Cf.size : Nat := 7
def Cf.ok (c : Cf) : Prop := In64 c.lg ∧ In64 c.th ∧ In64 c.po ∧ In64 c.wt ∧ In64 c.sp ∧ In64 c.yi
def Cf.zero : List Value := [.int .i64 0, .int .i64 0, .int .i64 0, .int .i64 0, .int .i64 0, .int .i64 0, .bool false]
theorem Cf.of_read {W : World} {vs : List Value} (h : ReadL W Cf.shape vs) : ∃ c : Cf, vs = c.cells ∧ c.ok := by
  simp only [Cf.shape, read_nil, read_cons, read_int, read_bool, read_str] at h
  obtain ⟨_, _, rfl, ⟨lg, rfl, h0⟩, _, _, rfl, ⟨th, rfl, h1⟩, _, _, rfl, ⟨po, rfl, h2⟩, _, _, rfl, ⟨wt, rfl, h3⟩, _, _, rfl, ⟨sp, rfl, h4⟩, _, _, rfl, ⟨yi, rfl, h5⟩, _, _, rfl, ⟨si, rfl⟩, rfl⟩ := h
  exact ⟨⟨lg, th, po, wt, sp, yi, si⟩, rfl, in64_of_wf h0, in64_of_wf h1, in64_of_wf h2, in64_of_wf h3, in64_of_wf h4, in64_of_wf h5⟩
theorem Cf.enc : Enc 7 Cf.cells := ⟨fun _ => rfl, fun x c hc => by simp [Cf.cells] at hc; rcases hc with rfl | rfl | rfl | rfl | rfl | rfl | rfl <;> rfl⟩
end Go.Proofs.Ytacfgjjahnobjaa
