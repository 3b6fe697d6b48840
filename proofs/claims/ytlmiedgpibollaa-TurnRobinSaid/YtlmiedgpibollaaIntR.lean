/- Slices of integers as arguments: their shape. -/
import Derived.Test.YtlmiedgpibollaaInt
namespace Go.Proofs.Ytlmiedgpibollaa
set_option linter.unusedVariables false
set_option linter.unusedSimpArgs false
def intShape : List (Ck 0) := [.int .i64]
theorem int_of_read {W : World} {vs : List Value} (h : ReadL W intShape vs) : ∃ d : Int, vs = intC d ∧ In64 d := by
  simp only [intShape, read_nil, read_cons, read_int, read_bool, read_str] at h
  obtain ⟨_, _, rfl, ⟨a, rfl, h0⟩, rfl⟩ := h
  exact ⟨a, rfl, in64_of_wf h0⟩
end Go.Proofs.Ytlmiedgpibollaa
