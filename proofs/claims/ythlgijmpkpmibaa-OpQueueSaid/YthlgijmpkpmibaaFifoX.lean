/- Layer 3: arguments of the statements, opened. -/
import Derived.Test.YthlgijmpkpmibaaFifoF
namespace Go.Proofs.Ythlgijmpkpmibaa
set_option linter.unusedVariables false
set_option linter.unusedSimpArgs false
open Go.ChangeShapes Go.WideShapes Go.ChangeAt Go.RowKit

def En.shape : List (Ck 0) := [.int .i64, .int .i64, .int .i64, .int .i64, .int .i64]
abbrev En.size : Nat := 5
def En.ok (_ : En) : Prop := True
def En.zero : List Value := [.int .i64 0, .int .i64 0, .int .i64 0, .int .i64 0, .int .i64 0]
theorem En.of_read {W : World} {vs : List Value} (h : ReadL W En.shape vs) : ∃ e : En, vs = e.cells ∧ e.ok := by
  simp only [En.shape, read_nil, read_cons, read_int, read_bool, read_str] at h
  obtain ⟨_, _, rfl, ⟨th, rfl, h0⟩, _, _, rfl, ⟨ki, rfl, h1⟩, _, _, rfl, ⟨va, rfl, h2⟩, _, _, rfl, ⟨re, rfl, h3⟩, _, _, rfl, ⟨go, rfl, h4⟩, rfl⟩ := h
  exact ⟨⟨th, ki, va, re, go⟩, rfl, trivial⟩
theorem En.enc : Enc 5 En.cells := ⟨fun _ => rfl, fun x c hc => by simp [En.cells] at hc; rcases hc with rfl | rfl | rfl | rfl | rfl <;> rfl⟩

def Qu.shape : List (Ck 1) := [.row [.int .i64], .int .i64, .int .i64, .int .i64]
def Qu.ok (q : Qu) : Prop := In64 q.cap ∧ In64 q.pol ∧ In64 q.mode
theorem Qu.of_read {W : World} {vs : List Value} (h : ReadL W Qu.shape vs) : ∃ (q : Qu) (p : Option Addr) (k : Nat), vs = [.slice p q.vals.length k, .int .i64 q.cap, .int .i64 q.pol, .int .i64 q.mode] ∧ Sl W 1 intC q.vals (.slice p q.vals.length k) ∧ q.ok ∧ q.vals.length ≤ maxLen := by
  simp only [Qu.shape, read_cons, read_nil, read_int] at h
  obtain ⟨v, _, rfl, hv, _, _, rfl, ⟨c, rfl, h1⟩, _, _, rfl, ⟨po, rfl, h2⟩, _, _, rfl, ⟨m, rfl, h3⟩, rfl⟩ := h
  obtain ⟨xs, hs, _, hl⟩ := Sl.of_read (α := Int) intC (fun _ => True) (by decide) hv (fun vs h => by
    simp only [read_cons, read_nil, read_int] at h
    obtain ⟨_, _, rfl, ⟨x, rfl, _⟩, rfl⟩ := h
    exact ⟨x, rfl, trivial⟩)
  obtain ⟨p, k, rfl, _⟩ := hs.is
  exact ⟨⟨xs, c, po, m⟩, p, k, rfl, hs, ⟨in64_of_wf h1, in64_of_wf h2, in64_of_wf h3⟩, hl⟩
end Go.Proofs.Ythlgijmpkpmibaa
