/- Slices of integers, as lists. -/
import Derived.Test.YtacfgjjahnobjaaRow
namespace Go.Proofs.Ytacfgjjahnobjaa
set_option linter.unusedVariables false
set_option linter.unusedSimpArgs false

def intC (n : Int) : List Value := [.int .i64 n]
theorem intEnc : Enc 1 intC := ⟨fun _ => rfl, fun x c hc => by simp [intC] at hc; subst hc; rfl⟩
theorem int_info : (Try.prog.info? 3).map (fun i => (i.zero, i.size, i.bytes)) = some (some (.int .i64 0), 1, 8) := by kernel_rfl
theorem take_snoc_eq {α : Type} {l m : List α} {k : Nat} (h : l.length = m.length) (hk : k < l.length) (ht : l.take k = m.take k) (he : l[k] = m[k]'(by omega)) : l.take (k + 1) = m.take (k + 1) := by
  rw [List.take_succ_eq_append_getElem hk, List.take_succ_eq_append_getElem (by omega), ht, he]
end Go.Proofs.Ytacfgjjahnobjaa
