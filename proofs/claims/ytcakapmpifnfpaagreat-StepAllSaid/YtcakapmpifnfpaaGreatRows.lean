/-
  No cell of these rows narrows 'for every input' (looked for: loops, veiled, ifaces, maps, wideKeys, modest, calm, conditions, laid).
  DERIVED. THE GIVEN ROWS OF THIS SEAT. 4 by the template 'for every input the law returns true; each argument reads behind the call as it read before'; 0 by the template 'total and deterministic' (their statements: YtcakapmpifnfpaaGreatTotals.lean).
  GIVEN WITH THE SEED: the statements are not yours to turn. If you find one false, say at which input.
  Laid BY PROGRAM, IN A SANDBOX (cutbox-rows.mjs): the forced cells as the released guide's own fill.sh prints them over the translation 127cc8aa65220194… (all of the seat's roots in one cut). By AI agents, Wed Nov 11 2026. No macro, syntax, notation, axiom, sorry.
-/
import Derived.Test.YtcakapmpifnfpaaGreatChecked
import GoSem.Claim
import GoSem.ClaimJoined
import GoSem.ClaimMapViews
import Derived.JoinedTies
import Derived.KernelRfl
namespace Go.Proofs.YtcakapmpifnfpaaGreat
/- THE CELL 'sum', in the pinned program and in every row, IS THE sha256 OF THE DUMP (.gsa) THAT YtcakapmpifnfpaaGreatProg.lean LOADS. Nothing in Lean hashes anything: it is a label: what it is worth is what the hold of that sum in a sandbox is worth. -/
noncomputable def Tryz.pinned : Pinned := { name := "ytcakapmpifnfpaagreat", sum := "127cc8aa65220194908dd3ad1d2bb637248037995e86a3279eebf348b8bf6919", checked := Tryz.checked }
namespace Rows
def none {H : Type} : Left H := { results := [], args := [] }

/-- 'sakialaw17.StepStays': WHATEVER THE INPUT: true; the input reads as it did. -/
def stepStaysSpec : ChangeSpec := { name := "stepStays", fn := fun _ => fun
  | [d1, d2] => { results := [.lit (.bool true)], args := [d1, d2] }
  | _ => none }
def stepStaysRow : OpenClaim := { program := "ytcakapmpifnfpaagreat", sum := "127cc8aa65220194908dd3ad1d2bb637248037995e86a3279eebf348b8bf6919", func := "sakia/sakialaw17.StepStays", spec := "stepStays", unfollowed := true, recurses := true, apart := false }
def StepStaysSaid : Prop := stepStaysRow.holds Tryz.pinned (OpenSpec.ofChange stepStaysSpec)

/-- ITS FALSE NEIGHBOUR: 'it returns false'. Refute it at one input. -/
def stepStaysWrong : ChangeSpec := { name := "stepStays", fn := fun _ => fun
  | [d1, d2] => { results := [.lit (.bool false)], args := [d1, d2] }
  | _ => none }
def StepStaysWrongFalsely : Prop := stepStaysRow.holds Tryz.pinned (OpenSpec.ofChange stepStaysWrong)

/-- 'sakialaw17.StepSome': WHATEVER THE INPUT: true; the input reads as it did. -/
def stepSomeSpec : ChangeSpec := { name := "stepSome", fn := fun _ => fun
  | [d1, d2, d3] => { results := [.lit (.bool true)], args := [d1, d2, d3] }
  | _ => none }
def stepSomeRow : OpenClaim := { program := "ytcakapmpifnfpaagreat", sum := "127cc8aa65220194908dd3ad1d2bb637248037995e86a3279eebf348b8bf6919", func := "sakia/sakialaw17.StepSome", spec := "stepSome", unfollowed := true, recurses := true, apart := false }
def StepSomeSaid : Prop := stepSomeRow.holds Tryz.pinned (OpenSpec.ofChange stepSomeSpec)

/-- ITS FALSE NEIGHBOUR: 'it returns false'. Refute it at one input. -/
def stepSomeWrong : ChangeSpec := { name := "stepSome", fn := fun _ => fun
  | [d1, d2, d3] => { results := [.lit (.bool false)], args := [d1, d2, d3] }
  | _ => none }
def StepSomeWrongFalsely : Prop := stepSomeRow.holds Tryz.pinned (OpenSpec.ofChange stepSomeWrong)

/-- 'sakialaw17.StepActive': WHATEVER THE INPUT: true; the input reads as it did. -/
def stepActiveSpec : ChangeSpec := { name := "stepActive", fn := fun _ => fun
  | [d1, d2] => { results := [.lit (.bool true)], args := [d1, d2] }
  | _ => none }
def stepActiveRow : OpenClaim := { program := "ytcakapmpifnfpaagreat", sum := "127cc8aa65220194908dd3ad1d2bb637248037995e86a3279eebf348b8bf6919", func := "sakia/sakialaw17.StepActive", spec := "stepActive", unfollowed := true, recurses := true, apart := false }
def StepActiveSaid : Prop := stepActiveRow.holds Tryz.pinned (OpenSpec.ofChange stepActiveSpec)

/-- ITS FALSE NEIGHBOUR: 'it returns false'. Refute it at one input. -/
def stepActiveWrong : ChangeSpec := { name := "stepActive", fn := fun _ => fun
  | [d1, d2] => { results := [.lit (.bool false)], args := [d1, d2] }
  | _ => none }
def StepActiveWrongFalsely : Prop := stepActiveRow.holds Tryz.pinned (OpenSpec.ofChange stepActiveWrong)

/-- 'sakialaw17.StepAll': WHATEVER THE INPUT: true; the input reads as it did. -/
def stepAllSpec : ChangeSpec := { name := "stepAll", fn := fun _ => fun
  | [d] => { results := [.lit (.bool true)], args := [d] }
  | _ => none }
def stepAllRow : OpenClaim := { program := "ytcakapmpifnfpaagreat", sum := "127cc8aa65220194908dd3ad1d2bb637248037995e86a3279eebf348b8bf6919", func := "sakia/sakialaw17.StepAll", spec := "stepAll", unfollowed := true, recurses := true, apart := false }
def StepAllSaid : Prop := stepAllRow.holds Tryz.pinned (OpenSpec.ofChange stepAllSpec)

/-- ITS FALSE NEIGHBOUR: 'it returns false'. Refute it at one input. -/
def stepAllWrong : ChangeSpec := { name := "stepAll", fn := fun _ => fun
  | [d] => { results := [.lit (.bool false)], args := [d] }
  | _ => none }
def StepAllWrongFalsely : Prop := stepAllRow.holds Tryz.pinned (OpenSpec.ofChange stepAllWrong)

/- THE SECOND FORM. 'bulk': how many values and letters a reading holds, each counted each time it is reached (what is shared counts as often as it is met; a slice's spare places count too). A statement '..UptoSaid' is the law's where the arguments, and the package variables that the reading takes, are together of bulk at most 1048576: NARROWER than '..Said'. Prove '..Said' where nothing that the law and all that it calls make is longer than what came in: it says more and counts as full. Else prove '..UptoSaid'. A law counts once. -/
mutual
def uptoBulk {H : Type} : DataW H → Nat
  | .lit (.string bytes) => bytes.length + 1
  | .lit _ => 1
  | .nil => 1
  | .ptr d => uptoBulk d + 1
  | .slice elems spare => uptoBulkAll elems + uptoBulkAll spare + 1
  | .agg parts => uptoBulkAll parts + 1
  | .iface _ d => uptoBulk d + 1
  | .map entries => uptoBulkEntries entries + 1
  | .held _ => 1
def uptoBulkAll {H : Type} : List (DataW H) → Nat
  | [] => 0
  | d :: r => uptoBulk d + uptoBulkAll r
def uptoBulkEntries {H : Type} : List (Lit × DataW H) → Nat
  | [] => 0
  | x :: r => uptoBulkEntry x + uptoBulkEntries r
def uptoBulkEntry {H : Type} : Lit × DataW H → Nat
  | (.string bytes, d) => bytes.length + uptoBulk d + 1
  | (_, d) => uptoBulk d + 1
 end
def uptoSmall : (H : Type) → List (DataW H) → Bool := fun _ ds => decide (uptoBulkAll ds ≤ 1048576)
def OpenSpec.upto (s : _root_.Go.ChangeSpec) : _root_.Go.OpenSpec := { _root_.Go.OpenSpec.ofChange s with cond := some uptoSmall }

/-- 'sakialaw17.StepStays', WHERE WHAT IT READS IS OF BULK AT MOST 1048576: true; the input reads as it did. -/
def stepStaysUptoRow : OpenClaim := { program := "ytcakapmpifnfpaagreat", sum := "127cc8aa65220194908dd3ad1d2bb637248037995e86a3279eebf348b8bf6919", func := "sakia/sakialaw17.StepStays", spec := "stepStays", unfollowed := true, recurses := true, apart := false, narrowed := true }
def StepStaysUptoSaid : Prop := stepStaysUptoRow.holds Tryz.pinned (OpenSpec.upto stepStaysSpec)

/-- 'sakialaw17.StepSome', WHERE WHAT IT READS IS OF BULK AT MOST 1048576: true; the input reads as it did. -/
def stepSomeUptoRow : OpenClaim := { program := "ytcakapmpifnfpaagreat", sum := "127cc8aa65220194908dd3ad1d2bb637248037995e86a3279eebf348b8bf6919", func := "sakia/sakialaw17.StepSome", spec := "stepSome", unfollowed := true, recurses := true, apart := false, narrowed := true }
def StepSomeUptoSaid : Prop := stepSomeUptoRow.holds Tryz.pinned (OpenSpec.upto stepSomeSpec)

/-- 'sakialaw17.StepActive', WHERE WHAT IT READS IS OF BULK AT MOST 1048576: true; the input reads as it did. -/
def stepActiveUptoRow : OpenClaim := { program := "ytcakapmpifnfpaagreat", sum := "127cc8aa65220194908dd3ad1d2bb637248037995e86a3279eebf348b8bf6919", func := "sakia/sakialaw17.StepActive", spec := "stepActive", unfollowed := true, recurses := true, apart := false, narrowed := true }
def StepActiveUptoSaid : Prop := stepActiveUptoRow.holds Tryz.pinned (OpenSpec.upto stepActiveSpec)

/-- 'sakialaw17.StepAll', WHERE WHAT IT READS IS OF BULK AT MOST 1048576: true; the input reads as it did. -/
def stepAllUptoRow : OpenClaim := { program := "ytcakapmpifnfpaagreat", sum := "127cc8aa65220194908dd3ad1d2bb637248037995e86a3279eebf348b8bf6919", func := "sakia/sakialaw17.StepAll", spec := "stepAll", unfollowed := true, recurses := true, apart := false, narrowed := true }
def StepAllUptoSaid : Prop := stepAllUptoRow.holds Tryz.pinned (OpenSpec.upto stepAllSpec)

end Rows
end Go.Proofs.YtcakapmpifnfpaaGreat
