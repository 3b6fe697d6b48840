/-
  No cell of these rows narrows 'for every input' (looked for: loops, veiled, ifaces, maps, wideKeys, modest, calm, conditions, laid).
  DERIVED. THE GIVEN ROWS OF THIS SEAT. 5 by the template 'for every input the law returns true; each argument reads behind the call as it read before'; 0 by the template 'total and deterministic' (their statements: YthlgijmpkpmibaaTotals.lean).
  GIVEN WITH THE SEED: the statements are not yours to turn. If you find one false, say at which input.
  Laid BY PROGRAM, IN A SANDBOX (cutbox-rows.mjs): the forced cells as the released guide's own fill.sh prints them over the translation 0fb8609e6d08b28e… (all of the seat's roots in one cut). By AI agents, Wed Nov 11 2026. No macro, syntax, notation, axiom, sorry.
-/
import Derived.Test.YthlgijmpkpmibaaChecked
import GoSem.Claim
import GoSem.ClaimJoined
import GoSem.ClaimMapViews
import Derived.JoinedTies
import Derived.KernelRfl
namespace Go.Proofs.Ythlgijmpkpmibaa
/- THE CELL 'sum', in the pinned program and in every row, IS THE sha256 OF THE DUMP (.gsa) THAT YthlgijmpkpmibaaProg.lean LOADS. Nothing in Lean hashes anything: it is a label: what it is worth is what the hold of that sum in a sandbox is worth. -/
noncomputable def Try.pinned : Pinned := { name := "ythlgijmpkpmibaa", sum := "0fb8609e6d08b28e3f9488b40c31a21fab97403cd7fa730dd34eac7bc46aead6", checked := Try.checked }
namespace Rows
def none {H : Type} : Left H := { results := [], args := [] }

/-- 'sakialaw11.OpTells': WHATEVER THE INPUT: true; the input reads as it did. -/
def opTellsSpec : ChangeSpec := { name := "opTells", fn := fun _ => fun
  | [d1, d2, d3, d4] => { results := [.lit (.bool true)], args := [d1, d2, d3, d4] }
  | _ => none }
def opTellsRow : OpenClaim := { program := "ythlgijmpkpmibaa", sum := "0fb8609e6d08b28e3f9488b40c31a21fab97403cd7fa730dd34eac7bc46aead6", func := "sakia/sakialaw11.OpTells", spec := "opTells", unfollowed := true, recurses := true, plainKeys := false, apart := false }
def OpTellsSaid : Prop := opTellsRow.holds Try.pinned (OpenSpec.ofChange opTellsSpec)

/-- ITS FALSE NEIGHBOUR: 'it returns false'. Refute it at one input. -/
def opTellsWrong : ChangeSpec := { name := "opTells", fn := fun _ => fun
  | [d1, d2, d3, d4] => { results := [.lit (.bool false)], args := [d1, d2, d3, d4] }
  | _ => none }
def OpTellsWrongFalsely : Prop := opTellsRow.holds Try.pinned (OpenSpec.ofChange opTellsWrong)

/-- 'sakialaw11.OpSides': WHATEVER THE INPUT: true; the input reads as it did. -/
def opSidesSpec : ChangeSpec := { name := "opSides", fn := fun _ => fun
  | [d] => { results := [.lit (.bool true)], args := [d] }
  | _ => none }
def opSidesRow : OpenClaim := { program := "ythlgijmpkpmibaa", sum := "0fb8609e6d08b28e3f9488b40c31a21fab97403cd7fa730dd34eac7bc46aead6", func := "sakia/sakialaw11.OpSides", spec := "opSides", unfollowed := true, recurses := true, plainKeys := false, apart := false }
def OpSidesSaid : Prop := opSidesRow.holds Try.pinned (OpenSpec.ofChange opSidesSpec)

/-- ITS FALSE NEIGHBOUR: 'it returns false'. Refute it at one input. -/
def opSidesWrong : ChangeSpec := { name := "opSides", fn := fun _ => fun
  | [d] => { results := [.lit (.bool false)], args := [d] }
  | _ => none }
def OpSidesWrongFalsely : Prop := opSidesRow.holds Try.pinned (OpenSpec.ofChange opSidesWrong)

/-- 'sakialaw11.OpQueue': WHATEVER THE INPUT: true; the input reads as it did. -/
def opQueueSpec : ChangeSpec := { name := "opQueue", fn := fun _ => fun
  | [d1, d2] => { results := [.lit (.bool true)], args := [d1, d2] }
  | _ => none }
def opQueueRow : OpenClaim := { program := "ythlgijmpkpmibaa", sum := "0fb8609e6d08b28e3f9488b40c31a21fab97403cd7fa730dd34eac7bc46aead6", func := "sakia/sakialaw11.OpQueue", spec := "opQueue", unfollowed := true, recurses := true, plainKeys := false, apart := false }
def OpQueueSaid : Prop := opQueueRow.holds Try.pinned (OpenSpec.ofChange opQueueSpec)

/-- ITS FALSE NEIGHBOUR: 'it returns false'. Refute it at one input. -/
def opQueueWrong : ChangeSpec := { name := "opQueue", fn := fun _ => fun
  | [d1, d2] => { results := [.lit (.bool false)], args := [d1, d2] }
  | _ => none }
def OpQueueWrongFalsely : Prop := opQueueRow.holds Try.pinned (OpenSpec.ofChange opQueueWrong)

/-- 'sakialaw11.OpMay': WHATEVER THE INPUT: true; the input reads as it did. -/
def opMaySpec : ChangeSpec := { name := "opMay", fn := fun _ => fun
  | [d1, d2, d3, d4] => { results := [.lit (.bool true)], args := [d1, d2, d3, d4] }
  | _ => none }
def opMayRow : OpenClaim := { program := "ythlgijmpkpmibaa", sum := "0fb8609e6d08b28e3f9488b40c31a21fab97403cd7fa730dd34eac7bc46aead6", func := "sakia/sakialaw11.OpMay", spec := "opMay", unfollowed := true, recurses := true, plainKeys := false, apart := false }
def OpMaySaid : Prop := opMayRow.holds Try.pinned (OpenSpec.ofChange opMaySpec)

/-- ITS FALSE NEIGHBOUR: 'it returns false'. Refute it at one input. -/
def opMayWrong : ChangeSpec := { name := "opMay", fn := fun _ => fun
  | [d1, d2, d3, d4] => { results := [.lit (.bool false)], args := [d1, d2, d3, d4] }
  | _ => none }
def OpMayWrongFalsely : Prop := opMayRow.holds Try.pinned (OpenSpec.ofChange opMayWrong)

/-- 'sakialaw11.OpEnds': WHATEVER THE INPUT: true; the input reads as it did. -/
def opEndsSpec : ChangeSpec := { name := "opEnds", fn := fun _ => fun
  | [d1, d2] => { results := [.lit (.bool true)], args := [d1, d2] }
  | _ => none }
def opEndsRow : OpenClaim := { program := "ythlgijmpkpmibaa", sum := "0fb8609e6d08b28e3f9488b40c31a21fab97403cd7fa730dd34eac7bc46aead6", func := "sakia/sakialaw11.OpEnds", spec := "opEnds", unfollowed := true, recurses := true, plainKeys := false, apart := false }
def OpEndsSaid : Prop := opEndsRow.holds Try.pinned (OpenSpec.ofChange opEndsSpec)

/-- ITS FALSE NEIGHBOUR: 'it returns false'. Refute it at one input. -/
def opEndsWrong : ChangeSpec := { name := "opEnds", fn := fun _ => fun
  | [d1, d2] => { results := [.lit (.bool false)], args := [d1, d2] }
  | _ => none }
def OpEndsWrongFalsely : Prop := opEndsRow.holds Try.pinned (OpenSpec.ofChange opEndsWrong)

/- THE SECOND FORM. 'bulk': how many values and letters a reading holds, each counted each time it is reached (what is shared counts as often as it is met; a slice's spare places count too). A statement '..UptoSaid' is the law's where the arguments, and the package variables that the reading takes, are together of bulk at most 1048576: NARROWER than '..Said'. Prove '..Said' where nothing that the law and all that it calls make is longer than what came in: it says more and counts as full. Else prove '..UptoSaid'. A law counts once. -/
mutual
def uptoBulk {H : Type} : DataW H → Nat
  | .lit (.string bytes) => bytes.length + 1
  | .lit _ => 1
  | .nil => 1
  | .ptr d => uptoBulk d + 1
  | .slice elems spare => uptoBulkAll elems + uptoBulkAll spare + 1
  | .agg parts => uptoBulkAll parts + 1
  | .iface _ d => uptoBulk d + 1
  | .map entries => uptoBulkEntries entries + 1
  | .held _ => 1
def uptoBulkAll {H : Type} : List (DataW H) → Nat
  | [] => 0
  | d :: r => uptoBulk d + uptoBulkAll r
def uptoBulkEntries {H : Type} : List (Lit × DataW H) → Nat
  | [] => 0
  | x :: r => uptoBulkEntry x + uptoBulkEntries r
def uptoBulkEntry {H : Type} : Lit × DataW H → Nat
  | (.string bytes, d) => bytes.length + uptoBulk d + 1
  | (_, d) => uptoBulk d + 1
 end
def uptoSmall : (H : Type) → List (DataW H) → Bool := fun _ ds => decide (uptoBulkAll ds ≤ 1048576)
def OpenSpec.upto (s : _root_.Go.ChangeSpec) : _root_.Go.OpenSpec := { _root_.Go.OpenSpec.ofChange s with cond := some uptoSmall }

/-- 'sakialaw11.OpTells', WHERE WHAT IT READS IS OF BULK AT MOST 1048576: true; the input reads as it did. -/
def opTellsUptoRow : OpenClaim := { program := "ythlgijmpkpmibaa", sum := "0fb8609e6d08b28e3f9488b40c31a21fab97403cd7fa730dd34eac7bc46aead6", func := "sakia/sakialaw11.OpTells", spec := "opTells", unfollowed := true, recurses := true, plainKeys := false, apart := false, narrowed := true }
def OpTellsUptoSaid : Prop := opTellsUptoRow.holds Try.pinned (OpenSpec.upto opTellsSpec)

/-- 'sakialaw11.OpSides', WHERE WHAT IT READS IS OF BULK AT MOST 1048576: true; the input reads as it did. -/
def opSidesUptoRow : OpenClaim := { program := "ythlgijmpkpmibaa", sum := "0fb8609e6d08b28e3f9488b40c31a21fab97403cd7fa730dd34eac7bc46aead6", func := "sakia/sakialaw11.OpSides", spec := "opSides", unfollowed := true, recurses := true, plainKeys := false, apart := false, narrowed := true }
def OpSidesUptoSaid : Prop := opSidesUptoRow.holds Try.pinned (OpenSpec.upto opSidesSpec)

/-- 'sakialaw11.OpQueue', WHERE WHAT IT READS IS OF BULK AT MOST 1048576: true; the input reads as it did. -/
def opQueueUptoRow : OpenClaim := { program := "ythlgijmpkpmibaa", sum := "0fb8609e6d08b28e3f9488b40c31a21fab97403cd7fa730dd34eac7bc46aead6", func := "sakia/sakialaw11.OpQueue", spec := "opQueue", unfollowed := true, recurses := true, plainKeys := false, apart := false, narrowed := true }
def OpQueueUptoSaid : Prop := opQueueUptoRow.holds Try.pinned (OpenSpec.upto opQueueSpec)

/-- 'sakialaw11.OpMay', WHERE WHAT IT READS IS OF BULK AT MOST 1048576: true; the input reads as it did. -/
def opMayUptoRow : OpenClaim := { program := "ythlgijmpkpmibaa", sum := "0fb8609e6d08b28e3f9488b40c31a21fab97403cd7fa730dd34eac7bc46aead6", func := "sakia/sakialaw11.OpMay", spec := "opMay", unfollowed := true, recurses := true, plainKeys := false, apart := false, narrowed := true }
def OpMayUptoSaid : Prop := opMayUptoRow.holds Try.pinned (OpenSpec.upto opMaySpec)

/-- 'sakialaw11.OpEnds', WHERE WHAT IT READS IS OF BULK AT MOST 1048576: true; the input reads as it did. -/
def opEndsUptoRow : OpenClaim := { program := "ythlgijmpkpmibaa", sum := "0fb8609e6d08b28e3f9488b40c31a21fab97403cd7fa730dd34eac7bc46aead6", func := "sakia/sakialaw11.OpEnds", spec := "opEnds", unfollowed := true, recurses := true, plainKeys := false, apart := false, narrowed := true }
def OpEndsUptoSaid : Prop := opEndsUptoRow.holds Try.pinned (OpenSpec.upto opEndsSpec)

end Rows
end Go.Proofs.Ythlgijmpkpmibaa
