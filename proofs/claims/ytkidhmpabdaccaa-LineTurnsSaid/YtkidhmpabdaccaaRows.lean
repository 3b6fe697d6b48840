/-
  No cell of these rows narrows 'for every input' (looked for: loops, veiled, ifaces, maps, wideKeys, modest, calm, conditions, laid).
  DERIVED. THE GIVEN ROWS OF THIS SEAT. 6 by the template 'for every input the law returns true; each argument reads behind the call as it read before'; 0 by the template 'total and deterministic' (their statements: YtkidhmpabdaccaaTotals.lean).
  GIVEN WITH THE SEED: the statements are not yours to turn. If you find one false, say at which input.
  Laid BY PROGRAM, IN A SANDBOX (cutbox-rows.mjs): the forced cells as the released guide's own fill.sh prints them over the translation ef3d5763389bc795… (all of the seat's roots in one cut). By AI agents, Wed Nov 11 2026. No macro, syntax, notation, axiom, sorry.
-/
import Derived.Test.YtkidhmpabdaccaaChecked
import GoSem.Claim
import GoSem.ClaimJoined
import GoSem.ClaimMapViews
import Derived.JoinedTies
import Derived.KernelRfl
namespace Go.Proofs.Ytkidhmpabdaccaa
/- THE CELL 'sum', in the pinned program and in every row, IS THE sha256 OF THE DUMP (.gsa) THAT YtkidhmpabdaccaaProg.lean LOADS. Nothing in Lean hashes anything: it is a label: what it is worth is what the hold of that sum in a sandbox is worth. -/
noncomputable def Try.pinned : Pinned := { name := "ytkidhmpabdaccaa", sum := "ef3d5763389bc795055aec7f8c0651f34c4553bb74fde386677789ed26bd184a", checked := Try.checked }
namespace Rows
def none {H : Type} : Left H := { results := [], args := [] }

/-- 'sakialaw05.LineTells': WHATEVER THE INPUT: true; the input reads as it did. -/
def lineTellsSpec : ChangeSpec := { name := "lineTells", fn := fun _ => fun
  | [d1, d2] => { results := [.lit (.bool true)], args := [d1, d2] }
  | _ => none }
def lineTellsRow : OpenClaim := { program := "ytkidhmpabdaccaa", sum := "ef3d5763389bc795055aec7f8c0651f34c4553bb74fde386677789ed26bd184a", func := "sakia/sakialaw05.LineTells", spec := "lineTells", unfollowed := true, recurses := true, apart := false }
def LineTellsSaid : Prop := lineTellsRow.holds Try.pinned (OpenSpec.ofChange lineTellsSpec)

/-- ITS FALSE NEIGHBOUR: 'it returns false'. Refute it at one input. -/
def lineTellsWrong : ChangeSpec := { name := "lineTells", fn := fun _ => fun
  | [d1, d2] => { results := [.lit (.bool false)], args := [d1, d2] }
  | _ => none }
def LineTellsWrongFalsely : Prop := lineTellsRow.holds Try.pinned (OpenSpec.ofChange lineTellsWrong)

/-- 'sakialaw05.LineBack': WHATEVER THE INPUT: true; the input reads as it did. -/
def lineBackSpec : ChangeSpec := { name := "lineBack", fn := fun _ => fun
  | [d1, d2] => { results := [.lit (.bool true)], args := [d1, d2] }
  | _ => none }
def lineBackRow : OpenClaim := { program := "ytkidhmpabdaccaa", sum := "ef3d5763389bc795055aec7f8c0651f34c4553bb74fde386677789ed26bd184a", func := "sakia/sakialaw05.LineBack", spec := "lineBack", unfollowed := true, recurses := true, apart := false }
def LineBackSaid : Prop := lineBackRow.holds Try.pinned (OpenSpec.ofChange lineBackSpec)

/-- ITS FALSE NEIGHBOUR: 'it returns false'. Refute it at one input. -/
def lineBackWrong : ChangeSpec := { name := "lineBack", fn := fun _ => fun
  | [d1, d2] => { results := [.lit (.bool false)], args := [d1, d2] }
  | _ => none }
def LineBackWrongFalsely : Prop := lineBackRow.holds Try.pinned (OpenSpec.ofChange lineBackWrong)

/-- 'sakialaw05.LineLeaves': WHATEVER THE INPUT: true; the input reads as it did. -/
def lineLeavesSpec : ChangeSpec := { name := "lineLeaves", fn := fun _ => fun
  | [d1, d2, d3] => { results := [.lit (.bool true)], args := [d1, d2, d3] }
  | _ => none }
def lineLeavesRow : OpenClaim := { program := "ytkidhmpabdaccaa", sum := "ef3d5763389bc795055aec7f8c0651f34c4553bb74fde386677789ed26bd184a", func := "sakia/sakialaw05.LineLeaves", spec := "lineLeaves", unfollowed := true, recurses := true, apart := false }
def LineLeavesSaid : Prop := lineLeavesRow.holds Try.pinned (OpenSpec.ofChange lineLeavesSpec)

/-- ITS FALSE NEIGHBOUR: 'it returns false'. Refute it at one input. -/
def lineLeavesWrong : ChangeSpec := { name := "lineLeaves", fn := fun _ => fun
  | [d1, d2, d3] => { results := [.lit (.bool false)], args := [d1, d2, d3] }
  | _ => none }
def LineLeavesWrongFalsely : Prop := lineLeavesRow.holds Try.pinned (OpenSpec.ofChange lineLeavesWrong)

/-- 'sakialaw05.LineServes': WHATEVER THE INPUT: true; the input reads as it did. -/
def lineServesSpec : ChangeSpec := { name := "lineServes", fn := fun _ => fun
  | [d] => { results := [.lit (.bool true)], args := [d] }
  | _ => none }
def lineServesRow : OpenClaim := { program := "ytkidhmpabdaccaa", sum := "ef3d5763389bc795055aec7f8c0651f34c4553bb74fde386677789ed26bd184a", func := "sakia/sakialaw05.LineServes", spec := "lineServes", unfollowed := true, recurses := true, apart := false }
def LineServesSaid : Prop := lineServesRow.holds Try.pinned (OpenSpec.ofChange lineServesSpec)

/-- ITS FALSE NEIGHBOUR: 'it returns false'. Refute it at one input. -/
def lineServesWrong : ChangeSpec := { name := "lineServes", fn := fun _ => fun
  | [d] => { results := [.lit (.bool false)], args := [d] }
  | _ => none }
def LineServesWrongFalsely : Prop := lineServesRow.holds Try.pinned (OpenSpec.ofChange lineServesWrong)

/-- 'sakialaw05.LineTurns': WHATEVER THE INPUT: true; the input reads as it did. -/
def lineTurnsSpec : ChangeSpec := { name := "lineTurns", fn := fun _ => fun
  | [d1, d2, d3, d4] => { results := [.lit (.bool true)], args := [d1, d2, d3, d4] }
  | _ => none }
def lineTurnsRow : OpenClaim := { program := "ytkidhmpabdaccaa", sum := "ef3d5763389bc795055aec7f8c0651f34c4553bb74fde386677789ed26bd184a", func := "sakia/sakialaw05.LineTurns", spec := "lineTurns", unfollowed := true, recurses := true, apart := false }
def LineTurnsSaid : Prop := lineTurnsRow.holds Try.pinned (OpenSpec.ofChange lineTurnsSpec)

/-- ITS FALSE NEIGHBOUR: 'it returns false'. Refute it at one input. -/
def lineTurnsWrong : ChangeSpec := { name := "lineTurns", fn := fun _ => fun
  | [d1, d2, d3, d4] => { results := [.lit (.bool false)], args := [d1, d2, d3, d4] }
  | _ => none }
def LineTurnsWrongFalsely : Prop := lineTurnsRow.holds Try.pinned (OpenSpec.ofChange lineTurnsWrong)

/-- 'sakialaw05.LineEnters': WHATEVER THE INPUT: true; the input reads as it did. -/
def lineEntersSpec : ChangeSpec := { name := "lineEnters", fn := fun _ => fun
  | [d] => { results := [.lit (.bool true)], args := [d] }
  | _ => none }
def lineEntersRow : OpenClaim := { program := "ytkidhmpabdaccaa", sum := "ef3d5763389bc795055aec7f8c0651f34c4553bb74fde386677789ed26bd184a", func := "sakia/sakialaw05.LineEnters", spec := "lineEnters", unfollowed := true, recurses := true, apart := false }
def LineEntersSaid : Prop := lineEntersRow.holds Try.pinned (OpenSpec.ofChange lineEntersSpec)

/-- ITS FALSE NEIGHBOUR: 'it returns false'. Refute it at one input. -/
def lineEntersWrong : ChangeSpec := { name := "lineEnters", fn := fun _ => fun
  | [d] => { results := [.lit (.bool false)], args := [d] }
  | _ => none }
def LineEntersWrongFalsely : Prop := lineEntersRow.holds Try.pinned (OpenSpec.ofChange lineEntersWrong)

/- THE SECOND FORM. 'bulk': how many values and letters a reading holds, each counted each time it is reached (what is shared counts as often as it is met; a slice's spare places count too). A statement '..UptoSaid' is the law's where the arguments, and the package variables that the reading takes, are together of bulk at most 1048576: NARROWER than '..Said'. Prove '..Said' where nothing that the law and all that it calls make is longer than what came in: it says more and counts as full. Else prove '..UptoSaid'. A law counts once. -/
mutual
def uptoBulk {H : Type} : DataW H → Nat
  | .lit (.string bytes) => bytes.length + 1
  | .lit _ => 1
  | .nil => 1
  | .ptr d => uptoBulk d + 1
  | .slice elems spare => uptoBulkAll elems + uptoBulkAll spare + 1
  | .agg parts => uptoBulkAll parts + 1
  | .iface _ d => uptoBulk d + 1
  | .map entries => uptoBulkEntries entries + 1
  | .held _ => 1
def uptoBulkAll {H : Type} : List (DataW H) → Nat
  | [] => 0
  | d :: r => uptoBulk d + uptoBulkAll r
def uptoBulkEntries {H : Type} : List (Lit × DataW H) → Nat
  | [] => 0
  | x :: r => uptoBulkEntry x + uptoBulkEntries r
def uptoBulkEntry {H : Type} : Lit × DataW H → Nat
  | (.string bytes, d) => bytes.length + uptoBulk d + 1
  | (_, d) => uptoBulk d + 1
 end
def uptoSmall : (H : Type) → List (DataW H) → Bool := fun _ ds => decide (uptoBulkAll ds ≤ 1048576)
def OpenSpec.upto (s : _root_.Go.ChangeSpec) : _root_.Go.OpenSpec := { _root_.Go.OpenSpec.ofChange s with cond := some uptoSmall }

/-- 'sakialaw05.LineTells', WHERE WHAT IT READS IS OF BULK AT MOST 1048576: true; the input reads as it did. -/
def lineTellsUptoRow : OpenClaim := { program := "ytkidhmpabdaccaa", sum := "ef3d5763389bc795055aec7f8c0651f34c4553bb74fde386677789ed26bd184a", func := "sakia/sakialaw05.LineTells", spec := "lineTells", unfollowed := true, recurses := true, apart := false, narrowed := true }
def LineTellsUptoSaid : Prop := lineTellsUptoRow.holds Try.pinned (OpenSpec.upto lineTellsSpec)

/-- 'sakialaw05.LineBack', WHERE WHAT IT READS IS OF BULK AT MOST 1048576: true; the input reads as it did. -/
def lineBackUptoRow : OpenClaim := { program := "ytkidhmpabdaccaa", sum := "ef3d5763389bc795055aec7f8c0651f34c4553bb74fde386677789ed26bd184a", func := "sakia/sakialaw05.LineBack", spec := "lineBack", unfollowed := true, recurses := true, apart := false, narrowed := true }
def LineBackUptoSaid : Prop := lineBackUptoRow.holds Try.pinned (OpenSpec.upto lineBackSpec)

/-- 'sakialaw05.LineLeaves', WHERE WHAT IT READS IS OF BULK AT MOST 1048576: true; the input reads as it did. -/
def lineLeavesUptoRow : OpenClaim := { program := "ytkidhmpabdaccaa", sum := "ef3d5763389bc795055aec7f8c0651f34c4553bb74fde386677789ed26bd184a", func := "sakia/sakialaw05.LineLeaves", spec := "lineLeaves", unfollowed := true, recurses := true, apart := false, narrowed := true }
def LineLeavesUptoSaid : Prop := lineLeavesUptoRow.holds Try.pinned (OpenSpec.upto lineLeavesSpec)

/-- 'sakialaw05.LineServes', WHERE WHAT IT READS IS OF BULK AT MOST 1048576: true; the input reads as it did. -/
def lineServesUptoRow : OpenClaim := { program := "ytkidhmpabdaccaa", sum := "ef3d5763389bc795055aec7f8c0651f34c4553bb74fde386677789ed26bd184a", func := "sakia/sakialaw05.LineServes", spec := "lineServes", unfollowed := true, recurses := true, apart := false, narrowed := true }
def LineServesUptoSaid : Prop := lineServesUptoRow.holds Try.pinned (OpenSpec.upto lineServesSpec)

/-- 'sakialaw05.LineTurns', WHERE WHAT IT READS IS OF BULK AT MOST 1048576: true; the input reads as it did. -/
def lineTurnsUptoRow : OpenClaim := { program := "ytkidhmpabdaccaa", sum := "ef3d5763389bc795055aec7f8c0651f34c4553bb74fde386677789ed26bd184a", func := "sakia/sakialaw05.LineTurns", spec := "lineTurns", unfollowed := true, recurses := true, apart := false, narrowed := true }
def LineTurnsUptoSaid : Prop := lineTurnsUptoRow.holds Try.pinned (OpenSpec.upto lineTurnsSpec)

/-- 'sakialaw05.LineEnters', WHERE WHAT IT READS IS OF BULK AT MOST 1048576: true; the input reads as it did. -/
def lineEntersUptoRow : OpenClaim := { program := "ytkidhmpabdaccaa", sum := "ef3d5763389bc795055aec7f8c0651f34c4553bb74fde386677789ed26bd184a", func := "sakia/sakialaw05.LineEnters", spec := "lineEnters", unfollowed := true, recurses := true, apart := false, narrowed := true }
def LineEntersUptoSaid : Prop := lineEntersUptoRow.holds Try.pinned (OpenSpec.upto lineEntersSpec)

end Rows
end Go.Proofs.Ytkidhmpabdaccaa
