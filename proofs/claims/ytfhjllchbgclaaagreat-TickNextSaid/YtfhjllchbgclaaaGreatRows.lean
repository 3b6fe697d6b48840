/-
  No cell of these rows narrows 'for every input' (looked for: loops, veiled, ifaces, maps, wideKeys, modest, calm, conditions, laid).
  DERIVED. THE GIVEN ROWS OF THIS SEAT. 6 by the template 'for every input the law returns true; each argument reads behind the call as it read before'; 0 by the template 'total and deterministic' (their statements: YtfhjllchbgclaaaGreatTotals.lean).
  GIVEN WITH THE SEED: the statements are not yours to turn. If you find one false, say at which input.
  Laid BY PROGRAM, IN A SANDBOX (cutbox-rows.mjs): the forced cells as the released guide's own fill.sh prints them over the translation 1984e6075f3fb515… (all of the seat's roots in one cut). By AI agents, Wed Nov 11 2026. No macro, syntax, notation, axiom, sorry.
-/
import Derived.Test.YtfhjllchbgclaaaGreatChecked
import GoSem.Claim
import GoSem.ClaimJoined
import GoSem.ClaimMapViews
import Derived.JoinedTies
import Derived.KernelRfl
namespace Go.Proofs.YtfhjllchbgclaaaGreat
/- THE CELL 'sum', in the pinned program and in every row, IS THE sha256 OF THE DUMP (.gsa) THAT YtfhjllchbgclaaaGreatProg.lean LOADS. Nothing in Lean hashes anything: it is a label: what it is worth is what the hold of that sum in a sandbox is worth. -/
noncomputable def Tryz.pinned : Pinned := { name := "ytfhjllchbgclaaagreat", sum := "1984e6075f3fb515e09681c722038261e07907425ed8cd63c0440c304a8e0cc1", checked := Tryz.checked }
namespace Rows
def none {H : Type} : Left H := { results := [], args := [] }

/-- 'sakialaw18.TickTells': WHATEVER THE INPUT: true; the input reads as it did. -/
def tickTellsSpec : ChangeSpec := { name := "tickTells", fn := fun _ => fun
  | [d1, d2, d3] => { results := [.lit (.bool true)], args := [d1, d2, d3] }
  | _ => none }
def tickTellsRow : OpenClaim := { program := "ytfhjllchbgclaaagreat", sum := "1984e6075f3fb515e09681c722038261e07907425ed8cd63c0440c304a8e0cc1", func := "sakia/sakialaw18.TickTells", spec := "tickTells", unfollowed := true, recurses := true, apart := false }
def TickTellsSaid : Prop := tickTellsRow.holds Tryz.pinned (OpenSpec.ofChange tickTellsSpec)

/-- ITS FALSE NEIGHBOUR: 'it returns false'. Refute it at one input. -/
def tickTellsWrong : ChangeSpec := { name := "tickTells", fn := fun _ => fun
  | [d1, d2, d3] => { results := [.lit (.bool false)], args := [d1, d2, d3] }
  | _ => none }
def TickTellsWrongFalsely : Prop := tickTellsRow.holds Tryz.pinned (OpenSpec.ofChange tickTellsWrong)

/-- 'sakialaw18.TickStays': WHATEVER THE INPUT: true; the input reads as it did. -/
def tickStaysSpec : ChangeSpec := { name := "tickStays", fn := fun _ => fun
  | [d1, d2] => { results := [.lit (.bool true)], args := [d1, d2] }
  | _ => none }
def tickStaysRow : OpenClaim := { program := "ytfhjllchbgclaaagreat", sum := "1984e6075f3fb515e09681c722038261e07907425ed8cd63c0440c304a8e0cc1", func := "sakia/sakialaw18.TickStays", spec := "tickStays", unfollowed := true, recurses := true, apart := false }
def TickStaysSaid : Prop := tickStaysRow.holds Tryz.pinned (OpenSpec.ofChange tickStaysSpec)

/-- ITS FALSE NEIGHBOUR: 'it returns false'. Refute it at one input. -/
def tickStaysWrong : ChangeSpec := { name := "tickStays", fn := fun _ => fun
  | [d1, d2] => { results := [.lit (.bool false)], args := [d1, d2] }
  | _ => none }
def TickStaysWrongFalsely : Prop := tickStaysRow.holds Tryz.pinned (OpenSpec.ofChange tickStaysWrong)

/-- 'sakialaw18.TickLate': WHATEVER THE INPUT: true; the input reads as it did. -/
def tickLateSpec : ChangeSpec := { name := "tickLate", fn := fun _ => fun
  | [d1, d2] => { results := [.lit (.bool true)], args := [d1, d2] }
  | _ => none }
def tickLateRow : OpenClaim := { program := "ytfhjllchbgclaaagreat", sum := "1984e6075f3fb515e09681c722038261e07907425ed8cd63c0440c304a8e0cc1", func := "sakia/sakialaw18.TickLate", spec := "tickLate", unfollowed := true, recurses := true, apart := false }
def TickLateSaid : Prop := tickLateRow.holds Tryz.pinned (OpenSpec.ofChange tickLateSpec)

/-- ITS FALSE NEIGHBOUR: 'it returns false'. Refute it at one input. -/
def tickLateWrong : ChangeSpec := { name := "tickLate", fn := fun _ => fun
  | [d1, d2] => { results := [.lit (.bool false)], args := [d1, d2] }
  | _ => none }
def TickLateWrongFalsely : Prop := tickLateRow.holds Tryz.pinned (OpenSpec.ofChange tickLateWrong)

/-- 'sakialaw18.TickParts': WHATEVER THE INPUT: true; the input reads as it did. -/
def tickPartsSpec : ChangeSpec := { name := "tickParts", fn := fun _ => fun
  | [d1, d2, d3] => { results := [.lit (.bool true)], args := [d1, d2, d3] }
  | _ => none }
def tickPartsRow : OpenClaim := { program := "ytfhjllchbgclaaagreat", sum := "1984e6075f3fb515e09681c722038261e07907425ed8cd63c0440c304a8e0cc1", func := "sakia/sakialaw18.TickParts", spec := "tickParts", unfollowed := true, recurses := true, apart := false }
def TickPartsSaid : Prop := tickPartsRow.holds Tryz.pinned (OpenSpec.ofChange tickPartsSpec)

/-- ITS FALSE NEIGHBOUR: 'it returns false'. Refute it at one input. -/
def tickPartsWrong : ChangeSpec := { name := "tickParts", fn := fun _ => fun
  | [d1, d2, d3] => { results := [.lit (.bool false)], args := [d1, d2, d3] }
  | _ => none }
def TickPartsWrongFalsely : Prop := tickPartsRow.holds Tryz.pinned (OpenSpec.ofChange tickPartsWrong)

/-- 'sakialaw18.TickNext': WHATEVER THE INPUT: true; the input reads as it did. -/
def tickNextSpec : ChangeSpec := { name := "tickNext", fn := fun _ => fun
  | [d] => { results := [.lit (.bool true)], args := [d] }
  | _ => none }
def tickNextRow : OpenClaim := { program := "ytfhjllchbgclaaagreat", sum := "1984e6075f3fb515e09681c722038261e07907425ed8cd63c0440c304a8e0cc1", func := "sakia/sakialaw18.TickNext", spec := "tickNext", unfollowed := true, recurses := true, apart := false }
def TickNextSaid : Prop := tickNextRow.holds Tryz.pinned (OpenSpec.ofChange tickNextSpec)

/-- ITS FALSE NEIGHBOUR: 'it returns false'. Refute it at one input. -/
def tickNextWrong : ChangeSpec := { name := "tickNext", fn := fun _ => fun
  | [d] => { results := [.lit (.bool false)], args := [d] }
  | _ => none }
def TickNextWrongFalsely : Prop := tickNextRow.holds Tryz.pinned (OpenSpec.ofChange tickNextWrong)

/-- 'sakialaw18.TickNone': WHATEVER THE INPUT: true; the input reads as it did. -/
def tickNoneSpec : ChangeSpec := { name := "tickNone", fn := fun _ => fun
  | [d1, d2] => { results := [.lit (.bool true)], args := [d1, d2] }
  | _ => none }
def tickNoneRow : OpenClaim := { program := "ytfhjllchbgclaaagreat", sum := "1984e6075f3fb515e09681c722038261e07907425ed8cd63c0440c304a8e0cc1", func := "sakia/sakialaw18.TickNone", spec := "tickNone", unfollowed := true, recurses := true, apart := false }
def TickNoneSaid : Prop := tickNoneRow.holds Tryz.pinned (OpenSpec.ofChange tickNoneSpec)

/-- ITS FALSE NEIGHBOUR: 'it returns false'. Refute it at one input. -/
def tickNoneWrong : ChangeSpec := { name := "tickNone", fn := fun _ => fun
  | [d1, d2] => { results := [.lit (.bool false)], args := [d1, d2] }
  | _ => none }
def TickNoneWrongFalsely : Prop := tickNoneRow.holds Tryz.pinned (OpenSpec.ofChange tickNoneWrong)

/- THE SECOND FORM. 'bulk': how many values and letters a reading holds, each counted each time it is reached (what is shared counts as often as it is met; a slice's spare places count too). A statement '..UptoSaid' is the law's where the arguments, and the package variables that the reading takes, are together of bulk at most 1048576: NARROWER than '..Said'. Prove '..Said' where nothing that the law and all that it calls make is longer than what came in: it says more and counts as full. Else prove '..UptoSaid'. A law counts once. -/
mutual
def uptoBulk {H : Type} : DataW H → Nat
  | .lit (.string bytes) => bytes.length + 1
  | .lit _ => 1
  | .nil => 1
  | .ptr d => uptoBulk d + 1
  | .slice elems spare => uptoBulkAll elems + uptoBulkAll spare + 1
  | .agg parts => uptoBulkAll parts + 1
  | .iface _ d => uptoBulk d + 1
  | .map entries => uptoBulkEntries entries + 1
  | .held _ => 1
def uptoBulkAll {H : Type} : List (DataW H) → Nat
  | [] => 0
  | d :: r => uptoBulk d + uptoBulkAll r
def uptoBulkEntries {H : Type} : List (Lit × DataW H) → Nat
  | [] => 0
  | x :: r => uptoBulkEntry x + uptoBulkEntries r
def uptoBulkEntry {H : Type} : Lit × DataW H → Nat
  | (.string bytes, d) => bytes.length + uptoBulk d + 1
  | (_, d) => uptoBulk d + 1
 end
def uptoSmall : (H : Type) → List (DataW H) → Bool := fun _ ds => decide (uptoBulkAll ds ≤ 1048576)
def OpenSpec.upto (s : _root_.Go.ChangeSpec) : _root_.Go.OpenSpec := { _root_.Go.OpenSpec.ofChange s with cond := some uptoSmall }

/-- 'sakialaw18.TickTells', WHERE WHAT IT READS IS OF BULK AT MOST 1048576: true; the input reads as it did. -/
def tickTellsUptoRow : OpenClaim := { program := "ytfhjllchbgclaaagreat", sum := "1984e6075f3fb515e09681c722038261e07907425ed8cd63c0440c304a8e0cc1", func := "sakia/sakialaw18.TickTells", spec := "tickTells", unfollowed := true, recurses := true, apart := false, narrowed := true }
def TickTellsUptoSaid : Prop := tickTellsUptoRow.holds Tryz.pinned (OpenSpec.upto tickTellsSpec)

/-- 'sakialaw18.TickStays', WHERE WHAT IT READS IS OF BULK AT MOST 1048576: true; the input reads as it did. -/
def tickStaysUptoRow : OpenClaim := { program := "ytfhjllchbgclaaagreat", sum := "1984e6075f3fb515e09681c722038261e07907425ed8cd63c0440c304a8e0cc1", func := "sakia/sakialaw18.TickStays", spec := "tickStays", unfollowed := true, recurses := true, apart := false, narrowed := true }
def TickStaysUptoSaid : Prop := tickStaysUptoRow.holds Tryz.pinned (OpenSpec.upto tickStaysSpec)

/-- 'sakialaw18.TickLate', WHERE WHAT IT READS IS OF BULK AT MOST 1048576: true; the input reads as it did. -/
def tickLateUptoRow : OpenClaim := { program := "ytfhjllchbgclaaagreat", sum := "1984e6075f3fb515e09681c722038261e07907425ed8cd63c0440c304a8e0cc1", func := "sakia/sakialaw18.TickLate", spec := "tickLate", unfollowed := true, recurses := true, apart := false, narrowed := true }
def TickLateUptoSaid : Prop := tickLateUptoRow.holds Tryz.pinned (OpenSpec.upto tickLateSpec)

/-- 'sakialaw18.TickParts', WHERE WHAT IT READS IS OF BULK AT MOST 1048576: true; the input reads as it did. -/
def tickPartsUptoRow : OpenClaim := { program := "ytfhjllchbgclaaagreat", sum := "1984e6075f3fb515e09681c722038261e07907425ed8cd63c0440c304a8e0cc1", func := "sakia/sakialaw18.TickParts", spec := "tickParts", unfollowed := true, recurses := true, apart := false, narrowed := true }
def TickPartsUptoSaid : Prop := tickPartsUptoRow.holds Tryz.pinned (OpenSpec.upto tickPartsSpec)

/-- 'sakialaw18.TickNext', WHERE WHAT IT READS IS OF BULK AT MOST 1048576: true; the input reads as it did. -/
def tickNextUptoRow : OpenClaim := { program := "ytfhjllchbgclaaagreat", sum := "1984e6075f3fb515e09681c722038261e07907425ed8cd63c0440c304a8e0cc1", func := "sakia/sakialaw18.TickNext", spec := "tickNext", unfollowed := true, recurses := true, apart := false, narrowed := true }
def TickNextUptoSaid : Prop := tickNextUptoRow.holds Tryz.pinned (OpenSpec.upto tickNextSpec)

/-- 'sakialaw18.TickNone', WHERE WHAT IT READS IS OF BULK AT MOST 1048576: true; the input reads as it did. -/
def tickNoneUptoRow : OpenClaim := { program := "ytfhjllchbgclaaagreat", sum := "1984e6075f3fb515e09681c722038261e07907425ed8cd63c0440c304a8e0cc1", func := "sakia/sakialaw18.TickNone", spec := "tickNone", unfollowed := true, recurses := true, apart := false, narrowed := true }
def TickNoneUptoSaid : Prop := tickNoneUptoRow.holds Tryz.pinned (OpenSpec.upto tickNoneSpec)

end Rows
end Go.Proofs.YtfhjllchbgclaaaGreat
