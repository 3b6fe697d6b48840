/-
  No cell of these rows narrows 'for every input' (looked for: loops, veiled, ifaces, maps, wideKeys, modest, calm, conditions, laid).
  DERIVED. THE GIVEN ROWS OF THIS SEAT. 7 by the template 'for every input the law returns true; each argument reads behind the call as it read before'; 0 by the template 'total and deterministic' (their statements: YtfllnpcoggmepaaGreatTotals.lean).
  GIVEN WITH THE SEED: the statements are not yours to turn. If you find one false, say at which input.
  Laid BY PROGRAM, IN A SANDBOX (cutbox-rows.mjs): the forced cells as the released guide's own fill.sh prints them over the translation daabfd4ce3edabdf… (all of the seat's roots in one cut). By AI agents, Wed Nov 11 2026. No macro, syntax, notation, axiom, sorry.
-/
import Derived.Test.YtfllnpcoggmepaaGreatChecked
import GoSem.Claim
import GoSem.ClaimJoined
import GoSem.ClaimMapViews
import Derived.JoinedTies
import Derived.KernelRfl
namespace Go.Proofs.YtfllnpcoggmepaaGreat
/- THE CELL 'sum', in the pinned program and in every row, IS THE sha256 OF THE DUMP (.gsa) THAT YtfllnpcoggmepaaGreatProg.lean LOADS. Nothing in Lean hashes anything: it is a label: what it is worth is what the hold of that sum in a sandbox is worth. -/
noncomputable def Tryz.pinned : Pinned := { name := "ytfllnpcoggmepaagreat", sum := "daabfd4ce3edabdf472189bcda1598023c7499c4a47b5b2e3a912f9c94ab655d", checked := Tryz.checked }
namespace Rows
def none {H : Type} : Left H := { results := [], args := [] }

/-- 'sakialaw14.SendTells': WHATEVER THE INPUT: true; the input reads as it did. -/
def sendTellsSpec : ChangeSpec := { name := "sendTells", fn := fun _ => fun
  | [d1, d2, d3, d4] => { results := [.lit (.bool true)], args := [d1, d2, d3, d4] }
  | _ => none }
def sendTellsRow : OpenClaim := { program := "ytfllnpcoggmepaagreat", sum := "daabfd4ce3edabdf472189bcda1598023c7499c4a47b5b2e3a912f9c94ab655d", func := "sakia/sakialaw14.SendTells", spec := "sendTells", unfollowed := true, recurses := true, plainKeys := false, apart := false }
def SendTellsSaid : Prop := sendTellsRow.holds Tryz.pinned (OpenSpec.ofChange sendTellsSpec)

/-- ITS FALSE NEIGHBOUR: 'it returns false'. Refute it at one input. -/
def sendTellsWrong : ChangeSpec := { name := "sendTells", fn := fun _ => fun
  | [d1, d2, d3, d4] => { results := [.lit (.bool false)], args := [d1, d2, d3, d4] }
  | _ => none }
def SendTellsWrongFalsely : Prop := sendTellsRow.holds Tryz.pinned (OpenSpec.ofChange sendTellsWrong)

/-- 'sakialaw14.SendOne': WHATEVER THE INPUT: true; the input reads as it did. -/
def sendOneSpec : ChangeSpec := { name := "sendOne", fn := fun _ => fun
  | [d1, d2] => { results := [.lit (.bool true)], args := [d1, d2] }
  | _ => none }
def sendOneRow : OpenClaim := { program := "ytfllnpcoggmepaagreat", sum := "daabfd4ce3edabdf472189bcda1598023c7499c4a47b5b2e3a912f9c94ab655d", func := "sakia/sakialaw14.SendOne", spec := "sendOne", unfollowed := true, recurses := true, plainKeys := false, apart := false }
def SendOneSaid : Prop := sendOneRow.holds Tryz.pinned (OpenSpec.ofChange sendOneSpec)

/-- ITS FALSE NEIGHBOUR: 'it returns false'. Refute it at one input. -/
def sendOneWrong : ChangeSpec := { name := "sendOne", fn := fun _ => fun
  | [d1, d2] => { results := [.lit (.bool false)], args := [d1, d2] }
  | _ => none }
def SendOneWrongFalsely : Prop := sendOneRow.holds Tryz.pinned (OpenSpec.ofChange sendOneWrong)

/-- 'sakialaw14.SendStays': WHATEVER THE INPUT: true; the input reads as it did. -/
def sendStaysSpec : ChangeSpec := { name := "sendStays", fn := fun _ => fun
  | [d1, d2, d3] => { results := [.lit (.bool true)], args := [d1, d2, d3] }
  | _ => none }
def sendStaysRow : OpenClaim := { program := "ytfllnpcoggmepaagreat", sum := "daabfd4ce3edabdf472189bcda1598023c7499c4a47b5b2e3a912f9c94ab655d", func := "sakia/sakialaw14.SendStays", spec := "sendStays", unfollowed := true, recurses := true, plainKeys := false, apart := false }
def SendStaysSaid : Prop := sendStaysRow.holds Tryz.pinned (OpenSpec.ofChange sendStaysSpec)

/-- ITS FALSE NEIGHBOUR: 'it returns false'. Refute it at one input. -/
def sendStaysWrong : ChangeSpec := { name := "sendStays", fn := fun _ => fun
  | [d1, d2, d3] => { results := [.lit (.bool false)], args := [d1, d2, d3] }
  | _ => none }
def SendStaysWrongFalsely : Prop := sendStaysRow.holds Tryz.pinned (OpenSpec.ofChange sendStaysWrong)

/-- 'sakialaw14.SendAlone': WHATEVER THE INPUT: true; the input reads as it did. -/
def sendAloneSpec : ChangeSpec := { name := "sendAlone", fn := fun _ => fun
  | [d1, d2, d3] => { results := [.lit (.bool true)], args := [d1, d2, d3] }
  | _ => none }
def sendAloneRow : OpenClaim := { program := "ytfllnpcoggmepaagreat", sum := "daabfd4ce3edabdf472189bcda1598023c7499c4a47b5b2e3a912f9c94ab655d", func := "sakia/sakialaw14.SendAlone", spec := "sendAlone", unfollowed := true, recurses := true, plainKeys := false, apart := false }
def SendAloneSaid : Prop := sendAloneRow.holds Tryz.pinned (OpenSpec.ofChange sendAloneSpec)

/-- ITS FALSE NEIGHBOUR: 'it returns false'. Refute it at one input. -/
def sendAloneWrong : ChangeSpec := { name := "sendAlone", fn := fun _ => fun
  | [d1, d2, d3] => { results := [.lit (.bool false)], args := [d1, d2, d3] }
  | _ => none }
def SendAloneWrongFalsely : Prop := sendAloneRow.holds Tryz.pinned (OpenSpec.ofChange sendAloneWrong)

/-- 'sakialaw14.SendFull': WHATEVER THE INPUT: true; the input reads as it did. -/
def sendFullSpec : ChangeSpec := { name := "sendFull", fn := fun _ => fun
  | [d1, d2, d3] => { results := [.lit (.bool true)], args := [d1, d2, d3] }
  | _ => none }
def sendFullRow : OpenClaim := { program := "ytfllnpcoggmepaagreat", sum := "daabfd4ce3edabdf472189bcda1598023c7499c4a47b5b2e3a912f9c94ab655d", func := "sakia/sakialaw14.SendFull", spec := "sendFull", unfollowed := true, recurses := true, plainKeys := false, apart := false }
def SendFullSaid : Prop := sendFullRow.holds Tryz.pinned (OpenSpec.ofChange sendFullSpec)

/-- ITS FALSE NEIGHBOUR: 'it returns false'. Refute it at one input. -/
def sendFullWrong : ChangeSpec := { name := "sendFull", fn := fun _ => fun
  | [d1, d2, d3] => { results := [.lit (.bool false)], args := [d1, d2, d3] }
  | _ => none }
def SendFullWrongFalsely : Prop := sendFullRow.holds Tryz.pinned (OpenSpec.ofChange sendFullWrong)

/-- 'sakialaw14.SendQueue': WHATEVER THE INPUT: true; the input reads as it did. -/
def sendQueueSpec : ChangeSpec := { name := "sendQueue", fn := fun _ => fun
  | [d1, d2] => { results := [.lit (.bool true)], args := [d1, d2] }
  | _ => none }
def sendQueueRow : OpenClaim := { program := "ytfllnpcoggmepaagreat", sum := "daabfd4ce3edabdf472189bcda1598023c7499c4a47b5b2e3a912f9c94ab655d", func := "sakia/sakialaw14.SendQueue", spec := "sendQueue", unfollowed := true, recurses := true, plainKeys := false, apart := false }
def SendQueueSaid : Prop := sendQueueRow.holds Tryz.pinned (OpenSpec.ofChange sendQueueSpec)

/-- ITS FALSE NEIGHBOUR: 'it returns false'. Refute it at one input. -/
def sendQueueWrong : ChangeSpec := { name := "sendQueue", fn := fun _ => fun
  | [d1, d2] => { results := [.lit (.bool false)], args := [d1, d2] }
  | _ => none }
def SendQueueWrongFalsely : Prop := sendQueueRow.holds Tryz.pinned (OpenSpec.ofChange sendQueueWrong)

/-- 'sakialaw14.SendParts': WHATEVER THE INPUT: true; the input reads as it did. -/
def sendPartsSpec : ChangeSpec := { name := "sendParts", fn := fun _ => fun
  | [d1, d2, d3, d4] => { results := [.lit (.bool true)], args := [d1, d2, d3, d4] }
  | _ => none }
def sendPartsRow : OpenClaim := { program := "ytfllnpcoggmepaagreat", sum := "daabfd4ce3edabdf472189bcda1598023c7499c4a47b5b2e3a912f9c94ab655d", func := "sakia/sakialaw14.SendParts", spec := "sendParts", unfollowed := true, recurses := true, plainKeys := false, apart := false }
def SendPartsSaid : Prop := sendPartsRow.holds Tryz.pinned (OpenSpec.ofChange sendPartsSpec)

/-- ITS FALSE NEIGHBOUR: 'it returns false'. Refute it at one input. -/
def sendPartsWrong : ChangeSpec := { name := "sendParts", fn := fun _ => fun
  | [d1, d2, d3, d4] => { results := [.lit (.bool false)], args := [d1, d2, d3, d4] }
  | _ => none }
def SendPartsWrongFalsely : Prop := sendPartsRow.holds Tryz.pinned (OpenSpec.ofChange sendPartsWrong)

/- THE SECOND FORM. 'bulk': how many values and letters a reading holds, each counted each time it is reached (what is shared counts as often as it is met; a slice's spare places count too). A statement '..UptoSaid' is the law's where the arguments, and the package variables that the reading takes, are together of bulk at most 1048576: NARROWER than '..Said'. Prove '..Said' where nothing that the law and all that it calls make is longer than what came in: it says more and counts as full. Else prove '..UptoSaid'. A law counts once. -/
mutual
def uptoBulk {H : Type} : DataW H → Nat
  | .lit (.string bytes) => bytes.length + 1
  | .lit _ => 1
  | .nil => 1
  | .ptr d => uptoBulk d + 1
  | .slice elems spare => uptoBulkAll elems + uptoBulkAll spare + 1
  | .agg parts => uptoBulkAll parts + 1
  | .iface _ d => uptoBulk d + 1
  | .map entries => uptoBulkEntries entries + 1
  | .held _ => 1
def uptoBulkAll {H : Type} : List (DataW H) → Nat
  | [] => 0
  | d :: r => uptoBulk d + uptoBulkAll r
def uptoBulkEntries {H : Type} : List (Lit × DataW H) → Nat
  | [] => 0
  | x :: r => uptoBulkEntry x + uptoBulkEntries r
def uptoBulkEntry {H : Type} : Lit × DataW H → Nat
  | (.string bytes, d) => bytes.length + uptoBulk d + 1
  | (_, d) => uptoBulk d + 1
 end
def uptoSmall : (H : Type) → List (DataW H) → Bool := fun _ ds => decide (uptoBulkAll ds ≤ 1048576)
def OpenSpec.upto (s : _root_.Go.ChangeSpec) : _root_.Go.OpenSpec := { _root_.Go.OpenSpec.ofChange s with cond := some uptoSmall }

/-- 'sakialaw14.SendTells', WHERE WHAT IT READS IS OF BULK AT MOST 1048576: true; the input reads as it did. -/
def sendTellsUptoRow : OpenClaim := { program := "ytfllnpcoggmepaagreat", sum := "daabfd4ce3edabdf472189bcda1598023c7499c4a47b5b2e3a912f9c94ab655d", func := "sakia/sakialaw14.SendTells", spec := "sendTells", unfollowed := true, recurses := true, plainKeys := false, apart := false, narrowed := true }
def SendTellsUptoSaid : Prop := sendTellsUptoRow.holds Tryz.pinned (OpenSpec.upto sendTellsSpec)

/-- 'sakialaw14.SendOne', WHERE WHAT IT READS IS OF BULK AT MOST 1048576: true; the input reads as it did. -/
def sendOneUptoRow : OpenClaim := { program := "ytfllnpcoggmepaagreat", sum := "daabfd4ce3edabdf472189bcda1598023c7499c4a47b5b2e3a912f9c94ab655d", func := "sakia/sakialaw14.SendOne", spec := "sendOne", unfollowed := true, recurses := true, plainKeys := false, apart := false, narrowed := true }
def SendOneUptoSaid : Prop := sendOneUptoRow.holds Tryz.pinned (OpenSpec.upto sendOneSpec)

/-- 'sakialaw14.SendStays', WHERE WHAT IT READS IS OF BULK AT MOST 1048576: true; the input reads as it did. -/
def sendStaysUptoRow : OpenClaim := { program := "ytfllnpcoggmepaagreat", sum := "daabfd4ce3edabdf472189bcda1598023c7499c4a47b5b2e3a912f9c94ab655d", func := "sakia/sakialaw14.SendStays", spec := "sendStays", unfollowed := true, recurses := true, plainKeys := false, apart := false, narrowed := true }
def SendStaysUptoSaid : Prop := sendStaysUptoRow.holds Tryz.pinned (OpenSpec.upto sendStaysSpec)

/-- 'sakialaw14.SendAlone', WHERE WHAT IT READS IS OF BULK AT MOST 1048576: true; the input reads as it did. -/
def sendAloneUptoRow : OpenClaim := { program := "ytfllnpcoggmepaagreat", sum := "daabfd4ce3edabdf472189bcda1598023c7499c4a47b5b2e3a912f9c94ab655d", func := "sakia/sakialaw14.SendAlone", spec := "sendAlone", unfollowed := true, recurses := true, plainKeys := false, apart := false, narrowed := true }
def SendAloneUptoSaid : Prop := sendAloneUptoRow.holds Tryz.pinned (OpenSpec.upto sendAloneSpec)

/-- 'sakialaw14.SendFull', WHERE WHAT IT READS IS OF BULK AT MOST 1048576: true; the input reads as it did. -/
def sendFullUptoRow : OpenClaim := { program := "ytfllnpcoggmepaagreat", sum := "daabfd4ce3edabdf472189bcda1598023c7499c4a47b5b2e3a912f9c94ab655d", func := "sakia/sakialaw14.SendFull", spec := "sendFull", unfollowed := true, recurses := true, plainKeys := false, apart := false, narrowed := true }
def SendFullUptoSaid : Prop := sendFullUptoRow.holds Tryz.pinned (OpenSpec.upto sendFullSpec)

/-- 'sakialaw14.SendQueue', WHERE WHAT IT READS IS OF BULK AT MOST 1048576: true; the input reads as it did. -/
def sendQueueUptoRow : OpenClaim := { program := "ytfllnpcoggmepaagreat", sum := "daabfd4ce3edabdf472189bcda1598023c7499c4a47b5b2e3a912f9c94ab655d", func := "sakia/sakialaw14.SendQueue", spec := "sendQueue", unfollowed := true, recurses := true, plainKeys := false, apart := false, narrowed := true }
def SendQueueUptoSaid : Prop := sendQueueUptoRow.holds Tryz.pinned (OpenSpec.upto sendQueueSpec)

/-- 'sakialaw14.SendParts', WHERE WHAT IT READS IS OF BULK AT MOST 1048576: true; the input reads as it did. -/
def sendPartsUptoRow : OpenClaim := { program := "ytfllnpcoggmepaagreat", sum := "daabfd4ce3edabdf472189bcda1598023c7499c4a47b5b2e3a912f9c94ab655d", func := "sakia/sakialaw14.SendParts", spec := "sendParts", unfollowed := true, recurses := true, plainKeys := false, apart := false, narrowed := true }
def SendPartsUptoSaid : Prop := sendPartsUptoRow.holds Tryz.pinned (OpenSpec.upto sendPartsSpec)

end Rows
end Go.Proofs.YtfllnpcoggmepaaGreat
