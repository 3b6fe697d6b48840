/-
  No cell of these rows narrows 'for every input' (looked for: loops, veiled, ifaces, maps, wideKeys, modest, calm, conditions, laid).
  DERIVED. THE GIVEN ROWS OF THIS SEAT. 7 by the template 'for every input the law returns true; each argument reads behind the call as it read before'; 0 by the template 'total and deterministic' (their statements: YtjbcfjfnobklkaaGreatTotals.lean).
  GIVEN WITH THE SEED: the statements are not yours to turn. If you find one false, say at which input.
  Laid BY PROGRAM, IN A SANDBOX (cutbox-rows.mjs): the forced cells as the released guide's own fill.sh prints them over the translation 3e2ef61ad2106d26… (all of the seat's roots in one cut). By AI agents, Wed Nov 11 2026. No macro, syntax, notation, axiom, sorry.
-/
import Derived.Test.YtjbcfjfnobklkaaGreatChecked
import GoSem.Claim
import GoSem.ClaimJoined
import GoSem.ClaimMapViews
import Derived.JoinedTies
import Derived.KernelRfl
namespace Go.Proofs.YtjbcfjfnobklkaaGreat
/- THE CELL 'sum', in the pinned program and in every row, IS THE sha256 OF THE DUMP (.gsa) THAT YtjbcfjfnobklkaaGreatProg.lean LOADS. Nothing in Lean hashes anything: it is a label: what it is worth is what the hold of that sum in a sandbox is worth. -/
noncomputable def Tryz.pinned : Pinned := { name := "ytjbcfjfnobklkaagreat", sum := "3e2ef61ad2106d26790b3e5c4aee698a2f159f7f1e42b73eb5ed35dfc5d82bf6", checked := Tryz.checked }
namespace Rows
def none {H : Type} : Left H := { results := [], args := [] }

/-- 'sakialaw15.RecvTells': WHATEVER THE INPUT: true; the input reads as it did. -/
def recvTellsSpec : ChangeSpec := { name := "recvTells", fn := fun _ => fun
  | [d1, d2, d3, d4] => { results := [.lit (.bool true)], args := [d1, d2, d3, d4] }
  | _ => none }
def recvTellsRow : OpenClaim := { program := "ytjbcfjfnobklkaagreat", sum := "3e2ef61ad2106d26790b3e5c4aee698a2f159f7f1e42b73eb5ed35dfc5d82bf6", func := "sakia/sakialaw15.RecvTells", spec := "recvTells", unfollowed := true, recurses := true, plainKeys := false, apart := false }
def RecvTellsSaid : Prop := recvTellsRow.holds Tryz.pinned (OpenSpec.ofChange recvTellsSpec)

/-- ITS FALSE NEIGHBOUR: 'it returns false'. Refute it at one input. -/
def recvTellsWrong : ChangeSpec := { name := "recvTells", fn := fun _ => fun
  | [d1, d2, d3, d4] => { results := [.lit (.bool false)], args := [d1, d2, d3, d4] }
  | _ => none }
def RecvTellsWrongFalsely : Prop := recvTellsRow.holds Tryz.pinned (OpenSpec.ofChange recvTellsWrong)

/-- 'sakialaw15.RecvOne': WHATEVER THE INPUT: true; the input reads as it did. -/
def recvOneSpec : ChangeSpec := { name := "recvOne", fn := fun _ => fun
  | [d1, d2] => { results := [.lit (.bool true)], args := [d1, d2] }
  | _ => none }
def recvOneRow : OpenClaim := { program := "ytjbcfjfnobklkaagreat", sum := "3e2ef61ad2106d26790b3e5c4aee698a2f159f7f1e42b73eb5ed35dfc5d82bf6", func := "sakia/sakialaw15.RecvOne", spec := "recvOne", unfollowed := true, recurses := true, plainKeys := false, apart := false }
def RecvOneSaid : Prop := recvOneRow.holds Tryz.pinned (OpenSpec.ofChange recvOneSpec)

/-- ITS FALSE NEIGHBOUR: 'it returns false'. Refute it at one input. -/
def recvOneWrong : ChangeSpec := { name := "recvOne", fn := fun _ => fun
  | [d1, d2] => { results := [.lit (.bool false)], args := [d1, d2] }
  | _ => none }
def RecvOneWrongFalsely : Prop := recvOneRow.holds Tryz.pinned (OpenSpec.ofChange recvOneWrong)

/-- 'sakialaw15.RecvStays': WHATEVER THE INPUT: true; the input reads as it did. -/
def recvStaysSpec : ChangeSpec := { name := "recvStays", fn := fun _ => fun
  | [d1, d2, d3] => { results := [.lit (.bool true)], args := [d1, d2, d3] }
  | _ => none }
def recvStaysRow : OpenClaim := { program := "ytjbcfjfnobklkaagreat", sum := "3e2ef61ad2106d26790b3e5c4aee698a2f159f7f1e42b73eb5ed35dfc5d82bf6", func := "sakia/sakialaw15.RecvStays", spec := "recvStays", unfollowed := true, recurses := true, plainKeys := false, apart := false }
def RecvStaysSaid : Prop := recvStaysRow.holds Tryz.pinned (OpenSpec.ofChange recvStaysSpec)

/-- ITS FALSE NEIGHBOUR: 'it returns false'. Refute it at one input. -/
def recvStaysWrong : ChangeSpec := { name := "recvStays", fn := fun _ => fun
  | [d1, d2, d3] => { results := [.lit (.bool false)], args := [d1, d2, d3] }
  | _ => none }
def RecvStaysWrongFalsely : Prop := recvStaysRow.holds Tryz.pinned (OpenSpec.ofChange recvStaysWrong)

/-- 'sakialaw15.RecvAll': WHATEVER THE INPUT: true; the input reads as it did. -/
def recvAllSpec : ChangeSpec := { name := "recvAll", fn := fun _ => fun
  | [d1, d2, d3] => { results := [.lit (.bool true)], args := [d1, d2, d3] }
  | _ => none }
def recvAllRow : OpenClaim := { program := "ytjbcfjfnobklkaagreat", sum := "3e2ef61ad2106d26790b3e5c4aee698a2f159f7f1e42b73eb5ed35dfc5d82bf6", func := "sakia/sakialaw15.RecvAll", spec := "recvAll", unfollowed := true, recurses := true, plainKeys := false, apart := false }
def RecvAllSaid : Prop := recvAllRow.holds Tryz.pinned (OpenSpec.ofChange recvAllSpec)

/-- ITS FALSE NEIGHBOUR: 'it returns false'. Refute it at one input. -/
def recvAllWrong : ChangeSpec := { name := "recvAll", fn := fun _ => fun
  | [d1, d2, d3] => { results := [.lit (.bool false)], args := [d1, d2, d3] }
  | _ => none }
def RecvAllWrongFalsely : Prop := recvAllRow.holds Tryz.pinned (OpenSpec.ofChange recvAllWrong)

/-- 'sakialaw15.RecvQueue': WHATEVER THE INPUT: true; the input reads as it did. -/
def recvQueueSpec : ChangeSpec := { name := "recvQueue", fn := fun _ => fun
  | [d1, d2] => { results := [.lit (.bool true)], args := [d1, d2] }
  | _ => none }
def recvQueueRow : OpenClaim := { program := "ytjbcfjfnobklkaagreat", sum := "3e2ef61ad2106d26790b3e5c4aee698a2f159f7f1e42b73eb5ed35dfc5d82bf6", func := "sakia/sakialaw15.RecvQueue", spec := "recvQueue", unfollowed := true, recurses := true, plainKeys := false, apart := false }
def RecvQueueSaid : Prop := recvQueueRow.holds Tryz.pinned (OpenSpec.ofChange recvQueueSpec)

/-- ITS FALSE NEIGHBOUR: 'it returns false'. Refute it at one input. -/
def recvQueueWrong : ChangeSpec := { name := "recvQueue", fn := fun _ => fun
  | [d1, d2] => { results := [.lit (.bool false)], args := [d1, d2] }
  | _ => none }
def RecvQueueWrongFalsely : Prop := recvQueueRow.holds Tryz.pinned (OpenSpec.ofChange recvQueueWrong)

/-- 'sakialaw15.RecvReads': WHATEVER THE INPUT: true; the input reads as it did. -/
def recvReadsSpec : ChangeSpec := { name := "recvReads", fn := fun _ => fun
  | [d1, d2] => { results := [.lit (.bool true)], args := [d1, d2] }
  | _ => none }
def recvReadsRow : OpenClaim := { program := "ytjbcfjfnobklkaagreat", sum := "3e2ef61ad2106d26790b3e5c4aee698a2f159f7f1e42b73eb5ed35dfc5d82bf6", func := "sakia/sakialaw15.RecvReads", spec := "recvReads", unfollowed := true, recurses := true, plainKeys := false, apart := false }
def RecvReadsSaid : Prop := recvReadsRow.holds Tryz.pinned (OpenSpec.ofChange recvReadsSpec)

/-- ITS FALSE NEIGHBOUR: 'it returns false'. Refute it at one input. -/
def recvReadsWrong : ChangeSpec := { name := "recvReads", fn := fun _ => fun
  | [d1, d2] => { results := [.lit (.bool false)], args := [d1, d2] }
  | _ => none }
def RecvReadsWrongFalsely : Prop := recvReadsRow.holds Tryz.pinned (OpenSpec.ofChange recvReadsWrong)

/-- 'sakialaw15.RecvParts': WHATEVER THE INPUT: true; the input reads as it did. -/
def recvPartsSpec : ChangeSpec := { name := "recvParts", fn := fun _ => fun
  | [d1, d2, d3, d4] => { results := [.lit (.bool true)], args := [d1, d2, d3, d4] }
  | _ => none }
def recvPartsRow : OpenClaim := { program := "ytjbcfjfnobklkaagreat", sum := "3e2ef61ad2106d26790b3e5c4aee698a2f159f7f1e42b73eb5ed35dfc5d82bf6", func := "sakia/sakialaw15.RecvParts", spec := "recvParts", unfollowed := true, recurses := true, plainKeys := false, apart := false }
def RecvPartsSaid : Prop := recvPartsRow.holds Tryz.pinned (OpenSpec.ofChange recvPartsSpec)

/-- ITS FALSE NEIGHBOUR: 'it returns false'. Refute it at one input. -/
def recvPartsWrong : ChangeSpec := { name := "recvParts", fn := fun _ => fun
  | [d1, d2, d3, d4] => { results := [.lit (.bool false)], args := [d1, d2, d3, d4] }
  | _ => none }
def RecvPartsWrongFalsely : Prop := recvPartsRow.holds Tryz.pinned (OpenSpec.ofChange recvPartsWrong)

/- THE SECOND FORM. 'bulk': how many values and letters a reading holds, each counted each time it is reached (what is shared counts as often as it is met; a slice's spare places count too). A statement '..UptoSaid' is the law's where the arguments, and the package variables that the reading takes, are together of bulk at most 1048576: NARROWER than '..Said'. Prove '..Said' where nothing that the law and all that it calls make is longer than what came in: it says more and counts as full. Else prove '..UptoSaid'. A law counts once. -/
mutual
def uptoBulk {H : Type} : DataW H → Nat
  | .lit (.string bytes) => bytes.length + 1
  | .lit _ => 1
  | .nil => 1
  | .ptr d => uptoBulk d + 1
  | .slice elems spare => uptoBulkAll elems + uptoBulkAll spare + 1
  | .agg parts => uptoBulkAll parts + 1
  | .iface _ d => uptoBulk d + 1
  | .map entries => uptoBulkEntries entries + 1
  | .held _ => 1
def uptoBulkAll {H : Type} : List (DataW H) → Nat
  | [] => 0
  | d :: r => uptoBulk d + uptoBulkAll r
def uptoBulkEntries {H : Type} : List (Lit × DataW H) → Nat
  | [] => 0
  | x :: r => uptoBulkEntry x + uptoBulkEntries r
def uptoBulkEntry {H : Type} : Lit × DataW H → Nat
  | (.string bytes, d) => bytes.length + uptoBulk d + 1
  | (_, d) => uptoBulk d + 1
 end
def uptoSmall : (H : Type) → List (DataW H) → Bool := fun _ ds => decide (uptoBulkAll ds ≤ 1048576)
def OpenSpec.upto (s : _root_.Go.ChangeSpec) : _root_.Go.OpenSpec := { _root_.Go.OpenSpec.ofChange s with cond := some uptoSmall }

/-- 'sakialaw15.RecvTells', WHERE WHAT IT READS IS OF BULK AT MOST 1048576: true; the input reads as it did. -/
def recvTellsUptoRow : OpenClaim := { program := "ytjbcfjfnobklkaagreat", sum := "3e2ef61ad2106d26790b3e5c4aee698a2f159f7f1e42b73eb5ed35dfc5d82bf6", func := "sakia/sakialaw15.RecvTells", spec := "recvTells", unfollowed := true, recurses := true, plainKeys := false, apart := false, narrowed := true }
def RecvTellsUptoSaid : Prop := recvTellsUptoRow.holds Tryz.pinned (OpenSpec.upto recvTellsSpec)

/-- 'sakialaw15.RecvOne', WHERE WHAT IT READS IS OF BULK AT MOST 1048576: true; the input reads as it did. -/
def recvOneUptoRow : OpenClaim := { program := "ytjbcfjfnobklkaagreat", sum := "3e2ef61ad2106d26790b3e5c4aee698a2f159f7f1e42b73eb5ed35dfc5d82bf6", func := "sakia/sakialaw15.RecvOne", spec := "recvOne", unfollowed := true, recurses := true, plainKeys := false, apart := false, narrowed := true }
def RecvOneUptoSaid : Prop := recvOneUptoRow.holds Tryz.pinned (OpenSpec.upto recvOneSpec)

/-- 'sakialaw15.RecvStays', WHERE WHAT IT READS IS OF BULK AT MOST 1048576: true; the input reads as it did. -/
def recvStaysUptoRow : OpenClaim := { program := "ytjbcfjfnobklkaagreat", sum := "3e2ef61ad2106d26790b3e5c4aee698a2f159f7f1e42b73eb5ed35dfc5d82bf6", func := "sakia/sakialaw15.RecvStays", spec := "recvStays", unfollowed := true, recurses := true, plainKeys := false, apart := false, narrowed := true }
def RecvStaysUptoSaid : Prop := recvStaysUptoRow.holds Tryz.pinned (OpenSpec.upto recvStaysSpec)

/-- 'sakialaw15.RecvAll', WHERE WHAT IT READS IS OF BULK AT MOST 1048576: true; the input reads as it did. -/
def recvAllUptoRow : OpenClaim := { program := "ytjbcfjfnobklkaagreat", sum := "3e2ef61ad2106d26790b3e5c4aee698a2f159f7f1e42b73eb5ed35dfc5d82bf6", func := "sakia/sakialaw15.RecvAll", spec := "recvAll", unfollowed := true, recurses := true, plainKeys := false, apart := false, narrowed := true }
def RecvAllUptoSaid : Prop := recvAllUptoRow.holds Tryz.pinned (OpenSpec.upto recvAllSpec)

/-- 'sakialaw15.RecvQueue', WHERE WHAT IT READS IS OF BULK AT MOST 1048576: true; the input reads as it did. -/
def recvQueueUptoRow : OpenClaim := { program := "ytjbcfjfnobklkaagreat", sum := "3e2ef61ad2106d26790b3e5c4aee698a2f159f7f1e42b73eb5ed35dfc5d82bf6", func := "sakia/sakialaw15.RecvQueue", spec := "recvQueue", unfollowed := true, recurses := true, plainKeys := false, apart := false, narrowed := true }
def RecvQueueUptoSaid : Prop := recvQueueUptoRow.holds Tryz.pinned (OpenSpec.upto recvQueueSpec)

/-- 'sakialaw15.RecvReads', WHERE WHAT IT READS IS OF BULK AT MOST 1048576: true; the input reads as it did. -/
def recvReadsUptoRow : OpenClaim := { program := "ytjbcfjfnobklkaagreat", sum := "3e2ef61ad2106d26790b3e5c4aee698a2f159f7f1e42b73eb5ed35dfc5d82bf6", func := "sakia/sakialaw15.RecvReads", spec := "recvReads", unfollowed := true, recurses := true, plainKeys := false, apart := false, narrowed := true }
def RecvReadsUptoSaid : Prop := recvReadsUptoRow.holds Tryz.pinned (OpenSpec.upto recvReadsSpec)

/-- 'sakialaw15.RecvParts', WHERE WHAT IT READS IS OF BULK AT MOST 1048576: true; the input reads as it did. -/
def recvPartsUptoRow : OpenClaim := { program := "ytjbcfjfnobklkaagreat", sum := "3e2ef61ad2106d26790b3e5c4aee698a2f159f7f1e42b73eb5ed35dfc5d82bf6", func := "sakia/sakialaw15.RecvParts", spec := "recvParts", unfollowed := true, recurses := true, plainKeys := false, apart := false, narrowed := true }
def RecvPartsUptoSaid : Prop := recvPartsUptoRow.holds Tryz.pinned (OpenSpec.upto recvPartsSpec)

end Rows
end Go.Proofs.YtjbcfjfnobklkaaGreat
