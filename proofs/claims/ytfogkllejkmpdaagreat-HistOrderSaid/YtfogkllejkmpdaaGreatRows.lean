/-
  No cell of these rows narrows 'for every input' (looked for: loops, veiled, ifaces, maps, wideKeys, modest, calm, conditions, laid).
  DERIVED. THE GIVEN ROWS OF THIS SEAT. 5 by the template 'for every input the law returns true; each argument reads behind the call as it read before'; 0 by the template 'total and deterministic' (their statements: YtfogkllejkmpdaaGreatTotals.lean).
  GIVEN WITH THE SEED: the statements are not yours to turn. If you find one false, say at which input.
  Laid BY PROGRAM, IN A SANDBOX (cutbox-rows.mjs): the forced cells as the released guide's own fill.sh prints them over the translation 620e3ff1659fb3a2… (all of the seat's roots in one cut). By AI agents, Wed Nov 11 2026. No macro, syntax, notation, axiom, sorry.
-/
import Derived.Test.YtfogkllejkmpdaaGreatChecked
import GoSem.Claim
import GoSem.ClaimJoined
import GoSem.ClaimMapViews
import Derived.JoinedTies
import Derived.KernelRfl
namespace Go.Proofs.YtfogkllejkmpdaaGreat
/- THE CELL 'sum', in the pinned program and in every row, IS THE sha256 OF THE DUMP (.gsa) THAT YtfogkllejkmpdaaGreatProg.lean LOADS. Nothing in Lean hashes anything: it is a label: what it is worth is what the hold of that sum in a sandbox is worth. -/
noncomputable def Tryz.pinned : Pinned := { name := "ytfogkllejkmpdaagreat", sum := "620e3ff1659fb3a2d347e41ae1de95eecace221bec63a0c39ba701b9d156a6c3", checked := Tryz.checked }
namespace Rows
def none {H : Type} : Left H := { results := [], args := [] }

/-- 'sakialaw21.HistTells': WHATEVER THE INPUT: true; the input reads as it did. -/
def histTellsSpec : ChangeSpec := { name := "histTells", fn := fun _ => fun
  | [d1, d2, d3] => { results := [.lit (.bool true)], args := [d1, d2, d3] }
  | _ => none }
def histTellsRow : OpenClaim := { program := "ytfogkllejkmpdaagreat", sum := "620e3ff1659fb3a2d347e41ae1de95eecace221bec63a0c39ba701b9d156a6c3", func := "sakia/sakialaw21.HistTells", spec := "histTells", unfollowed := true, recurses := true, plainKeys := false, apart := false }
def HistTellsSaid : Prop := histTellsRow.holds Tryz.pinned (OpenSpec.ofChange histTellsSpec)

/-- ITS FALSE NEIGHBOUR: 'it returns false'. Refute it at one input. -/
def histTellsWrong : ChangeSpec := { name := "histTells", fn := fun _ => fun
  | [d1, d2, d3] => { results := [.lit (.bool false)], args := [d1, d2, d3] }
  | _ => none }
def HistTellsWrongFalsely : Prop := histTellsRow.holds Tryz.pinned (OpenSpec.ofChange histTellsWrong)

/-- 'sakialaw21.HistLinear': WHATEVER THE INPUT: true; the input reads as it did. -/
def histLinearSpec : ChangeSpec := { name := "histLinear", fn := fun _ => fun
  | [d1, d2] => { results := [.lit (.bool true)], args := [d1, d2] }
  | _ => none }
def histLinearRow : OpenClaim := { program := "ytfogkllejkmpdaagreat", sum := "620e3ff1659fb3a2d347e41ae1de95eecace221bec63a0c39ba701b9d156a6c3", func := "sakia/sakialaw21.HistLinear", spec := "histLinear", unfollowed := true, recurses := true, plainKeys := false, apart := false }
def HistLinearSaid : Prop := histLinearRow.holds Tryz.pinned (OpenSpec.ofChange histLinearSpec)

/-- ITS FALSE NEIGHBOUR: 'it returns false'. Refute it at one input. -/
def histLinearWrong : ChangeSpec := { name := "histLinear", fn := fun _ => fun
  | [d1, d2] => { results := [.lit (.bool false)], args := [d1, d2] }
  | _ => none }
def HistLinearWrongFalsely : Prop := histLinearRow.holds Tryz.pinned (OpenSpec.ofChange histLinearWrong)

/-- 'sakialaw21.HistOrder': WHATEVER THE INPUT: true; the input reads as it did. -/
def histOrderSpec : ChangeSpec := { name := "histOrder", fn := fun _ => fun
  | [d1, d2] => { results := [.lit (.bool true)], args := [d1, d2] }
  | _ => none }
def histOrderRow : OpenClaim := { program := "ytfogkllejkmpdaagreat", sum := "620e3ff1659fb3a2d347e41ae1de95eecace221bec63a0c39ba701b9d156a6c3", func := "sakia/sakialaw21.HistOrder", spec := "histOrder", unfollowed := true, recurses := true, plainKeys := false, apart := false }
def HistOrderSaid : Prop := histOrderRow.holds Tryz.pinned (OpenSpec.ofChange histOrderSpec)

/-- ITS FALSE NEIGHBOUR: 'it returns false'. Refute it at one input. -/
def histOrderWrong : ChangeSpec := { name := "histOrder", fn := fun _ => fun
  | [d1, d2] => { results := [.lit (.bool false)], args := [d1, d2] }
  | _ => none }
def HistOrderWrongFalsely : Prop := histOrderRow.holds Tryz.pinned (OpenSpec.ofChange histOrderWrong)

/-- 'sakialaw21.HistOps': WHATEVER THE INPUT: true; the input reads as it did. -/
def histOpsSpec : ChangeSpec := { name := "histOps", fn := fun _ => fun
  | [d1, d2] => { results := [.lit (.bool true)], args := [d1, d2] }
  | _ => none }
def histOpsRow : OpenClaim := { program := "ytfogkllejkmpdaagreat", sum := "620e3ff1659fb3a2d347e41ae1de95eecace221bec63a0c39ba701b9d156a6c3", func := "sakia/sakialaw21.HistOps", spec := "histOps", unfollowed := true, recurses := true, plainKeys := false, apart := false }
def HistOpsSaid : Prop := histOpsRow.holds Tryz.pinned (OpenSpec.ofChange histOpsSpec)

/-- ITS FALSE NEIGHBOUR: 'it returns false'. Refute it at one input. -/
def histOpsWrong : ChangeSpec := { name := "histOps", fn := fun _ => fun
  | [d1, d2] => { results := [.lit (.bool false)], args := [d1, d2] }
  | _ => none }
def HistOpsWrongFalsely : Prop := histOpsRow.holds Tryz.pinned (OpenSpec.ofChange histOpsWrong)

/-- 'sakialaw21.HistPairs': WHATEVER THE INPUT: true; the input reads as it did. -/
def histPairsSpec : ChangeSpec := { name := "histPairs", fn := fun _ => fun
  | [d1, d2] => { results := [.lit (.bool true)], args := [d1, d2] }
  | _ => none }
def histPairsRow : OpenClaim := { program := "ytfogkllejkmpdaagreat", sum := "620e3ff1659fb3a2d347e41ae1de95eecace221bec63a0c39ba701b9d156a6c3", func := "sakia/sakialaw21.HistPairs", spec := "histPairs", unfollowed := true, recurses := true, plainKeys := false, apart := false }
def HistPairsSaid : Prop := histPairsRow.holds Tryz.pinned (OpenSpec.ofChange histPairsSpec)

/-- ITS FALSE NEIGHBOUR: 'it returns false'. Refute it at one input. -/
def histPairsWrong : ChangeSpec := { name := "histPairs", fn := fun _ => fun
  | [d1, d2] => { results := [.lit (.bool false)], args := [d1, d2] }
  | _ => none }
def HistPairsWrongFalsely : Prop := histPairsRow.holds Tryz.pinned (OpenSpec.ofChange histPairsWrong)

/- THE SECOND FORM. 'bulk': how many values and letters a reading holds, each counted each time it is reached (what is shared counts as often as it is met; a slice's spare places count too). A statement '..UptoSaid' is the law's where the arguments, and the package variables that the reading takes, are together of bulk at most 1048576: NARROWER than '..Said'. Prove '..Said' where nothing that the law and all that it calls make is longer than what came in: it says more and counts as full. Else prove '..UptoSaid'. A law counts once. -/
mutual
def uptoBulk {H : Type} : DataW H → Nat
  | .lit (.string bytes) => bytes.length + 1
  | .lit _ => 1
  | .nil => 1
  | .ptr d => uptoBulk d + 1
  | .slice elems spare => uptoBulkAll elems + uptoBulkAll spare + 1
  | .agg parts => uptoBulkAll parts + 1
  | .iface _ d => uptoBulk d + 1
  | .map entries => uptoBulkEntries entries + 1
  | .held _ => 1
def uptoBulkAll {H : Type} : List (DataW H) → Nat
  | [] => 0
  | d :: r => uptoBulk d + uptoBulkAll r
def uptoBulkEntries {H : Type} : List (Lit × DataW H) → Nat
  | [] => 0
  | x :: r => uptoBulkEntry x + uptoBulkEntries r
def uptoBulkEntry {H : Type} : Lit × DataW H → Nat
  | (.string bytes, d) => bytes.length + uptoBulk d + 1
  | (_, d) => uptoBulk d + 1
 end
def uptoSmall : (H : Type) → List (DataW H) → Bool := fun _ ds => decide (uptoBulkAll ds ≤ 1048576)
def OpenSpec.upto (s : _root_.Go.ChangeSpec) : _root_.Go.OpenSpec := { _root_.Go.OpenSpec.ofChange s with cond := some uptoSmall }

/-- 'sakialaw21.HistTells', WHERE WHAT IT READS IS OF BULK AT MOST 1048576: true; the input reads as it did. -/
def histTellsUptoRow : OpenClaim := { program := "ytfogkllejkmpdaagreat", sum := "620e3ff1659fb3a2d347e41ae1de95eecace221bec63a0c39ba701b9d156a6c3", func := "sakia/sakialaw21.HistTells", spec := "histTells", unfollowed := true, recurses := true, plainKeys := false, apart := false, narrowed := true }
def HistTellsUptoSaid : Prop := histTellsUptoRow.holds Tryz.pinned (OpenSpec.upto histTellsSpec)

/-- 'sakialaw21.HistLinear', WHERE WHAT IT READS IS OF BULK AT MOST 1048576: true; the input reads as it did. -/
def histLinearUptoRow : OpenClaim := { program := "ytfogkllejkmpdaagreat", sum := "620e3ff1659fb3a2d347e41ae1de95eecace221bec63a0c39ba701b9d156a6c3", func := "sakia/sakialaw21.HistLinear", spec := "histLinear", unfollowed := true, recurses := true, plainKeys := false, apart := false, narrowed := true }
def HistLinearUptoSaid : Prop := histLinearUptoRow.holds Tryz.pinned (OpenSpec.upto histLinearSpec)

/-- 'sakialaw21.HistOrder', WHERE WHAT IT READS IS OF BULK AT MOST 1048576: true; the input reads as it did. -/
def histOrderUptoRow : OpenClaim := { program := "ytfogkllejkmpdaagreat", sum := "620e3ff1659fb3a2d347e41ae1de95eecace221bec63a0c39ba701b9d156a6c3", func := "sakia/sakialaw21.HistOrder", spec := "histOrder", unfollowed := true, recurses := true, plainKeys := false, apart := false, narrowed := true }
def HistOrderUptoSaid : Prop := histOrderUptoRow.holds Tryz.pinned (OpenSpec.upto histOrderSpec)

/-- 'sakialaw21.HistOps', WHERE WHAT IT READS IS OF BULK AT MOST 1048576: true; the input reads as it did. -/
def histOpsUptoRow : OpenClaim := { program := "ytfogkllejkmpdaagreat", sum := "620e3ff1659fb3a2d347e41ae1de95eecace221bec63a0c39ba701b9d156a6c3", func := "sakia/sakialaw21.HistOps", spec := "histOps", unfollowed := true, recurses := true, plainKeys := false, apart := false, narrowed := true }
def HistOpsUptoSaid : Prop := histOpsUptoRow.holds Tryz.pinned (OpenSpec.upto histOpsSpec)

/-- 'sakialaw21.HistPairs', WHERE WHAT IT READS IS OF BULK AT MOST 1048576: true; the input reads as it did. -/
def histPairsUptoRow : OpenClaim := { program := "ytfogkllejkmpdaagreat", sum := "620e3ff1659fb3a2d347e41ae1de95eecace221bec63a0c39ba701b9d156a6c3", func := "sakia/sakialaw21.HistPairs", spec := "histPairs", unfollowed := true, recurses := true, plainKeys := false, apart := false, narrowed := true }
def HistPairsUptoSaid : Prop := histPairsUptoRow.holds Tryz.pinned (OpenSpec.upto histPairsSpec)

end Rows
end Go.Proofs.YtfogkllejkmpdaaGreat
