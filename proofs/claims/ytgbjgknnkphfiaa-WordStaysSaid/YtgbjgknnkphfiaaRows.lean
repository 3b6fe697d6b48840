/-
  No cell of these rows narrows 'for every input' (looked for: loops, veiled, ifaces, maps, wideKeys, modest, calm, conditions, laid).
  DERIVED. THE GIVEN ROWS OF THIS SEAT. 6 by the template 'for every input the law returns true; each argument reads behind the call as it read before'; 0 by the template 'total and deterministic' (their statements: YtgbjgknnkphfiaaTotals.lean).
  GIVEN WITH THE SEED: the statements are not yours to turn. If you find one false, say at which input.
  Laid BY PROGRAM, IN A SANDBOX (cutbox-rows.mjs): the forced cells as the released guide's own fill.sh prints them over the translation c87666259e88be75… (all of the seat's roots in one cut). By AI agents, Wed Nov 11 2026. No macro, syntax, notation, axiom, sorry.
-/
import Derived.Test.YtgbjgknnkphfiaaChecked
import GoSem.Claim
import GoSem.ClaimJoined
import GoSem.ClaimMapViews
import Derived.JoinedTies
import Derived.KernelRfl
namespace Go.Proofs.Ytgbjgknnkphfiaa
/- THE CELL 'sum', in the pinned program and in every row, IS THE sha256 OF THE DUMP (.gsa) THAT YtgbjgknnkphfiaaProg.lean LOADS. Nothing in Lean hashes anything: it is a label: what it is worth is what the hold of that sum in a sandbox is worth. -/
noncomputable def Try.pinned : Pinned := { name := "ytgbjgknnkphfiaa", sum := "c87666259e88be752c6a20e52179fa7b15617f18f29ed7a5aa000d7d3cbcc3ff", checked := Try.checked }
namespace Rows
def none {H : Type} : Left H := { results := [], args := [] }

/-- 'sakialaw08.WordTells': WHATEVER THE INPUT: true; the input reads as it did. -/
def wordTellsSpec : ChangeSpec := { name := "wordTells", fn := fun _ => fun
  | [d1, d2, d3, d4] => { results := [.lit (.bool true)], args := [d1, d2, d3, d4] }
  | _ => none }
def wordTellsRow : OpenClaim := { program := "ytgbjgknnkphfiaa", sum := "c87666259e88be752c6a20e52179fa7b15617f18f29ed7a5aa000d7d3cbcc3ff", func := "sakia/sakialaw08.WordTells", spec := "wordTells", unfollowed := true, recurses := true, apart := false }
def WordTellsSaid : Prop := wordTellsRow.holds Try.pinned (OpenSpec.ofChange wordTellsSpec)

/-- ITS FALSE NEIGHBOUR: 'it returns false'. Refute it at one input. -/
def wordTellsWrong : ChangeSpec := { name := "wordTells", fn := fun _ => fun
  | [d1, d2, d3, d4] => { results := [.lit (.bool false)], args := [d1, d2, d3, d4] }
  | _ => none }
def WordTellsWrongFalsely : Prop := wordTellsRow.holds Try.pinned (OpenSpec.ofChange wordTellsWrong)

/-- 'sakialaw08.WordStays': WHATEVER THE INPUT: true; the input reads as it did. -/
def wordStaysSpec : ChangeSpec := { name := "wordStays", fn := fun _ => fun
  | [d1, d2, d3, d4] => { results := [.lit (.bool true)], args := [d1, d2, d3, d4] }
  | _ => none }
def wordStaysRow : OpenClaim := { program := "ytgbjgknnkphfiaa", sum := "c87666259e88be752c6a20e52179fa7b15617f18f29ed7a5aa000d7d3cbcc3ff", func := "sakia/sakialaw08.WordStays", spec := "wordStays", unfollowed := true, recurses := true, apart := false }
def WordStaysSaid : Prop := wordStaysRow.holds Try.pinned (OpenSpec.ofChange wordStaysSpec)

/-- ITS FALSE NEIGHBOUR: 'it returns false'. Refute it at one input. -/
def wordStaysWrong : ChangeSpec := { name := "wordStays", fn := fun _ => fun
  | [d1, d2, d3, d4] => { results := [.lit (.bool false)], args := [d1, d2, d3, d4] }
  | _ => none }
def WordStaysWrongFalsely : Prop := wordStaysRow.holds Try.pinned (OpenSpec.ofChange wordStaysWrong)

/-- 'sakialaw08.WordOrder': WHATEVER THE INPUT: true; the input reads as it did. -/
def wordOrderSpec : ChangeSpec := { name := "wordOrder", fn := fun _ => fun
  | [d1, d2] => { results := [.lit (.bool true)], args := [d1, d2] }
  | _ => none }
def wordOrderRow : OpenClaim := { program := "ytgbjgknnkphfiaa", sum := "c87666259e88be752c6a20e52179fa7b15617f18f29ed7a5aa000d7d3cbcc3ff", func := "sakia/sakialaw08.WordOrder", spec := "wordOrder", unfollowed := true, recurses := true, apart := false }
def WordOrderSaid : Prop := wordOrderRow.holds Try.pinned (OpenSpec.ofChange wordOrderSpec)

/-- ITS FALSE NEIGHBOUR: 'it returns false'. Refute it at one input. -/
def wordOrderWrong : ChangeSpec := { name := "wordOrder", fn := fun _ => fun
  | [d1, d2] => { results := [.lit (.bool false)], args := [d1, d2] }
  | _ => none }
def WordOrderWrongFalsely : Prop := wordOrderRow.holds Try.pinned (OpenSpec.ofChange wordOrderWrong)

/-- 'sakialaw08.WordModes': WHATEVER THE INPUT: true; the input reads as it did. -/
def wordModesSpec : ChangeSpec := { name := "wordModes", fn := fun _ => fun
  | [d1, d2, d3, d4] => { results := [.lit (.bool true)], args := [d1, d2, d3, d4] }
  | _ => none }
def wordModesRow : OpenClaim := { program := "ytgbjgknnkphfiaa", sum := "c87666259e88be752c6a20e52179fa7b15617f18f29ed7a5aa000d7d3cbcc3ff", func := "sakia/sakialaw08.WordModes", spec := "wordModes", unfollowed := true, recurses := true, apart := false }
def WordModesSaid : Prop := wordModesRow.holds Try.pinned (OpenSpec.ofChange wordModesSpec)

/-- ITS FALSE NEIGHBOUR: 'it returns false'. Refute it at one input. -/
def wordModesWrong : ChangeSpec := { name := "wordModes", fn := fun _ => fun
  | [d1, d2, d3, d4] => { results := [.lit (.bool false)], args := [d1, d2, d3, d4] }
  | _ => none }
def WordModesWrongFalsely : Prop := wordModesRow.holds Try.pinned (OpenSpec.ofChange wordModesWrong)

/-- 'sakialaw08.WordBoth': WHATEVER THE INPUT: true; the input reads as it did. -/
def wordBothSpec : ChangeSpec := { name := "wordBoth", fn := fun _ => fun
  | [d1, d2] => { results := [.lit (.bool true)], args := [d1, d2] }
  | _ => none }
def wordBothRow : OpenClaim := { program := "ytgbjgknnkphfiaa", sum := "c87666259e88be752c6a20e52179fa7b15617f18f29ed7a5aa000d7d3cbcc3ff", func := "sakia/sakialaw08.WordBoth", spec := "wordBoth", unfollowed := true, recurses := true, apart := false }
def WordBothSaid : Prop := wordBothRow.holds Try.pinned (OpenSpec.ofChange wordBothSpec)

/-- ITS FALSE NEIGHBOUR: 'it returns false'. Refute it at one input. -/
def wordBothWrong : ChangeSpec := { name := "wordBoth", fn := fun _ => fun
  | [d1, d2] => { results := [.lit (.bool false)], args := [d1, d2] }
  | _ => none }
def WordBothWrongFalsely : Prop := wordBothRow.holds Try.pinned (OpenSpec.ofChange wordBothWrong)

/-- 'sakialaw08.WordLater': WHATEVER THE INPUT: true; the input reads as it did. -/
def wordLaterSpec : ChangeSpec := { name := "wordLater", fn := fun _ => fun
  | [d1, d2, d3, d4, d5] => { results := [.lit (.bool true)], args := [d1, d2, d3, d4, d5] }
  | _ => none }
def wordLaterRow : OpenClaim := { program := "ytgbjgknnkphfiaa", sum := "c87666259e88be752c6a20e52179fa7b15617f18f29ed7a5aa000d7d3cbcc3ff", func := "sakia/sakialaw08.WordLater", spec := "wordLater", unfollowed := true, recurses := true, apart := false }
def WordLaterSaid : Prop := wordLaterRow.holds Try.pinned (OpenSpec.ofChange wordLaterSpec)

/-- ITS FALSE NEIGHBOUR: 'it returns false'. Refute it at one input. -/
def wordLaterWrong : ChangeSpec := { name := "wordLater", fn := fun _ => fun
  | [d1, d2, d3, d4, d5] => { results := [.lit (.bool false)], args := [d1, d2, d3, d4, d5] }
  | _ => none }
def WordLaterWrongFalsely : Prop := wordLaterRow.holds Try.pinned (OpenSpec.ofChange wordLaterWrong)

/- THE SECOND FORM. 'bulk': how many values and letters a reading holds, each counted each time it is reached (what is shared counts as often as it is met; a slice's spare places count too). A statement '..UptoSaid' is the law's where the arguments, and the package variables that the reading takes, are together of bulk at most 1048576: NARROWER than '..Said'. Prove '..Said' where nothing that the law and all that it calls make is longer than what came in: it says more and counts as full. Else prove '..UptoSaid'. A law counts once. -/
mutual
def uptoBulk {H : Type} : DataW H → Nat
  | .lit (.string bytes) => bytes.length + 1
  | .lit _ => 1
  | .nil => 1
  | .ptr d => uptoBulk d + 1
  | .slice elems spare => uptoBulkAll elems + uptoBulkAll spare + 1
  | .agg parts => uptoBulkAll parts + 1
  | .iface _ d => uptoBulk d + 1
  | .map entries => uptoBulkEntries entries + 1
  | .held _ => 1
def uptoBulkAll {H : Type} : List (DataW H) → Nat
  | [] => 0
  | d :: r => uptoBulk d + uptoBulkAll r
def uptoBulkEntries {H : Type} : List (Lit × DataW H) → Nat
  | [] => 0
  | x :: r => uptoBulkEntry x + uptoBulkEntries r
def uptoBulkEntry {H : Type} : Lit × DataW H → Nat
  | (.string bytes, d) => bytes.length + uptoBulk d + 1
  | (_, d) => uptoBulk d + 1
 end
def uptoSmall : (H : Type) → List (DataW H) → Bool := fun _ ds => decide (uptoBulkAll ds ≤ 1048576)
def OpenSpec.upto (s : _root_.Go.ChangeSpec) : _root_.Go.OpenSpec := { _root_.Go.OpenSpec.ofChange s with cond := some uptoSmall }

/-- 'sakialaw08.WordTells', WHERE WHAT IT READS IS OF BULK AT MOST 1048576: true; the input reads as it did. -/
def wordTellsUptoRow : OpenClaim := { program := "ytgbjgknnkphfiaa", sum := "c87666259e88be752c6a20e52179fa7b15617f18f29ed7a5aa000d7d3cbcc3ff", func := "sakia/sakialaw08.WordTells", spec := "wordTells", unfollowed := true, recurses := true, apart := false, narrowed := true }
def WordTellsUptoSaid : Prop := wordTellsUptoRow.holds Try.pinned (OpenSpec.upto wordTellsSpec)

/-- 'sakialaw08.WordStays', WHERE WHAT IT READS IS OF BULK AT MOST 1048576: true; the input reads as it did. -/
def wordStaysUptoRow : OpenClaim := { program := "ytgbjgknnkphfiaa", sum := "c87666259e88be752c6a20e52179fa7b15617f18f29ed7a5aa000d7d3cbcc3ff", func := "sakia/sakialaw08.WordStays", spec := "wordStays", unfollowed := true, recurses := true, apart := false, narrowed := true }
def WordStaysUptoSaid : Prop := wordStaysUptoRow.holds Try.pinned (OpenSpec.upto wordStaysSpec)

/-- 'sakialaw08.WordOrder', WHERE WHAT IT READS IS OF BULK AT MOST 1048576: true; the input reads as it did. -/
def wordOrderUptoRow : OpenClaim := { program := "ytgbjgknnkphfiaa", sum := "c87666259e88be752c6a20e52179fa7b15617f18f29ed7a5aa000d7d3cbcc3ff", func := "sakia/sakialaw08.WordOrder", spec := "wordOrder", unfollowed := true, recurses := true, apart := false, narrowed := true }
def WordOrderUptoSaid : Prop := wordOrderUptoRow.holds Try.pinned (OpenSpec.upto wordOrderSpec)

/-- 'sakialaw08.WordModes', WHERE WHAT IT READS IS OF BULK AT MOST 1048576: true; the input reads as it did. -/
def wordModesUptoRow : OpenClaim := { program := "ytgbjgknnkphfiaa", sum := "c87666259e88be752c6a20e52179fa7b15617f18f29ed7a5aa000d7d3cbcc3ff", func := "sakia/sakialaw08.WordModes", spec := "wordModes", unfollowed := true, recurses := true, apart := false, narrowed := true }
def WordModesUptoSaid : Prop := wordModesUptoRow.holds Try.pinned (OpenSpec.upto wordModesSpec)

/-- 'sakialaw08.WordBoth', WHERE WHAT IT READS IS OF BULK AT MOST 1048576: true; the input reads as it did. -/
def wordBothUptoRow : OpenClaim := { program := "ytgbjgknnkphfiaa", sum := "c87666259e88be752c6a20e52179fa7b15617f18f29ed7a5aa000d7d3cbcc3ff", func := "sakia/sakialaw08.WordBoth", spec := "wordBoth", unfollowed := true, recurses := true, apart := false, narrowed := true }
def WordBothUptoSaid : Prop := wordBothUptoRow.holds Try.pinned (OpenSpec.upto wordBothSpec)

/-- 'sakialaw08.WordLater', WHERE WHAT IT READS IS OF BULK AT MOST 1048576: true; the input reads as it did. -/
def wordLaterUptoRow : OpenClaim := { program := "ytgbjgknnkphfiaa", sum := "c87666259e88be752c6a20e52179fa7b15617f18f29ed7a5aa000d7d3cbcc3ff", func := "sakia/sakialaw08.WordLater", spec := "wordLater", unfollowed := true, recurses := true, apart := false, narrowed := true }
def WordLaterUptoSaid : Prop := wordLaterUptoRow.holds Try.pinned (OpenSpec.upto wordLaterSpec)

end Rows
end Go.Proofs.Ytgbjgknnkphfiaa
