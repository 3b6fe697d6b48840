/- Texts merged: LineGT, LineHT, LineIT, LineJT, LineKT, LineLT, LineNT, IntsT, LineMT, EventGT, CopyT, SlotCT, SlotDT, SlotET. -/
import Derived.Test.YtfogkllejkmpdaaGreatZf5
import Derived.Test.YtfogkllejkmpdaaGreatZf6
import Derived.LoopTactic
import Derived.Lib.Hide
import Derived.Shelf.Slices.Delete
import Derived.Deep.RegionHeld3
import Derived.IntWalk
import Derived.Test.YtfogkllejkmpdaaGreatZf4
import Derived.Laws.CopyOwn
import Derived.Laws.OwnMore
import Derived.Shelf.Abstract
namespace Go.Proofs.YtfogkllejkmpdaaGreat
set_option linter.unusedVariables false
set_option linter.unusedSimpArgs false
set_option maxRecDepth 100000
section
open Go.ChangeShapes Go.WideShapes Go.ChangeAt Go.RowKit
def Tells (g:Nat) (lb:Array Value) (f:Int→Bool) (w:World):Prop:=∀ (W:World) (x:Int),Below w.heap.size w W→Calls Tryz.prog g (#[.int .i64 x]++lb) W fun e W' => e = .returned (.bool (f x))∧Kept W W'
theorem Tells.kept {g:Nat} {lb:Array Value} {f:Int→Bool} {w w' : World} (h:Tells g lb f w) (hk:Below w.heap.size w w'):Tells g lb f w' := fun W x hW=>h W x (kept_trans hk hW)
end
section
open Go.ChangeShapes Go.WideShapes Go.ChangeAt Go.RowKit
end
section
open Go.ChangeShapes Go.WideShapes Go.ChangeAt Go.RowKit
theorem Ow.mono {α:Type} {W:World} {base base' k:Nat} {e:TypeId} {enc:α→List Value} {xs:List α} {v:Value} (h:Ow W base e k enc xs v) (hb:base' ≤ base):Ow W base' e k enc xs v:=by
 obtain ⟨h0,h1 | ⟨g,cap,cur,hv,hbg,hr⟩⟩:=h
 ·exact ⟨h0,.inl h1⟩
 ·exact ⟨h0,.inr ⟨g,cap,cur,hv,Nat.le_trans hb hbg,hr⟩⟩
end
section
open Go.ChangeShapes Go.WideShapes Go.ChangeAt Go.RowKit
end
section
open Go.ChangeShapes Go.WideShapes Go.ChangeAt Go.RowKit
end
section
open Go.ChangeShapes Go.WideShapes Go.ChangeAt Go.RowKit
end
section
open Go.ChangeShapes Go.WideShapes Go.ChangeAt Go.RowKit
end
section
open Go.ChangeShapes Go.WideShapes Go.ChangeAt Go.RowKit
end
section
open Go.ChangeShapes Go.WideShapes Go.ChangeAt Go.RowKit
end
section
open Go.ChangeShapes Go.WideShapes Go.ChangeAt Go.RowKit
end
section
open Go.ChangeShapes Go.WideShapes Go.ChangeAt Go.RowKit
end
section
open Go.ChangeShapes Go.WideShapes Go.ChangeAt Go.RowKit
end
section
open Go.ChangeShapes Go.WideShapes Go.ChangeAt Go.RowKit
end
section
open Go.ChangeShapes Go.WideShapes Go.ChangeAt Go.RowKit
end
end Go.Proofs.YtfogkllejkmpdaaGreat
