/- Texts merged: BaseT, InvT, EvAT, MapT, EvBT, EngVT, EngWT, EngET. -/
import Derived.Test.YtfogkllejkmpdaaGreatRows
import Derived.WalkKit
import Derived.ProofKit
import Derived.OpenShut
import Derived.Handy
import Derived.Deep.QuietTactic
import Derived.BigQuiet
import Derived.WalkSmall
import Derived.Outline
import Derived.Lib.SmallJoins
import Derived.Deep.Quiet
import Derived.Orders
import Derived.Deep.MidRow
import Derived.Laws.CopyRow
import Derived.Laws.Rows
import Derived.MapKept
import Derived.Maps.RangeRun
import Derived.ChangeMaps4
import Derived.Carry
namespace Go.Proofs.YtfogkllejkmpdaaGreat
set_option linter.unusedVariables false
set_option linter.unusedSimpArgs false
set_option maxRecDepth 100000
section
open Go.ChangeShapes Go.WideShapes Go.ChangeAt Go.RowKit
abbrev Kept (w w' : World):Prop:=Below w.heap.size w w'
theorem kept_trans {A B C:World} (h:Below A.heap.size A B) (k:Below B.heap.size B C):Below A.heap.size A C:=h.trans (k.mono h.size)
theorem kept_alloc {A B:World} (h:Below A.heap.size A B) (o:Obj):Below A.heap.size A (B.alloc o):=h.alloc h.size o
theorem Ie {A B:World} (h:Below A.heap.size A B) (n:Nat):Below A.heap.size A (B.drewN n):=below_drewN h n
theorem xP {p:Prop} (h:p:=by (simp only [E8];(repeat' (first | exact trivial | (refine And.intro ?_ ?_)));all_goals (first | (focus ((try simp only [World.size_setCell,World.size_alloc]);omega)) | (repeat (first | rfl | assumption | (refine (World.cell?_alloc_past _ _ _ ?_).trans ?_;focus ((try simp only [World.size_setCell,World.size_alloc]);omega)) | (refine (World.cell?_alloc_at _ _ _ _ ?_).trans ?_;focus ((try simp only [World.size_setCell,World.size_alloc]);done)) | (refine (World.cell?_setCell_other _ _ _ _ ?_).trans ?_;focus (simp;done)) | (refine (World.cell?_setCell_other _ _ _ _ ?_).trans ?_;focus (simp;omega)) | (refine World.cell?_setCell_same' _ _ _ ?_;focus (simp;done))))))):p:=h
theorem F6 {p:Prop} (h:p:=by repeat' (first | (with_reducible exact Below.refl _ _) | (with_reducible assumption) | (with_reducible refine kept_alloc ?_ _) | (with_reducible refine Ie ?_ _) | (with_reducible refine Below.drew ?_) | (with_reducible refine Below.setCell ?_ (by first | omega | (simp;omega) | (simp;done)) _) | (refine kept_trans ?_ (by with_reducible assumption)))):p:=h
theorem aY {W w1:World} (hb:Below W.heap.size W w1):(∀ b o,b<W.heap.size→w1.cell? ⟨b,o,none⟩=W.cell? ⟨b,o,none⟩)∧(∀ b o,b<W.heap.size→w1.frozen? ⟨b,o,none⟩=W.frozen? ⟨b,o,none⟩) :=
 ⟨fun b o h=>hb.cell (p:=⟨b,o,none⟩) h,fun b o h=>hb.frozen (p:=⟨b,o,none⟩) h⟩
def E8 (W:World):List (Nat×Nat×Value)→Prop
 | []=>True
 | x::r=>(x.1<W.heap.size∧W.cell? ⟨x.1,x.2.1,none⟩=some x.2.2)∧E8 W r
theorem ax {W w1:World} (hg:Below W.heap.size W w1):∀ {l:List (Nat×Nat×Value)},E8 W l→E8 w1 l
 | [],_=>trivial
 | _::_,h=>⟨⟨Nat.lt_of_lt_of_le h.1.1 hg.size,((aY hg).1 _ _ h.1.1).trans h.1.2⟩,ax hg h.2⟩
def Wd (w:World) (l:List (Nat×Nat×Value)):Type:={ w' : World // Below w.heap.size w w' ∧ E8 w' l }
def Wd.at {w:World} {l:List (Nat×Nat×Value)} (x:Wd w l):World:=x.1
theorem Wd.kept {w:World} {l:List (Nat×Nat×Value)} (x:Wd w l):Below w.heap.size w x.at:=x.2.1
theorem Wd.cells {w:World} {l:List (Nat×Nat×Value)} (x:Wd w l):E8 x.at l:=x.2.2
theorem Wd.mk {w W:World} {l:List (Nat×Nat×Value)} (h:Below w.heap.size w W) (c:E8 W l):∃ x:Wd w l,W=x.at:=⟨⟨W,h,c⟩,rfl⟩
theorem Q0 {P:Program} {f:FuncId} {args:Array Value} {w:World} {l:List (Nat×Nat×Value)} {x:Wd w l} {v:Value}
  (h:Calls P f args x.at fun e w' => e = .returned v∧Kept x.at w'):Calls P f args x.at fun e w'' => e = .returned v∧∃ y:Wd w l,w'' = y.at :=
 h.mono fun _ _ ⟨he,hk⟩=>⟨he,Wd.mk (kept_trans x.kept hk) (ax hk x.cells)⟩
theorem R7 {P:Program} {id:Nat} {Q:Exit→Act→World→Prop} {a:Act} {w W:World} {l:List Oper} (cs:List (Nat×Nat×Value)) (hm:P.follows .mixedOrders=true) (hB:Region.lexB .any l.toArray=true)
  (hk:Below w.heap.size w W) (hC:E8 W cs)
  (h:Nonempty (Wd w cs)→wpQuiet P l.toArray (fun w' => ∃ x:Wd w cs,w' = x.at) (fun a' => ∀ w',(∃ x:Wd w cs,w' = x.at)→Q .normal a' w') l a):(Code.region id l.toArray true).wp P Q a W:=by
 have hd:Below W.heap.size W { W with drawn:=W.drawn+1 }:=⟨rfl,rfl,rfl,Nat.le_refl _,fun _ _=>rfl⟩
 refine wp_region_quiet (C:=fun w' => ∃ x:Wd w cs,w' = x.at) hm hB (Wd.mk (kept_trans hk hd) (ax hd hC)) ?_
 simpa using h ⟨⟨W,hk,hC⟩⟩
theorem cO {k:IntKind} {a b:Int} (h:a=b):Ending.returned (.int k a) = .returned (.int k b):=by rw [h]
theorem M7 {a b:Bool} (h:a=b):Ending.returned (.bool a) = .returned (.bool b):=by rw [h]
abbrev In64 (p:Int):Prop:=-9223372036854775808≤p∧p≤9223372036854775807
theorem in64_of_wf {p:Int} (h:(Lit.int .i64 p).wf=true):In64 p:=bounds_i64 h
section
variable {H:Type} {enc:TypeId×Value→H} {P:Program}
theorem qU (hl:laidOutB P=true) {W W' : World} (hb:Below W.heap.size W W') :
  ∀ {ts:List TypeId} {vs:List Value} {ds:List (DataW H)} {ps:List MemPlace},ts.all (fun t=>P.readableRec t&&decide (t<P.types.size))=true →
   DataW.TrodAll enc P W 0 (fun _=>true) true ts vs ds ps→(∀ x∈ps,x.block<W.heap.size)→DataW.TrodAll enc P W' 0 (fun b=>decide (b<W.heap.size)) true ts vs ds ps
 | [],[],[],_,_,h,_=>h
 | t::ts,v::vs,d::ds,ps,hr,h,hlt=>by
  obtain ⟨p,q,h1,h2,rfl⟩:=h
  simp only [List.all_cons,Bool.and_eq_true,decide_eq_true_eq] at hr
  exact ⟨p,q,Below.trod hl hr.1.1 hr.1.2 h1 hb (fun x hx=>hlt x (by simp [hx])),qU hl hb hr.2 h2 (fun x hx=>hlt x (by simp [hx])),rfl⟩
 | [],_::_,_,_,_,h,_=>by simp [DataW.TrodAll] at h
 | [],[],_::_,_,_,h,_=>by simp [DataW.TrodAll] at h
 | _::_,[],_,_,_,h,_=>by simp [DataW.TrodAll] at h
 | _::_,_::_,[],_,_,h,_=>by simp [DataW.TrodAll] at h
theorem ql (hl:laidOutB P=true) {f:Func} {s:ChangeSpec} {apart:Bool} {W W' : World} {args:Array Value} {ds gs:List (DataW H)} {before:List MemPlace} {tb:TypeId}
  (hW:DataW.Whole enc P f.params.toList s.vars apart W args.toList ds gs before) (hv:s.vars=[]) (hr:f.params.toList.all (fun t=>P.readableRec t&&decide (t<P.types.size))=true)
  (hres:f.resultTypes=#[tb]) (htb:P.underlying tb=some .bool) (hfn:s.fn H (ds++gs)={ results:=[.lit (.bool true)],args:=ds })
  (hb:Below W.heap.size W W'):s.post enc P f apart true false false W args (.bool true) W' := by
 have hW' := hW
 obtain ⟨p,q,hA,hV,rfl,hfz,hnd⟩:=hW
 have hV' : gs=[]∧q=[]:=by
  rw [hv] at hV
  cases gs with
  | nil=>exact ⟨rfl,by simpa [DataW.TrodVars] using hV⟩
  | cons _ _=>simp [DataW.TrodVars] at hV
 obtain ⟨rfl,rfl⟩:=hV'
 have hlt:∀ x∈p,x.block<W.heap.size:=fun x hx=>by have:=hW'.lt x (by simp [hx]);simpa using this
 refine ⟨ds,[],p++[],[],p,[],hW',?_,?_,?_,hb.frame _,fun h=>by cases h⟩
 ·rw [hfn,hres]
  exact trodAll_cons_mk (shut_bool htb _) trodAll_mk0
 ·rw [hfn]
  exact qU hl hb hr hA hlt
 ·rw [hfn,hv]
  rfl
end
section
variable {H:Type} {enc:TypeId×Value→H} {P:Program} {w:World} {base:Nat} {spare:Nat→Bool} {held:Bool}
end
theorem own:ownKnob Tryz.prog.godebug=none:=by kernel_rfl
theorem laid:laidOutB Tryz.prog=true:=by kernel_rfl
end
section
open Go.RowKit
section
variable {P:Program} {Q:Exit→Act→World→Prop}
def EJ (l:List Oper):Bool:=l.zipIdx.all fun (o,i)=>o.after.all fun e=>!Region.binds .any e||decide (e.on<i)
def todo (listed:Array Bool):Nat:=listed.toList.count false
theorem Fe {listed:Array Bool} {i:Nat} (h:listed.getD i true=false):todo (listed.setIfInBounds i true)+1=todo listed:=by
 have hi:i<listed.size:=by
  rcases Nat.lt_or_ge i listed.size with h' | h'
  ·exact h'
  ·simp [Array.getD,Nat.not_lt.2 h'] at h
 have hv:listed[i]=false:=by simpa [Array.getD,hi] using h
 unfold todo
 rw [Array.toList_setIfInBounds,List.count_set (by simpa using hi)]
 have h1:listed.toList[i]'(by simpa using hi)=false:=by simpa using hv
 have hpos:0<listed.toList.count false:=List.count_pos_iff.2 (h1 ▸ List.getElem_mem _)
 rw [h1]
 simp only [beq_self_eq_true,if_true,show (true==false)=false from rfl,Bool.false_eq_true,if_false]
 omega
theorem Eg {listed:Array Bool} (h:∀ i,i<listed.size→listed.getD i true=true):listed=Array.replicate listed.size true:=by
 apply Array.ext
 ·simp
 ·intro i h1 h2
  have:=h i h1
  simpa [Array.getD,h1] using this
theorem xX {l:List Oper} (ha:EJ l=true) {listed:Array Bool} (hs:listed.size=l.length):∀ (n i:Nat),i≤n→listed.getD i true=false→Region.ready .any l.toArray listed≠[]
 | n,i,hin,hi=>by
  have hlt:i<listed.size:=by
   rcases Nat.lt_or_ge i listed.size with h' | h'
   ·exact h'
   ·simp [Array.getD,Nat.not_lt.2 h'] at hi
  by_cases hex:∃ j,j<i∧listed.getD j true=false
  ·obtain ⟨j,hj,hjf⟩:=hex
   match n,hin with
   | 0,h=>omega
   | n+1,h=>exact xX ha hs n j (by omega) hjf
  ·have hmem:i∈Region.ready .any l.toArray listed:=by
    refine mem_ready.2 ⟨hi,l[i]'(by omega),by simp [show i<l.length by omega],fun e he hb=>?_⟩
    have h1:=List.all_eq_true.1 ha (l[i]'(by omega),i) (List.mk_mem_zipIdx_iff_getElem?.2 (by simp [show i<l.length by omega]))
    have h2:=Array.all_eq_true_iff_forall_mem.1 h1 e he
    simp only [hb,Bool.not_true,Bool.false_or,decide_eq_true_eq] at h2
    have h3:listed.getD e.on true=true:=by
     cases h:listed.getD e.on true
     ·exact absurd ⟨e.on,h2,h⟩ hex
     ·rfl
    have:e.on<listed.size:=by omega
    simpa [Array.getD,this] using h3
   exact List.ne_nil_of_mem hmem
theorem JO {l:List Oper} (ha:EJ l=true) (I:Array Bool→Act→World→Prop)
  (hstep:∀ (listed:Array Bool) (a:Act) (w:World) (i:Nat) (o:Oper),listed.size=l.length→I listed a w→l[i]? = some o→listed.getD i true=false→(∀ e∈o.after,Region.binds .any e=true→listed.getD e.on false=true) →
   wpOp P l.toArray Q i (I (listed.setIfInBounds i true)) a w)
  (hend:∀ a w,I (Array.replicate l.length true) a w→Q .normal a w) :
  ∀ (fuel:Nat) (listed:Array Bool) (a:Act) (w:World),listed.size=l.length→todo listed=fuel→I listed a w→wpAny P .any l.toArray Q fuel listed a w
 | 0,listed,a,w,hs,hc,hI=>by
  have hall:∀ i,i<listed.size→listed.getD i true=true:=fun i hi=>by
   cases h:listed.getD i true
   ·have:=Fe h;omega
   ·rfl
  refine ⟨?_,hend a w (by rw [← hs,← Eg hall];exact hI)⟩
  refine List.eq_nil_iff_forall_not_mem.2 fun i hi=>?_
  obtain ⟨h1,o,h2,_⟩:=mem_ready.1 hi
  have hlt:i<listed.size:=by rw [hs];simpa using (Array.getElem?_eq_some_iff.1 h2).1
  rw [hall i hlt] at h1;cases h1
 | fuel+1,listed,a,w,hs,hc,hI=>by
  refine ⟨fun h0=>?_,fun i hi=>?_⟩
  ·have hall:∀ i,i<listed.size→listed.getD i true=true:=fun i hi=>by
    cases h:listed.getD i true
    ·exact absurd h0 (xX ha hs i i (Nat.le_refl _) h)
    ·rfl
   exact hend a w (by rw [← hs,← Eg hall];exact hI)
  ·obtain ⟨h1,o,h2,h3⟩:=mem_ready.1 hi
   refine wpOp_mono (fun a' w' h' => JO ha I hstep hend fuel _ a' w' (by simpa using hs) (by have:=Fe h1;omega) h') (hstep listed a w i o hs hI (by simpa using h2) h1 h3)
theorem dV {id:Nat} {a:Act} {w:World} {l:List Oper} (I:Array Bool→Act→World→Prop) (hm:P.follows .mixedOrders=true) (ha:EJ l=true)
  (h0:I (Array.replicate l.length false) a { w with drawn:=w.drawn+1 })
  (hstep:∀ (listed:Array Bool) (a:Act) (w:World) (i:Nat) (o:Oper),listed.size=l.length→I listed a w→l[i]? = some o→listed.getD i true=false→(∀ e∈o.after,Region.binds .any e=true→listed.getD e.on false=true) →
   wpOp P l.toArray Q i (I (listed.setIfInBounds i true)) a w)
  (hend:∀ a w,I (Array.replicate l.length true) a w→Q .normal a w):(Code.region id l.toArray true).wp P Q a w:=by
 refine wp_region_any hm ?_
 have:todo (Array.replicate l.length false)=l.length:=by simp [todo]
 have h:=JO ha I hstep hend l.length (Array.replicate l.length false) a { w with drawn:=w.drawn+1 } (by simp) this h0
 simpa using h
theorem lh {l:List Oper} {i:Nat} {o:Oper} {a:Act} {w w' : World} {K:Act→World→Prop} {v:Value} (hi:l[i]? = some o) (hg:o.guard=none) (hr:(execOp a.eval o).run P w = .ok (.value v) w') (h:K (a.put o.dst v) w'):wpOp P l.toArray Q i K a w:=by
 have hi' : l.toArray[i]? = some o:=by simpa using hi
 unfold wpOp
 simp only [hi',Region.wanted,hg,if_true]
 left
 unfold Oper.wp
 rw [hr]
 exact h
theorem Nn {l:List Oper} {i:Nat} {o:Oper} {a:Act} {w w' : World} {K:Act→World→Prop} (hi:l[i]? = some o) (hg:o.guard=none) (hd:o.dst=none) (hr:(execOp a.eval o).run P w = .ok .skip w') (h:K a w'):wpOp P l.toArray Q i K a w:=by
 have hi' : l.toArray[i]? = some o:=by simpa using hi
 unfold wpOp
 simp only [hi',Region.wanted,hg,if_true]
 left
 unfold Oper.wp
 rw [hr]
 show K (a.put o.dst undef) w'
 rw [hd]
 exact h
end
end
section
open Go.RowKit
def F4 (n:Nat) (els:List Value):Value:=.iface 1000000 (.func (.yield n) els.toArray #[])
def vEp (cs:List Value):Value:=.iface 1000001 (.tuple cs.toArray)
def vFz (cs:List Value):Value:=.iface 1000007 (.tuple cs.toArray)
def gN:Value:=.iface 1000002 .nilFunc
def vD (b:Bool):Value:=.iface 1000003 (.bool b)
abbrev A8:=Nat→Option (Nat×Nat)
def nowhere:A8:=fun _=>none
def AtAll (R:Value→Value→Prop) (xs ys:Array Value):Prop:=ys.size=xs.size∧∀ (i:Nat) (x:Value),xs[i]? = some x→∃ y,ys[i]? = some y∧R x y
def CellsRep (R:Value→Value→Prop) (W:World) (g o:Nat) (cs:Array Value):Prop:=∀ (j:Nat) (x:Value),cs[j]? = some x→∃ u,W.cell? ⟨g,o+j,none⟩=some u∧R x u
def CapAt (W:World) (g n:Nat):Prop:=∃ arr ty,W.heap[g]? = some (.cells arr ty (0,0))∧n≤arr.size
def Shp (W W' : World):Prop:=∀ (g:Nat) (arr:Array Value) (ty:TypeId),W.heap[g]? = some (.cells arr ty (0,0))→∃ arr',W'.heap[g]? = some (.cells arr' ty (0,0))∧arr'.size=arr.size
theorem CapAt.mono {W W' : World} {g n:Nat} (h:CapAt W g n) (hs:Shp W W'):CapAt W' g n:=by
 obtain ⟨arr,ty,h1,h2⟩:=h
 obtain ⟨arr',h3,h4⟩:=hs g arr ty h1
 exact ⟨arr',ty,h3,by omega⟩
theorem Shp.of_same {W W' : World} (h:∀ g,g<W.heap.size→W'.heap[g]? = W.heap[g]?):Shp W W' := fun g arr _ hg=>⟨arr,(h g (Array.getElem?_eq_some_iff.1 hg).1).trans hg,rfl⟩
theorem Shp.trans {a b c:World} (h:Shp a b) (k:Shp b c):Shp a c:=fun g arr ty hg=>by
 obtain ⟨x,h1,h2⟩:=h g arr ty hg
 obtain ⟨y,h3,h4⟩:=k g x ty h1
 exact ⟨y,h3,h4.trans h2⟩
def Rep (O:Nat→Prop) (W:World):Nat→A8→Value→Value→Prop
 | 0,_,_,_=>False
 | d+1,ρ,.iface t x,c =>
   t=1000002∨(t=1000003∧∃ b,x = .bool b∧c = .bool b) ∨
   (t=1000000∧∃ els p cap,x = .func (.yield els.size) els #[]∧c = .slice p els.size cap∧els.size≤cap∧cap≤maxLen∧(p=none→cap=0) ∧
    (els.size≠0→∃ g o k,p=some ⟨g,o,none⟩∧g<W.heap.size∧¬ O g∧∀ n el,els[n]? = some el→el.cells.size=k∧CellsRep (Rep O W d nowhere) W g (o+n * k) el.cells)) ∨
   (t=1000001∧∃ cs g o,x = .tuple cs∧c = .pointer (some ⟨g,o,none⟩)∧g<W.heap.size∧¬ O g∧CellsRep (Rep O W d nowhere) W g o cs) ∨
   (t=1000007∧∃ cs g o,x = .tuple cs∧c = .pointer (some ⟨g,o,none⟩)∧g<W.heap.size∧¬ O g∧CellsRep (Rep O W d ρ) W g o cs)
 | _+1,_,.pointer none,c=>c = .pointer none
 | _+1,ρ,.pointer (some a),c=>∃ g k j,ρ a.block=some (g,k)∧a.spot=some j∧c = .pointer (some ⟨g,a.off * k+j,none⟩)
 | _+1,_,.slice none n m,c=>n=0∧m=0∧c = .slice none 0 0
 | _+1,ρ,.slice (some a) n _,c=>∃ g k cap,ρ a.block=some (g,k)∧((n≤cap∧cap≤maxLen)∧CapAt W g (a.off * k+cap * k))∧c = .slice (some ⟨g,a.off * k,none⟩) n cap
 | d+1,ρ,.agg xs,c=>∃ ys,c = .agg ys∧AtAll (Rep O W d ρ) xs ys
 | d+1,ρ,.tuple xs,c=>∃ ys,c = .tuple ys∧AtAll (Rep O W d ρ) xs ys
 | d+1,ρ,.func fn xs es,c=>∃ ys us,c = .func fn ys us∧AtAll (Rep O W d ρ) xs ys∧AtAll (Rep O W d ρ) es us
 | _+1,_,.bool b,c=>c = .bool b
 | _+1,_,.int k n,c=>c = .int k n
 | _+1,_,.string s,c=>c = .string s
 | _+1,_,.nilFunc,c=>c = .nilFunc
 | _+1,_,.nilIface,c=>c = .nilIface
 | _+1,_,.map none,c=>c = .map none
 | _+1,ρ,.map (some i),c=>∃ g,ρ i=some (g,0)∧c = .map (some g)
 | _+1,_,_,_=>False
theorem AtAll.mono {R R' : Value→Value→Prop} (h:∀ x y,R x y→R' x y) {xs ys:Array Value} (ha:AtAll R xs ys):AtAll R' xs ys :=
 ⟨ha.1,fun i x hx=>let ⟨y,hy,hr⟩:=ha.2 i x hx;⟨y,hy,h _ _ hr⟩⟩
def Sub (ρ ρ' : A8):Prop:=∀ i p,ρ i=some p→ρ' i=some p
theorem Sub.refl (ρ:A8):Sub ρ ρ:=fun _ _ h=>h
theorem Sub.trans {a b c:A8} (h:Sub a b) (k:Sub b c):Sub a c:=fun i p hi=>k i p (h i p hi)
structure Still (O:Nat→Prop) (W:World) (O' : Nat→Prop) (W' : World):Prop where
 size:W.heap.size≤W'.heap.size
 pl:∀ g,g<W.heap.size→¬ O g→¬ O' g∧W'.heap[g]? = W.heap[g]?
 shp:Shp W W'
theorem Still.refl (O:Nat→Prop) (W:World):Still O W O W:=⟨Nat.le_refl _,fun _ _ h=>⟨h,rfl⟩,fun _ arr _ h=>⟨arr,h,rfl⟩⟩
theorem Still.cell {O O' : Nat→Prop} {W W' : World} (h:Still O W O' W') {g o:Nat} (hg:g<W.heap.size) (hO:¬ O g):W'.cell? ⟨g,o,none⟩=W.cell? ⟨g,o,none⟩:=by
 simp [World.cell?,(h.pl g hg hO).2]
theorem CellsRep.mono {O O' : Nat→Prop} {W W' : World} (h:Still O W O' W') {R R' : Value→Value→Prop} (hr:∀ x y,R x y→R' x y) {g o:Nat} {cs:Array Value} (hg:g<W.heap.size) (hO:¬ O g) (hc:CellsRep R W g o cs):CellsRep R' W' g o cs :=
 fun j x hx=>let ⟨u,hu,hx'⟩:=hc j x hx;⟨u,(h.cell hg hO).trans hu,hr _ _ hx'⟩
theorem Rep.mono {O O' : Nat→Prop} {W W' : World} (h:Still O W O' W'):∀ {d d' : Nat} {ρ ρ' : A8} {v c:Value},d≤d' → Sub ρ ρ' → Rep O W d ρ v c→Rep O' W' d' ρ' v c
 | 0,_,_,_,_,_,_,_,hr=>hr.elim
 | d+1,0,_,_,_,_,hd,_,_=>by omega
 | d+1,d' + 1,ρ,ρ',v,c,hd,hs,hr=>by
  have ih:∀ x y,Rep O W d ρ x y→Rep O' W' d' ρ' x y:=fun x y hx=>Rep.mono h (by omega) hs hx
  have ih0:∀ x y,Rep O W d nowhere x y→Rep O' W' d' nowhere x y:=fun x y hx=>Rep.mono h (by omega) (Sub.refl _) hx
  match v,hr with
  | .iface t x,hr =>
   rcases hr with hr | hr | ⟨ht,els,p,cap,hx,hc,h1,h2,h3,h4⟩ | ⟨ht,cs,g,o,hx,hc,h1,h2,h3⟩ | ⟨ht,cs,g,o,hx,hc,h1,h2,h3⟩
   ·exact .inl hr
   ·exact .inr (.inl hr)
   ·refine .inr (.inr (.inl ⟨ht,els,p,cap,hx,hc,h1,h2,h3,fun h0=>?_⟩))
    obtain ⟨g,o,k,hp,hg,hO,hk⟩:=h4 h0
    exact ⟨g,o,k,hp,Nat.lt_of_lt_of_le hg h.size,(h.pl g hg hO).1,fun n el hn=>⟨(hk n el hn).1,(hk n el hn).2.mono h ih0 hg hO⟩⟩
   ·exact .inr (.inr (.inr (.inl ⟨ht,cs,g,o,hx,hc,Nat.lt_of_lt_of_le h1 h.size,(h.pl g h1 h2).1,h3.mono h ih0 h1 h2⟩)))
   ·exact .inr (.inr (.inr (.inr ⟨ht,cs,g,o,hx,hc,Nat.lt_of_lt_of_le h1 h.size,(h.pl g h1 h2).1,h3.mono h ih h1 h2⟩)))
  | .pointer none,hr=>exact hr
  | .pointer (some a),hr=>obtain ⟨g,k,j,h1,h2,h3⟩:=hr;exact ⟨g,k,j,hs _ _ h1,h2,h3⟩
  | .slice none n m,hr=>exact hr
  | .slice (some a) n m,hr=>obtain ⟨g,k,cap,h1,h2,h3⟩:=hr;exact ⟨g,k,cap,hs _ _ h1,⟨h2.1,h2.2.mono h.shp⟩,h3⟩
  | .agg xs,hr=>obtain ⟨ys,h1,h2⟩:=hr;exact ⟨ys,h1,h2.mono ih⟩
  | .tuple xs,hr=>obtain ⟨ys,h1,h2⟩:=hr;exact ⟨ys,h1,h2.mono ih⟩
  | .func fn xs es,hr=>obtain ⟨ys,us,h1,h2,h3⟩:=hr;exact ⟨ys,us,h1,h2.mono ih,h3.mono ih⟩
  | .bool _,hr=>exact hr
  | .int _ _,hr=>exact hr
  | .string _,hr=>exact hr
  | .nilFunc,hr=>exact hr
  | .nilIface,hr=>exact hr
  | .float _ _,hr=>exact hr.elim
  | .complex _ _ _,hr=>exact hr.elim
  | .map none,hr=>exact hr
  | .map (some i),hr=>obtain ⟨g,h1,h2⟩:=hr;exact ⟨g,hs _ _ h1,h2⟩
  | .chan _,hr=>exact hr.elim
def Rp (ρ:A8) (O:Nat→Prop) (W:World) (v c:Value):Prop:=∃ d,Rep O W d ρ v c
theorem Rp.mono {ρ ρ' : A8} {O O' : Nat→Prop} {W W' : World} {v c:Value} (hr:Rp ρ O W v c) (h:Still O W O' W') (hs:Sub ρ ρ'):Rp ρ' O' W' v c:=hr.imp fun _ h' => h'.mono h (Nat.le_refl _) hs
theorem rY {P:Nat→Nat→Prop} (hm:∀ i d d',d≤d' → P i d→P i d'):∀ n,(∀ i,i<n→∃ d,P i d)→∃ d,∀ i,i<n→P i d
 | 0,_=>⟨0,fun i hi=>by omega⟩
 | n+1,h=>by
  obtain ⟨d1,h1⟩:=rY hm n (fun i hi=>h i (by omega))
  obtain ⟨d2,h2⟩:=h n (by omega)
  refine ⟨max d1 d2,fun i hi=>?_⟩
  by_cases e:i=n
  ·subst e;exact hm _ _ _ (Nat.le_max_right _ _) h2
  ·exact hm _ _ _ (Nat.le_max_left _ _) (h1 i (by omega))
section
variable {ρ:A8} {O:Nat→Prop} {W:World}
theorem AtAll.bound {xs ys:Array Value} (h:AtAll (Rp ρ O W) xs ys):∃ d,AtAll (Rep O W d ρ) xs ys:=by
 obtain ⟨d,hd⟩:=rY (P:=fun i d=>∀ x,xs[i]? = some x→∃ y,ys[i]? = some y∧Rep O W d ρ x y)
  (fun i d d' hdd hi x hx=>let ⟨y,hy,hr⟩:=hi x hx;⟨y,hy,hr.mono (Still.refl _ _) hdd (Sub.refl _)⟩) xs.size (fun i hi=>by
   obtain ⟨y,hy,d,hr⟩:=h.2 i xs[i] (by simp [hi])
   exact ⟨d,fun x hx=>⟨y,hy,by have:xs[i]? = some xs[i]:=(by simp [hi]);rw [hx] at this;cases this;exact hr⟩⟩)
 exact ⟨d,h.1,fun i x hx=>hd i (Array.getElem?_eq_some_iff.1 hx).1 x hx⟩
theorem AtAll.rp {d:Nat} {xs ys:Array Value} (h:AtAll (Rep O W d ρ) xs ys):AtAll (Rp ρ O W) xs ys:=h.mono fun _ _ h=>⟨d,h⟩
theorem CellsRep.bound {g o:Nat} {cs:Array Value} (h:CellsRep (Rp ρ O W) W g o cs):∃ d,CellsRep (Rep O W d ρ) W g o cs:=by
 obtain ⟨d,hd⟩:=rY (P:=fun i d=>∀ x,cs[i]? = some x→∃ u,W.cell? ⟨g,o+i,none⟩=some u∧Rep O W d ρ x u)
  (fun i d d' hdd hi x hx=>let ⟨y,hy,hr⟩:=hi x hx;⟨y,hy,hr.mono (Still.refl _ _) hdd (Sub.refl _)⟩) cs.size (fun i hi=>by
   obtain ⟨y,hy,d,hr⟩:=h i cs[i] (by simp [hi])
   exact ⟨d,fun x hx=>⟨y,hy,by have:cs[i]? = some cs[i]:=(by simp [hi]);rw [hx] at this;cases this;exact hr⟩⟩)
 exact ⟨d,fun i x hx=>hd i (Array.getElem?_eq_some_iff.1 hx).1 x hx⟩
theorem CellsRep.rp {d g o:Nat} {cs:Array Value} (h:CellsRep (Rep O W d ρ) W g o cs):CellsRep (Rp ρ O W) W g o cs:=fun j x hx=>let ⟨u,hu,hr⟩:=h j x hx;⟨u,hu,d,hr⟩
theorem R9 {xs:Array Value} {c:Value}:Rp ρ O W (.agg xs) c↔∃ ys,c = .agg ys∧AtAll (Rp ρ O W) xs ys:=by
 constructor
 ·rintro ⟨_ | d,h⟩
  ·exact h.elim
  ·obtain ⟨ys,h1,h2⟩:=h;exact ⟨ys,h1,h2.rp⟩
 ·rintro ⟨ys,h1,h2⟩
  obtain ⟨d,hd⟩:=h2.bound
  exact ⟨d+1,ys,h1,hd⟩
theorem G8 {xs:Array Value} {c:Value}:Rp ρ O W (.tuple xs) c↔∃ ys,c = .tuple ys∧AtAll (Rp ρ O W) xs ys:=by
 constructor
 ·rintro ⟨_ | d,h⟩
  ·exact h.elim
  ·obtain ⟨ys,h1,h2⟩:=h;exact ⟨ys,h1,h2.rp⟩
 ·rintro ⟨ys,h1,h2⟩
  obtain ⟨d,hd⟩:=h2.bound
  exact ⟨d+1,ys,h1,hd⟩
theorem U6 {fn:Fn} {xs es:Array Value} {c:Value}:Rp ρ O W (.func fn xs es) c↔∃ ys us,c = .func fn ys us∧AtAll (Rp ρ O W) xs ys∧AtAll (Rp ρ O W) es us:=by
 constructor
 ·rintro ⟨_ | d,h⟩
  ·exact h.elim
  ·obtain ⟨ys,us,h1,h2,h3⟩:=h;exact ⟨ys,us,h1,h2.rp,h3.rp⟩
 ·rintro ⟨ys,us,h1,h2,h3⟩
  obtain ⟨d,hd⟩:=h2.bound
  obtain ⟨e,he⟩:=h3.bound
  exact ⟨max d e+1,ys,us,h1,hd.mono fun _ _ h=>h.mono (Still.refl _ _) (Nat.le_max_left _ _) (Sub.refl _),he.mono fun _ _ h=>h.mono (Still.refl _ _) (Nat.le_max_right _ _) (Sub.refl _)⟩
theorem H5 {b:Bool} {c:Value}:Rp ρ O W (.bool b) c↔c = .bool b:=⟨fun ⟨d,h⟩=>by cases d;exact h.elim;exact h,fun h=>⟨1,h⟩⟩
theorem p8 {k:IntKind} {n:Int} {c:Value}:Rp ρ O W (.int k n) c↔c = .int k n:=⟨fun ⟨d,h⟩=>by cases d;exact h.elim;exact h,fun h=>⟨1,h⟩⟩
theorem rG {b:Bool} {c:Value}:Rp ρ O W (vD b) c↔c = .bool b:=by
 constructor
 ·rintro ⟨_ | d,h⟩
  ·exact h.elim
  ·rcases h with h | ⟨-,b',h1,h2⟩ | ⟨h,-⟩ | ⟨h,-⟩ | ⟨h,-⟩
   ·cases h
   ·cases h1;exact h2
   ·cases h
   ·cases h
   ·cases h
 ·rintro rfl;exact ⟨1,.inr (.inl ⟨rfl,b,rfl,rfl⟩)⟩
theorem dF (c:Value):Rp ρ O W gN c:=⟨1,.inl rfl⟩
theorem V8 {a:Addr} {c:Value}:Rp ρ O W (.pointer (some a)) c↔∃ g k j,ρ a.block=some (g,k)∧a.spot=some j∧c = .pointer (some ⟨g,a.off * k+j,none⟩):=⟨fun ⟨d,h⟩=>by cases d;exact h.elim;exact h,fun h=>⟨1,h⟩⟩
theorem tK {c:Value}:Rp ρ O W (.pointer none) c↔c = .pointer none:=⟨fun ⟨d,h⟩=>by cases d;exact h.elim;exact h,fun h=>⟨1,h⟩⟩
theorem di {a:Addr} {n m:Nat} {c:Value}:Rp ρ O W (.slice (some a) n m) c↔∃ g k cap,ρ a.block=some (g,k)∧((n≤cap∧cap≤maxLen)∧CapAt W g (a.off * k+cap * k))∧c = .slice (some ⟨g,a.off * k,none⟩) n cap:=⟨fun ⟨d,h⟩=>by cases d;exact h.elim;exact h,fun h=>⟨1,h⟩⟩
theorem Y2 {n m:Nat} {c:Value}:Rp ρ O W (.slice none n m) c↔n=0∧m=0∧c = .slice none 0 0:=⟨fun ⟨d,h⟩=>by cases d;exact h.elim;exact h,fun h=>⟨1,h⟩⟩
theorem je {i:Nat} {c:Value}:Rp ρ O W (.map (some i)) c↔∃ g,ρ i=some (g,0)∧c = .map (some g):=⟨fun ⟨d,h⟩=>by cases d;exact h.elim;exact h,fun h=>⟨1,h⟩⟩
theorem vY {c:Value}:Rp ρ O W (.map none) c↔c = .map none:=⟨fun ⟨d,h⟩=>by cases d;exact h.elim;exact h,fun h=>⟨1,h⟩⟩
theorem kH {n:Nat} {els zs:Array Value} {c:Value}:Rp ρ O W (.iface 1000000 (.func (.yield n) els zs)) c↔∃ p cap,zs=#[]∧n=els.size∧c = .slice p els.size cap∧els.size≤cap∧cap≤maxLen∧(p=none→cap=0) ∧
  (els.size≠0→∃ g o k,p=some ⟨g,o,none⟩∧g<W.heap.size∧¬ O g∧∀ n el,els[n]? = some el→el.cells.size=k∧CellsRep (Rp nowhere O W) W g (o+n * k) el.cells):=by
 constructor
 ·rintro ⟨_ | d,h⟩
  ·exact h.elim
  ·rcases h with h | ⟨h,-⟩ | ⟨-,els',p,cap,hx,hc,h1,h2,h3,h4⟩ | ⟨h,-⟩ | ⟨h,-⟩
   ·cases h
   ·cases h
   ·cases hx
    refine ⟨p,cap,rfl,rfl,hc,h1,h2,h3,fun h0=>?_⟩
    obtain ⟨g,o,k,hp,hg,hO,hk⟩:=h4 h0
    exact ⟨g,o,k,hp,hg,hO,fun n el hn=>⟨(hk n el hn).1,(hk n el hn).2.rp⟩⟩
   ·cases h
   ·cases h
 ·rintro ⟨p,cap,rfl,rfl,hc,h1,h2,h3,h4⟩
  by_cases h0:els.size=0
  ·exact ⟨1,.inr (.inr (.inl ⟨rfl,els,p,cap,rfl,hc,h1,h2,h3,fun h=>absurd h0 h⟩))⟩
  ·obtain ⟨g,o,k,hp,hg,hO,hk⟩:=h4 h0
   obtain ⟨d,hd⟩:=rY (P:=fun n d=>∀ el,els[n]? = some el→CellsRep (Rep O W d nowhere) W g (o+n * k) el.cells)
    (fun i d d' hdd hi el hel j x hx=>let ⟨u,hu,hr⟩:=hi el hel j x hx;⟨u,hu,hr.mono (Still.refl _ _) hdd (Sub.refl _)⟩) els.size (fun n hn=>by
     obtain ⟨d,hd⟩:=(hk n els[n] (by simp [hn])).2.bound
     exact ⟨d,fun el hel=>by have:els[n]? = some els[n]:=(by simp [hn]);rw [hel] at this;cases this;exact hd⟩)
   exact ⟨d+1,.inr (.inr (.inl ⟨rfl,els,p,cap,rfl,hc,h1,h2,h3,fun _=>⟨g,o,k,hp,hg,hO,fun n el hn=>⟨(hk n el hn).1,hd n (Array.getElem?_eq_some_iff.1 hn).1 el hn⟩⟩⟩))⟩
theorem wM {cs:Array Value} {c:Value}:Rp ρ O W (.iface 1000001 (.tuple cs)) c↔∃ g o,c = .pointer (some ⟨g,o,none⟩)∧g<W.heap.size∧¬ O g∧CellsRep (Rp nowhere O W) W g o cs:=by
 constructor
 ·rintro ⟨_ | d,h⟩
  ·exact h.elim
  ·rcases h with h | ⟨h,-⟩ | ⟨h,-⟩ | ⟨-,cs',g,o,hx,hc,h1,h2,h3⟩ | ⟨h,-⟩
   ·cases h
   ·cases h
   ·cases h
   ·cases hx;exact ⟨g,o,hc,h1,h2,h3.rp⟩
   ·cases h
 ·rintro ⟨g,o,hc,h1,h2,h3⟩
  obtain ⟨d,hd⟩:=h3.bound
  exact ⟨d+1,.inr (.inr (.inr (.inl ⟨rfl,cs,g,o,rfl,hc,h1,h2,hd⟩)))⟩
theorem zD {cs:Array Value} {c:Value}:Rp ρ O W (.iface 1000007 (.tuple cs)) c↔∃ g o,c = .pointer (some ⟨g,o,none⟩)∧g<W.heap.size∧¬ O g∧CellsRep (Rp ρ O W) W g o cs:=by
 constructor
 ·rintro ⟨_ | d,h⟩
  ·exact h.elim
  ·rcases h with h | ⟨h,-⟩ | ⟨h,-⟩ | ⟨h,-⟩ | ⟨-,cs',g,o,hx,hc,h1,h2,h3⟩
   ·cases h
   ·cases h
   ·cases h
   ·cases h
   ·cases hx;exact ⟨g,o,hc,h1,h2,h3.rp⟩
 ·rintro ⟨g,o,hc,h1,h2,h3⟩
  obtain ⟨d,hd⟩:=h3.bound
  exact ⟨d+1,.inr (.inr (.inr (.inr ⟨rfl,cs,g,o,rfl,hc,h1,h2,hd⟩)))⟩
end
end
section
open Go.ChangeShapes Go.WideShapes Go.ChangeAt Go.RowKit
structure IMapAt (w:World) (mb:Nat) (l:List (Int×Value)) (es:Array MapEntry) (ck:Nat):Prop where
 obj:w.heap[mb]? = some (.map es ck)
 ents:es.toList.map (fun e=>(e.key,e.val))=l.map (fun d=>(Value.int .i64 d.1,d.2))
 born:∀ x∈es.toList,x.born<ck
 nodup:(es.toList.map (·.born)).Nodup
def IMap (w:World) (mb:Nat) (l:List (Int×Value)):Prop:=∃ es ck,IMapAt w mb l es ck
theorem IMap.of_block {w w' : World} {mb:Nat} {l:List (Int×Value)} (h:IMap w mb l) (hk:w'.heap[mb]? = w.heap[mb]?):IMap w' mb l:=by
 obtain ⟨es,ck,h1,h2,h3,h4⟩:=h
 exact ⟨es,ck,hk.trans h1,h2,h3,h4⟩
theorem IMap.lt {w:World} {mb:Nat} {l:List (Int×Value)} (h:IMap w mb l):mb<w.heap.size:=by
 obtain ⟨es,ck,h1,_⟩:=h
 exact (Array.getElem?_eq_some_iff.1 h1).1
theorem IMap.kept {w w' : World} {mb:Nat} {l:List (Int×Value)} (h:IMap w mb l) (hk:Below w.heap.size w w'):IMap w' mb l:=h.of_block (hk.block _ h.lt)
theorem IMapAt.at {w:World} {mb:Nat} {l:List (Int×Value)} {es:Array MapEntry} {ck:Nat} (h:IMapAt w mb l es ck) {j:Nat} {e:MapEntry} (he:es.toList[j]? = some e):∃ d,l[j]? = some d∧e.key = .int .i64 d.1∧e.val=d.2:=by
 have h1:=congrArg (·[j]?) h.ents
 simp only [List.getElem?_map,he,Option.map_some] at h1
 obtain ⟨d,hd,h2⟩:=Option.map_eq_some_iff.1 h1.symm
 simp only [Prod.mk.injEq] at h2
 exact ⟨d,hd,h2.1.symm,h2.2.symm⟩
theorem IMapAt.mem {w:World} {mb:Nat} {l:List (Int×Value)} {es:Array MapEntry} {ck:Nat} (h:IMapAt w mb l es ck) {e:MapEntry} (he:e∈es.toList):∃ d∈l,e.key = .int .i64 d.1∧e.val=d.2:=by
 obtain ⟨j,hj⟩:=List.getElem?_of_mem he
 obtain ⟨d,hd,h1⟩:=h.at hj
 exact ⟨d,List.mem_of_getElem? hd,h1⟩
theorem IMapAt.find {w:World} {mb:Nat} {l:List (Int×Value)} {es:Array MapEntry} {ck:Nat} (h:IMapAt w mb l es ck) (i:Int) :
  (Instr.findNow (.int .i64) (.int .i64 i) es.toList 0=some none∧∀ d∈l,d.1≠i) ∨
  ∃ j d,Instr.findNow (.int .i64) (.int .i64 i) es.toList 0=some (some (j,d.2))∧l[j]? = some d∧d.1=i∧j<es.size:=by
 have hks:∀ x∈es.toList,MapKept.IsKey (.int .i64) x.key:=fun x hx=>by
  obtain ⟨d,_,hk,_⟩:=h.mem hx
  rw [hk];rfl
 rcases MapKept.findNow_spec (d:=.int .i64) (k:=.int .i64 i) rfl es.toList 0 hks with ⟨h1,h2⟩ | ⟨j,e,h1,h2,h3⟩
 ·left
  refine ⟨h1,fun d hd hdi=>?_⟩
  obtain ⟨j,hj⟩:=List.getElem?_of_mem hd
  have h4:=congrArg (·[j]?) h.ents
  simp only [List.getElem?_map,hj,Option.map_some] at h4
  obtain ⟨x,hx,h5⟩:=Option.map_eq_some_iff.1 h4
  simp only [Prod.mk.injEq] at h5
  exact h2 x (List.mem_of_getElem? hx) (by rw [h5.1,hdi])
 ·right
  obtain ⟨d,hd,h4,h5⟩:=h.at h2
  refine ⟨j,d,by rw [h1,h5,Nat.zero_add],hd,?_,by simpa using (List.getElem?_eq_some_iff.1 h2).1⟩
  rw [h4] at h3;cases h3;rfl
theorem IMap.made (w:World):IMap (w.alloc (.map #[] 0)) w.heap.size []:=⟨#[],0,(MapKept.heap_alloc w _).1,rfl,by simp,by simp⟩
section
variable {P:Program} {mty kt et:TypeId}
end
end
section
open Go.RowKit
structure Blk where
 w:Bool
 arr:Bool
 k:Nat
 n:Nat
 els:List Value
def Blk.pm (b:Blk) (ρ:A8):A8:=match b.arr with
 | true=>nowhere
 | false=>ρ
theorem I8 (ρ:A8):Sub nowhere ρ:=fun _ _ h=>by cases h
theorem a1v (b:Blk) (ρ:A8):Sub (b.pm ρ) ρ:=by
 unfold Blk.pm;split
 ·exact I8 ρ
 ·exact Sub.refl ρ
theorem UX (b:Blk) {ρ ρ' : A8} (h:Sub ρ ρ'):Sub (b.pm ρ) (b.pm ρ'):=by
 unfold Blk.pm;split
 ·exact Sub.refl _
 ·exact h
def Blk.mpm (b:Blk) (ρ:A8):A8:=match b.n with
 | 0=>ρ
 | _+1=>nowhere
theorem VG (b:Blk) (ρ:A8):Sub (b.mpm ρ) ρ:=by
 unfold Blk.mpm;split
 ·exact Sub.refl ρ
 ·exact I8 ρ
theorem QB (b:Blk) {ρ ρ' : A8} (h:Sub ρ ρ'):Sub (b.mpm ρ) (b.mpm ρ'):=by
 unfold Blk.mpm;split
 ·exact h
 ·exact Sub.refl _
def sF (ρ:A8) (O:Nat→Prop) (W:World) (g:Nat) (b:Blk):Prop :=
 ∃ arr ty,W.heap[g]? = some (.cells arr ty (0,0))∧b.els.length * b.k≤arr.size ∧
  ∀ (n:Nat) (el:Value),b.els[n]? = some el→el.cells.size=b.k∧∀ (j:Nat) (x:Value),el.cells[j]? = some x→∃ u,arr[n * b.k+j]? = some u∧Rp (b.pm ρ) O W x u
def Ic (ρ:A8) (O:Nat→Prop) (W:World) (g:Nat) (els:List Value):Prop :=
 ∃ l,(IMap W g l∧(l.map (·.1)).Nodup)∧(∀ d∈l,∃ v,Value.agg #[.int .i64 d.1,v]∈els)∧∀ el∈els,∃ i v c,el = .agg #[.int .i64 i,v]∧(i,c)∈l∧Rp ρ O W v c
def Blk.isMap (b:Blk):Bool:=b.k==0 && !b.arr
def BlkAt (ρ:A8) (O:Nat→Prop) (W:World) (g:Nat) (b:Blk):Prop:=(b.isMap=false→sF ρ O W g b)∧(b.isMap=true→Ic (b.mpm ρ) O W g b.els)
theorem I4 {ρ:A8} {O:Nat→Prop} {W:World} {g:Nat} {b:Blk} (h:b.isMap=false):BlkAt ρ O W g b↔sF ρ O W g b:=⟨fun k=>k.1 h,fun k=>⟨fun _=>k,fun h' => absurd (h.symm.trans h') (by decide)⟩⟩
theorem af {ρ:A8} {O:Nat→Prop} {W:World} {g:Nat} {b:Blk} (h:b.isMap=true):BlkAt ρ O W g b↔Ic (b.mpm ρ) O W g b.els:=⟨fun k=>k.2 h,fun k=>⟨fun h' => absurd (h.symm.trans h') (by decide),fun _=>k⟩⟩
theorem Z7 {b:Blk} (h:b.arr=true):b.isMap=false:=by simp [Blk.isMap,h]
theorem rM {b:Blk} (h:b.k≠0):b.isMap=false:=by simp [Blk.isMap,h]
def HAt (ρ:A8) (O:Nat→Prop) (W:World) (i:Nat):Option Blk→Prop
 | none=>True
 | some b=>∃ g,ρ i=some (g,b.k)∧O g∧BlkAt ρ O W g b
theorem BlkAt.lt {ρ:A8} {O:Nat→Prop} {W:World} {g:Nat} {b:Blk} (h:BlkAt ρ O W g b):g<W.heap.size:=by
 cases hm:b.isMap
 ·obtain ⟨arr,ty,h,-⟩:=(I4 hm).1 h
  exact (Array.getElem?_eq_some_iff.1 h).1
 ·obtain ⟨l,h,-⟩:=(af hm).1 h
  exact h.1.lt
theorem BlkAt.mono {ρ ρ' : A8} {O O' : Nat→Prop} {W W' : World} {g:Nat} {b:Blk} (h:BlkAt ρ O W g b) (hs:Still O W O' W') (hr:Sub ρ ρ') (hg:W'.heap[g]? = W.heap[g]?):BlkAt ρ' O' W' g b:=by
 cases hm:b.isMap
 ·obtain ⟨arr,ty,h1,h2,h3⟩:=(I4 hm).1 h
  exact (I4 hm).2 ⟨arr,ty,hg.trans h1,h2,fun n el hn=>⟨(h3 n el hn).1,fun j x hx=>let ⟨u,hu,hx'⟩:=(h3 n el hn).2 j x hx;⟨u,hu,hx'.mono hs (UX b hr)⟩⟩⟩
 ·obtain ⟨l,h1,h2,h3⟩:=(af hm).1 h
  exact (af hm).2 ⟨l,⟨h1.1.of_block hg,h1.2⟩,h2,fun el hn=>let ⟨i,v,c,h4,h5,h6⟩:=h3 el hn;⟨i,v,c,h4,h5,h6.mono hs (QB b hr)⟩⟩
theorem BlkAt.cells {ρ:A8} {O:Nat→Prop} {W:World} {g:Nat} {b:Blk} (h:BlkAt ρ O W g b) (hm:b.isMap=false) {n:Nat} {el:Value} (hn:b.els[n]? = some el):el.cells.size=b.k∧CellsRep (Rp ρ O W) W g (n * b.k) el.cells:=by
 obtain ⟨arr,ty,h1,h2,h3⟩:=(I4 hm).1 h
 exact ⟨(h3 n el hn).1,fun j x hx=>let ⟨u,hu,hr⟩:=(h3 n el hn).2 j x hx;⟨u,by simp [World.cell?,h1,hu],hr.mono (Still.refl _ _) (a1v b ρ)⟩⟩
theorem BlkAt.cells0 {ρ:A8} {O:Nat→Prop} {W:World} {g:Nat} {b:Blk} (h:BlkAt ρ O W g b) {n:Nat} {el:Value} (hn:b.els[n]? = some el) (ha:b.arr=true):CellsRep (Rp nowhere O W) W g (n * b.k) el.cells:=by
 obtain ⟨arr,ty,h1,h2,h3⟩:=(I4 (Z7 ha)).1 h
 have hp:b.pm ρ=nowhere:=by unfold Blk.pm;rw [ha]
 exact fun j x hx=>let ⟨u,hu,hr⟩:=(h3 n el hn).2 j x hx;⟨u,by simp [World.cell?,h1,hu],hp ▸ hr⟩
def Vr:Value→Value
 | .bool b=>vD b
 | .int k n=>.int k n
 | .string s=>.string s
 | .pointer none=>.pointer none
 | .slice none 0 0=>.slice none 0 0
 | .nilFunc=>.nilFunc
 | .nilIface=>.nilIface
 | .map none=>.map none
 | _=>gN
def wT:Value→Value
 | .agg xs=>.agg (xs.toList.map Vr).toArray
 | .tuple xs=>if xs.toList.isEmpty then .tuple #[] else gN
 | v=>Vr v
def lD:Value→Bool
 | .agg _ | .tuple _ | .iface 1000002 _=>false
 | _=>true
def dW:Value→Bool
 | .iface 1000007 _=>false
 | .bool _ | .int _ _ | .string _ | .pointer none | .slice none _ _ | .nilFunc | .nilIface | .iface _ _=>true
 | _=>false
def okV:Value→Bool
 | .tuple _ | .iface 1000002 _=>false
 | _=>true
def Ec:Value→Option Value
 | .int k n=>some (.int k n)
 | .bool b=>some (.bool b)
 | .iface 1000003 (.bool b)=>some (.bool b)
 | .string s=>some (.string s)
 | _=>none
def wQ:List Value→Option (List Value)
 | []=>some []
 | x::r=>match Ec x,wQ r with
  | some y,some s=>some (y::s)
  | _,_=>none
def yD:Value→Option Value
 | .agg xs=>(wQ xs.toList).map fun l=>.agg l.toArray
 | v=>Ec v
section
variable {ρ:A8} {O:Nat→Prop} {W:World}
theorem KW (v:Value):Rp ρ O W (Vr v) v:=by
 unfold Vr
 split
 ·exact rG.2 rfl
 ·exact p8.2 rfl
 ·exact ⟨1,rfl⟩
 ·exact tK.2 rfl
 ·exact Y2.2 ⟨rfl,rfl,rfl⟩
 ·exact ⟨1,rfl⟩
 ·exact ⟨1,rfl⟩
 ·exact vY.2 rfl
 ·exact dF _
theorem qX (v:Value):Rp ρ O W (wT v) v:=by
 unfold wT
 split
 ·next xs =>
  refine R9.2 ⟨xs,rfl,by simp,fun i x hx=>?_⟩
  simp only [List.getElem?_toArray,List.getElem?_map,Array.getElem?_toList] at hx
  obtain ⟨y,hy,rfl⟩:=Option.map_eq_some_iff.1 hx
  exact ⟨y,hy,KW y⟩
 ·next xs =>
  split
  ·next h =>
   have:xs=#[]:=by
    have:=List.isEmpty_iff.1 h
    exact Array.toList_eq_nil_iff.1 this
   subst this
   exact G8.2 ⟨#[],rfl,rfl,fun i x hx=>by simp at hx⟩
  ·exact dF _
 ·exact KW v
theorem ER {v c u:Value} (h:Rp ρ O W v c) (ha:Ec v=some u):c=u:=by
 unfold Ec at ha
 split at ha
 ·cases ha;exact p8.1 h
 ·cases ha;exact H5.1 h
 ·cases ha;exact rG.1 h
 ·cases ha
  obtain ⟨_ | d,h⟩:=h
  ·exact h.elim
  ·exact h
 ·cases ha
theorem Ad:∀ {xs us:List Value},wQ xs=some us→us.length=xs.length∧∀ (i:Nat) (x:Value),xs[i]? = some x→∃ u,us[i]? = some u∧Ec x=some u
 | [],us,h=>by simp only [wQ,Option.some.injEq] at h;subst h;exact ⟨rfl,fun i x hx=>by simp at hx⟩
 | x::r,us,h=>by
  simp only [wQ] at h
  split at h
  ·next y s h1 h2 =>
   cases h
   obtain ⟨hl,ih⟩:=Ad h2
   refine ⟨by simp [hl],fun i z hz=>?_⟩
   cases i with
   | zero=>simp only [List.getElem?_cons_zero,Option.some.injEq] at hz ⊢;subst hz;exact ⟨y,rfl,h1⟩
   | succ i=>simpa using ih i z (by simpa using hz)
  ·cases h
theorem Oo {v c u:Value} (h:Rp ρ O W v c) (ha:yD v=some u):c=u:=by
 unfold yD at ha
 split at ha
 ·next xs =>
  obtain ⟨us,hus,rfl⟩:=Option.map_eq_some_iff.1 ha
  obtain ⟨ys,rfl,hs,hy⟩:=R9.1 h
  obtain ⟨hl,hx⟩:=Ad hus
  congr 1
  apply Array.ext
  ·simp [hs,hl]
  ·intro i h1 h2
   have hi:i<xs.size:=by omega
   obtain ⟨y,hy1,hy2⟩:=hy i xs[i] (by simp [hi])
   obtain ⟨u,hu1,hu2⟩:=hx i xs[i] (by simp [hi])
   have e:=ER hy2 hu2
   have e1:ys[i]=y:=by have:=Array.getElem?_eq_getElem h1;rw [hy1] at this;exact (Option.some.inj this).symm
   have e2:us.toArray[i]=u:=by have:=List.getElem?_eq_getElem (l:=us) (i:=i) (by simpa using h2);rw [hu1] at this;simpa using (Option.some.inj this).symm
   rw [e1,e2,e]
 ·exact ER h ha
theorem mZ {v c:Value} (h:Rp ρ O W v c) (hv:okV v=true):AtAll (Rp ρ O W) v.cells c.cells:=by
 have one:v.cells=#[v]→c.cells=#[c]→AtAll (Rp ρ O W) v.cells c.cells:=fun h1 h2=>by
  rw [h1,h2]
  refine ⟨rfl,fun i x hx=>?_⟩
  cases i with
  | zero=>simp at hx;subst hx;exact ⟨c,rfl,h⟩
  | succ i=>simp at hx
 match v,hv with
 | .agg xs,_=>obtain ⟨ys,rfl,hy⟩:=R9.1 h;exact hy
 | .bool _,_=>rw [H5] at h;subst h;exact one rfl rfl
 | .int _ _,_=>rw [p8] at h;subst h;exact one rfl rfl
 | .pointer none,_=>rw [tK] at h;subst h;exact one rfl rfl
 | .pointer (some a),_=>obtain ⟨g,k,j,-,-,rfl⟩:=V8.1 h;exact one rfl rfl
 | .slice none n m,_=>obtain ⟨-,-,rfl⟩:=Y2.1 h;exact one rfl rfl
 | .slice (some a) n m,_=>obtain ⟨g,k,cap,-,-,rfl⟩:=di.1 h;exact one rfl rfl
 | .func fn xs es,_=>obtain ⟨ys,us,rfl,-⟩:=U6.1 h;exact one rfl rfl
 | .string s,_ =>
  have:c = .string s:=by obtain ⟨_ | d,h⟩:=h;exact h.elim;exact h
  subst this;exact one rfl rfl
 | .nilFunc,_ =>
  have:c = .nilFunc:=by obtain ⟨_ | d,h⟩:=h;exact h.elim;exact h
  subst this;exact one rfl rfl
 | .nilIface,_ =>
  have:c = .nilIface:=by obtain ⟨_ | d,h⟩:=h;exact h.elim;exact h
  subst this;exact one rfl rfl
 | .iface t x,hv =>
  obtain ⟨_ | d,h'⟩:=h
  ·exact h'.elim
  ·rcases h' with e | ⟨-,b,-,hc⟩ | ⟨-,els,p,cap,-,hc,-⟩ | ⟨-,cs,g,o,-,hc,-⟩ | ⟨-,cs,g,o,-,hc,-⟩
   ·subst e;simp [okV] at hv
   ·subst hc;exact one rfl rfl
   ·subst hc;exact one rfl rfl
   ·subst hc;exact one rfl rfl
   ·subst hc;exact one rfl rfl
 | .float _ _,_=>obtain ⟨_ | d,h⟩:=h;exact h.elim;exact h.elim
 | .complex _ _ _,_=>obtain ⟨_ | d,h⟩:=h;exact h.elim;exact h.elim
 | .map none,_=>rw [vY] at h;subst h;exact one rfl rfl
 | .map (some i),_=>obtain ⟨g,-,rfl⟩:=je.1 h;exact one rfl rfl
 | .chan _,_=>obtain ⟨_ | d,h⟩:=h;exact h.elim;exact h.elim
theorem aJ {v c:Value} (h:Rp ρ O W v c) (hv:dW v=true):Rp nowhere O W v c:=by
 obtain ⟨_ | d,h⟩:=h
 ·exact h.elim
 ·refine ⟨d+1,?_⟩
  match v,hv with
  | .bool _,_=>exact h
  | .int _ _,_=>exact h
  | .string _,_=>exact h
  | .pointer none,_=>exact h
  | .slice none _ _,_=>exact h
  | .nilFunc,_=>exact h
  | .nilIface,_=>exact h
  | .iface t x,hv =>
   rcases h with h | h | h | h | ⟨rfl,-⟩
   ·exact .inl h
   ·exact .inr (.inl h)
   ·exact .inr (.inr (.inl h))
   ·exact .inr (.inr (.inr (.inl h)))
   ·simp [dW] at hv
theorem Lt {v c:Value} (h:Rp ρ O W v c) (hv:lD v=true):c.oneCell' = true:=by
 match v,hv with
 | .bool _,_=>rw [H5] at h;subst h;rfl
 | .int _ _,_=>rw [p8] at h;subst h;rfl
 | .pointer none,_=>rw [tK] at h;subst h;rfl
 | .pointer (some a),_=>obtain ⟨g,k,j,-,-,rfl⟩:=V8.1 h;rfl
 | .slice none n m,_=>obtain ⟨-,-,rfl⟩:=Y2.1 h;rfl
 | .slice (some a) n m,_=>obtain ⟨g,k,cap,-,-,rfl⟩:=di.1 h;rfl
 | .func fn xs es,_=>obtain ⟨ys,us,rfl,-⟩:=U6.1 h;rfl
 | .string s,_=>obtain ⟨_ | d,h⟩:=h;exact h.elim;(have h' : c = .string s:=h);subst h';rfl
 | .nilFunc,_=>obtain ⟨_ | d,h⟩:=h;exact h.elim;(have h' : c = .nilFunc:=h);subst h';rfl
 | .nilIface,_=>obtain ⟨_ | d,h⟩:=h;exact h.elim;(have h' : c = .nilIface:=h);subst h';rfl
 | .iface t x,hv =>
  obtain ⟨_ | d,h'⟩:=h
  ·exact h'.elim
  ·rcases h' with e | ⟨-,b,-,hc⟩ | ⟨-,els,p,cap,-,hc,-⟩ | ⟨-,cs,g,o,-,hc,-⟩ | ⟨-,cs,g,o,-,hc,-⟩
   ·subst e;simp [lD] at hv
   ·subst hc;rfl
   ·subst hc;rfl
   ·subst hc;rfl
   ·subst hc;rfl
 | .float _ _,_=>obtain ⟨_ | d,h⟩:=h;exact h.elim;exact h.elim
 | .complex _ _ _,_=>obtain ⟨_ | d,h⟩:=h;exact h.elim;exact h.elim
 | .map none,_=>rw [vY] at h;subst h;rfl
 | .map (some i),_=>obtain ⟨g,-,rfl⟩:=je.1 h;rfl
 | .chan _,_=>obtain ⟨_ | d,h⟩:=h;exact h.elim;exact h.elim
end
def BO (P:Program) (t:TypeId):Option Nat:=(P.info? t).map (·.size)
def Re (P:Program) (t:TypeId):Option Bool:=(P.underlying t).map TypeDesc.isRow
def vk (P:Program) (t:TypeId) (cs:List Value) (j:Nat):Option Value :=
 match Re P t,BO P t with
 | some true,some s=>if j+s≤cs.length then some (.agg ((cs.drop j).take s).toArray) else none
 | some false,some _=>cs[j]?
 | _,_=>none
section
variable {P:Program} {W:World}
theorem mi {t:TypeId} {s:Nat} (h:BO P t=some s):(sizeOf t).run P W = .ok s W:=by
 obtain ⟨i,hi,rfl⟩:=Option.map_eq_some_iff.1 h
 simp [sizeOf,typeInfo,hi]
theorem wD {t:TypeId} {b:Bool} (h:Re P t=some b):(isAgg t).run P W = .ok b W:=by
 obtain ⟨d,hd,rfl⟩:=Option.map_eq_some_iff.1 h
 unfold isAgg
 rw [Sem.run_bind,run_underlying hd W]
 cases d <;> rfl
variable {ρ:A8} {O:Nat→Prop}
theorem FC {t:TypeId} {g o j:Nat} {cs:Array Value} {v:Value} (hc:CellsRep (Rp ρ O W) W g o cs) (hv:vk P t cs.toList j=some v):∃ c,(loadVar t ⟨g,o+j,none⟩).run P W = .ok c W∧Rp ρ O W v c:=by
 unfold vk at hv
 split at hv
 ·next s h1 h2 =>
  split at hv
  ·next hs =>
   cases hv
   simp only [Array.length_toList] at hs
   obtain ⟨d,hd,hr⟩:=Option.map_eq_some_iff.1 h1
   have ex:∀ i,i<s→∃ u,W.cell? ⟨g,o+(j+i),none⟩=some u∧∀ x,cs[j+i]? = some x→Rp ρ O W x u:=fun i hi=>by
    have hji:j+i<cs.size:=by omega
    obtain ⟨u,hu,hr⟩:=hc (j+i) cs[j+i] (by simp [hji])
    exact ⟨u,hu,fun x hx=>by rw [Array.getElem?_eq_getElem hji] at hx;cases hx;exact hr⟩
   let us:List Value:=(List.range s).map fun i=>(W.cell? ⟨g,o+(j+i),none⟩).getD undef
   have hus:∀ i u,us[i]? = some u→W.cell? ⟨g,o+j+i,none⟩=some u:=fun i u hu=>by
    have hi:i<s:=by have:=(List.getElem?_eq_some_iff.1 hu).1;simpa [us] using this
    obtain ⟨u',hu',-⟩:=ex i hi
    simp only [us,List.getElem?_map,List.getElem?_range hi,Option.map_some,Option.some.injEq] at hu
    rw [Nat.add_assoc,hu']
    rw [hu'] at hu;simpa using hu
   refine ⟨.agg us.toArray,run_loadVar_mid W g (o+j) t us d hus hd hr (by rw [show (P.info? t).map (·.size)=some s from h2];simp [us]),R9.2 ⟨_,rfl,by simp [us];omega,fun i x hx=>?_⟩⟩
   simp only [List.getElem?_toArray,List.getElem?_take,List.getElem?_drop,Array.getElem?_toList] at hx
   split at hx
   ·next hi =>
    obtain ⟨u,hu,hr⟩:=ex i hi
    exact ⟨u,by simp [us,hi,hu],hr x hx⟩
   ·cases hx
  ·cases hv
 ·next s h1 h2 =>
  obtain ⟨u,hu,hr⟩:=hc j v (by simpa using hv)
  refine ⟨u,?_,hr⟩
  unfold loadVar
  simp [Sem.run_bind,wD h1,hu]
 ·cases hv
theorem Eh {t:TypeId} {xs ys:Array Value} {j:Nat} {v:Value} (ha:AtAll (Rp ρ O W) xs ys) (hv:vk P t xs.toList j=some v):∃ c,(part t ys j).run P W = .ok c W∧Rp ρ O W v c:=by
 unfold vk at hv
 split at hv
 ·next s h1 h2 =>
  split at hv
  ·next hs =>
   cases hv
   simp only [Array.length_toList] at hs
   refine ⟨.agg (ys.extract j (j+s)),by simp [part,Sem.run_bind,wD h1,mi h2],R9.2 ⟨_,rfl,by simp [ha.1];omega,fun i x hx=>?_⟩⟩
   simp only [List.getElem?_toArray,List.getElem?_take,List.getElem?_drop,Array.getElem?_toList] at hx
   split at hx
   ·next hi =>
    obtain ⟨y,hy,hr⟩:=ha.2 _ _ hx
    refine ⟨y,?_,hr⟩
    have:=(Array.getElem?_eq_some_iff.1 hy).1
    rw [Array.getElem?_extract,if_pos (by omega)]
    exact hy
   ·cases hx
  ·cases hv
 ·next s h1 h2 =>
  obtain ⟨y,hy,hr⟩:=ha.2 j v (by simpa using hv)
  exact ⟨y,by simp [part,Sem.run_bind,wD h1,hy],hr⟩
 ·cases hv
end
end
section
open Go.RowKit
def OpVal (P:Program) (op:Op) (e:Operand→Value) (H:Nat→Option Blk) (rd:List Nat) (v:Value):Prop :=
 ∀ (ρ:A8) (O:Nat→Prop) (W:World) (o:Oper) (f:Operand→Value),o.op=op→(∀ x∈op.operands,Rp ρ O W (e x) (f x))→(∀ i∈rd,HAt ρ O W i (H i)) →
  ∃ c,(execOp f o).run P W = .ok (.value c) W∧Rp ρ O W v c
abbrev EvR:=Option (Value×List Nat×List Value×List Prop)
def IxP (els:Array Value) (i:Int) (el:Value):Prop:=0≤i∧els.toList[i.toNat]? = some el
def ElP (els:List Value) (n:Nat) (el:Value):Prop:=els[n]? = some el
def TE (op:BinOp) (k:IntKind) (x y:Int):Option (Value×List Prop) :=
 match op,k with
 | .add,.i64=>some (.int .i64 (x+y),[In64 (x+y)])
 | .sub,.i64=>some (.int .i64 (x - y),[In64 (x - y)])
 | .mul,.i64=>some (.int .i64 (x * y),[In64 (x * y)])
 | .quo,.i64=>some (.int .i64 (x / y),[0≤x∧0<y∧x≤9223372036854775807])
 | .rem,_=>some (.int k (x % y),[0≤x∧0<y])
 | .eql,_=>some (.bool (x==y),[])
 | .neq,_=>some (.bool (x != y),[])
 | .lss,_=>some (.bool (decide (x<y)),[])
 | .leq,_=>some (.bool (decide (x≤y)),[])
 | .gtr,_=>some (.bool (decide (y<x)),[])
 | .geq,_=>some (.bool (decide (y≤x)),[])
 | _,_=>none
def uj (P:Program) (op:Op) (vs:List Value) (r:Value):Prop:=∀ (W:World) (o:Oper) (f:Operand→Value),o.op=op→op.operands.toList.map f=vs→(execOp f o).run P W = .ok (.value r) W
def FU (P:Program) (op:Op) (e:Operand→Value) (orc:List Value):EvR :=
 if op.operands.toList.all (fun x=>(yD (e x)).isSome) then
  match orc with
  | r::orc' => match r with
   | .int _ _ | .bool _=>some (r,[],orc',[uj P op (op.operands.toList.map fun x=>(yD (e x)).getD undef) r])
   | _=>none
  | []=>none
 else none
def yG (P:Program) (t:TypeId) (av:Value) (H:Nat→Option Blk) (orc:List Value):EvR :=
 match av with
 | .iface 1000001 (.tuple cs)=>(vk P t cs.toList 0).map fun v=>(v,[],orc,[])
 | .iface 1000007 (.tuple cs)=>(vk P t cs.toList 0).map fun v=>(v,[],orc,[])
 | .pointer (some ⟨i,n,some j⟩) =>
  match H i with
  | some b =>
   match b.arr with
   | false=>if b.k==0 then none else match b.els[n]? with
    | some el=>(vk P t el.cells.toList j).map fun v=>(v,[i],orc,[])
    | none=>none
   | true=>match orc with
    | el::orc' => (vk P t el.cells.toList j).map fun v=>(v,[i],orc',[ElP b.els n el])
    | []=>none
  | none=>none
 | _=>none
def mU (P:Program) (s:TypeId) (av:Value) (f:Nat):Option Value :=
 match P.underlying s with
 | some (.struct fields)=>match fields[f]? with
  | some fd=>match BO P fd.type with
   | some (_+1)=>match av with
    | .pointer (some ⟨i,n,some j⟩)=>some (.pointer (some ⟨i,n,some (j+fd.offset)⟩))
    | .iface 1000001 (.tuple cs)=>some (vEp (cs.toList.drop fd.offset))
    | _=>none
   | _=>none
  | none=>none
 | _=>none
def lW (P:Program) (t:TypeId) (av:Value) (i:Int) (H:Nat→Option Blk) (orc:List Value):EvR :=
 match P.underlying t with
 | some (.slice elem)=>match BO P elem with
  | some sz=>match av with
   | .iface 1000000 (.func (.yield _) els _)=>match orc with
    | el::orc' => if el.cells.size=sz then some (vEp el.cells.toList,[],orc',[IxP els i el]) else none
    | []=>none
   | .slice (some ⟨i0,n0,some 0⟩) len _=>match H i0 with
    | some b=>if b.k=sz then some (.pointer (some ⟨i0,n0+i.toNat,some 0⟩),[i0],orc,[0≤i∧i.toNat<len]) else none
    | none=>none
   | _=>none
  | none=>none
 | some (.array len elem)=>match BO P elem with
  | some sz=>match av with
   | .pointer (some ⟨i0,n0,some j⟩)=>if 0≤i∧i<len then some (.pointer (some ⟨i0,n0,some (j+i.toNat * sz)⟩),[],orc,[]) else none
   | .iface 1000001 (.tuple cs)=>if 0≤i∧i<len then some (vEp (cs.toList.drop (i.toNat * sz)),[],orc,[]) else none
   | _=>none
  | none=>none
 | _=>none
def CS (P:Program) (t:TypeId) (av:Value) (i:Int):Option Value :=
 match P.underlying t with
 | some (.array len elem)=>match BO P elem with
  | some sz=>match av with
   | .agg cs=>if 0≤i∧i<len then vk P elem cs.toList (i.toNat * sz) else none
   | _=>none
  | none=>none
 | _=>none
def zOk:Value→Bool
 | .bool _ | .int _ _ | .string _ | .pointer none | .slice none 0 0 | .nilFunc | .nilIface | .map none=>true
 | _=>false
def Bp (P:Program) (t:TypeId) (parts:List (Nat×Value)):Option Value :=
 match P.info? t with
 | some it=>match it.zero with
  | some z=>if z.cells.toList.all zOk&&parts.all (fun p=>okV p.2) then (P.built t parts).map .agg else none
  | none=>none
 | none=>none
def Ra (b:Builtin) (args:List Value):Option Value :=
 match b,args with
 | .len,[.iface 1000000 (.func (.yield n) _ _)]=>some (.int .i64 n)
 | .len,[.slice _ n _]=>some (.int .i64 n)
 | .min,[.int k x,.int _ y]=>some (.int k (min x y))
 | .max,[.int k x,.int _ y]=>some (.int k (max x y))
 | _,_=>none
def YV (P:Program) (b:Builtin) (ats:Array TypeId):Bool :=
 match b with
 | .len=>match ats[0]? with
  | some t=>match P.underlying t with
   | some (.slice _)=>true
   | _=>false
  | none=>false
 | _=>true
def UQ (P:Program) (op:Op) (e:Operand→Value) (H:Nat→Option Blk) (orc:List Value):EvR :=
 match op with
 | .move x | .assign x=>some (e x,[],orc,[])
 | .pick c a b=>match e c with
  | .iface 1000003 (.bool t)=>some (if t then e a else e b,[],orc,[])
  | _=>none
 | .load t x=>yG P t (e x) H orc
 | .nilCheck x=>match e x with
  | .pointer (some a)=>some (.pointer (some a),[],orc,[])
  | .iface 1000001 y=>some (.iface 1000001 y,[],orc,[])
  | .func (.func g) xs es=>some (.func (.func g) xs es,[],orc,[])
  | _=>none
 | .binOp bo _ x y _=>match orc with
  | .iface 1000014 r::orc' => FU P op e (r::orc')
  | _=>match e x,e y with
   | .int k a,.int k' b=>if k=k' then (TE bo k a b).map fun r=>(r.1,[],orc,r.2) else none
   | _,_=>FU P op e orc
 | .unOp .not _ x=>match e x with
  | .iface 1000003 (.bool b)=>some (vD (!b),[],orc,[])
  | .bool b=>some (.bool (!b),[],orc,[])
  | _=>none
 | .unOp .neg _ x=>match e x with
  | .int .i64 n=>some (.int .i64 (-n),[],orc,[In64 (-n)])
  | _=>none
 | .convert _ _ _=>FU P op e orc
 | .makeFunc fn f c=>some (.func fn (f.toList.map e).toArray (c.toList.map e).toArray,[],orc,[])
 | .fieldAddr s x f=>(mU P s (e x) f).map fun v=>(v,[],orc,[])
 | .field t x f=>match e x,P.underlying t with
  | .agg cs,some (.struct fields)=>match fields[f]? with
   | some fd=>(vk P fd.type cs.toList fd.offset).map fun v=>(v,[],orc,[])
   | none=>none
  | _,_=>none
 | .indexAddr t x ix=>match e ix with
  | .int _ i=>lW P t (e x) i H orc
  | _=>none
 | .index t x ix=>match e ix with
  | .int _ i=>(CS P t (e x) i).map fun v=>(v,[],orc,[])
  | _=>none
 | .extract x ix=>match e x with
  | .tuple vs=>vs[ix]?.map fun v=>(v,[],orc,[])
  | _=>none
 | .build t parts=>(Bp P t (parts.toList.map fun p=>(p.1,e p.2))).map fun v=>(v,[],orc,[])
 | .call { callee:=.builtin b,args,argTypes }=>if YV P b argTypes then (Ra b (args.toList.map e)).map fun v=>(v,[],orc,[]) else none
 | _=>none
def J3:List Prop→Prop
 | []=>True
 | p::r=>p∧J3 r
theorem o6:∀ {a b:List Prop},J3 (a++b)↔J3 a∧J3 b
 | [],b=>by simp [J3]
 | p::r,b=>by simp [J3,o6 (a:=r),and_assoc]
section
variable {P:Program}
theorem jc {n:Int} (h:In64 n):IntKind.i64.wrap n=n:=by
 obtain ⟨h1,h2⟩:=h
 exact IntWalk.i64_in n ⟨h1,h2⟩
end
end
section
open Go.RowKit
section
variable {P:Program} {ρ:A8} {O:Nat→Prop} {W:World}
theorem EQ {bo:BinOp} {k:IntKind} {x y:Int} {v:Value} {ob:List Prop} {t:TypeId} {ox oy:Operand} (h:TE bo k x y=some (v,ob)) (hob:J3 ob) :
  (do eqGuard bo t ox oy (.int k x) (.int k y);binOp bo t (.int k x) (.int k y):Sem Value).run P W = .ok v W∧Rp ρ O W v v:=by
 unfold TE at h
 split at h <;> cases h
 ·exact ⟨by simp [eqGuard,binOp,Op.intArith,jc hob.1],p8.2 rfl⟩
 ·exact ⟨by simp [eqGuard,binOp,Op.intArith,jc hob.1],p8.2 rfl⟩
 ·exact ⟨by simp [eqGuard,binOp,Op.intArith,jc hob.1],p8.2 rfl⟩
 ·obtain ⟨⟨h1,h2,h3⟩,-⟩:=hob
  refine ⟨?_,p8.2 rfl⟩
  have hd:x.tdiv y=x / y:=Int.tdiv_eq_ediv_of_nonneg h1
  have hw:IntKind.i64.wrap (x / y)=x / y:=jc ⟨by have:=Int.ediv_nonneg h1 (Int.le_of_lt h2);omega,by have:=Int.ediv_le_self y h1;omega⟩
  simp [eqGuard,binOp,Op.intDiv,hd,hw,show y≠0 by omega]
 ·obtain ⟨⟨h1,h2⟩,-⟩:=hob
  refine ⟨?_,p8.2 rfl⟩
  have hd:x.tmod y=x % y:=Int.tmod_eq_emod_of_nonneg h1
  simp [eqGuard,binOp,Op.intDiv,hd,show y≠0 by omega]
 ·exact ⟨by simp [eqGuard,binOp,Op.intCmp],H5.2 rfl⟩
 ·exact ⟨by simp [eqGuard,binOp,Op.intCmp],H5.2 rfl⟩
 ·exact ⟨by simp [eqGuard,binOp,Op.intCmp],H5.2 rfl⟩
 ·exact ⟨by simp [eqGuard,binOp,Op.intCmp],H5.2 rfl⟩
 ·exact ⟨by simp [eqGuard,binOp,Op.intCmp],H5.2 rfl⟩
 ·exact ⟨by simp [eqGuard,binOp,Op.intCmp],H5.2 rfl⟩
theorem xO {op:Op} {e:Operand→Value} {H:Nat→Option Blk} {orc orc' : List Value} {v:Value} {rd:List Nat} {ob:List Prop} (h:FU P op e orc=some (v,rd,orc',ob)) (hob:J3 ob):OpVal P op e H rd v:=by
 unfold FU at h
 split at h
 ·next hp =>
  split at h
  ·next r orc1 =>
   have key:uj P op (op.operands.toList.map fun x=>(yD (e x)).getD undef) r→(∀ ρ O W,Rp ρ O W r r)→OpVal P op e H rd r:=fun hr hrr ρ O W o f ho he _=>by
    refine ⟨r,hr W o f ho (List.map_congr_left fun x hx=>?_),hrr _ _ _⟩
    have h1:=List.all_eq_true.1 hp x hx
    obtain ⟨u,hu⟩:=Option.isSome_iff_exists.1 h1
    rw [hu]
    exact Oo (he x (Array.mem_toList_iff.1 hx)) hu
   split at h
   ·cases h;exact key hob.1 fun _ _ _=>p8.2 rfl
   ·cases h;exact key hob.1 fun _ _ _=>H5.2 rfl
   ·cases h
  ·cases h
 ·cases h
theorem Ai {t:TypeId} {x:Operand} {e:Operand→Value} {H:Nat→Option Blk} {orc orc' : List Value} {v:Value} {rd:List Nat} {ob:List Prop} (h:yG P t (e x) H orc=some (v,rd,orc',ob)) (hob:J3 ob):OpVal P (.load t x) e H rd v:=by
 intro ρ O W o f ho he hH
 have hx:=he x (by simp [Op.operands])
 have fin:∀ g o' j cs,f x = .pointer (some ⟨g,o' + j,none⟩)→CellsRep (Rp ρ O W) W g o' cs→vk P t cs.toList j=some v→∃ c,(execOp f o).run P W = .ok (.value c) W∧Rp ρ O W v c:=fun g o' j cs h1 h2 h3=>by
  obtain ⟨c,hc,hr⟩:=FC h2 h3
  exact ⟨c,by simp [execOp,ho,h1,Instr.loadAt,Instr.sureAddr,Sem.run_bind,hc],hr⟩
 unfold yG at h
 split at h
 ·next cs hcs =>
  obtain ⟨v',hv,he'⟩:=Option.map_eq_some_iff.1 h
  cases he'
  rw [hcs] at hx
  obtain ⟨g,o',hf,-,-,hr⟩:=wM.1 hx
  have hr' : CellsRep (Rp ρ O W) W g o' cs:=fun j y hy=>let ⟨u,hu,hy'⟩:=hr j y hy;⟨u,hu,hy'.mono (Still.refl _ _) (fun _ _ h=>by cases h)⟩
  exact fin g o' 0 cs hf hr' hv
 ·next cs hcs =>
  obtain ⟨v',hv,he'⟩:=Option.map_eq_some_iff.1 h
  cases he'
  rw [hcs] at hx
  obtain ⟨g,o',hf,-,-,hr⟩:=zD.1 hx
  exact fin g o' 0 cs hf hr hv
 ·next i n j hp =>
  rw [hp] at hx
  obtain ⟨g,k,j',h1,h2,hf⟩:=V8.1 hx
  cases h2
  split at h
  ·next b hb =>
   have key:∀ el,b.isMap=false→b.els[n]? = some el→i∈rd→vk P t el.cells.toList j=some v→∃ c,(execOp f o).run P W = .ok (.value c) W∧Rp ρ O W v c:=fun el hmap hel hi hs=>by
    have hh:=hH i hi
    rw [hb] at hh
    obtain ⟨g',hg',-,hB⟩:=hh
    rw [h1] at hg';cases hg'
    exact fin _ _ j _ hf (hB.cells hmap hel).2 hs
   split at h
   ·split at h
    ·cases h
    ·next hk0 =>
     split at h
     ·next el hel =>
      obtain ⟨v',hv,he'⟩:=Option.map_eq_some_iff.1 h
      cases he'
      exact key el (rM (by simpa using hk0)) hel (by simp) hv
     ·cases h
   ·next harr =>
    split at h
    ·next el _ =>
     obtain ⟨v',hv,he'⟩:=Option.map_eq_some_iff.1 h
     cases he'
     exact key el (Z7 harr) hob.1 (by simp) hv
    ·cases h
  ·cases h
 ·cases h
theorem xG {s:TypeId} {x:Operand} {fi:Nat} {e:Operand→Value} {H:Nat→Option Blk} {v:Value} (h:mU P s (e x) fi=some v):OpVal P (.fieldAddr s x fi) e H [] v:=by
 intro ρ O W o f ho he _
 have hx:=he x (by simp [Op.operands])
 unfold mU at h
 split at h
 ·next fields hu =>
  split at h
  ·next fd hfd =>
   split at h
   ·next m hsz =>
    have fin:∀ g o',f x = .pointer (some ⟨g,o',none⟩)→(execOp f o).run P W = .ok (.value (.pointer (some ⟨g,o' + fd.offset,none⟩))) W:=fun g o' h1=>by
     simp [execOp,ho,h1,Instr.fieldAt,Instr.sureAddr,Sem.run_bind,run_underlying hu,hfd,fieldPlace,mi hsz,Addr.add_mid]
    split at h
    ·next i n j hp =>
     cases h
     rw [hp] at hx
     obtain ⟨g,k,j',h1,h2,hf⟩:=V8.1 hx
     cases h2
     exact ⟨_,fin _ _ hf,V8.2 ⟨g,k,_,h1,rfl,by simp only [Nat.add_assoc]⟩⟩
    ·next cs hcs =>
     cases h
     rw [hcs] at hx
     obtain ⟨g,o',hf,hg,hO,hr⟩:=wM.1 hx
     refine ⟨_,fin _ _ hf,wM.2 ⟨g,o' + fd.offset,rfl,hg,hO,fun j y hy=>?_⟩⟩
     simp only [List.getElem?_toArray,List.getElem?_drop,Array.getElem?_toList] at hy
     obtain ⟨u,hu,hr⟩:=hr _ _ hy
     exact ⟨u,by rw [Nat.add_assoc];exact hu,hr⟩
    ·cases h
   ·cases h
  ·cases h
 ·cases h
theorem OG {els:Array Value} {n:Nat} {zs:Array Value} {c:Value} {i:Int} {el:Value} (h:Rp ρ O W (.iface 1000000 (.func (.yield n) els zs)) c) (hi:IxP els i el):∃ g o cap,c = .slice (some ⟨g,o,none⟩) els.size cap∧i<els.size∧n=els.size∧Rp ρ O W (vEp el.cells.toList) (.pointer (some ⟨g,o+i.toNat * el.cells.size,none⟩)):=by
 obtain ⟨p,cap,-,hn,hc,h1,h2,h3,h4⟩:=kH.1 h
 obtain ⟨hi0,hel⟩:=hi
 have hlt:i.toNat<els.size:=by have:=(List.getElem?_eq_some_iff.1 hel).1;simpa using this
 obtain ⟨g,o,k,rfl,hg,hO,hk⟩:=h4 (by omega)
 obtain ⟨h5,h6⟩:=hk i.toNat el (by simpa using hel)
 refine ⟨g,o,cap,hc,by omega,hn,?_⟩
 rw [h5]
 exact wM.2 ⟨g,_,rfl,hg,hO,by simpa using h6⟩
theorem wR {t:TypeId} {x ix:Operand} {k:IntKind} {i:Int} {e:Operand→Value} {H:Nat→Option Blk} {orc orc' : List Value} {v:Value} {rd:List Nat} {ob:List Prop} (hi:e ix = .int k i) (h:lW P t (e x) i H orc=some (v,rd,orc',ob)) (hob:J3 ob):OpVal P (.indexAddr t x ix) e H rd v:=by
 intro ρ O W o f ho he hH
 have hx:=he x (by simp [Op.operands])
 have hix:=he ix (by simp [Op.operands])
 rw [hi,p8] at hix
 unfold lW at h
 split at h
 ·next elem hu =>
  split at h
  ·next sz hsz =>
   have fin:∀ a len cap,f x = .slice (some a) len cap→0≤i→i<len→(execOp f o).run P W = .ok (.value (.pointer (some (a.add (i.toNat * sz))))) W:=fun a len cap h1 h2 h3=>by
    simp [execOp,ho,h1,hix,Instr.indexAt,asIntOf,Sem.run_bind,run_underlying hu,mi hsz,h2,h3]
   split at h
   ·next n els zs hrow =>
    rw [hrow] at hx
    split at h
    ·next el _ =>
     split at h
     ·next hsz' =>
      cases h
      obtain ⟨g,o',cap,hc,h1,-,h2⟩:=OG hx hob.1
      rw [hsz'] at h2
      refine ⟨_,fin _ _ _ hc hob.1.1 h1,?_⟩
      rw [Addr.add_mid]
      exact h2
     ·cases h
    ·cases h
   ·next i0 n0 len m hs =>
    rw [hs] at hx
    split at h
    ·next b hb =>
     split at h
     ·next hk =>
      cases h
      obtain ⟨g,k',cap,h1,h2,hc⟩:=di.1 hx
      have hh:=hH i0 (by simp)
      rw [hb] at hh
      obtain ⟨g',hg',-⟩:=hh
      have hg'' : ρ i0=some (g,k'):=h1
      rw [hg''] at hg';cases hg'
      obtain ⟨⟨hi0,hil⟩,-⟩:=hob
      refine ⟨_,fin _ _ _ hc hi0 (by omega),V8.2 ⟨g,b.k,0,hg'',rfl,?_⟩⟩
      rw [Addr.add_mid,← hk,Nat.add_mul,Nat.add_zero]
     ·cases h
    ·cases h
   ·cases h
  ·cases h
 ·next len elem hu =>
  split at h
  ·next sz hsz =>
   split at h
   ·next i0 n0 j hp =>
    split at h
    ·next hin =>
     cases h
     rw [hp] at hx
     obtain ⟨g,k',j',h1,h2,hc⟩:=V8.1 hx
     cases h2
     refine ⟨.pointer (some ⟨g,n0 * k' + (j+i.toNat * sz),none⟩),?_,V8.2 ⟨g,k',_,h1,rfl,rfl⟩⟩
     simp [execOp,ho,hc,hix,Instr.indexAt,Instr.sureAddr,asIntOf,Sem.run_bind,run_underlying hu,mi hsz,hin.1,hin.2,Addr.add_mid,Nat.add_assoc]
    ·cases h
   ·next cs hcs =>
    split at h
    ·next hin =>
     cases h
     rw [hcs] at hx
     obtain ⟨g,o',hf,hg,hO,hr⟩:=wM.1 hx
     refine ⟨.pointer (some ⟨g,o' + i.toNat * sz,none⟩),?_,wM.2 ⟨g,o' + i.toNat * sz,rfl,hg,hO,fun j y hy=>?_⟩⟩
     ·simp [execOp,ho,hf,hix,Instr.indexAt,Instr.sureAddr,asIntOf,Sem.run_bind,run_underlying hu,mi hsz,hin.1,hin.2,Addr.add_mid,Nat.add_assoc]
     ·simp only [List.getElem?_toArray,List.getElem?_drop,Array.getElem?_toList] at hy
      obtain ⟨u,hu',hr'⟩:=hr _ _ hy
      exact ⟨u,by rw [Nat.add_assoc];exact hu',hr'⟩
    ·cases h
   ·cases h
  ·cases h
 ·cases h
theorem GQ {t:TypeId} {x ix:Operand} {k:IntKind} {i:Int} {e:Operand→Value} {H:Nat→Option Blk} {v:Value} (hi:e ix = .int k i) (h:CS P t (e x) i=some v):OpVal P (.index t x ix) e H [] v:=by
 intro ρ O W o f ho he _
 have hx:=he x (by simp [Op.operands])
 have hix:=he ix (by simp [Op.operands])
 rw [hi,p8] at hix
 unfold CS at h
 split at h
 ·next len elem hu =>
  split at h
  ·next sz hsz =>
   split at h
   ·next cs hcs =>
    split at h
    ·next hin =>
     rw [hcs] at hx
     obtain ⟨ys,hc,ha⟩:=R9.1 hx
     obtain ⟨c,hr,hv⟩:=Eh (P:=P) ha h
     exact ⟨c,by simp [execOp,ho,hc,hix,Instr.index,asIntOf,Sem.run_bind,run_underlying hu,mi hsz,hin.1,hin.2,hr],hv⟩
    ·cases h
   ·cases h
  ·cases h
 ·cases h
theorem Jj {v:Value} (h:zOk v=true):Rp ρ O W v v:=by
 unfold zOk at h
 split at h
 ·exact H5.2 rfl
 ·exact p8.2 rfl
 ·exact ⟨1,rfl⟩
 ·exact tK.2 rfl
 ·exact Y2.2 ⟨rfl,rfl,rfl⟩
 ·exact ⟨1,rfl⟩
 ·exact ⟨1,rfl⟩
 ·exact vY.2 rfl
 ·cases h
theorem FT {R:Value→Value→Prop}:∀ (vs us:List (Value×Nat)) {xs ys:Array Value} (off:Nat),vs.length=us.length→(∀ (i:Nat) (a b:Value×Nat),vs[i]? = some a→us[i]? = some b→a.2=b.2∧R a.1 b.1)→AtAll R xs ys →
  AtAll R (vs.foldl (fun cs (c,j)=>cs.setIfInBounds (off+j) c) xs) (us.foldl (fun cs (c,j)=>cs.setIfInBounds (off+j) c) ys)
 | [],[],xs,ys,off,_,_,h=>h
 | [],_::_,_,_,_,h,_,_=>by simp at h
 | _::_,[],_,_,_,h,_,_=>by simp at h
 | (a,m)::r,(b,m')::s,xs,ys,off,hl,h,ha=>by
  obtain ⟨e,hab⟩:=h 0 (a,m) (b,m') rfl rfl
  have e' : m=m' := e
  subst e'
  refine FT r s off (by simpa using hl) (fun i x y hx hy=>h (i+1) x y (by simpa using hx) (by simpa using hy)) ⟨by simp [ha.1],fun i x hx=>?_⟩
  simp only [Array.getElem?_setIfInBounds] at hx ⊢
  by_cases e1:off+m=i
  ·subst e1
   simp only [if_true] at hx ⊢
   by_cases e2:off+m<xs.size
   ·simp only [e2,if_true,Option.some.injEq] at hx
    subst hx
    exact ⟨b,by simp [ha.1,e2],hab⟩
   ·simp [e2] at hx
  ·simp only [e1,if_false] at hx ⊢
   exact ha.2 i x hx
theorem qP {R:Value→Value→Prop} (place:Nat→Option (Nat×Nat)):∀ (ps qs:List (Nat×Value)) {xs ys zs:Array Value},ps.length=qs.length→(∀ (i:Nat) (a b:Nat×Value),ps[i]? = some a→qs[i]? = some b→a.1=b.1∧AtAll R a.2.cells b.2.cells)→AtAll R xs ys →
  Instr.fill place xs ps=some zs→∃ us,Instr.fill place ys qs=some us∧AtAll R zs us
 | [],[],xs,ys,zs,_,_,h,hz=>by simp only [Instr.fill,Option.some.injEq] at hz;subst hz;exact ⟨ys,rfl,h⟩
 | [],_::_,_,_,_,h,_,_,_=>by simp at h
 | _::_,[],_,_,_,h,_,_,_=>by simp at h
 | (i,a)::r,(i',b)::s,xs,ys,zs,hl,h,ha,hz=>by
  obtain ⟨e,hab⟩:=h 0 (i,a) (i',b) rfl rfl
  have e' : i=i' := e
  subst e'
  simp only [Instr.fill] at hz ⊢
  cases hp:place i with
  | none=>simp [hp] at hz
  | some os =>
   obtain ⟨off,size⟩:=os
   simp only [hp] at hz ⊢
   have hcs:b.cells.size=a.cells.size:=hab.1
   rw [hcs,ha.1]
   split at hz
   ·cases hz
   ·next hn =>
    rw [if_neg hn]
    refine qP place r s (by simpa using hl) (fun i x y hx hy=>h (i+1) x y (by simpa using hx) (by simpa using hy)) ?_ hz
    have:=FT (R:=R) a.cells.zipIdx.toList b.cells.zipIdx.toList (xs:=xs) (ys:=ys) off (by simp [hcs]) (fun j x y hx hy=>?_) ha
    ·rw [Array.foldl_toList,Array.foldl_toList] at this
     exact this
    ·simp only [Array.toList_zipIdx,List.getElem?_zipIdx,Array.getElem?_toList] at hx hy
     obtain ⟨u,hu,rfl⟩:=Option.map_eq_some_iff.1 hx
     obtain ⟨v,hv,rfl⟩:=Option.map_eq_some_iff.1 hy
     obtain ⟨v',hv',hr⟩:=hab.2 j u hu
     have hv'' : b.cells[j]? = some v' := hv'
     rw [hv] at hv'';cases hv''
     exact ⟨rfl,hr⟩
theorem Ib {t:TypeId} {parts:Array (Nat×Operand)} {e:Operand→Value} {H:Nat→Option Blk} {v:Value} (h:Bp P t (parts.toList.map fun p=>(p.1,e p.2))=some v):OpVal P (.build t parts) e H [] v:=by
 intro ρ O W o f ho he _
 unfold Bp at h
 split at h
 ·next it hit =>
  split at h
  ·next z hz =>
   split at h
   ·next hok =>
    simp only [Bool.and_eq_true] at hok
    obtain ⟨cells,hc,rfl⟩:=Option.map_eq_some_iff.1 h
    have hzz:AtAll (Rp ρ O W) z.cells z.cells:=⟨rfl,fun i x hx=>⟨x,hx,Jj (List.all_eq_true.1 hok.1 x (List.mem_of_getElem? (by simpa using hx)))⟩⟩
    have hps:∀ (i:Nat) (a b:Nat×Value),(parts.toList.map fun p=>(p.1,e p.2))[i]? = some a→(parts.toList.map fun p=>(p.1,f p.2))[i]? = some b→a.1=b.1∧AtAll (Rp ρ O W) a.2.cells b.2.cells:=fun i a b ha hb=>by
     have hm:=List.mem_of_getElem? ha
     simp only [List.getElem?_map] at ha hb
     obtain ⟨p,hp,rfl⟩:=Option.map_eq_some_iff.1 ha
     rw [hp] at hb;cases hb
     refine ⟨rfl,mZ (he p.2 ?_) (List.all_eq_true.1 hok.2 _ hm)⟩
     simp only [Op.operands,List.mem_toArray,List.mem_map]
     exact ⟨p,List.mem_of_getElem? hp,rfl⟩
    have key:∃ us,P.built t (parts.toList.map fun p=>(p.1,f p.2))=some us∧AtAll (Rp ρ O W) cells us:=by
     unfold Program.built at hc ⊢
     simp only [hit] at hc ⊢
     cases hu:P.underlying t with
     | none=>simp [hu] at hc
     | some d =>
      cases d <;> simp only [hu,hz] at hc ⊢ <;> try (simp at hc;done)
      ·split at hc
       ·next z' ie h1 h2 =>
        cases h1
        exact qP _ _ _ (by simp) hps hzz hc
       ·cases hc
      ·split at hc
       ·next z' pl h1 h2 =>
        cases h1
        exact qP _ _ _ (by simp) hps hzz hc
       ·cases hc
    obtain ⟨us,hus,hR⟩:=key
    refine ⟨.agg us,?_,R9.2 ⟨us,rfl,hR⟩⟩
    have:=run_build (P:=P) W t (parts.map fun (i,x)=>(i,f x)) us (by simpa using hus)
    simp only [execOp,ho,Sem.run_bind]
    rw [this];rfl
   ·cases h
  ·cases h
 ·cases h
theorem Pp {α β:Type} {L:List α} {e:α→β} {u:β} (h:L.map e=[u]):∃ x,L=[x]∧e x=u:=by
 match L,h with
 | [x],h=>exact ⟨x,rfl,by simpa using h⟩
 | [],h=>simp at h
 | _::_::_,h=>simp at h
theorem SK {α β:Type} {L:List α} {e:α→β} {u v:β} (h:L.map e=[u,v]):∃ x y,L=[x,y]∧e x=u∧e y=v:=by
 match L,h with
 | [x,y],h=>exact ⟨x,y,rfl,by simpa using h⟩
 | [],h=>simp at h
 | [_],h=>simp at h
 | _::_::_::_,h=>simp at h
theorem Qr {b:Builtin} {args:Array Operand} {ats:Array TypeId} {e:Operand→Value} {H:Nat→Option Blk} {v:Value} (h:Ra b (args.toList.map e)=some v) (hl:b = .len→∃ t u,ats[0]? = some t∧P.underlying t=some (.slice u)):OpVal P (.call { callee:=.builtin b,args,argTypes:=ats }) e H [] v:=by
 intro ρ O W o f ho he _
 have hop:∀ x∈args.toList,Rp ρ O W (e x) (f x):=fun x hx=>he x (by simpa [Op.operands,Call.operands] using hx)
 have run:∀ (s:Sem Value) (c:Value),s.run P W = .ok c W→(∀ cs,builtin b ats o.type cs (args.map f)=(do pure (.value (← s))))→(execOp f o).run P W = .ok (.value c) W:=fun s c h1 h2=>by
  simp only [execOp,ho,resolve,Sem.run_bind,Sem.run_pure,Result.andThen_ok,invoke]
  rw [h2]
  simp [Sem.run_bind,h1]
 generalize hL:args.toList.map e=L at h
 unfold Ra at h
 split at h
 ·next n els zs =>
  cases h
  obtain ⟨x,hx,hex⟩:=Pp hL
  have ha:args=#[x]:=by apply Array.ext';simpa using hx
  subst ha
  have hx' := hop x (by simp)
  rw [hex] at hx'
  obtain ⟨p,cap,-,hn,hc,-⟩:=kH.1 hx'
  obtain ⟨t,u,ht,hu⟩:=hl rfl
  refine ⟨.int .i64 n,run (Builtin.len_ ats o.type #[f x]) _ ?_ (fun _=>by simp [builtin]),p8.2 rfl⟩
  simp [Builtin.len_,ht,hc,Sem.run_bind,run_underlying hu,goInt,hn]
 ·next a n m =>
  cases h
  obtain ⟨x,hx,hex⟩:=Pp hL
  have ha:args=#[x]:=by apply Array.ext';simpa using hx
  subst ha
  have hx' := hop x (by simp)
  rw [hex] at hx'
  have hc:∃ p cap,f x = .slice p n cap:=by
   cases a with
   | none=>obtain ⟨h1,-,h2⟩:=Y2.1 hx';subst h1;exact ⟨_,_,h2⟩
   | some a=>obtain ⟨g,k,cap,-,-,h2⟩:=di.1 hx';exact ⟨_,_,h2⟩
  obtain ⟨p,cap,hc⟩:=hc
  obtain ⟨t,u,ht,hu⟩:=hl rfl
  refine ⟨.int .i64 n,run (Builtin.len_ ats o.type #[f x]) _ ?_ (fun _=>by simp [builtin]),p8.2 rfl⟩
  simp [Builtin.len_,ht,hc,Sem.run_bind,run_underlying hu,goInt]
 ·next k x k' y =>
  cases h
  obtain ⟨a,b,hab,h1,h2⟩:=SK hL
  have ha:args=#[a,b]:=by apply Array.ext';simpa using hab
  subst ha
  have g1:=hop a (by simp)
  have g2:=hop b (by simp)
  rw [h1,p8] at g1
  rw [h2,p8] at g2
  refine ⟨_,run (Builtin.min_ ats o.type #[f a,f b]) (.int k (min x y)) ?_ (fun _=>by simp [builtin]),p8.2 rfl⟩
  simp [Builtin.min_,g1,g2,Builtin.min2]
  split <;> omega
 ·next k x k' y =>
  cases h
  obtain ⟨a,b,hab,h1,h2⟩:=SK hL
  have ha:args=#[a,b]:=by apply Array.ext';simpa using hab
  subst ha
  have g1:=hop a (by simp)
  have g2:=hop b (by simp)
  rw [h1,p8] at g1
  rw [h2,p8] at g2
  refine ⟨_,run (Builtin.max_ ats o.type #[f a,f b]) (.int k (max x y)) ?_ (fun _=>by simp [builtin]),p8.2 rfl⟩
  simp [Builtin.max_,g1,g2,Builtin.max2]
  split <;> omega
 ·cases h
theorem zK {e f:Operand→Value} {l:Array Operand} (h:∀ x∈l,Rp ρ O W (e x) (f x)):AtAll (Rp ρ O W) (l.toList.map e).toArray (l.map f):=by
 refine ⟨by simp,fun i x hx=>?_⟩
 simp only [List.getElem?_toArray,List.getElem?_map,Array.getElem?_toList] at hx
 obtain ⟨y,hy,rfl⟩:=Option.map_eq_some_iff.1 hx
 exact ⟨f y,by simp [hy],h y (Array.mem_of_getElem? hy)⟩
theorem OO {op:Op} {e:Operand→Value} {H:Nat→Option Blk} {orc orc' : List Value} {v:Value} {rd:List Nat} {ob:List Prop} (h:UQ P op e H orc=some (v,rd,orc',ob)) (hob:J3 ob):OpVal P op e H rd v:=by
 unfold UQ at h
 split at h
 ·cases h
  intro ρ O W o f ho he _
  exact ⟨_,by simp [execOp,ho],he _ (by simp [Op.operands])⟩
 ·cases h
  intro ρ O W o f ho he _
  exact ⟨_,by simp [execOp,ho],he _ (by simp [Op.operands])⟩
 ·next c a b =>
  split at h
  ·next t hc =>
   cases h
   intro ρ O W o f ho he _
   have h1:=he c (by simp [Op.operands])
   rw [hc] at h1
   have h1' : f c = .bool t:=rG.1 h1
   refine ⟨if t then f a else f b,by simp [execOp,ho,h1',asBool],?_⟩
   cases t
   ·exact he b (by simp [Op.operands])
   ·exact he a (by simp [Op.operands])
  ·cases h
 ·exact Ai h hob
 ·next x =>
  split at h
  ·next a hx =>
   cases h
   intro ρ O W o f ho he _
   have h1:=he x (by simp [Op.operands])
   rw [hx] at h1
   obtain ⟨g,k,j,h2,h3,hf⟩:=V8.1 h1
   exact ⟨_,by simp [execOp,ho,hf],V8.2 ⟨g,k,j,h2,h3,rfl⟩⟩
  ·next y hx =>
   cases h
   intro ρ O W o f ho he _
   have h1:=he x (by simp [Op.operands])
   rw [hx] at h1
   have:∃ a,f x = .pointer (some a):=by
    obtain ⟨_ | d,h1⟩:=h1
    ·exact h1.elim
    ·rcases h1 with h1 | ⟨h1,-⟩ | ⟨h1,-⟩ | ⟨-,cs,g,o,-,hc,-⟩ | ⟨h1,-⟩
     ·cases h1
     ·cases h1
     ·cases h1
     ·exact ⟨_,hc⟩
     ·cases h1
   obtain ⟨a,ha⟩:=this
   exact ⟨f x,by simp [execOp,ho,ha],h1⟩
  ·next g xs es hx =>
   cases h
   intro ρ O W o f ho he _
   have h1:=he x (by simp [Op.operands])
   rw [hx] at h1
   obtain ⟨ys,us,hc,-⟩:=U6.1 h1
   exact ⟨f x,by simp [execOp,ho,hc],h1⟩
  ·cases h
 ·next bo t x y yt =>
  split at h
  ·exact xO h hob
  ·split at h
   ·next k a k' b hx hy =>
    split at h
    ·next hk =>
     subst hk
     obtain ⟨r,hr,he'⟩:=Option.map_eq_some_iff.1 h
     cases he'
     intro ρ O W o f ho he _
     have h1:=he x (by simp [Op.operands])
     have h2:=he y (by simp [Op.operands])
     rw [hx,p8] at h1
     rw [hy,p8] at h2
     obtain ⟨h3,h4⟩:=EQ (P:=P) (ρ:=ρ) (O:=O) (W:=W) (t:=t) (ox:=x) (oy:=y) hr hob
     refine ⟨r.1,?_,h4⟩
     simp only [execOp,ho,h1,h2]
     rw [Sem.run_bind,h3];rfl
    ·cases h
   ·exact xO h hob
 ·next t x =>
  split at h
  ·next b hx =>
   cases h
   intro ρ O W o f ho he _
   have h1:=he x (by simp [Op.operands])
   rw [hx] at h1
   have h1' : f x = .bool b:=rG.1 h1
   exact ⟨_,by simp [execOp,ho,h1',Op.unary],rG.2 rfl⟩
  ·next b hx =>
   cases h
   intro ρ O W o f ho he _
   have h1:=he x (by simp [Op.operands])
   rw [hx,H5] at h1
   exact ⟨_,by simp [execOp,ho,h1,Op.unary],H5.2 rfl⟩
  ·cases h
 ·next t x =>
  split at h
  ·next n hx =>
   cases h
   intro ρ O W o f ho he _
   have h1:=he x (by simp [Op.operands])
   rw [hx,p8] at h1
   refine ⟨_,?_,p8.2 rfl⟩
   have:=jc hob.1
   simp [execOp,ho,h1,Op.unary,Op.intArith,this]
  ·cases h
 ·exact xO h hob
 ·next fn fs cs =>
  cases h
  intro ρ O W o f ho he _
  refine ⟨.func fn (fs.map f) (cs.map f),by simp [execOp,ho,Instr.makeFunc],U6.2 ⟨_,_,rfl,zK fun x hx=>he x (by simp [Op.operands,hx]),zK fun x hx=>he x (by simp [Op.operands,hx])⟩⟩
 ·obtain ⟨v',hv,he'⟩:=Option.map_eq_some_iff.1 h
  cases he'
  exact xG hv
 ·next t x fi =>
  split at h
  ·next cs fields hx hu =>
   split at h
   ·next fd hfd =>
    obtain ⟨v',hv,he'⟩:=Option.map_eq_some_iff.1 h
    cases he'
    intro ρ O W o f ho he _
    have h1:=he x (by simp [Op.operands])
    rw [hx] at h1
    obtain ⟨ys,hc,ha⟩:=R9.1 h1
    obtain ⟨c,hr,hv⟩:=Eh (P:=P) ha hv
    exact ⟨c,by simp [execOp,ho,hc,Instr.field,asAgg,Sem.run_bind,run_underlying hu,hfd,hr],hv⟩
   ·cases h
  ·cases h
 ·split at h
  ·next k i hix=>exact wR hix h hob
  ·cases h
 ·split at h
  ·next k i hix =>
   obtain ⟨v',hv,he'⟩:=Option.map_eq_some_iff.1 h
   cases he'
   exact GQ hix hv
  ·cases h
 ·next x ix =>
  split at h
  ·next vs hx =>
   obtain ⟨v',hv,he'⟩:=Option.map_eq_some_iff.1 h
   cases he'
   intro ρ O W o f ho he _
   have h1:=he x (by simp [Op.operands])
   rw [hx] at h1
   obtain ⟨ys,hc,ha⟩:=G8.1 h1
   obtain ⟨c,hc',hr⟩:=ha.2 _ _ hv
   exact ⟨c,by simp [execOp,ho,hc,Instr.extract,hc'],hr⟩
  ·cases h
 ·next t parts =>
  obtain ⟨v',hv,he'⟩:=Option.map_eq_some_iff.1 h
  cases he'
  exact Ib hv
 ·next b args ats =>
  split at h
  ·next hl =>
   obtain ⟨v',hv,he'⟩:=Option.map_eq_some_iff.1 h
   cases he'
   refine Qr hv fun hb=>?_
   subst hb
   simp only [YV] at hl
   split at hl
   ·next t ht =>
    split at hl
    ·next u hu=>exact ⟨t,u,ht,hu⟩
    ·cases hl
   ·cases hl
  ·cases h
 ·cases h
end
end
section
open Go.RowKit
structure Step (ρ:A8) (O:Nat→Prop) (W:World) (ρ' : A8) (O' : Nat→Prop) (W' : World) (ws ks:List Nat) (nx nx' : Nat):Prop where
 sub:Sub ρ ρ'
 new:∀ i p,ρ' i=some p→ρ i=some p∨(nx≤i∧i<nx' ∧ (W.heap.size≤p.1∨∃ j∈ks,∃ k,ρ j=some (p.1,k)))
 still:Still O W O' W'
 low:∀ g,O' g→g<W'.heap.size
 keepO:∀ g,O g→(∀ i∈ws,∀ k,ρ i≠some (g,k))→O' g
 str:W'.tape=W.tape∧W'.os=W.os∧W'.output=W.output
 blk:∀ g,g<W.heap.size→(∀ i∈ws,∀ k,ρ i≠some (g,k))→W'.heap[g]? = W.heap[g]?
def Low (O:Nat→Prop) (W:World):Prop:=∀ g,O g→g<W.heap.size
theorem Step.refl {ρ:A8} {O:Nat→Prop} {W:World} (h:Low O W) (ws ks:List Nat) (nx:Nat):Step ρ O W ρ O W ws ks nx nx :=
 ⟨Sub.refl _,fun _ _ h=>.inl h,Still.refl _ _,h,fun _ h _=>h,⟨rfl,rfl,rfl⟩,fun _ _ _=>rfl⟩
def kills (wr:List (Nat×Option Blk)):List Nat:=(wr.filter fun p=>p.2.isNone).map (·.1)
def YH (ρ:A8) (H:Nat→Option Blk) (is:List Nat):Prop:=∀ i∈is,∀ j∈is,∀ b b' g k k',H i=some b→H j=some b' → ρ i=some (g,k)→ρ j=some (g,k')→i=j
def iy (P:Program) (bd:Nat) (o:Oper) (e:Operand→Value) (H:Nat→Option Blk) (nx nx' : Nat) (rd:List Nat) (wr:List (Nat×Option Blk)) (v:Value):Prop :=
 ∀ (ρ:A8) (O:Nat→Prop) (a:Act) (W:World) (K:Act→World→Prop) (Q:Exit→Act→World→Prop),Low O W→(∀ x∈o.op.operands,Rp ρ O W (e x) (a.eval x)) →
  (∀ i∈rd,HAt ρ O W i (H i))→(∀ p∈wr,HAt ρ O W p.1 (H p.1))→(∀ i,nx≤i→i<nx' → ρ i=none)→(∀ i,bd≤i→ρ i=none)→YH ρ H rd →
  (∀ c ρ' O' W',Rp ρ' O' W' v c→(∀ p∈wr,HAt ρ' O' W' p.1 p.2)→Step ρ O W ρ' O' W' (wr.map (·.1)) (kills wr) nx nx' → K (a.put o.dst c) W')→o.wp P a W K Q
section
variable {P:Program}
theorem OpVal.do {bd:Nat} {o:Oper} {op:Op} {e:Operand→Value} {H:Nat→Option Blk} {rd:List Nat} {v:Value} (h:OpVal P op e H rd v) (ho:o.op=op) (nx:Nat):iy P bd o e H nx nx rd [] v:=by
 intro ρ O a W K Q hl he hr _ _ _ _ hK
 subst ho
 obtain ⟨c,hc,hv⟩:=h ρ O W o a.eval rfl he hr
 unfold Oper.wp
 rw [hc]
 exact hK c ρ O W hv (fun p hp=>by cases hp) (Step.refl hl _ _ _)
end
def vz (k:Nat) (cs:List Value):Value :=
 match k with
 | 1=>cs.headD gN
 | _=>.agg cs.toArray
theorem Hz {v:Value} (h:lD v=true):v.cells=#[v]:=by
 cases v <;> first | rfl | (simp [lD] at h)
theorem jY {k:Nat} {cs:List Value} (hk:cs.length=k) (hl:k=1→cs.all lD=true):(vz k cs).cells=cs.toArray:=by
 unfold vz
 split
 ·match cs,hk with
  | [x],_ =>
   have:=hl rfl
   simp only [List.all_cons,List.all_nil,Bool.and_true] at this
   simp [Hz this]
 ·rfl
abbrev EeR:=Option (Value×List Nat×List (Nat×Option Blk)×Nat×List Value×List Prop)
def Ls (cs:List Value) (nx:Nat) (orc:List Value):EeR :=
 if cs.all lD && !cs.isEmpty then some (.pointer (some ⟨nx,0,some 0⟩),[],[(nx,some ⟨true,false,cs.length,1,[vz cs.length cs]⟩)],nx+1,orc,[]) else none
def stored (b:Blk) (n j:Nat) (el:Value) (vc:List Value):Blk:={ b with els:=b.els.set n (vz b.k (el.cells.toList.take j++vc++el.cells.toList.drop (j+vc.length))) }
def De (P:Program) (t:TypeId) (av yv:Value) (H:Nat→Option Blk) (nx:Nat) (orc:List Value):EeR :=
 match av with
 | .pointer (some ⟨i,n,some j⟩) =>
  match H i with
  | some b =>
   if b.w&&okV yv&&yv.cells.toList.all lD&&BO P t==some yv.cells.toList.length&&decide (j+yv.cells.toList.length≤b.k)&&(b.k != 1||decide (j=0∧yv.cells.toList.length=1))&&(!b.arr||yv.cells.toList.all dW) && !b.isMap then
    match b.arr with
    | false=>match b.els[n]? with
     | some el=>some (.tuple #[],[i],[(i,some (stored b n j el yv.cells.toList))],nx,orc,[])
     | none=>none
    | true=>match orc with
     | el :: .iface 1000000 (.func (.yield m) els _)::orc' => some (.tuple #[],[i],[(i,some { b with n:=m,els:=els.toList })],nx,orc',[ElP b.els n el,els.toList=(stored b n j el yv.cells.toList).els])
     | _=>none
   else none
  | none=>none
 | _=>none
def Pb (P:Program) (op:Op) (e:Operand→Value) (H:Nat→Option Blk) (nx:Nat) (orc:List Value):EeR :=
 match op with
 | .alloc t=>match P.info? t with
  | some it=>match it.zero with
   | some z=>if okV (wT z) then Ls (wT z).cells.toList nx orc else none
   | none=>none
  | none=>none
 | .box _ x=>if okV (e x) then Ls (e x).cells.toList nx orc else none
 | .store t x y=>De P t (e x) (e y) H nx orc
 | _=>(UQ P op e H orc).map fun r=>(r.1,r.2.1,[],nx,r.2.2.1,r.2.2.2)
section
variable {P:Program}
theorem um {W:World} {o:Obj} {g:Nat} (h:g<W.heap.size):(W.alloc o).heap[g]? = W.heap[g]? := Below.heap_alloc W o g h
theorem lI {O:Nat→Prop} {W:World} (o:Obj):Still O W (fun x=>O x∨x=W.heap.size) (W.alloc o) :=
 ⟨by simp,fun g hg hO=>⟨fun h=>h.elim hO (fun e=>by omega),um hg⟩,Shp.of_same fun g hg=>um hg⟩
theorem kE {ρ:A8} {O:Nat→Prop} {W:World} (hl:Low O W) (o:Obj) (k nx:Nat) (hn:ρ nx=none) (ws ks:List Nat):Step ρ O W (fun i=>if i=nx then some (W.heap.size,k) else ρ i) (fun x=>O x∨x=W.heap.size) (W.alloc o) ws ks nx (nx+1):=by
 refine ⟨fun i p h=>?_,fun i p h=>?_,lI o,fun g h=>?_,fun g h _=>.inl h,⟨rfl,rfl,rfl⟩,fun g hg _=>um hg⟩
 ·by_cases e:i=nx
  ·subst e;rw [hn] at h;cases h
  ·simp [e,h]
 ·by_cases e:i=nx
  ·subst e;simp at h;subst h;exact .inr ⟨Nat.le_refl _,by omega,.inl (Nat.le_refl _)⟩
  ·simp [e] at h;exact .inl h
 ·simp only [World.size_alloc]
  rcases h with h | h
  ·have:=hl g h;omega
  ·omega
theorem Dz {bd:Nat} {o:Oper} {e:Operand→Value} {H:Nat→Option Blk} {nx nx' : Nat} {orc orc' : List Value} {v:Value} {rd:List Nat} {wr:List (Nat×Option Blk)} {ob:List Prop} {cs:List Value} (h:Ls cs nx orc=some (v,rd,wr,nx',orc',ob))
  (hr:∀ (ρ:A8) (O:Nat→Prop) (W:World) (f:Operand→Value),(∀ x∈o.op.operands,Rp ρ O W (e x) (f x))→∃ ys t,(execOp f o).run P W = .ok (.value (.pointer (some ⟨W.heap.size,0,none⟩))) (W.alloc (.cells ys t))∧AtAll (Rp ρ O W) cs.toArray ys):iy P bd o e H nx nx' rd wr v:=by
 unfold Ls at h
 split at h
 ·next hc =>
  cases h
  simp only [Bool.and_eq_true] at hc
  intro ρ O a W K Q hl he _ _ hf _ _ hK
  obtain ⟨ys,t,hrun,hat⟩:=hr ρ O W a.eval he
  have hn:=hf nx (Nat.le_refl _) (by omega)
  have hst:=kE (k:=cs.length) hl (.cells ys t) nx hn [nx] []
  unfold Oper.wp
  rw [hrun]
  refine hK _ _ _ _ (V8.2 ⟨W.heap.size,cs.length,0,by simp,rfl,by simp⟩) (fun p hp=>?_) hst
  simp only [List.mem_singleton] at hp
  subst hp
  refine ⟨W.heap.size,by simp,.inr rfl,(I4 (rM (by have h0:=hc.2;intro h1;rw [List.length_eq_zero_iff.1 h1] at h0;simp at h0))).2 ⟨ys,t,heap_alloc_new W _,by simp [hat.1],fun n el hel=>?_⟩⟩
  have hmc:=jY (k:=cs.length) (cs:=cs) rfl (fun _=>hc.1)
  have:n=0∧el=vz cs.length cs:=by
   cases n with
   | zero=>simp at hel;exact ⟨rfl,hel.symm⟩
   | succ n=>simp at hel
  obtain ⟨rfl,rfl⟩:=this
  rw [hmc]
  refine ⟨by simp,fun j x hx=>?_⟩
  obtain ⟨y,hy,hr⟩:=hat.2 j x hx
  exact ⟨y,by simpa using hy,hr.mono (lI _) hst.sub⟩
 ·cases h
theorem NH {n m k j i s:Nat} (hj:j<k) (his:i+s≤k) (hne:n≠m):n * k+j<m * k+i∨m * k+i+s≤n * k+j:=by
 rcases Nat.lt_or_ge n m with h | h
 ·have:=Nat.mul_le_mul_right k (show n+1≤m from h)
  rw [Nat.add_mul] at this
  left;omega
 ·have:=Nat.mul_le_mul_right k (show m+1≤n by omega)
  rw [Nat.add_mul] at this
  right;omega
theorem AY {arr vs:List Value} {o:Nat} (h:o+vs.length≤arr.length) (p:Nat) :
  (arr.take o++vs++arr.drop (o+vs.length))[p]? = if p<o then arr[p]? else if p<o+vs.length then vs[p - o]? else arr[p]? := by
 rw [List.append_assoc,List.getElem?_append]
 have hlo:(arr.take o).length=o:=by simp;omega
 rw [hlo]
 by_cases h1:p<o
 ·simp [h1]
 ·simp only [h1,if_false]
  rw [List.getElem?_append]
  by_cases h2:p<o+vs.length
  ·simp [h2,show p - o<vs.length by omega]
  ·simp only [h2,if_false,show ¬ p - o<vs.length by omega,List.getElem?_drop]
   congr 1;omega
theorem ko {W:World} {g:Nat} {arr arr' : Array Value} {ty:TypeId} (hg:W.heap[g]? = some (.cells arr ty (0,0))) (hs:arr'.size=arr.size):Shp W (W.setRow g arr'):=fun g' cur ty' h' => by
 by_cases e:g' = g
 ·subst e
  rw [hg] at h';cases h'
  exact ⟨arr',setRow_heap W g' _ arr' _ _ hg,hs⟩
 ·exact ⟨cur,(setRow_other W g g' _ e).trans h',rfl⟩
theorem MZ {ρ:A8} {O:Nat→Prop} {W:World} {g n j:Nat} {b:Blk} {t:TypeId} {v c el:Value} (hB:sF ρ O W g b) (hO:O g) (hv:Rp ρ O W v c) (hok:okV v=true) (hlf:v.cells.toList.all lD=true) (hsz:BO P t=some v.cells.toList.length)
  (hfit:j+v.cells.toList.length≤b.k) (h1:b.k=1→j=0∧v.cells.toList.length=1) (hcl0:b.arr=true→v.cells.toList.all dW=true) (hel:b.els[n]? = some el) :
  ∃ arr',(storeVar t ⟨g,n * b.k+j,none⟩ c).run P W = .ok () (W.setRow g arr')∧Shp W (W.setRow g arr')∧sF ρ O (W.setRow g arr') g (stored b n j el v.cells.toList):=by
 obtain ⟨arr,ty,hg,hsize,hcs⟩:=hB
 have hca:=mZ hv hok
 have hcl:c.cells.toList.length=v.cells.toList.length:=by simp [hca.1]
 have hnl:=(List.getElem?_eq_some_iff.1 hel).1
 have hin:n * b.k+j+c.cells.toList.length≤arr.size:=by
  have h2:=Nat.mul_le_mul_right b.k (show n+1≤b.els.length from hnl)
  rw [Nat.add_mul] at h2
  omega
 have hone:∀ u∈c.cells.toList,u.oneCell' = true:=fun u hu=>by
  obtain ⟨i,hi⟩:=List.mem_iff_getElem?.1 hu
  have hil:i<v.cells.size:=by have:=(List.getElem?_eq_some_iff.1 hi).1;simp at this hcl;omega
  obtain ⟨y,hy,hr⟩:=hca.2 i v.cells[i] (by simp [hil])
  have:y=u:=by rw [Array.getElem?_toList] at hi;rw [hi] at hy;exact (Option.some.inj hy).symm
  subst this
  exact Lt hr (List.all_eq_true.1 hlf _ (by simp))
 have hrun:=run_storeCells_at (P:=P) g (n * b.k+j) ty c.cells.toList 0 arr W hg (by simpa using hin) hone
 simp only [Nat.add_zero] at hrun
 refine ⟨_,?_,ko hg (by simp only [Array.length_toList] at hin;simp;omega),(arr.toList.take (n * b.k+j)++c.cells.toList++arr.toList.drop (n * b.k+j+c.cells.toList.length)).toArray,ty,setRow_heap W g arr _ ty _ hg,?_,?_⟩
 ·unfold storeVar
  have hne:¬ c.cells.size≠v.cells.toList.length:=by simp [hca.1]
  simp only [Sem.run_bind,mi hsz,Result.andThen_ok,hne,if_false,Sem.run_pure]
  exact hrun
 ·simp only [stored,List.length_set,List.size_toArray,List.length_append,List.length_take,List.length_drop,Array.length_toList]
  simp only [Array.length_toList] at hin
  omega
 ·have hshp:Shp W (W.setRow g (arr.toList.take (n * b.k+j)++c.cells.toList++arr.toList.drop (n * b.k+j+c.cells.toList.length)).toArray):=ko hg (by simp only [Array.length_toList] at hin;simp;omega)
  have hst:Still O W O (W.setRow g (arr.toList.take (n * b.k+j)++c.cells.toList++arr.toList.drop (n * b.k+j+c.cells.toList.length)).toArray) :=
   ⟨by simp,fun g' hg' hO' => ⟨hO',setRow_other W g g' _ (fun e=>hO' (e ▸ hO))⟩,hshp⟩
  have hat:∀ p,(arr.toList.take (n * b.k+j)++c.cells.toList++arr.toList.drop (n * b.k+j+c.cells.toList.length)).toArray[p]? = if p<n * b.k+j then arr[p]? else if p<n * b.k+j+c.cells.toList.length then c.cells.toList[p - (n * b.k+j)]? else arr[p]? := fun p=>by
   rw [List.getElem?_toArray,AY (by simpa using hin)]
   simp
  intro m el' hel'
  rw [show (stored b n j el v.cells.toList).k=b.k from rfl]
  simp only [stored] at hel'
  rw [List.getElem?_set] at hel'
  have hkl:(el.cells.toList.take j++v.cells.toList++el.cells.toList.drop (j+v.cells.toList.length)).length=b.k:=by
   have:=(hcs n el hel).1
   simp only [Array.length_toList] at hfit
   simp;omega
  by_cases hm:n=m
  ·subst hm
   simp only [if_true,hnl,Option.some.injEq] at hel'
   subst hel'
   have hmc:(vz b.k (el.cells.toList.take j++v.cells.toList++el.cells.toList.drop (j+v.cells.toList.length))).cells=(el.cells.toList.take j++v.cells.toList++el.cells.toList.drop (j+v.cells.toList.length)).toArray:=jY hkl fun hk=>by
    obtain ⟨h2,h3⟩:=h1 hk
    have h4:el.cells.toList.length≤j+v.cells.toList.length:=by have:=(hcs n el hel).1;simp only [Array.length_toList] at h3 ⊢;omega
    rw [List.drop_eq_nil_of_le h4,h2]
    simpa using hlf
   rw [hmc]
   refine ⟨by simpa using hkl,fun i x hx=>?_⟩
   have hib:i<b.k:=by have:=(List.getElem?_eq_some_iff.1 (by simpa using hx:(el.cells.toList.take j++v.cells.toList++el.cells.toList.drop (j+v.cells.toList.length))[i]? = some x)).1;omega
   rw [List.getElem?_toArray,AY (by have:=(hcs n el hel).1;simp only [Array.length_toList] at hfit ⊢;omega)] at hx
   rw [hat]
   by_cases c1:i<j
   ·simp only [c1,if_true] at hx
    obtain ⟨u,hu,hr⟩:=(hcs n el hel).2 i x (by simpa using hx)
    exact ⟨u,by rw [if_pos (by omega)];exact hu,hr.mono hst (Sub.refl _)⟩
   ·simp only [c1,if_false] at hx
    by_cases c2:i<j+v.cells.toList.length
    ·simp only [c2,if_true] at hx
     obtain ⟨u,hu,hr⟩:=hca.2 (i - j) x (by simpa using hx)
     have hr' : Rp (b.pm ρ) O W x u:=by
      cases ha:b.arr with
      | true =>
       have:b.pm ρ=nowhere:=by unfold Blk.pm;rw [ha]
       rw [this]
       exact aJ hr (List.all_eq_true.1 (hcl0 ha) x (List.mem_of_getElem? hx))
      | false =>
       have:b.pm ρ=ρ:=by unfold Blk.pm;rw [ha]
       rw [this];exact hr
     refine ⟨u,?_,hr'.mono hst (Sub.refl _)⟩
     rw [if_neg (by omega),if_pos (by omega)]
     rw [show n * b.k+i - (n * b.k+j)=i - j by omega]
     simpa using hu
    ·simp only [c2,if_false] at hx
     obtain ⟨u,hu,hr⟩:=(hcs n el hel).2 i x (by simpa using hx)
     exact ⟨u,by rw [if_neg (by omega),if_neg (by omega)];exact hu,hr.mono hst (Sub.refl _)⟩
  ·simp only [hm,if_false] at hel'
   obtain ⟨h2,h3⟩:=hcs m el' hel'
   refine ⟨h2,fun i x hx=>?_⟩
   obtain ⟨u,hu,hr⟩:=h3 i x hx
   have hib:i<b.k:=by have:=(Array.getElem?_eq_some_iff.1 hx).1;omega
   refine ⟨u,?_,hr.mono hst (Sub.refl _)⟩
   rw [hat]
   rcases NH hib hfit (Ne.symm hm) with h4 | h4
   ·rw [if_pos h4];exact hu
   ·rw [if_neg (by omega),if_neg (by omega)];exact hu
theorem a2b {ρ:A8} {O:Nat→Prop} {W:World} {i m:Nat} {b:Blk} (hm:b.isMap=false) (h:HAt ρ O W i (some b)):HAt ρ O W i (some { b with n:=m }) :=
 let ⟨g,h1,h2,h3⟩:=h
 ⟨g,h1,h2,fun _=>h3.1 hm,fun h' => absurd (hm.symm.trans h') (by decide)⟩
theorem Jf {bd:Nat} {o:Oper} {t:TypeId} {x y:Operand} {e:Operand→Value} {H:Nat→Option Blk} {nx nx' : Nat} {orc orc' : List Value} {v:Value} {rd:List Nat} {wr:List (Nat×Option Blk)} {ob:List Prop} (ho:o.op = .store t x y) (h:De P t (e x) (e y) H nx orc=some (v,rd,wr,nx',orc',ob)) (hob:J3 ob):iy P bd o e H nx nx' rd wr v:=by
 unfold De at h
 split at h
 ·next i n j hx =>
  split at h
  ·next b hb =>
   split at h
   ·next hc =>
    simp only [Bool.and_eq_true,Bool.or_eq_true,decide_eq_true_eq,bne_iff_ne,ne_eq,beq_iff_eq,Bool.not_eq_true'] at hc
    obtain ⟨⟨⟨⟨⟨⟨⟨h1,h2⟩,h3⟩,h4⟩,h5⟩,h6⟩,h7⟩,h8⟩:=hc
    have key:∀ el b',b.els[n]? = some el→v = .tuple #[]→rd=[i]→wr=[(i,some b')]→nx=nx' → (∀ ρ O W,HAt ρ O W i (some (stored b n j el (e y).cells.toList))→HAt ρ O W i (some b'))→iy P bd o e H nx nx' rd wr v:=fun el b' hel hv hrd hwr hnx hb' => by
     subst hv hrd hwr hnx
     intro ρ O a W K Q hl he hr _ _ _ _ hK
     have hxx:=he x (by simp [ho,Op.operands])
     have hyy:=he y (by simp [ho,Op.operands])
     rw [hx] at hxx
     obtain ⟨g,k,j',g1,g2,hf⟩:=V8.1 hxx
     cases g2
     have hh:=hr i (by simp)
     rw [hb] at hh
     obtain ⟨g',hg',hO,hB⟩:=hh
     have g1' : ρ i=some (g,k):=g1
     rw [g1'] at hg';cases hg'
     obtain ⟨arr',hrun,hsh,hB'⟩:=MZ (P:=P) ((I4 h8).1 hB) hO hyy h2 h3 h4 h5 (fun hk=>h6.resolve_left (fun hne=>hne hk)) (fun ha=>h7.resolve_left (by simp [ha])) hel
     have hrun' : (execOp a.eval o).run P W = .ok .skip (W.setRow g arr'):=by
      simp only [execOp,ho,hf,Instr.storeAt,Instr.sureAddr,Sem.run_bind,Sem.run_pure,Result.andThen_ok,hrun]
     unfold Oper.wp
     rw [hrun']
     refine hK undef ρ O _ (G8.2 ⟨#[],rfl,rfl,fun i x hx=>by simp at hx⟩) (fun p hp=>?_) ⟨Sub.refl _,fun _ _ h=>.inl h,⟨by simp,fun g' hg' hO' => ⟨hO',setRow_other W g g' _ (fun e=>hO' (e ▸ hO))⟩,hsh⟩,fun g' h=>by rw [size_setRow];exact hl g' h,fun _ h _=>h,⟨rfl,rfl,rfl⟩,fun g' hg' hne=>setRow_other W g g' _ (fun e=>hne i (by simp) b.k (e ▸ g1'))⟩
     simp only [List.mem_singleton] at hp
     subst hp
     exact hb' ρ O _ ⟨g,g1',hO,(I4 (b:=stored b n j el (e y).cells.toList) h8).2 hB'⟩
    split at h
    ·split at h
     ·next el hel=>cases h;exact key el _ hel rfl rfl rfl rfl fun _ _ _ h=>h
     ·cases h
    ·split at h
     ·next el m els zs _ =>
      cases h
      refine key el _ hob.1 rfl rfl rfl rfl fun ρ O W=>?_
      have e1:=hob.2.1
      have:({ b with n:=m,els:=els.toList }:Blk)={ stored b n j el (e y).cells.toList with n:=m }:=by rw [e1];rfl
      rw [this];exact a2b (b:=stored b n j el (e y).cells.toList) h8
     ·cases h
   ·cases h
  ·cases h
 ·cases h
theorem Qc {bd:Nat} {o:Oper} {e:Operand→Value} {H:Nat→Option Blk} {nx nx' : Nat} {orc orc' : List Value} {v:Value} {rd:List Nat} {wr:List (Nat×Option Blk)} {ob:List Prop} (h:Pb P o.op e H nx orc=some (v,rd,wr,nx',orc',ob)) (hob:J3 ob):iy P bd o e H nx nx' rd wr v:=by
 unfold Pb at h
 split at h
 ·next t ho =>
  split at h
  ·next it hit =>
   split at h
   ·next z hz =>
    split at h
    ·next hok =>
     refine Dz h fun ρ O W f _=>⟨z.cells,t,?_,by simpa using mZ (qX z) hok⟩
     simp [execOp,ho,Instr.alloc,zeroValue,typeInfo,hit,hz,newVar,newRow,Sem.run_bind]
    ·cases h
   ·cases h
  ·cases h
 ·next t x ho =>
  split at h
  ·next hok =>
   refine Dz h fun ρ O W f he=>⟨(f x).cells,t,?_,by simpa using mZ (he x (by simp [ho,Op.operands])) hok⟩
   simp [execOp,ho,Instr.box,newVar,newRow,Sem.run_bind]
  ·cases h
 ·next t x y ho=>exact Jf ho h hob
 ·obtain ⟨r,hr,he⟩:=Option.map_eq_some_iff.1 h
  cases he
  exact (OO hr hob).do rfl nx
end
end
end Go.Proofs.YtfogkllejkmpdaaGreat
