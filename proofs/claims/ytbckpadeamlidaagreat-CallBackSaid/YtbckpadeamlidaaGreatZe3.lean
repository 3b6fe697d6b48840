/- Texts merged: EngDT, EngST, EngTT, EngUT, EngFT, ReadT. -/
import Derived.Test.YtbckpadeamlidaaGreatZe2
import Derived.Test.YtbckpadeamlidaaGreatZe1
import Derived.Deep.Slices
import Derived.Deep.Fields
import Derived.ChangeSame
namespace Go.Proofs.YtbckpadeamlidaaGreat
set_option linter.unusedVariables false
set_option linter.unusedSimpArgs false
set_option maxRecDepth 100000
section
open Go.RowKit
def eo (T:List Value):Operand→Value
 | .tmp t=>(T[t]?).getD vUnk
 | .const v=>absC v
 | .global _=>vUnk
 | .func f=>.func (.func f) #[] #[]
def decideB (v:Value) (orc:List Value):Option (Bool×List Value×List Prop) :=
 match v with
 | .iface 1000003 (.bool b)=>some (b,orc,[])
 | .bool b=>match orc with
  | r::orc' => match r with
   | .bool dir=>some (dir,orc',[b=dir])
   | .nilFunc=>match b with
    | true=>some (true,orc',[])
    | false=>some (false,orc',[])
   | _=>none
  | []=>none
 | _=>none
structure Fx where
 v:Value
 rd:List Nat
 wr:List (Nat×Option Blk)
 nx:Nat
abbrev CallF:=FuncId→List Value→List (Option Blk)→List Value→Option (Value×List (Option Blk)×List Value×List Prop)
abbrev EsR:=Option (Sg×List Value×List Prop)
def evFx (P:Program) (ext:List FuncId) (o:Oper) (T:List Value) (H:List (Option Blk)) (orc:List Value):Option (Fx×List Value×List Prop) :=
 match o.op with
 | .call { callee:=.value fo,args,argTypes:=_ }=>match eo T fo with
  | .func (.func g) fs cs=>if fnOk P g&&ext.contains g then (evExt P g (fs.toList++args.toList.map (eo T)++cs.toList) (look H) H.length orc).map fun r=>(⟨r.1,r.2.1,r.2.2.1,r.2.2.2.1⟩,r.2.2.2.2.1,r.2.2.2.2.2) else none
  | _=>none
 | op=>(evEff2 P op (eo T) (look H) H.length orc).map fun r=>(⟨r.1,r.2.1,r.2.2.1,r.2.2.2.1⟩,r.2.2.2.2.1,r.2.2.2.2.2)
def inlOf (P:Program) (ext:List FuncId) (o:Oper) (T:List Value):Option (FuncId×List Value) :=
 match o.op with
 | .call { callee:=.value fo,args,argTypes:=_ }=>match eo T fo with
  | .func (.func g) fs cs=>if fnOk P g && !ext.contains g then some (g,fs.toList++args.toList.map (eo T)++cs.toList) else none
  | _=>none
 | _=>none
def skipB:Value→Bool
 | .tuple xs=>xs.toList.isEmpty
 | _=>false
def evGd (all:List Oper) (o:Oper) (T:List Value) (orc:List Value):Option (Bool×List Value×List Value×List Prop) :=
 match o.guard with
 | none=>some (true,T,orc,[])
 | some (j,want)=>match (all[j]?).bind (·.dst) with
  | some d=>match T[d]? with
   | some u=>match skipB u with
    | true=>some (false,T,orc,[])
    | false=>match decideB u orc with
     | some (b,orc',ob)=>some (b==want,T.set d (vD b),orc',ob)
     | none=>none
   | none=>none
  | none=>none
def evOp (P:Program) (ext:List FuncId) (call:CallF) (all:List Oper) (o:Oper) (s:Sg) (orc:List Value):EsR :=
 match evGd all o s.T orc with
 | some (run,T1,orc1,ob1)=>match run with
  | false=>some (⟨putT T1 o.dst (.tuple #[]),s.H⟩,orc1,ob1)
  | true=>match inlOf P ext o T1 with
   | some (g,args)=>match call g args s.H orc1 with
    | some (v,H',orc2,ob2)=>some (⟨putT T1 o.dst v,H'⟩,orc2,ob1++ob2)
    | none=>none
   | none=>match evFx P ext o T1 s.H orc1 with
    | some (fx,orc2,ob2)=>if wrOk s.H fx.wr fx.nx then some (⟨putT T1 o.dst fx.v,applyW s.H fx.wr fx.nx⟩,orc2,ob1++ob2) else none
    | none=>none
 | none=>none
def evOps (P:Program) (ext:List FuncId) (call:CallF) (all:List Oper):List Oper→Sg→List Value→EsR
 | [],s,orc=>some (s,orc,[])
 | o::r,s,orc=>match evOp P ext call all o s orc with
  | some (s1,orc1,ob1)=>match evOps P ext call all r s1 orc1 with
   | some (s2,orc2,ob2)=>some (s2,orc2,ob1++ob2)
   | none=>none
  | none=>none
def befs:List Oper→List Nat→List Nat
 | [],acc=>acc
 | o::r,acc=>befs r (acc++[o.after.toList.foldl (fun s e=>if Region.binds .any e then s ||| 2 ^ e.on ||| acc.getD e.on 0 else s) 0])
structure Rc where
 rt:List Nat
 wt:List Nat
 rd:List Nat
 wd:List Nat
def disj (a b:List Nat):Bool:=a.all fun x=>b.all fun y=>!(x==y)
def noConf (p q:Rc):Bool:=disj p.wt q.rt&&disj p.wt q.wt&&disj p.rt q.wt&&disj p.wd q.rd&&disj p.wd q.wd&&disj p.rd q.wd
def cfOk (bits:Nat) (recs:List Rc) (r:Rc):Bool:=(recs.zipIdx).all fun x=>bits.testBit x.2||noConf x.1 r
def opTmps (o:Oper):List Nat:=o.op.operands.toList.filterMap fun | .tmp t=>some t | _=>none
def gdTmp (all:List Oper) (o:Oper):List Nat :=
 match o.guard with
 | none=>[]
 | some (j,_)=>match (all[j]?).bind (·.dst) with
  | some d=>[d]
  | none=>[]
def frz (hide:List Nat) (bd:Nat) (H:List (Option Blk)):List (Option Blk) :=
 (H.zipIdx.map fun x=>if hide.any (fun y=>y==x.2) then none else x.1.map fun b=>{ b with w:=false })++List.replicate (bd - H.length) none
def ltA (bd:Nat):Value→Bool
 | .iface 1000007 _=>false
 | .pointer (some a)=>Nat.blt a.block bd
 | .slice (some a) _ _=>Nat.blt a.block bd
 | .agg _ | .tuple _ | .func _ _ _=>false
 | .map (some i)=>Nat.blt i bd
 | _=>true
def ltV (bd:Nat):Value→Bool
 | .agg xs=>xs.toList.all (ltA bd)
 | .tuple xs=>xs.toList.all fun | .agg ys=>ys.toList.all (ltA bd) | v=>ltA bd v
 | v=>ltA bd v
def hidden (bits:Nat) (recs:List Rc):List Nat:=(recs.zipIdx).flatMap fun x=>if bits.testBit x.2 then [] else x.1.wd
def liveIds (H:List (Option Blk)):List Nat:=(H.zipIdx).filterMap fun x=>x.1.map fun _=>x.2
def ltF (bd:Nat):Value→Bool
 | .func _ fs cs=>fs.toList.all (ltA bd)&&cs.toList.all (ltA bd)
 | v=>ltA bd v
def mapOut (bd:Nat) (v:Value) (H' : List (Option Blk)):Option Blk :=
 match v with
 | .map (some j)=>match look H' j with
  | some b=>if b.isMap&&Nat.ble bd j&&b.els.all (fun el=>match el with | .agg xs=>xs.toList.all (ltF bd) | _=>false) then some b else none
  | none=>none
 | _=>none
def outA (bd:Nat) (H' : List (Option Blk)) (v:Value):Option Value :=
 match ltA bd v with
 | true=>some v
 | false=>match v with
  | .pointer (some ⟨j,0,some 0⟩)=>match look H' j with
   | some b=>match b.els with
    | [el]=>if Nat.ble bd j && !b.isMap&&el.cells.toList.all (ltF bd) then some (vFz el.cells.toList) else none
    | _=>none
   | none=>none
  | _=>none
def outL (bd:Nat) (H' : List (Option Blk)):List Value→Option (List Value)
 | []=>some []
 | v::r=>match outA bd H' v,outL bd H' r with
  | some u,some s=>some (u::s)
  | _,_=>none
def funOut (bd:Nat) (v:Value) (H' : List (Option Blk)):Option Value :=
 match v with
 | .func fn fs cs=>if fs.toList.all (ltA bd) then (outL bd H' cs.toList).map fun l=>.func fn fs l.toArray else none
 | _=>none
def rowOut (bd:Nat) (v:Value) (H' : List (Option Blk)):Option (Value×List Prop) :=
 match v with
 | .tuple xs=>match lendL (lendV (look H')) xs.toList with
  | some (ys,is,ob)=>if is.all (fun i=>Nat.ble bd i) then some (.tuple ys.toArray,ob) else none
  | none=>none
 | v=>match lendV (look H') v with
  | some (u,is,ob)=>if is.all (fun i=>Nat.ble bd i) then some (u,ob) else none
  | none=>none
def evInl (call:CallF) (bd bits:Nat) (recs:List Rc) (g:FuncId) (args:List Value) (H:List (Option Blk)) (orc:List Value):Option (Fx×List Value×List Prop) :=
 let Hf:=frz (hidden bits recs) bd H
 match call g args Hf orc with
 | some (v,H',orc',ob)=>if ltV bd v then some (⟨v,liveIds Hf,[],H.length⟩,orc',ob) else match mapOut bd v H' with
  | some b=>some (⟨.map (some H.length),liveIds Hf,[(H.length,some b)],H.length+1⟩,orc',ob)
  | none=>match funOut bd v H' with
   | some u=>some (⟨u,liveIds Hf,[],H.length⟩,orc',ob)
   | none=>match rowOut bd v H' with
    | some (u,ob2)=>some (⟨u,liveIds Hf,[],H.length⟩,orc',ob++ob2)
    | none=>none
 | none=>none
def evDr (P:Program) (ext:List FuncId) (call:CallF) (bd:Nat) (all:List Oper) (bits:List Nat):List Oper→List Rc→Sg→List Value→EsR
 | [],_,s,orc=>some (s,orc,[])
 | o::r,recs,s,orc=>match evGd all o s.T orc with
  | some (run,T1,orc1,ob1) =>
   match (match run with
    | false=>some (⟨.tuple #[],[],[],s.H.length⟩,orc1,[])
    | true=>match inlOf P ext o T1 with
     | some (g,args)=>evInl call bd (bits.getD recs.length 0) recs g args s.H orc1
     | none=>evFx P ext o T1 s.H orc1:Option (Fx×List Value×List Prop)) with
   | some (fx,orc2,ob2) =>
    if wrOk s.H fx.wr fx.nx&&cfOk (bits.getD recs.length 0) recs ⟨gdTmp all o++opTmps o,o.dst.toList,fx.rd,fx.wr.map (·.1)⟩ then
     match evDr P ext call bd all bits r (recs++[⟨gdTmp all o++opTmps o,o.dst.toList,fx.rd,fx.wr.map (·.1)⟩]) ⟨putT T1 o.dst fx.v,applyW s.H fx.wr fx.nx⟩ orc2 with
     | some (s2,orc3,ob3)=>some (s2,orc3,ob1++(ob2++ob3))
     | none=>none
    else none
   | none=>none
  | none=>none
def lastE (P:Program) (l:List Oper):Bool :=
 match l.getLast? with
 | some o=>(match o.op with | .call { callee:=.value (.func g),args:=_,argTypes:=_ }=>(match P.funcs[g]? with | some fn=>fn.results.isEmpty | none=>false) | _=>false)&&(List.range (l.length - 1)).all fun p=>((befs l []).getD (l.length - 1) 0).testBit p
 | none=>false
def evDrL (P:Program) (ext:List FuncId) (call:CallF) (l:List Oper) (s:Sg) (orc:List Value):EsR :=
 match l.getLast? with
 | some o=>match evDr P ext call (s.H.length+l.length) l (befs l []) l.dropLast [] s orc with
  | some (s1,orc1,ob1)=>match evOp P ext call l o s1 orc1 with
   | some (s2,orc2,ob2)=>some (s2,orc2,ob1++ob2)
   | none=>none
  | none=>none
 | none=>none
abbrev EcR:=Option (Exit×Sg×List Value×List Prop)
def loopN (f:Sg→List Value→EcR):Nat→Sg→List Value→EcR
 | 0,_,_=>none
 | n+1,s,orc=>match f s orc with
  | some (x,s1,orc1,ob1)=>match x with
   | .normal=>match loopN f n s1 orc1 with
    | some (x2,s2,orc2,ob2)=>some (x2,s2,orc2,ob1++ob2)
    | none=>none
   | x=>some (x,s1,orc1,ob1)
  | none=>none
def decN:List Value→Option (List Nat)
 | []=>some []
 | .int _ n::r=>(decN r).map fun s=>n.toNat::s
 | _=>none
def decT:List Value→Option (List (Nat×Value))
 | []=>some []
 | .int _ n::v::r=>(decT r).map fun s=>(n.toNat,v)::s
 | _=>none
def decB:Value→Option Blk
 | .func (.yield n) els ps=>match ps.toList with
  | [.bool arr,.int _ k]=>some ⟨true,arr,k.toNat,n,els.toList⟩
  | _=>none
 | _=>none
def decX (x:Int):Exit:=match x with
 | .ofNat n=>.exit n
 | .negSucc _=>.ret
def decL (n:Nat) (v:Value):Option (List Nat×List Nat×Exit×Sg) :=
 match v with
 | .tuple xs=>match xs.toList with
  | [.agg im,.agg keep,.int _ x,.agg T,.tuple H]=>match decN im.toList,decN keep.toList,decT T.toList with
   | some im,some keep,some T=>some (im,keep,decX x,⟨mkT n T,H.toList.map decB⟩)
   | _,_,_=>none
  | _=>none
 | _=>none
def eN (l:List Nat):Array Value:=(l.map fun (n:Nat)=>Value.int .i64 n).toArray
def eB:Option Blk→Value
 | some b=>.func (.yield b.n) b.els.toArray #[.bool b.arr,.int .i64 b.k]
 | none=>vUnk
def oLb (im keep:List Nat) (x:Int) (T:List (Nat×Value)) (H:List (Option Blk)):Value :=
 (.tuple #[.agg (eN im),.agg (eN keep),.int .i64 x,.agg (T.flatMap fun p=>[Value.int .i64 p.1,p.2]).toArray,.tuple (H.map eB).toArray])
def oL (im keep:List Nat) (x:Int) (T:List (Nat×Value)) (H:List (Option Blk)):Value:=.iface 1000005 (oLb im keep x T H)
def oK (K:Nat) (im keep:List Nat) (x:Int) (T:List (Nat×Value)) (H:List (Option Blk)):Value:=.iface 1000011 (.tuple #[.int .i64 K,oLb im keep x T H])
def decK (n:Nat) (v:Value):Option (Nat×List Nat×List Nat×Exit×Sg) :=
 match v with
 | .tuple xs=>match xs.toList with
  | [.int _ K,sp]=>(decL n sp).map fun r=>(K.toNat,r)
  | _=>none
 | _=>none
def setD (T:List Value) (c:Operand) (b:Bool):List Value :=
 match c with
 | .tmp t=>T.set t (vD b)
 | _=>T
def regAns (orc:List Value):Option (List Nat×List Nat×List Nat×Nat×List Value×List Value) :=
 match orc with
 | .iface 1000008 (.tuple xs)::orc' => match xs.toList with
  | [.agg ts,.agg hs,.agg D,.int _ d,.agg els]=>match decN ts.toList,decN hs.toList,decN D.toList with
   | some ts,some hs,some D=>some (ts,hs,D,d.toNat,els.toList,orc')
   | _,_,_=>none
  | _=>none
 | _=>none
def oR (ts hs D:List Nat) (dst:Nat) (els:List Value):Value:=.iface 1000008 (.tuple #[.agg (eN ts),.agg (eN hs),.agg (eN D),.int .i64 dst,.agg els.toArray])
def evCode (P:Program) (ext:List FuncId) (call:CallF) (fuel:Nat):Code→Sg→List Value→EcR
 | .skip,s,orc=>some (.normal,s,orc,[])
 | .region id ops draw,s,orc=>match draw with
  | false=>(evOps P ext call ops.toList ops.toList s orc).map fun r=>(.normal,r)
  | true=>match regAns orc with
   | some (ts,hs,D,d,els,orc')=>if D.any (fun x=>x==d) then some (.normal,⟨rgmT D d s.T s.H.length,s.H++[some ⟨true,false,0,0,els⟩]⟩,orc',[RegM P (.region id ops true) s.T.length (rgmP ts s.T) (rgmH hs s.H) D d els]) else none
   | none=>if acyc ops.toList then match lastE P ops.toList with
    | true=>(evDrL P ext call ops.toList s orc).map fun r=>(.normal,r)
    | false=>(evDr P ext call (s.H.length+ops.toList.length) ops.toList (befs ops.toList []) ops.toList [] s orc).map fun r=>(.normal,r)
    else none
 | .seq a b,s,orc=>match evCode P ext call fuel a s orc with
  | some (x,s1,orc1,ob1)=>match x with
   | .normal=>match evCode P ext call fuel b s1 orc1 with
    | some (x2,s2,orc2,ob2)=>some (x2,s2,orc2,ob1++ob2)
    | none=>none
   | x=>some (x,s1,orc1,ob1)
  | none=>none
 | .cond c a b,s,orc=>match decideB (eo s.T c) orc with
  | some (d,orc1,ob1)=>match (match d with
    | true=>evCode P ext call fuel a ⟨setD s.T c true,s.H⟩ orc1
    | false=>evCode P ext call fuel b ⟨setD s.T c false,s.H⟩ orc1) with
   | some (x,s2,orc2,ob2)=>some (x,s2,orc2,ob1++ob2)
   | none=>none
  | none=>none
 | .block id a,s,orc=>match evCode P ext call fuel a s orc with
  | some (x,r)=>match x with
   | .exit id' => some (if id' = id then .normal else .exit id',r)
   | x=>some (x,r)
  | none=>none
 | .loop a,s,orc=>match orc with
  | .iface 1000005 sp::orc' => match decL s.T.length sp with
   | some (im,keep,x,s')=>match canon im keep s with
    | some s0=>some (x,joinS s im s',orc',[LoopP P a s0 x s'])
    | none=>none
   | none=>none
  | .iface 1000011 sp::orc' => match decK s.T.length sp with
   | some (K,im,keep,x,s')=>match canon im keep s with
    | some s0=>some (x,mvs s.H.length im K (joinS s im s'),orc',[LoopK P K a s0 x s'])
    | none=>none
   | none=>none
  | _=>loopN (evCode P ext call fuel a) fuel s orc
 | .exit id,s,orc=>some (.exit id,s,orc,[])
 | .ret,s,orc=>some (.ret,s,orc,[])
 | .goto l,s,orc=>some (.goto l,s,orc,[])
 | _,_,_=>none
def evSc (P:Program) (ext:List FuncId) (call:CallF) (fuel:Nat):Code→Sg→List Value→EcR
 | .seq a b,s,orc=>match a with
  | .label l=>match orc with
   | .iface 1000005 sp::orc' => match decL s.T.length sp with
    | some (im,keep,x,s')=>match canon im keep s with
     | some s0=>some (x,joinS s im s',orc',[GotoP P l b s0 x s'])
     | none=>none
    | none=>none
   | _=>none
  | a=>match evCode P ext call fuel a s orc with
   | some (x,s1,orc1,ob1)=>match x with
    | .normal=>match evSc P ext call fuel b s1 orc1 with
     | some (x2,s2,orc2,ob2)=>some (x2,s2,orc2,ob1++ob2)
     | none=>none
    | _=>none
   | none=>none
 | _,_,_=>none
def evBody (P:Program) (ext:List FuncId) (call:CallF) (fuel:Nat) (c:Code) (s:Sg) (orc:List Value):EcR :=
 match c with
 | .seq a (.scope b)=>match lbl b with
  | some _=>match evCode P ext call fuel a s orc with
   | some (x,s1,orc1,ob1)=>match x with
    | .normal=>match evSc P ext call fuel b s1 orc1 with
     | some (x2,s2,orc2,ob2)=>some (x2,s2,orc2,ob1++ob2)
     | none=>none
    | _=>none
   | none=>none
  | none=>none
 | c=>evCode P ext call fuel c s orc
def evRes1 (P:Program) (s:Sg):ResultVar→Option Value
 | .tmp t=>some ((s.T[t]?).getD vUnk)
 | .cell a t=>match s.T[a]? with
  | some v=>match evLoad P t v (look s.H) [] with
   | some (u,_,_,ob)=>if ob.isEmpty then some u else none
   | none=>none
  | none=>none
def evRes (P:Program) (fn:Func) (s:Sg):Option Value :=
 match fn.results.toList.mapM (evRes1 P s) with
 | some [v]=>some v
 | some vs=>some (.tuple vs.toArray)
 | none=>none
def evFn (P:Program) (ext:List FuncId) (fuel:Nat):Nat→CallF
 | 0,_,_,_,_=>none
 | n+1,g,args,H,orc=>match P.funcs[g]? with
  | some fn=>match fn.body with
   | some c=>match evBody P ext (evFn P ext fuel n) fuel c ⟨args++List.replicate (fn.ntmps - args.length) (.tuple #[]),H⟩ orc with
    | some (x,s,orc',ob)=>match x with
     | .normal | .ret=>match evRes P fn s with
      | some v=>some (v,s.H,orc',ob)
      | none=>none
     | _=>none
    | none=>none
   | none=>none
  | none=>none
end
section
open Go.RowKit
section
variable {P:Program} {ρ:PMap} {O:Nat→Prop} {W:World}
def CallOk (P:Program) (call:CallF):Prop :=
 ∀ (g:FuncId) (args:List Value) (H:List (Option Blk)) (orc:List Value) (r:Value) (H' : List (Option Blk)) (orc' : List Value) (ob:List Prop),call g args H orc=some (r,H',orc',ob)→conj ob →
  ∀ (ρ:PMap) (O:Nat→Prop) (W:World) (vs:Array Value),HConc ρ O H W→AtAll (Rp ρ O W) args.toArray vs→Calls P g vs W fun e W' => ∃ c ρ' O',e = .returned c∧Rp ρ' O' W' r c∧HConc ρ' O' H' W' ∧ Ext ρ O H W ρ' O' H' W'
theorem decideB_ok {v c:Value} {orc orc' : List Value} {b:Bool} {ob:List Prop} (h:decideB v orc=some (b,orc',ob)) (hob:conj ob) (hr:Rp ρ O W v c):c = .bool b:=by
 unfold decideB at h
 split at h
 ·cases h;exact rp_d.1 hr
 ·next b' =>
  have hc:c = .bool b' := rp_bool.1 hr
  split at h
  ·split at h
   ·cases h;rw [hc,hob.1]
   ·split at h
    ·cases h;exact hc
    ·cases h;exact hc
   ·cases h
  ·cases h
 ·cases h
theorem rp_eo {T:List Value} {a:Act} (h:TConc ρ O T a W) (x:Operand):Rp ρ O W (eo T x) (a.eval x):=by
 cases x with
 | tmp t =>
  show Rp ρ O W ((T[t]?).getD vUnk) (a.tmps.getD t undef)
  cases ht:T[t]? with
  | none=>exact rp_unk _
  | some v =>
   obtain ⟨c,hc,hr⟩:=h.tm t v ht
   simpa [hc] using hr
 | const v=>exact rp_absC v
 | global g=>exact rp_unk _
 | func f=>exact rp_func.2 ⟨#[],#[],rfl,⟨rfl,fun i x hx=>by simp at hx⟩,⟨rfl,fun i x hx=>by simp at hx⟩⟩
def Finer (T T1:List Value):Prop:=T1.length=T.length∧∀ (t:Nat) (v v1:Value),T[t]? = some v→T1[t]? = some v1→∀ ρ O W c,Rp ρ O W v c→Rp ρ O W v1 c
theorem Finer.refl (T:List Value):Finer T T:=⟨rfl,fun _ _ _ h1 h2 _ _ _ _ h=>by rw [h1] at h2;cases h2;exact h⟩
theorem Finer.conc {T T1:List Value} {a:Act} (hf:Finer T T1) (h:TConc ρ O T a W):TConc ρ O T1 a W :=
 ⟨h.df,h.sz.trans hf.1.symm,fun t v1 h1=>by
  have ht:t<T.length:=by rw [← hf.1];exact (List.getElem?_eq_some_iff.1 h1).1
  obtain ⟨c,hc,hr⟩:=h.tm t T[t] (List.getElem?_eq_getElem ht)
  exact ⟨c,hc,hf.2 t _ v1 (List.getElem?_eq_getElem ht) h1 _ _ _ _ hr⟩⟩
theorem finer_set {T:List Value} {t:Nat} {u:Value} {b:Bool} (hu:T[t]? = some u) (h:∀ ρ O W c,Rp ρ O W u c→c = .bool b):Finer T (T.set t (vD b)):=by
 refine ⟨by simp,fun t' v v1 h1 h2 ρ O W c hr=>?_⟩
 rw [List.getElem?_set] at h2
 by_cases e:t=t'
 ·subst e
  rw [hu] at h1;cases h1
  simp only [if_true] at h2
  split at h2
  ·cases h2;exact rp_d.2 (h _ _ _ _ hr)
  ·cases h2
 ·simp only [e,if_false] at h2
  rw [h1] at h2;cases h2;exact hr
theorem evGd_finer {all:List Oper} {o:Oper} {T T1:List Value} {orc orc' : List Value} {run:Bool} {ob:List Prop} (h:evGd all o T orc=some (run,T1,orc',ob)) (hob:conj ob):Finer T T1:=by
 unfold evGd at h
 split at h
 ·cases h;exact Finer.refl _
 ·split at h
  ·split at h
   ·next u hu =>
    split at h
    ·cases h;exact Finer.refl _
    ·split at h
     ·next b orc1 ob1 hd =>
      cases h
      exact finer_set hu fun _ _ _ _ hr=>decideB_ok hd hob hr
     ·cases h
   ·cases h
  ·cases h
theorem evGd_wanted {all:List Oper} {o:Oper} {T T1:List Value} {orc orc' : List Value} {run:Bool} {ob:List Prop} (h:evGd all o T orc=some (run,T1,orc',ob)) (hob:conj ob) {a:Act}
  (ht:∀ t∈gdTmp all o,∀ v,T[t]? = some v→∃ c,a.tmps[t]? = some c∧Rp ρ O W v c):Region.wanted o (yielded all.toArray a.tmps)=run:=by
 unfold evGd at h
 unfold gdTmp at ht
 split at h
 ·next hg=>cases h;simp [Region.wanted,hg]
 ·next j want hg =>
  rw [hg] at ht
  simp only at ht
  split at h
  ·next d hd =>
   rw [hd] at ht
   split at h
   ·next u hu =>
    split at h
    ·next hsk =>
     cases h
     obtain ⟨c,hc,hr⟩:=ht d (by simp) u hu
     unfold skipB at hsk
     split at hsk
     ·next xs =>
      obtain ⟨ys,rfl,-⟩:=rp_tuple.1 hr
      have hy:yielded all.toArray a.tmps j=none:=by
       unfold yielded
       have:(all.toArray[j]?).bind (·.dst)=some d:=by simpa using hd
       rw [this]
       simp [hc]
      simp only [Region.wanted,hg,hy]
      cases want <;> rfl
     ·cases hsk
    ·split at h
     ·next b orc1 ob1 hdc =>
      cases h
      obtain ⟨c,hc,hr⟩:=ht d (by simp) u hu
      have hcb:=decideB_ok hdc hob hr
      subst hcb
      have hy:yielded all.toArray a.tmps j=some b:=by
       unfold yielded
       have:(all.toArray[j]?).bind (·.dst)=some d:=by simpa using hd
       rw [this]
       simp [hc]
      simp only [Region.wanted,hg,hy]
      cases b <;> cases want <;> rfl
     ·cases h
   ·cases h
  ·cases h
theorem evFx_ok {bd:Nat} {ext:List FuncId} {o:Oper} {T:List Value} {H:List (Option Blk)} {orc orc' : List Value} {fx:Fx} {ob:List Prop} (h:evFx P ext o T H orc=some (fx,orc',ob)) (hob:conj ob):OpDo P bd o (eo T) (look H) H.length fx.nx fx.rd fx.wr fx.v:=by
 unfold evFx at h
 split at h
 ·next fo args ats ho =>
  split at h
  ·next g fs cs hfo =>
   split at h
   ·next hg =>
    obtain ⟨r,hr,he⟩:=Option.map_eq_some_iff.1 h
    cases he
    simp only [Bool.and_eq_true] at hg
    exact evExt_ok ho hfo hg.1 hr hob
   ·cases h
  ·cases h
 ·obtain ⟨r,hr,he⟩:=Option.map_eq_some_iff.1 h
  cases he
  exact evEff2_ok hr hob
theorem inlOf_spec {ext:List FuncId} {o:Oper} {T:List Value} {g:FuncId} {args:List Value} (h:inlOf P ext o T=some (g,args)) :
  ∃ fo xs ats fs cs,o.op = .call { callee:=.value fo,args:=xs,argTypes:=ats }∧eo T fo = .func (.func g) fs cs∧fnOk P g=true∧args=fs.toList++xs.toList.map (eo T)++cs.toList:=by
 unfold inlOf at h
 split at h
 ·next fo xs ats ho =>
  split at h
  ·next g' fs cs hfo =>
   split at h
   ·next hg =>
    cases h
    simp only [Bool.and_eq_true] at hg
    exact ⟨fo,xs,ats,fs,cs,ho,hfo,hg.1,rfl⟩
   ·cases h
  ·cases h
 ·cases h
theorem args_at {T:List Value} {e:Operand→Value} {o:Oper} {fo:Operand} {xs:Array Operand} {ats:Array TypeId} {fs cs:Array Value} {g:FuncId} {f:Operand→Value} (ho:o.op = .call { callee:=.value fo,args:=xs,argTypes:=ats }) (hfo:e fo = .func (.func g) fs cs)
  (he:∀ x∈o.op.operands,Rp ρ O W (e x) (f x)):∃ ys us,f fo = .func (.func g) ys us∧AtAll (Rp ρ O W) (fs.toList++xs.toList.map e++cs.toList).toArray (ys++xs.map f++us):=by
 have hf:=he fo (by simp [ho,Op.operands,Call.operands])
 rw [hfo] at hf
 obtain ⟨ys,us,hfv,ha1,ha2⟩:=rp_func.1 hf
 refine ⟨ys,us,hfv,?_⟩
 have h1:=ha1.1
 have h2:=ha2.1
 refine ⟨by simp;omega,fun i x hx=>?_⟩
 simp only [List.getElem?_toArray,List.getElem?_append,Array.getElem?_append,List.length_append,List.length_map,Array.length_toList,Array.size_append,Array.size_map,h1,List.getElem?_map,Array.getElem?_toList,Array.getElem?_map] at hx ⊢
 split at hx
 ·next c1 =>
  rw [if_pos c1]
  split at hx
  ·next c2=>rw [if_pos c2];exact ha1.2 i x hx
  ·next c2 =>
   rw [if_neg c2]
   obtain ⟨y,hy,rfl⟩:=Option.map_eq_some_iff.1 hx
   exact ⟨f y,by rw [hy];rfl,he y (by simp only [ho,Op.operands,Call.operands];simp [Array.mem_of_getElem? hy])⟩
 ·next c1 =>
  rw [if_neg c1]
  exact ha2.2 _ x hx
theorem seq_do {o:Oper} {T:List Value} {H:List (Option Blk)} {fx:Fx} {a:Act} {K:Act→World→Prop} {Q:Exit→Act→World→Prop} (hd:OpDo P H.length o (eo T) (look H) H.length fx.nx fx.rd fx.wr fx.v) (hw:wrOk H fx.wr fx.nx=true) (hH:HConc ρ O H W) (hT:TConc ρ O T a W)
  (hK:∀ ρ' O' a' W',HConc ρ' O' (applyW H fx.wr fx.nx) W' → TConc ρ' O' (putT T o.dst fx.v) a' W' → Ext ρ O H W ρ' O' (applyW H fx.wr fx.nx) W' → K a' W'):o.wp P a W K Q:=by
 refine hd ρ O a W K Q hH.low (fun x _=>rp_eo hT x) (fun i _=>hH.hp i) (fun p _=>hH.hp p.1) (fun i hi _=>hH.fr i hi) hH.fr (fun i _ j _ b b' g k k' => hH.inj i j b b' g k k') fun c ρ' O' W' hv hp hs=>?_
 obtain ⟨h1,h2⟩:=step_conc hH hw hs hp
 exact hK ρ' O' _ W' h1 (tconc_put (hT.mono hs.still hs.sub) o.dst hv) h2
theorem evOp_ok {ext:List FuncId} {call:CallF} (hcall:CallOk P call) {all:List Oper} {o:Oper} {s s' : Sg} {orc orc' : List Value} {ob:List Prop} (h:evOp P ext call all o s orc=some (s',orc',ob)) (hob:conj ob) {a:Act} (hH:HConc ρ O s.H W) (hT:TConc ρ O s.T a W) {rest:List Oper} {Q:Exit→Act→World→Prop}
  (hK:∀ ρ' O' a' W',HConc ρ' O' s'.H W' → TConc ρ' O' s'.T a' W' → Ext ρ O s.H W ρ' O' s'.H W' → wpList P all.toArray Q rest a' W'):wpList P all.toArray Q (o::rest) a W:=by
 unfold evOp at h
 split at h
 ·next run T1 orc1 ob1 hg =>
  have hfin:∀ {ob2},conj (ob1++ob2)→Finer s.T T1:=fun h=>evGd_finer hg (conj_append.1 h).1
  have hwant:∀ {ob2},conj (ob1++ob2)→Region.wanted o (yielded all.toArray a.tmps)=run:=fun h=>evGd_wanted (ρ:=ρ) (O:=O) (W:=W) hg (conj_append.1 h).1 (fun t _ v hv=>hT.tm t v hv)
  split at h
  ·cases h
   have hob' : conj (ob++[]):=by simpa using hob
   unfold wpList
   rw [hwant hob']
   simp only [Bool.false_eq_true,if_false]
   exact hK ρ O _ W hH (tconc_put ((hfin hob').conc hT) o.dst (rp_tuple.2 ⟨#[],rfl,rfl,fun i x hx=>by simp at hx⟩)) (Ext.refl _ _ _ _)
  ·split at h
   ·next g args hi =>
    split at h
    ·next v H' orc2 ob2 hc =>
     cases h
     obtain ⟨fo,xs,ats,fs,cs,ho,hfo,hok,rfl⟩:=inlOf_spec hi
     have hT1:=(hfin hob).conc hT
     obtain ⟨ys,us,hfv,hat⟩:=args_at (T:=T1) ho hfo (fun x _=>rp_eo hT1 x)
     unfold wpList
     rw [hwant hob]
     simp only [if_true]
     left
     refine upon_enter' (run_call ho hfv hok) ((hcall _ _ _ _ _ _ _ _ hc (conj_append.1 hob).2 ρ O W _ hH hat).mono ?_)
     rintro e W' ⟨c,ρ',O',rfl,hv,hH',hE⟩
     exact ⟨c,rfl,hK ρ' O' _ W' hH' (tconc_put (hT1.mono hE.still hE.sub) o.dst hv) hE⟩
    ·cases h
   ·split at h
    ·next fx orc2 ob2 hfx =>
     split at h
     ·next hw =>
      cases h
      unfold wpList
      rw [hwant hob]
      simp only [if_true]
      left
      exact seq_do (evFx_ok hfx (conj_append.1 hob).2) hw hH ((hfin hob).conc hT) hK
     ·cases h
    ·cases h
 ·cases h
theorem evOps_ok {ext:List FuncId} {call:CallF} (hcall:CallOk P call) {all:List Oper} {Q:Exit→Act→World→Prop}:∀ {l:List Oper} {s s' : Sg} {orc orc' : List Value} {ob:List Prop},evOps P ext call all l s orc=some (s',orc',ob)→conj ob→∀ {ρ:PMap} {O:Nat→Prop} {a:Act} {W:World},HConc ρ O s.H W→TConc ρ O s.T a W →
  (∀ ρ' O' a' W',HConc ρ' O' s'.H W' → TConc ρ' O' s'.T a' W' → Ext ρ O s.H W ρ' O' s'.H W' → Q .normal a' W')→wpList P all.toArray Q l a W
 | [],s,s',orc,orc',ob,h,_,ρ,O,a,W,hH,hT,hK=>by
  simp only [evOps,Option.some.injEq,Prod.mk.injEq] at h
  obtain ⟨rfl,-,-⟩:=h
  exact hK ρ O a W hH hT (Ext.refl _ _ _ _)
 | o::r,s,s',orc,orc',ob,h,hob,ρ,O,a,W,hH,hT,hK=>by
  simp only [evOps] at h
  split at h
  ·next s1 orc1 ob1 h1 =>
   split at h
   ·next s2 orc2 ob2 h2 =>
    cases h
    obtain ⟨hb1,hb2⟩:=conj_append.1 hob
    exact evOp_ok hcall h1 hb1 hH hT fun ρ' O' a' W' hH' hT' hE=>evOps_ok hcall h2 hb2 hH' hT' fun ρ'' O'' a'' W'' hH'' hT'' hE' => hK ρ'' O'' a'' W'' hH'' hT'' (hE.trans hE' hH)
   ·cases h
  ·cases h
end
end
section
open Go.RowKit
def Clo (l:List Oper) (L:Array Bool):Prop:=∀ (k:Nat) (o:Oper),l[k]? = some o→L.getD k false=true→∀ e∈o.after,Region.binds .any e=true→L.getD e.on false=true
def Rdy (l:List Oper) (L:Array Bool) (q:Nat):Prop:=∀ (o:Oper),l[q]? = some o→∀ e∈o.after,Region.binds .any e=true→L.getD e.on false=true
theorem getD_set {L:Array Bool} {i j:Nat} (hi:i<L.size):(L.setIfInBounds i true).getD j false=(decide (j=i)||L.getD j false):=by
 by_cases e:j=i
 ·subst e;simp [Array.getD,hi]
 ·by_cases hj:j<L.size
  ·simp [Array.getD,hj,Array.getElem_setIfInBounds,Ne.symm e,e]
  ·simp [Array.getD,hj,e]
theorem Clo.set {l:List Oper} {L:Array Bool} {i:Nat} (h:Clo l L) (hi:i<L.size) (hw:Rdy l L i):Clo l (L.setIfInBounds i true):=by
 intro k o hk hl e he hb
 rw [getD_set hi] at hl ⊢
 by_cases e1:k=i
 ·subst e1
  rw [hw o hk e he hb];simp
 ·simp only [e1,decide_false,Bool.false_or] at hl
  rw [h k o hk hl e he hb];simp
def BefS (l:List Oper) (p q:Nat):Prop:=∀ L,Clo l L→Rdy l L q→L.getD p false=true
theorem fold_bits {acc:List Nat} {p:Nat}:∀ (es:List Edge) (s:Nat),(es.foldl (fun s e=>if Region.binds .any e then s ||| 2 ^ e.on ||| acc.getD e.on 0 else s) s).testBit p=true→s.testBit p=true∨∃ e∈es,Region.binds .any e=true∧(p=e.on∨(acc.getD e.on 0).testBit p=true)
 | [],s,h=>.inl h
 | e::r,s,h=>by
  rcases fold_bits r _ h with h1 | ⟨e',h1,h2⟩
  ·by_cases hb:Region.binds .any e=true
   ·simp only [hb,if_true,Nat.testBit_or,Bool.or_eq_true] at h1
    rcases h1 with (h1 | h1) | h1
    ·exact .inl h1
    ·refine .inr ⟨e,by simp,hb,.inl ?_⟩
     rw [Nat.testBit_two_pow] at h1
     simpa using (of_decide_eq_true h1).symm
    ·exact .inr ⟨e,by simp,hb,.inr h1⟩
   ·simp only [hb,Bool.false_eq_true,if_false] at h1
    exact .inl h1
  ·exact .inr ⟨e',by simp [h1],h2⟩
theorem befs_spec {l:List Oper}:∀ (r pre:List Oper) (acc:List Nat),l=pre++r→acc.length=pre.length→(∀ q p,(acc.getD q 0).testBit p=true→BefS l p q)→∀ q p,((befs r acc).getD q 0).testBit p=true→BefS l p q
 | [],_,acc,_,_,h,q,p,hb=>h q p hb
 | o::r,pre,acc,hl,hlen,h,q,p,hb=>by
  refine befs_spec r (pre++[o]) _ (by simp [hl]) (by simp [hlen]) (fun q p hb=>?_) q p hb
  by_cases e1:q<acc.length
  ·rw [List.getD_eq_getElem?_getD,List.getElem?_append_left e1,← List.getD_eq_getElem?_getD] at hb;exact h q p hb
  ·by_cases e2:q=acc.length
   ·subst e2
    rw [List.getD_eq_getElem?_getD,List.getElem?_append_right (Nat.le_refl _)] at hb
    simp only [Nat.sub_self,List.getElem?_cons_zero,Option.getD_some] at hb
    rcases fold_bits _ _ hb with h1 | ⟨e,he,hbi,h1⟩
    ·simp at h1
    ·intro L hc hr
     have ho:l[acc.length]? = some o:=by rw [hl,hlen];simp
     have h2:=hr o ho e (Array.mem_toList_iff.1 he) hbi
     rcases h1 with rfl | h1
     ·exact h2
     ·exact h e.on p h1 L hc fun o' ho' e' he' hb' => hc e.on o' ho' h2 e' he' hb'
   ·rw [List.getD_eq_getElem?_getD,List.getElem?_eq_none (by simp;omega)] at hb
    simp at hb
structure StepOk (P:Program) (bd:Nat) (all:List Oper) (o:Oper) (s s' : Sg) (run:Bool) (T1:List Value) (fx:Fx) (rc:Rc):Prop where
 want:∀ (ρ:PMap) (O:Nat→Prop) (W:World) (a:Act),(∀ t∈rc.rt,∀ v,s.T[t]? = some v→∃ c,a.tmps[t]? = some c∧Rp ρ O W v c)→Region.wanted o (yielded all.toArray a.tmps)=run
 fin:Finer s.T T1
 act:run=true→OpDo P bd o (eo T1) (look s.H) s.H.length fx.nx fx.rd fx.wr fx.v
 skip:run=false→fx.v = .tuple #[]∧fx.wr=[]
 wr:wrOk s.H fx.wr fx.nx=true
 rt:∀ t,.tmp t∈o.op.operands→t∈rc.rt
 wt:rc.wt=o.dst.toList
 rd:rc.rd=fx.rd
 wd:rc.wd=fx.wr.map (·.1)
 nxt:s' = ⟨putT T1 o.dst fx.v,applyW s.H fx.wr fx.nx⟩
section
variable {P:Program}
theorem ltA_ok {ρ ρ' : PMap} {O:Nat→Prop} {W:World} {bd:Nat} {v c:Value} (hs:∀ i p,i<bd→ρ' i=some p→ρ i=some p) (h:Rp ρ' O W v c) (hl:ltA bd v=true):Rp ρ O W v c:=by
 obtain ⟨_ | d,h⟩:=h
 ·exact h.elim
 ·refine ⟨d+1,?_⟩
  match v,hl with
  | .pointer (some a),hl=>obtain ⟨g,k,j,h1,h2⟩:=h;exact ⟨g,k,j,hs _ _ (by simpa [ltA,Nat.blt_eq] using hl) h1,h2⟩
  | .pointer none,_=>exact h
  | .slice (some a) _ _,hl=>obtain ⟨g,k,j,h1,h2⟩:=h;exact ⟨g,k,j,hs _ _ (by simpa [ltA,Nat.blt_eq] using hl) h1,h2⟩
  | .slice none _ _,_=>exact h
  | .bool _,_=>exact h
  | .int _ _,_=>exact h
  | .string _,_=>exact h
  | .nilFunc,_=>exact h
  | .nilIface,_=>exact h
  | .iface t x,hl =>
   rcases h with h | h | h | h | ⟨rfl,-⟩
   ·exact .inl h
   ·exact .inr (.inl h)
   ·exact .inr (.inr (.inl h))
   ·exact .inr (.inr (.inr (.inl h)))
   ·simp [ltA] at hl
  | .float _ _,_=>exact h.elim
  | .complex _ _ _,_=>exact h.elim
  | .map none,_=>exact h
  | .map (some i),hl=>obtain ⟨g,h1,h2⟩:=h;exact ⟨g,hs _ _ (by simpa [ltA,Nat.blt_eq] using hl) h1,h2⟩
  | .chan _,_=>exact h.elim
theorem ltF_ok {ρ ρ' : PMap} {O:Nat→Prop} {W:World} {bd:Nat} {v c:Value} (hs:∀ i p,i<bd→ρ' i=some p→ρ i=some p) (h:Rp ρ' O W v c) (hl:ltF bd v=true):Rp ρ O W v c:=by
 have all:∀ {xs ys:Array Value},AtAll (Rp ρ' O W) xs ys→xs.toList.all (ltA bd)=true→AtAll (Rp ρ O W) xs ys:=fun ha hl =>
  ⟨ha.1,fun i x hx=>let ⟨y,hy,h1⟩:=ha.2 i x hx;⟨y,hy,ltA_ok hs h1 (List.all_eq_true.1 hl x (by simpa using Array.mem_of_getElem? hx))⟩⟩
 unfold ltF at hl
 split at hl
 ·obtain ⟨ys,us,rfl,h1,h2⟩:=rp_func.1 h
  simp only [Bool.and_eq_true] at hl
  exact rp_func.2 ⟨ys,us,rfl,all h1 hl.1,all h2 hl.2⟩
 ·exact ltA_ok hs h hl
theorem mapOut_is {bd:Nat} {v:Value} {H' : List (Option Blk)} {b:Blk} (h:mapOut bd v H' = some b):∃ j,v = .map (some j)∧look H' j=some b∧b.isMap=true∧bd≤j∧∀ el∈b.els,∀ i u,el = .agg #[.int .i64 i,u]→ltF bd u=true:=by
 unfold mapOut at h
 split at h
 ·next j =>
  split at h
  ·next b' hb =>
   split at h
   ·next hc =>
    cases h
    simp only [Bool.and_eq_true,Nat.ble_eq] at hc
    refine ⟨j,rfl,hb,hc.1.1,hc.1.2,fun el hel i u e=>?_⟩
    have:=List.all_eq_true.1 hc.2 el hel
    rw [e] at this
    simp at this
    exact this.2
   ·cases h
  ·cases h
 ·cases h
theorem outL_at {bd:Nat} {H' : List (Option Blk)}:∀ {l s:List Value},outL bd H' l=some s→s.length=l.length∧∀ (i:Nat) (u:Value),s[i]? = some u→∃ v,l[i]? = some v∧outA bd H' v=some u
 | [],s,h=>by simp only [outL,Option.some.injEq] at h;subst h;exact ⟨rfl,fun i u hu=>by simp at hu⟩
 | v::r,s,h=>by
  simp only [outL] at h
  split at h
  ·next u s' h1 h2 =>
   cases h
   obtain ⟨h3,h4⟩:=outL_at h2
   refine ⟨by simp [h3],fun i x hx=>?_⟩
   cases i with
   | zero=>simp at hx;subst hx;exact ⟨v,rfl,h1⟩
   | succ i=>exact h4 i x (by simpa using hx)
  ·cases h
theorem funOut_ok {ρ ρ' : PMap} {O O' : Nat→Prop} {W W' : World} {bd:Nat} {H' : List (Option Blk)} {v u c:Value} (h:funOut bd v H' = some u) (hs:∀ i p,i<bd→ρ' i=some p→ρ i=some p) (hst:Still O' W' O W') (hlow:Low O W)
  (hhp:∀ i,HAt ρ' O' W' i (look H' i)) (hfr:∀ j p,bd≤j→ρ' j=some p→W.heap.size≤p.1) (hr:Rp ρ' O' W' v c):Rp ρ O W' u c:=by
 unfold funOut at h
 split at h
 ·next fn fs cs =>
  split at h
  ·next hfs =>
   obtain ⟨l,hl,rfl⟩:=Option.map_eq_some_iff.1 h
   obtain ⟨ys,us,rfl,h1,h2⟩:=rp_func.1 hr
   obtain ⟨h3,h4⟩:=outL_at hl
   refine rp_func.2 ⟨ys,us,rfl,⟨h1.1,fun i x hx=>?_⟩,⟨by rw [h2.1];simpa using h3.symm,fun i x hx=>?_⟩⟩
   ·obtain ⟨y,hy,hxy⟩:=h1.2 i x hx
    exact ⟨y,hy,(ltA_ok hs hxy (List.all_eq_true.1 hfs x (by simpa using Array.mem_of_getElem? hx))).mono hst (Sub.refl _)⟩
   ·obtain ⟨x0,hx0,ho⟩:=h4 i x (by simpa using hx)
    obtain ⟨y,hy,hxy⟩:=h2.2 i x0 (by simpa using hx0)
    refine ⟨y,hy,?_⟩
    unfold outA at ho
    split at ho
    ·next hlt=>cases ho;exact (ltA_ok hs hxy hlt).mono hst (Sub.refl _)
    ·split at ho
     ·next j _ =>
      split at ho
      ·next b hb =>
       split at ho
       ·next el hel =>
        split at ho
        ·next hc =>
         cases ho
         simp only [Bool.and_eq_true,Nat.ble_eq] at hc
         obtain ⟨⟨hbj,hmap⟩,hall⟩:=hc
         obtain ⟨g,k,j',h5,h6,rfl⟩:=rp_ptr.1 hxy
         cases h6
         have h7:=hhp j
         rw [hb] at h7
         obtain ⟨g',hg',-,hB⟩:=h7
         have h5' : ρ' j=some (g,k):=h5
         rw [h5'] at hg';cases hg'
         have hge:W.heap.size≤g:=hfr j _ hbj h5'
         obtain ⟨-,hcr⟩:=hB.cells (by simpa using hmap) (n:=0) (el:=el) (by rw [hel];rfl)
         refine rp_fz.2 ⟨g,_,rfl,hB.lt,fun hO=>by have:=hlow g hO;omega,fun n x hx=>?_⟩
         obtain ⟨w,hw,hxw⟩:=hcr n x (by simpa using hx)
         exact ⟨w,hw,(ltF_ok hs hxw (List.all_eq_true.1 hall x (by simpa using Array.mem_of_getElem? (by simpa using hx)))).mono hst (Sub.refl _)⟩
        ·cases ho
       ·cases ho
      ·cases ho
     ·cases ho
  ·cases h
 ·cases h
theorem rowOut_ok {ρ ρ' : PMap} {O O' : Nat→Prop} {W W' : World} {bd:Nat} {H' : List (Option Blk)} {v u c:Value} {ob:List Prop} (h:rowOut bd v H' = some (u,ob)) (hob:conj ob) (hlow:Low O W) (hOO:∀ g,O g→O' g)
  (hhp:∀ i,HAt ρ' O' W' i (look H' i)) (hfr:∀ j p,bd≤j→ρ' j=some p→W.heap.size≤p.1) (hr:Rp ρ' O' W' v c):Rp ρ O W' u c:=by
 have key:∀ {is:List Nat} {a b:Value},is.all (fun i=>Nat.ble bd i)=true→Rp nowhere (Unlent ρ' O' is) W' a b→Rp ρ O W' a b:=fun {is a b} his h1 =>
  h1.mono ⟨Nat.le_refl _,fun g _ hn=>⟨fun hO=>hn ⟨hOO g hO,fun i hi k hk=>by
   have h2:=hfr i _ (by have:=List.all_eq_true.1 his i hi;simpa [Nat.ble_eq] using this) hk
   have h3:=hlow g hO
   simp at h2;omega⟩,rfl⟩,Shp.of_same fun _ _=>rfl⟩ (sub_nowhere _)
 unfold rowOut at h
 split at h
 ·next xs =>
  split at h
  ·next ys is ob' hl =>
   split at h
   ·next his =>
    cases h
    obtain ⟨zs,rfl,ha⟩:=rp_tuple.1 hr
    have:=lendL_ok (H:=look H') (ys:=zs.toList) (fun v v' c is ob=>lendV_ok) hl hob (by simpa using ha) (fun i _=>hhp i)
    refine rp_tuple.2 ⟨zs,rfl,⟨by simpa using this.1,fun i x hx=>?_⟩⟩
    obtain ⟨y,hy,hxy⟩:=this.2 i x hx
    exact ⟨y,by simpa using hy,key his hxy⟩
   ·cases h
  ·cases h
 ·split at h
  ·next u' is ob' hl =>
   split at h
   ·next his=>cases h;exact key his (lendV_ok hl hob hr (fun i _=>hhp i))
   ·cases h
  ·cases h
theorem ltV_ok {ρ ρ' : PMap} {O:Nat→Prop} {W:World} {bd:Nat} {v c:Value} (hs:∀ i p,i<bd→ρ' i=some p→ρ i=some p) (h:Rp ρ' O W v c) (hl:ltV bd v=true):Rp ρ O W v c:=by
 have all:∀ {xs ys:Array Value} {R R' : Value→Value→Prop} {f:Value→Bool},AtAll R xs ys→xs.toList.all f=true→(∀ x y,R x y→f x=true→R' x y)→AtAll R' xs ys:=fun ha hl hr =>
  ⟨ha.1,fun i x hx=>let ⟨y,hy,h1⟩:=ha.2 i x hx;⟨y,hy,hr x y h1 (List.all_eq_true.1 hl x (by simpa using Array.mem_of_getElem? hx))⟩⟩
 unfold ltV at hl
 split at hl
 ·obtain ⟨ys,rfl,ha⟩:=rp_agg.1 h
  exact rp_agg.2 ⟨ys,rfl,all ha hl fun _ _ h1 h2=>ltA_ok hs h1 h2⟩
 ·obtain ⟨ys,rfl,ha⟩:=rp_tuple.1 h
  refine rp_tuple.2 ⟨ys,rfl,all ha hl fun x y h1 h2=>?_⟩
  split at h2
  ·obtain ⟨zs,rfl,ha'⟩:=rp_agg.1 h1
   exact rp_agg.2 ⟨zs,rfl,all ha' h2 fun _ _ h3 h4=>ltA_ok hs h3 h4⟩
  ·exact ltA_ok hs h1 h2
 ·exact ltA_ok hs h hl
theorem frz_len (hide:List Nat) (bd:Nat) (H:List (Option Blk)):bd≤(frz hide bd H).length∧H.length≤(frz hide bd H).length:=by
 simp [frz];omega
theorem look_frz {hide:List Nat} {bd:Nat} {H:List (Option Blk)} {i:Nat} {b:Blk} (h:look (frz hide bd H) i=some b):b.w=false∧∃ b0,look H i=some b0∧b={ b0 with w:=false }:=by
 unfold frz at h
 rw [look_pad] at h
 unfold look at h ⊢
 rw [List.getElem?_map,List.getElem?_zipIdx] at h
 cases hi:H[i]? with
 | none=>rw [hi] at h;simp at h
 | some x =>
  rw [hi] at h
  simp only [Option.map_some,Nat.zero_add] at h
  split at h
  ·cases h
  ·cases x with
   | none=>simp at h
   | some b0=>simp only [Option.map_some,Option.some.injEq] at h;subst h;exact ⟨rfl,b0,rfl,rfl⟩
theorem mem_liveIds {H:List (Option Blk)} {i:Nat} {b:Blk} (h:look H i=some b):i∈liveIds H:=by
 unfold look at h
 split at h
 ·next x hx =>
  subst h
  refine List.mem_filterMap.2 ⟨(some b,i),List.mk_mem_zipIdx_iff_getElem?.2 hx,rfl⟩
 ·cases h
theorem hat_w {ρ:PMap} {O:Nat→Prop} {W:World} {i:Nat} {b:Blk} (h:HAt ρ O W i (some b)) (w:Bool):HAt ρ O W i (some { b with w:=w }):=h
theorem evInl_ok {call:CallF} (hcall:CallOk P call) {ext:List FuncId} {bd bits:Nat} {recs:List Rc} {o:Oper} {T:List Value} {g:FuncId} {args:List Value} {H:List (Option Blk)} {orc orc' : List Value} {fx:Fx} {ob:List Prop}
  (hi:inlOf P ext o T=some (g,args)) (h:evInl call bd bits recs g args H orc=some (fx,orc',ob)) (hob:conj ob):OpDo P bd o (eo T) (look H) H.length fx.nx fx.rd fx.wr fx.v:=by
 unfold evInl at h
 simp only at h
 split at h
 ·next v H' orc1 ob1 hc =>
  obtain ⟨fo,xs,ats,fs,cs,ho,hfo,hok,rfl⟩:=inlOf_spec hi
  have key:conj ob1→∀ (K:Act→World→Prop) (Q:Exit→Act→World→Prop) (ρ:PMap) (O:Nat→Prop) (a:Act) (W:World),Low O W→(∀ x∈o.op.operands,Rp ρ O W (eo T x) (a.eval x))→(∀ i∈liveIds (frz (hidden bits recs) bd H),HAt ρ O W i (look H i))→(∀ i,bd≤i→ρ i=none)→InjOn ρ (look H) (liveIds (frz (hidden bits recs) bd H)) →
    (∀ c ρ' O' W',Rp ρ' O' W' v c→HConc ρ' O' H' W' → Ext ρ O (frz (hidden bits recs) bd H) W ρ' O' H' W' → (∀ g,g<W.heap.size→W'.heap[g]? = W.heap[g]?)→(∀ g,O g→O' g)→(∀ i p,i<bd→ρ' i=some p→ρ i=some p)→K (a.put o.dst c) W')→o.wp P a W K Q:=by
   intro hob K Q ρ O a W hlow he hrd hbd hinj hK
   obtain ⟨ys,us,hfv,hat⟩:=args_at (T:=T) ho hfo he
   have hH:HConc ρ O (frz (hidden bits recs) bd H) W:=by
    refine ⟨hlow,fun i hi=>hbd i (Nat.le_trans (frz_len _ _ _).1 hi),fun i=>?_,fun i j b b' g k k' h1 h2 h3 h4=>?_⟩
    ·cases hlk:look (frz (hidden bits recs) bd H) i with
     | none=>trivial
     | some b =>
      obtain ⟨-,b0,hb0,rfl⟩:=look_frz hlk
      have:=hrd i (mem_liveIds hlk)
      rw [hb0] at this
      exact hat_w this false
    ·obtain ⟨-,b0,hb0,-⟩:=look_frz h1
     obtain ⟨-,b1,hb1,-⟩:=look_frz h2
     exact hinj i (mem_liveIds h1) j (mem_liveIds h2) b0 b1 g k k' hb0 hb1 h3 h4
   refine upon_enter' (run_call ho hfv hok) ((hcall _ _ _ _ _ _ _ _ hc hob ρ O W _ hH hat).mono ?_)
   rintro e W' ⟨c,ρ',O',rfl,hv,hH',hE⟩
   have hno:∀ g,g<W.heap.size→W'.heap[g]? = W.heap[g]? := fun g hg=>hE.blk g hg fun i b hb hw=>by rw [(look_frz hb).1] at hw;cases hw
   refine ⟨c,rfl,hK c ρ' O' W' hv hH' hE hno (fun g hO=>?_) (fun i p hib hp=>?_)⟩
   ·by_cases hid:∀ i b,look (frz (hidden bits recs) bd H) i=some b→∀ k,ρ i≠some (g,k)
    ·exact hE.keepO g hO hid
    ·simp only [Classical.not_forall] at hid
     obtain ⟨i,b,hb,k,hk⟩:=hid
     have hk' : ρ i=some (g,k):=Classical.not_not.1 hk
     have h1:=hE.keep i b hb (look_frz hb).1
     have h2:=hH'.hp i
     rw [h1] at h2
     obtain ⟨g',hg',hO',-⟩:=h2
     rw [hE.sub _ _ hk'] at hg';cases hg';exact hO'
   ·rcases hE.new i p hp with h1 | ⟨h1,-⟩
    ·exact h1
    ·have:=(frz_len (hidden bits recs) bd H).1;omega
  split at h
  ·next hl =>
   cases h
   intro ρ O a W K Q hlow he hrd _ _ hbd hinj hK
   refine key hob K Q ρ O a W hlow he hrd hbd hinj fun c ρ' O' W' hv hH' hE hno hOO hlt=>?_
   exact hK c ρ O W' ((ltV_ok hlt hv hl).mono ⟨Nat.le_refl _,fun g _ hn=>⟨fun hO=>hn (hOO g hO),rfl⟩,Shp.of_same fun _ _=>rfl⟩ (Sub.refl _)) (fun p hp=>by cases hp) ⟨Sub.refl _,fun _ _ h=>.inl h,⟨hE.still.size,fun g hg hO=>⟨hO,hno g hg⟩,hE.still.shp⟩,fun g hO=>Nat.lt_of_lt_of_le (hlow g hO) hE.still.size,fun _ h _=>h,hE.str,fun g hg _=>hno g hg⟩
  ·split at h
   ·next b hmo =>
    cases h
    obtain ⟨j,rfl,hlk,hmap,hbj,hels⟩:=mapOut_is hmo
    intro ρ O a W K Q hlow he hrd _ hf hbd hinj hK
    refine key hob K Q ρ O a W hlow he hrd hbd hinj fun c ρ' O' W' hv hH' hE hno hOO hlt=>?_
    obtain ⟨g,hg,rfl⟩:=rp_map.1 hv
    have hhp:=hH'.hp j
    rw [hlk] at hhp
    obtain ⟨g1,hg1,hOg,hB⟩:=hhp
    rw [hg] at hg1
    have hk0:b.k=0:=by simp [Blk.isMap] at hmap;exact hmap.1
    rw [hk0] at hg1
    cases hg1
    have hfresh:W.heap.size≤g:=by
     rcases hE.new j _ hg with h1 | ⟨-,h1 | ⟨m,bm,km,h1,h2,-⟩⟩
     ·rw [hbd j hbj] at h1;cases h1
     ·simpa using h1
     ·rw [(look_frz h1).1] at h2;cases h2
    have hnx:ρ H.length=none:=hf _ (Nat.le_refl _) (by simp)
    have hsub:Sub ρ (fun i=>if i=H.length then some (g,0) else ρ i):=fun i p hp=>by
     show (if i=H.length then some (g,0) else ρ i)=some p
     by_cases e:i=H.length
     ·subst e;rw [hnx] at hp;cases hp
     ·rw [if_neg e];exact hp
    have hstO:Still O' W' (fun x=>O x∨x=g) W' := ⟨Nat.le_refl _,fun x _ hn=>⟨fun hO=>hn (hO.elim (hOO x) (fun e=>e ▸ hOg)),rfl⟩,Shp.of_same fun _ _=>rfl⟩
    refine hK _ (fun i=>if i=H.length then some (g,0) else ρ i) (fun x=>O x∨x=g) W' (rp_map.2 ⟨g,by simp,rfl⟩) (fun p hp=>?_) ⟨hsub,fun i p hp=>?_,⟨hE.still.size,fun x hx hO=>⟨fun h=>h.elim hO (fun e=>by omega),hno x hx⟩,hE.still.shp⟩,fun x hx=>?_,fun _ h _=>.inl h,hE.str,fun x hx _=>hno x hx⟩
    ·simp only [List.mem_singleton] at hp
     subst hp
     obtain ⟨l,h1,h2,h3⟩:=(blk_map hmap).1 hB
     refine ⟨g,by simp [hk0],.inr rfl,(blk_map hmap).2 ⟨l,h1,h2,fun el hel=>?_⟩⟩
     obtain ⟨i,u,c,h4,h5,h6⟩:=h3 el hel
     exact ⟨i,u,c,h4,h5,((ltF_ok hlt h6 (hels el hel i u h4)).mono hstO hsub)⟩
    ·have hp' : (if i=H.length then some (g,0) else ρ i)=some p:=hp
     by_cases e:i=H.length
     ·rw [if_pos e] at hp';cases hp';exact .inr ⟨by omega,by simp [e],.inl hfresh⟩
     ·rw [if_neg e] at hp';exact .inl hp'
    ·rcases hx with hx | rfl
     ·exact Nat.lt_of_lt_of_le (hlow x hx) hE.still.size
     ·exact hB.lt
   ·split at h
    ·next u hfo =>
     cases h
     intro ρ O a W K Q hlow he hrd _ _ hbd hinj hK
     refine key hob K Q ρ O a W hlow he hrd hbd hinj fun c ρ' O' W' hv hH' hE hno hOO hlt=>?_
     have hst:Still O' W' O W' := ⟨Nat.le_refl _,fun g _ hn=>⟨fun hO=>hn (hOO g hO),rfl⟩,Shp.of_same fun _ _=>rfl⟩
     have hfr:∀ j p,bd≤j→ρ' j=some p→W.heap.size≤p.1:=fun j p hj hp=>by
      rcases hE.new j _ hp with h1 | ⟨-,h1 | ⟨m,bm,km,h1,h2,-⟩⟩
      ·rw [hbd j hj] at h1;cases h1
      ·simpa using h1
      ·rw [(look_frz h1).1] at h2;cases h2
     exact hK c ρ O W' (funOut_ok hfo hlt hst hlow hH'.hp hfr hv) (fun p hp=>by cases hp) ⟨Sub.refl _,fun _ _ h=>.inl h,⟨hE.still.size,fun g hg hO=>⟨hO,hno g hg⟩,hE.still.shp⟩,fun g hO=>Nat.lt_of_lt_of_le (hlow g hO) hE.still.size,fun _ h _=>h,hE.str,fun g hg _=>hno g hg⟩
    ·split at h
     ·next u ob2 hro =>
      cases h
      obtain ⟨hob1,hob2⟩:=conj_append.1 hob
      intro ρ O a W K Q hlow he hrd _ _ hbd hinj hK
      refine key hob1 K Q ρ O a W hlow he hrd hbd hinj fun c ρ' O' W' hv hH' hE hno hOO hlt=>?_
      have hfr:∀ j p,bd≤j→ρ' j=some p→W.heap.size≤p.1:=fun j p hj hp=>by
       rcases hE.new j _ hp with h1 | ⟨-,h1 | ⟨m,bm,km,h1,h2,-⟩⟩
       ·rw [hbd j hj] at h1;cases h1
       ·simpa using h1
       ·rw [(look_frz h1).1] at h2;cases h2
      exact hK c ρ O W' (rowOut_ok hro hob2 hlow hOO hH'.hp hfr hv) (fun p hp=>by cases hp) ⟨Sub.refl _,fun _ _ h=>.inl h,⟨hE.still.size,fun g hg hO=>⟨hO,hno g hg⟩,hE.still.shp⟩,fun g hO=>Nat.lt_of_lt_of_le (hlow g hO) hE.still.size,fun _ h _=>h,hE.str,fun g hg _=>hno g hg⟩
     ·cases h
 ·cases h
theorem evDr_steps {call:CallF} (hcall:CallOk P call) {ext:List FuncId} {bd:Nat} {all:List Oper} {bits:List Nat}:∀ {l:List Oper} {recs:List Rc} {s s' : Sg} {orc orc' : List Value} {ob:List Prop},evDr P ext call bd all bits l recs s orc=some (s',orc',ob)→conj ob →
  ∃ (S:Nat→Sg) (F:Nat→Fx) (R:Nat→Rc) (run:Nat→Bool) (T1:Nat→List Value),S recs.length=s∧S (recs.length+l.length)=s' ∧ (∀ p x,recs[p]? = some x→R p=x) ∧
   ∀ k o,l[k]? = some o→StepOk P bd all o (S (recs.length+k)) (S (recs.length+k+1)) (run (recs.length+k)) (T1 (recs.length+k)) (F (recs.length+k)) (R (recs.length+k)) ∧
    ∀ p,p<recs.length+k→(bits.getD (recs.length+k) 0).testBit p=true∨noConf (R p) (R (recs.length+k))=true
 | [],recs,s,s',orc,orc',ob,h,_=>by
  simp only [evDr,Option.some.injEq,Prod.mk.injEq] at h
  obtain ⟨rfl,-,-⟩:=h
  exact ⟨fun _=>s,fun _=>⟨vUnk,[],[],0⟩,fun p=>recs.getD p ⟨[],[],[],[]⟩,fun _=>true,fun _=>[],rfl,rfl,fun p x hx=>by simp [List.getD_eq_getElem?_getD,hx],fun k o hk=>by simp at hk⟩
 | o::r,recs,s,s',orc,orc',ob,h,hob=>by
  simp only [evDr] at h
  split at h
  ·next run0 T10 orc1 ob1 hg =>
   split at h
   ·next fx orc2 ob2 hfx =>
    split at h
    ·next hc =>
     split at h
     ·next s2 orc3 ob3 hrec =>
      cases h
      simp only [Bool.and_eq_true] at hc
      obtain ⟨hb1,hb23⟩:=conj_append.1 hob
      obtain ⟨hb2,hb3⟩:=conj_append.1 hb23
      obtain ⟨S,F,R,run,T1,h1,h2,h3,h4⟩:=evDr_steps hcall hrec hb3
      have hlen:(recs++[(⟨gdTmp all o++opTmps o,o.dst.toList,fx.rd,fx.wr.map (·.1)⟩:Rc)]).length=recs.length+1:=by simp
      rw [hlen] at h1 h2 h4
      have hR:R recs.length=⟨gdTmp all o++opTmps o,o.dst.toList,fx.rd,fx.wr.map (·.1)⟩:=h3 _ _ (by simp)
      have hstep:StepOk P bd all o s ⟨putT T10 o.dst fx.v,applyW s.H fx.wr fx.nx⟩ run0 T10 fx ⟨gdTmp all o++opTmps o,o.dst.toList,fx.rd,fx.wr.map (·.1)⟩:=by
       refine ⟨fun ρ O W a ht=>evGd_wanted (ρ:=ρ) (O:=O) (W:=W) hg hb1 fun t htm v hv=>ht t (by simp [htm]) v hv,evGd_finer hg hb1,fun hr=>?_,fun hr=>?_,hc.1,fun t ht=>?_,rfl,rfl,rfl,rfl⟩
       ·subst hr
        simp only at hfx
        split at hfx
        ·next g args hi=>exact evInl_ok hcall hi hfx hb2
        ·exact evFx_ok hfx hb2
       ·subst hr
        simp only at hfx
        cases hfx;exact ⟨rfl,rfl⟩
       ·refine List.mem_append_right _ (List.mem_filterMap.2 ⟨.tmp t,Array.mem_toList_iff.2 ht,rfl⟩)
      refine ⟨fun k=>if k=recs.length then s else S k,fun k=>if k=recs.length then fx else F k,R,fun k=>if k=recs.length then run0 else run k,fun k=>if k=recs.length then T10 else T1 k,by simp,?_,fun p x hx=>h3 p x ?_,fun k o' hk=>?_⟩
      ·simp only [List.length_cons]
       rw [if_neg (by omega),show recs.length+(r.length+1)=recs.length+1+r.length by omega]
       exact h2
      ·rw [List.getElem?_append_left (List.getElem?_eq_some_iff.1 hx).1];exact hx
      ·cases k with
       | zero =>
        simp only [List.getElem?_cons_zero,Option.some.injEq] at hk
        subst hk
        simp only [Nat.add_zero,if_true,show ¬ recs.length+1=recs.length by omega,if_false]
        rw [h1,hR]
        refine ⟨hstep,fun p hp=>?_⟩
        have h5:=List.all_eq_true.1 hc.2 (recs[p],p) (List.mk_mem_zipIdx_iff_getElem?.2 (List.getElem?_eq_getElem hp))
        rw [h3 p recs[p] (by rw [List.getElem?_append_left hp];exact List.getElem?_eq_getElem hp)]
        simpa using h5
       | succ k =>
        have hk' : r[k]? = some o' := by simpa using hk
        have h5:=h4 k o' hk'
        rw [show recs.length+1+k=recs.length+(k+1) by omega] at h5
        simp only [show ¬ recs.length+(k+1)=recs.length by omega,show ¬ recs.length+(k+1)+1=recs.length by omega,if_false]
        exact h5
     ·cases h
    ·cases h
   ·cases h
  ·cases h
end
end
section
open Go.RowKit
theorem disj_spec {a b:List Nat} (h:disj a b=true) {x:Nat} (ha:x∈a) (hb:x∈b):False:=by
 have:=List.all_eq_true.1 (List.all_eq_true.1 h x ha) x hb
 simp at this
def Con (n:Nat) (ws:Nat→List Nat) (L:Array Bool) (x q:Nat):Prop:=∀ p,p<n→x∈ws p→(L.getD p false=true↔p<q)
section
variable {P:Program} {bd:Nat} {all l:List Oper} {S:Nat→Sg} {F:Nat→Fx} {R:Nat→Rc} {run:Nat→Bool} {T1:Nat→List Value}
structure Chain (P:Program) (bd:Nat) (all l:List Oper) (S:Nat→Sg) (F:Nat→Fx) (R:Nat→Rc) (run:Nat→Bool) (T1:Nat→List Value):Prop where
 st:∀ q o,l[q]? = some o→StepOk P bd all o (S q) (S (q+1)) (run q) (T1 q) (F q) (R q)
 cf:∀ q,q<l.length→∀ p,p<q→BefS all p q∨noConf (R p) (R q)=true
theorem Chain.at (h:Chain P bd all l S F R run T1) {q:Nat} (hq:q<l.length):StepOk P bd all l[q] (S q) (S (q+1)) (run q) (T1 q) (F q) (R q):=h.st q _ (List.getElem?_eq_getElem hq)
theorem Chain.con {ws us:Nat→List Nat} (h:Chain P bd all l S F R run T1) {L:Array Bool} (hc:Clo all L) {q:Nat} (hq:q<l.length) (hL:L.getD q false=false) (hr:Rdy all L q)
  (h1:∀ p x,noConf (R p) (R q)=true→x∈ws p→x∈us q→False) (h2:∀ p x,noConf (R q) (R p)=true→x∈us q→x∈ws p→False) {x:Nat} (hx:x∈us q):Con l.length ws L x q:=by
 intro p hp hxp
 rcases Nat.lt_trichotomy p q with hlt | heq | hgt
 ·rcases h.cf q hq p hlt with hb | hn
  ·exact ⟨fun _=>hlt,fun _=>hb L hc hr⟩
  ·exact (h1 p x hn hxp hx).elim
 ·subst heq
  exact ⟨(fun h' => by rw [hL] at h';cases h'),(fun h' => by omega)⟩
 ·refine ⟨fun h' => ?_,fun h' => by omega⟩
  rcases h.cf p hp q hgt with hb | hn
  ·have:=hb L hc fun o ho e he hbi=>hc p o ho h' e he hbi
   rw [hL] at this;cases this
  ·exact (h2 p x hn hx hxp).elim
theorem Chain.con_t (h:Chain P bd all l S F R run T1) {L:Array Bool} (hc:Clo all L) {q:Nat} (hq:q<l.length) (hL:L.getD q false=false) (hr:Rdy all L q) {t:Nat} (ht:t∈(R q).rt∨t∈(R q).wt):Con l.length (fun p=>(R p).wt) L t q:=by
 rcases ht with ht | ht
 ·refine h.con (us:=fun p=>(R p).rt) hc hq hL hr (fun p x hn h1 h2=>?_) (fun p x hn h1 h2=>?_) ht <;> simp only [noConf,Bool.and_eq_true] at hn
  ·exact disj_spec hn.1.1.1.1.1 h1 h2
  ·exact disj_spec hn.1.1.1.2 h1 h2
 ·refine h.con (us:=fun p=>(R p).wt) hc hq hL hr (fun p x hn h1 h2=>?_) (fun p x hn h1 h2=>?_) ht <;> simp only [noConf,Bool.and_eq_true] at hn
  ·exact disj_spec hn.1.1.1.1.2 h1 h2
  ·exact disj_spec hn.1.1.1.1.2 h1 h2
theorem Chain.con_d (h:Chain P bd all l S F R run T1) {L:Array Bool} (hc:Clo all L) {q:Nat} (hq:q<l.length) (hL:L.getD q false=false) (hr:Rdy all L q) {t:Nat} (ht:t∈(R q).rd∨t∈(R q).wd):Con l.length (fun p=>(R p).wd) L t q:=by
 rcases ht with ht | ht
 ·refine h.con (us:=fun p=>(R p).rd) hc hq hL hr (fun p x hn h1 h2=>?_) (fun p x hn h1 h2=>?_) ht <;> simp only [noConf,Bool.and_eq_true] at hn
  ·exact disj_spec hn.1.1.2 h1 h2
  ·exact disj_spec hn.2 h1 h2
 ·refine h.con (us:=fun p=>(R p).wd) hc hq hL hr (fun p x hn h1 h2=>?_) (fun p x hn h1 h2=>?_) ht <;> simp only [noConf,Bool.and_eq_true] at hn
  ·exact disj_spec hn.1.2 h1 h2
  ·exact disj_spec hn.1.2 h1 h2
theorem Chain.lenT (h:Chain P bd all l S F R run T1):∀ q,q≤l.length→(S q).T.length=(S 0).T.length
 | 0,_=>rfl
 | q+1,hq=>by
  have hs:=h.at (show q<l.length by omega)
  rw [hs.nxt,← h.lenT q (by omega)]
  have:(putT (T1 q) l[q].dst (F q).v).length=(T1 q).length:=by unfold putT;split <;> simp
  exact this.trans hs.fin.1
theorem Chain.lenH (h:Chain P bd all l S F R run T1) {q:Nat} (hq:q<l.length):(S (q+1)).H.length=(F q).nx∧(S q).H.length≤(F q).nx∧(F q).nx≤(S q).H.length+1:=by
 have hs:=h.at hq
 obtain ⟨-,h2,h3,-⟩:=wrOk_spec hs.wr
 exact ⟨by rw [hs.nxt];exact applyW_len h2,h2,h3⟩
theorem Chain.monoH (h:Chain P bd all l S F R run T1) {q:Nat}:∀ {q' : Nat},q≤q' → q' ≤ l.length→(S q).H.length≤(S q').H.length∧(S q').H.length≤(S q).H.length+(q' - q)
 | 0,h1,_=>by have:q=0:=(by omega);subst this;omega
 | q' + 1,h1,h2=>by
  by_cases e:q=q' + 1
  ·subst e;omega
  ·have h3:=h.monoH (q:=q) (q' := q') (by omega) (by omega)
   have h4:=h.lenH (q:=q') (by omega)
   omega
theorem Chain.stepT (h:Chain P bd all l S F R run T1) {q t:Nat} (hq:q<l.length) (ht:t∉(R q).wt) {v v' : Value} (hv:(S q).T[t]? = some v) (hv' : (S (q+1)).T[t]? = some v') {ρ:PMap} {O:Nat→Prop} {W:World} {c:Value} (hr:Rp ρ O W v c):Rp ρ O W v' c:=by
 have hs:=h.at hq
 rw [hs.nxt] at hv'
 rw [hs.wt] at ht
 have:(T1 q)[t]? = some v' := by
  unfold putT at hv'
  cases hd:l[q].dst with
  | none=>rw [hd] at hv';exact hv'
  | some d =>
   rw [hd] at hv' ht
   simp only [Option.toList,List.mem_singleton] at ht
   simp only [List.getElem?_set_ne (Ne.symm ht)] at hv'
   exact hv'
 exact hs.fin.2 t v v' hv this _ _ _ _ hr
theorem Chain.keepT (h:Chain P bd all l S F R run T1) {q t:Nat}:∀ {q' : Nat},q≤q' → q' ≤ l.length→(∀ p,q≤p→p<q' → t∉(R p).wt)→∀ {v v' : Value},(S q).T[t]? = some v→(S q').T[t]? = some v' → ∀ {ρ:PMap} {O:Nat→Prop} {W:World} {c:Value},Rp ρ O W v c→Rp ρ O W v' c
 | 0,h1,_,_,v,v',hv,hv',_,_,_,_,hr=>by
  have:q=0:=by omega
  subst this;rw [hv] at hv';cases hv';exact hr
 | q' + 1,h1,h2,h3,v,v',hv,hv',_,_,_,_,hr=>by
  by_cases e:q=q' + 1
  ·subst e;rw [hv] at hv';cases hv';exact hr
  ·have hl:t<(S q').T.length:=by
    rw [h.lenT q' (by omega),← h.lenT q (by omega)];exact (List.getElem?_eq_some_iff.1 hv).1
   exact h.stepT (by omega) (h3 q' (by omega) (by omega)) (List.getElem?_eq_getElem hl) hv' (h.keepT (by omega) (by omega) (fun p a b=>h3 p a (by omega)) hv (List.getElem?_eq_getElem hl) hr)
theorem Chain.stepH (h:Chain P bd all l S F R run T1) {q i:Nat} (hq:q<l.length) (hi:i∉(R q).wd):look (S (q+1)).H i=look (S q).H i:=by
 have hs:=h.at hq
 rw [hs.nxt]
 rw [hs.wd] at hi
 rcases look_applyW hs.wr i with ⟨-,h1⟩ | ⟨x,h1,-⟩
 ·exact h1
 ·exact absurd (List.mem_map.2 ⟨_,h1,rfl⟩) hi
theorem Chain.keepH (h:Chain P bd all l S F R run T1) {q i:Nat}:∀ {q' : Nat},q≤q' → q' ≤ l.length→(∀ p,q≤p→p<q' → i∉(R p).wd)→look (S q').H i=look (S q).H i
 | 0,h1,_,_=>by have:q=0:=(by omega);subst this;rfl
 | q' + 1,h1,h2,h3=>by
  by_cases e:q=q' + 1
  ·subst e;rfl
  ·rw [h.stepH (by omega) (h3 q' (by omega) (by omega))]
   exact h.keepH (by omega) (by omega) fun p a b=>h3 p a (by omega)
theorem Chain.live (h:Chain P bd all l S F R run T1) {i:Nat}:∀ {q:Nat},q≤l.length→∀ {b:Blk},look (S q).H i=some b→(∃ b0,look (S 0).H i=some b0∧(b.w=true→b0.w=true))∨(S 0).H.length≤i
 | 0,_,b,hb=>.inl ⟨b,hb,fun h=>h⟩
 | q+1,hq,b,hb=>by
  have hs:=h.at (show q<l.length by omega)
  rw [hs.nxt] at hb
  obtain ⟨-,-,-,h4⟩:=wrOk_spec hs.wr
  rcases look_applyW hs.wr i with ⟨-,h1⟩ | ⟨x,h1,-⟩
  ·exact h.live (by omega) (h1 ▸ hb)
  ·rcases h4 _ h1 with ⟨b',hb',hw⟩ | ⟨-,hb',-⟩
   ·rcases h.live (by omega) hb' with ⟨b0,h5,h6⟩ | h5
    ·exact .inl ⟨b0,h5,fun _=>h6 hw⟩
    ·exact .inr h5
   ·have hb'' : (S q).H.length≤i:=hb'
    have:=(h.monoH (q:=0) (q' := q) (by omega) (by omega)).1
    exact .inr (by omega)
theorem Chain.ro (h:Chain P bd all l S F R run T1) {i:Nat} {b:Blk} (hb:look (S 0).H i=some b) (hw:b.w=false):∀ {q:Nat},q≤l.length→look (S q).H i=some b
 | 0,_=>hb
 | q+1,hq=>by
  have hs:=h.at (show q<l.length by omega)
  have ih:=h.ro hb hw (q:=q) (by omega)
  rw [hs.nxt]
  obtain ⟨-,-,-,h4⟩:=wrOk_spec hs.wr
  rcases look_applyW hs.wr i with ⟨-,h1⟩ | ⟨x,h1,-⟩
  ·rw [h1];exact ih
  ·rcases h4 _ h1 with ⟨b',hb',hw'⟩ | ⟨hb',-⟩
   ·have hb'' : look (S q).H i=some b' := hb'
    rw [ih] at hb'';cases hb'';rw [hw] at hw';cases hw'
   ·have hb'' : look (S q).H i=none:=hb'
    rw [ih] at hb'';cases hb''
structure DInv (l:List Oper) (S:Nat→Sg) (F:Nat→Fx) (R:Nat→Rc) (ρ0:PMap) (O0:Nat→Prop) (W0:World) (L:Array Bool) (a:Act) (W:World) (ρ:PMap) (O:Nat→Prop):Prop where
 low:Low O W
 df:a.defers=[]
 sz:a.tmps.size=(S 0).T.length
 fresh:∀ q,q<l.length→L.getD q false=false→∀ i,(S q).H.length≤i→i<(F q).nx→ρ i=none
 bd:∀ i,(S l.length).H.length≤i→ρ i=none
 tm:∀ t q,q≤l.length→Con l.length (fun p=>(R p).wt) L t q→∀ v,(S q).T[t]? = some v→∃ c,a.tmps[t]? = some c∧Rp ρ O W v c
 hp:∀ i q,q≤l.length→Con l.length (fun p=>(R p).wd) L i q→HAt ρ O W i (look (S q).H i)
 inj:∀ i j q q' b b' g k k',q≤l.length→q' ≤ l.length→Con l.length (fun p=>(R p).wd) L i q→Con l.length (fun p=>(R p).wd) L j q' → look (S q).H i=some b→look (S q').H j=some b' → ρ i=some (g,k)→ρ j=some (g,k')→i=j
 sub:Sub ρ0 ρ
 new:∀ i p,ρ i=some p→ρ0 i=some p∨((S 0).H.length≤i∧(W0.heap.size≤p.1∨∃ j b k,look (S 0).H j=some b∧b.w=true∧ρ0 j=some (p.1,k)))
 still:Still O0 W0 O W
 keepO:∀ g,O0 g→(∀ i b,look (S 0).H i=some b→∀ k,ρ0 i≠some (g,k))→O g
 str:W.tape=W0.tape∧W.os=W0.os∧W.output=W0.output
 blk:∀ g,g<W0.heap.size→(∀ i b,look (S 0).H i=some b→b.w=true→∀ k,ρ0 i≠some (g,k))→W.heap[g]? = W0.heap[g]?
variable {ρ0:PMap} {O0:Nat→Prop} {W0:World}
theorem DInv.next (h:Chain P bd all l S F R run T1) (hH0:HConc ρ0 O0 (S 0).H W0) {L:Array Bool} {a:Act} {W:World} {ρ:PMap} {O:Nat→Prop} (hI:DInv l S F R ρ0 O0 W0 L a W ρ O) (hLs:l.length≤L.size) (hc:Clo all L) {q:Nat} (hq:q<l.length) (hL:L.getD q false=false) (hr:Rdy all L q)
  {c:Value} {ρ' : PMap} {O' : Nat→Prop} {W' : World} (hv:Rp ρ' O' W' (F q).v c) (hw:∀ p∈(F q).wr,HAt ρ' O' W' p.1 p.2) (hs:Step ρ O W ρ' O' W' ((F q).wr.map (·.1)) (kills (F q).wr) (S q).H.length (F q).nx) :
  DInv l S F R ρ0 O0 W0 (L.setIfInBounds q true) (a.put l[q].dst c) W' ρ' O' := by
 have hst:=h.at hq
 obtain ⟨hd1,hd2,hd3,hd4⟩:=wrOk_spec hst.wr
 obtain ⟨hx1,hx2,hx3⟩:=h.lenH hq
 have hm:=fun {x y:Nat} (h1:x≤y) (h2:y≤l.length)=>(h.monoH h1 h2).1
 have hLq:q<L.size:=by omega
 have hset:∀ p,(L.setIfInBounds q true).getD p false=(decide (p=q)||L.getD p false):=fun p=>getD_set hLq
 have hcT:=fun t (ht:t∈(R q).rt∨t∈(R q).wt)=>h.con_t hc hq hL hr ht
 have hcD:=fun t (ht:t∈(R q).rd∨t∈(R q).wd)=>h.con_d hc hq hL hr ht
 -- a resource that this one does not write is where it was;one that it writes is so from just behind it on
 have conOld:∀ {ws:Nat→List Nat} {x q' : Nat},x∉ws q→Con l.length ws (L.setIfInBounds q true) x q' → Con l.length ws L x q' := fun {ws x q'} hx hcon p hp hxp=>by
  have hpq:p≠q:=fun e=>hx (e ▸ hxp)
  have:=hcon p hp hxp
  rw [hset] at this
  simpa [hpq] using this
 have conNew:∀ {ws:Nat→List Nat} {x q' : Nat},x∈ws q→Con l.length ws L x q→Con l.length ws (L.setIfInBounds q true) x q' → q<q' ∧ ∀ p,q+1≤p→p<q' → p<l.length→x∉ws p:=fun {ws x q'} hx h1 h2=>by
  have h3:=h2 q hq hx
  rw [hset] at h3
  simp at h3
  refine ⟨h3,fun p hp1 hp2 hp hxp=>?_⟩
  have h4:=h2 p hp hxp
  rw [hset] at h4
  have hpq:p≠q:=by omega
  simp only [hpq,decide_false,Bool.false_or] at h4
  have h5:=(h1 p hp hxp).1 (h4.2 hp2)
  omega
 -- the class of a live block
 have cls:∀ i q' b g k,q' ≤ l.length→Con l.length (fun p=>(R p).wd) (L.setIfInBounds q true) i q' → look (S q').H i=some b→ρ' i=some (g,k) →
   (∃ q'' b0,q'' ≤ l.length∧Con l.length (fun p=>(R p).wd) L i q'' ∧ look (S q'').H i=some b0∧ρ i=some (g,k))∨((S q).H.length≤i∧i<(F q).nx∧(W.heap.size≤g∨∃ j∈kills (F q).wr,∃ k,ρ j=some (g,k))):=fun i q' b g k hq' hcon hlk hρ=>by
  by_cases hi:i∈(R q).wd
  ·obtain ⟨h1,h2⟩:=conNew (ws:=fun p=>(R p).wd) hi (hcD i (.inr hi)) hcon
   rw [hst.wd] at hi
   obtain ⟨p,hp,rfl⟩:=List.mem_map.1 hi
   rcases hd4 p hp with ⟨b',hb',-⟩ | ⟨-,hb',hb''⟩
   ·refine .inl ⟨q,b',by omega,hcD _ (.inr (by rw [hst.wd];exact hi)),hb',?_⟩
    rcases hs.new _ _ hρ with h3 | ⟨h3,-⟩
    ·exact h3
    ·have:=look_lt hb';omega
   ·rcases hs.new _ _ hρ with h3 | ⟨-,-,h3⟩
    ·rw [hI.fresh q hq hL _ hb' hb''] at h3;cases h3
    ·exact .inr ⟨hb',hb'',h3⟩
  ·have hco:=conOld (ws:=fun p=>(R p).wd) hi hcon
   rcases hs.new _ _ hρ with h3 | ⟨h3,h4,h5⟩
   ·exact .inl ⟨q',b,hq',hco,hlk,h3⟩
   ·exact .inr ⟨h3,h4,h5⟩
 have hblk:∀ i q' b g k,q' ≤ l.length→Con l.length (fun p=>(R p).wd) L i q' → look (S q').H i=some b→ρ i=some (g,k)→O g∧BlkAt ρ O W g b∧k=b.k:=fun i q' b g k h1 h2 h3 h4=>by
  have:=hI.hp i q' h1 h2
  rw [h3] at this
  obtain ⟨g',hg',hO,hB⟩:=this
  rw [h4] at hg';cases hg'
  exact ⟨hO,hB,rfl⟩
 have hkill:∀ j∈kills (F q).wr,(j,none)∈(F q).wr:=fun j hj=>by
  obtain ⟨p,hp,rfl⟩:=List.mem_map.1 hj
  obtain ⟨hp1,hp2⟩:=List.mem_filter.1 hp
  have:p=(p.1,none):=by obtain ⟨a,b⟩:=p;cases b <;> simp_all
  rw [← this];exact hp1
 have killW:∀ j∈kills (F q).wr,∀ p,ρ j=some p→∃ b,look (S q).H j=some b∧b.w=true:=fun j hj p hp=>by
  rcases hd4 _ (hkill j hj) with h | ⟨-,h,h'⟩
  ·exact h
  ·rw [hI.fresh q hq hL j h h'] at hp;cases hp
 -- the blocks that this one writes,as they lay
 have wsNo:∀ g,(∀ i b,look (S 0).H i=some b→b.w=true→∀ k,ρ0 i≠some (g,k))→g<W0.heap.size→∀ i∈(F q).wr.map (·.1),∀ k,ρ i≠some (g,k):=fun g hno hg i hi k hk=>by
  obtain ⟨p,hp,rfl⟩:=List.mem_map.1 hi
  rcases hd4 p hp with ⟨b',hb',hbw⟩ | ⟨-,hb',hb''⟩
  ·rcases h.live (by omega) hb' with ⟨b0,h5,h6⟩ | h5
   ·rcases hI.new _ _ hk with h7 | ⟨h7,-⟩
    ·exact hno _ b0 h5 (h6 hbw) k h7
    ·have:=look_lt h5;omega
   ·rcases hI.new _ _ hk with h7 | ⟨-,h7 | ⟨j,bj,kj,h7,h8,h9⟩⟩
    ·rw [hH0.fr _ h5] at h7;cases h7
    ·simp at h7;omega
    ·exact hno j bj h7 h8 kj h9
  ·rw [hI.fresh q hq hL _ hb' hb''] at hk;cases hk
 refine ⟨hs.low,?_,?_,fun q' hq' hL' i h1 h2=>?_,fun i hi=>?_,fun t q' hq' hcon v hvt=>?_,fun i q' hq' hcon=>?_,fun i j q1 q2 b b' g k k' hq1 hq2 hc1 hc2 hl1 hl2 hr1 hr2=>?_,hI.sub.trans hs.sub,fun i p hp=>?_,hI.still.trans hs.still,fun g hg hno=>?_,⟨hs.str.1.trans hI.str.1,hs.str.2.1.trans hI.str.2.1,hs.str.2.2.trans hI.str.2.2⟩,fun g hg hno=>?_⟩
 ·have:=hI.df
  unfold Act.put;split <;> exact this
 ·have:=hI.sz
  unfold Act.put;split <;> simpa using this
 ·rw [hset] at hL'
  simp only [Bool.or_eq_false_iff,decide_eq_false_iff_not] at hL'
  have h3:=hI.fresh q' hq' hL'.2 i h1 h2
  cases hh:ρ' i with
  | none=>rfl
  | some p =>
   rcases hs.new i p hh with h4 | ⟨h4,h5,-⟩
   ·rw [h3] at h4;cases h4
   ·rcases Nat.lt_or_ge q q' with h6 | h6
    ·have:=hm (x:=q+1) (y:=q') (by omega) (by omega);omega
    ·have h7:q' < q:=by have:=hL'.1;omega
     have:=hm (x:=q' + 1) (y:=q) (by omega) (by omega)
     have:=(h.lenH hq').1;omega
 ·cases hh:ρ' i with
  | none=>rfl
  | some p =>
   rcases hs.new i p hh with h4 | ⟨-,h5,-⟩
   ·rw [hI.bd i hi] at h4;cases h4
   ·have:=hm (x:=q+1) (y:=l.length) (by omega) (by omega);omega
 ·by_cases ht:t∈(R q).wt
  ·obtain ⟨h1,h2⟩:=conNew (ws:=fun p=>(R p).wt) ht (hcT t (.inr ht)) hcon
   have hwt:=hst.wt
   cases hd:l[q].dst with
   | none=>rw [hwt,hd] at ht;simp at ht
   | some d =>
    rw [hwt,hd] at ht
    have htd:t=d:=by simpa [Option.toList] using ht
    subst htd
    have htl:t<(S 0).T.length:=by rw [← h.lenT q' hq'];exact (List.getElem?_eq_some_iff.1 hvt).1
    have h3:(S (q+1)).T[t]? = some (F q).v:=by
     rw [hst.nxt,hd]
     have:t<(T1 q).length:=by rw [hst.fin.1,h.lenT q (by omega)];exact htl
     simp [putT,this]
    exact ⟨c,by simp [Act.put,hI.sz,htl],h.keepT (by omega) hq' (fun p a b=>h2 p a b (by omega)) h3 hvt hv⟩
  ·obtain ⟨c',hc',hr'⟩:=hI.tm t q' hq' (conOld (ws:=fun p=>(R p).wt) ht hcon) v hvt
   refine ⟨c',?_,hr'.mono hs.still hs.sub⟩
   rw [hst.wt] at ht
   cases hd:l[q].dst with
   | none=>exact hc'
   | some d =>
    rw [hd] at ht
    have htd:d≠t:=by intro e;subst e;simp [Option.toList] at ht
    simp only [Act.put,Array.getElem?_setIfInBounds,if_neg htd]
    exact hc'
 ·by_cases hi:i∈(R q).wd
  ·obtain ⟨h1,h2⟩:=conNew (ws:=fun p=>(R p).wd) hi (hcD i (.inr hi)) hcon
   rw [h.keepH (show q+1≤q' by omega) hq' fun p a b=>h2 p a b (by omega),hst.nxt]
   rw [hst.wd] at hi
   rcases look_applyW hst.wr i with ⟨h3,-⟩ | ⟨x,h3,h4⟩
   ·exact absurd hi h3
   ·rw [h4];exact hw _ h3
  ·have hco:=conOld (ws:=fun p=>(R p).wd) hi hcon
   have:=hI.hp i q' hq' hco
   cases hl:look (S q').H i with
   | none=>trivial
   | some b =>
    rw [hl] at this
    obtain ⟨g,hg,hO,hB⟩:=this
    have hno:∀ j∈(F q).wr.map (·.1),∀ k,ρ j≠some (g,k):=fun j hj k hk=>by
     obtain ⟨p,hp,rfl⟩:=List.mem_map.1 hj
     rcases hd4 p hp with ⟨b',hb',-⟩ | ⟨-,hb',hb''⟩
     ·have:=hI.inj i p.1 q' q b b' g _ _ hq' (by omega) hco (hcD _ (.inr (by rw [hst.wd];exact hj))) hl hb' hg hk
      subst this
      rw [hst.wd] at hi;exact hi hj
     ·rw [hI.fresh q hq hL _ hb' hb''] at hk;cases hk
    exact ⟨g,hs.sub _ _ hg,hs.keepO g hO hno,hB.mono hs.still hs.sub (hs.blk g hB.lt hno)⟩
 ·have apart:∀ i q1 b g k qa ba,q1≤l.length→Con l.length (fun p=>(R p).wd) (L.setIfInBounds q true) i q1→look (S q1).H i=some b→qa≤l.length→Con l.length (fun p=>(R p).wd) L i qa→look (S qa).H i=some ba→ρ i=some (g,k)→(W.heap.size≤g∨∃ j∈kills (F q).wr,∃ k,ρ j=some (g,k))→False:=fun i q1 b g k qa ba hq1 hc1 hl1 h1 h2 h3 h4 h5=>by
   rcases h5 with h5 | ⟨m,hm,km,h5⟩
   ·have:=(hblk i qa ba g k h1 h2 h3 h4).2.1.lt;omega
   ·obtain ⟨bm,hbm,-⟩:=killW m hm _ h5
    have hmd:m∈(R q).wd:=by rw [hst.wd];exact List.mem_map.2 ⟨_,hkill m hm,rfl⟩
    have:=hI.inj i m qa q ba bm g k km h1 (by omega) h2 (hcD m (.inr hmd)) h3 hbm h4 h5
    subst this
    obtain ⟨h6,h7⟩:=conNew (ws:=fun p=>(R p).wd) hmd (hcD i (.inr hmd)) hc1
    rw [h.keepH (show q+1≤q1 by omega) hq1 fun p a b=>h7 p a b (by omega),hst.nxt] at hl1
    have h11:look (applyW (S q).H (F q).wr (F q).nx) i=none:=look_setAll_mem hd1 (hkill i hm) (by have:=look_lt hbm;simp;omega)
    have hl1' : look (applyW (S q).H (F q).wr (F q).nx) i=some b:=hl1
    rw [h11] at hl1';cases hl1'
  rcases cls i q1 b g k hq1 hc1 hl1 hr1 with ⟨qa,ba,h1,h2,h3,h4⟩ | h1 <;> rcases cls j q2 b' g k' hq2 hc2 hl2 hr2 with ⟨qb,bb,h5,h6,h7,h8⟩ | h5
  ·exact hI.inj i j qa qb ba bb g k k' h1 h5 h2 h6 h3 h7 h4 h8
  ·exact (apart i q1 b g k qa ba hq1 hc1 hl1 h1 h2 h3 h4 h5.2.2).elim
  ·exact (apart j q2 b' g k' qb bb hq2 hc2 hl2 h5 h6 h7 h8 h1.2.2).elim
  ·omega
 ·rcases hs.new i p hp with h1 | ⟨h1,-,h3⟩
  ·exact hI.new i p h1
  ·have:=hm (x:=0) (y:=q) (by omega) (by omega)
   refine .inr ⟨by omega,?_⟩
   rcases h3 with h3 | ⟨j,hj,kj,h3⟩
   ·exact .inl (Nat.le_trans hI.still.size h3)
   ·obtain ⟨bj,hbj,hbw⟩:=killW j hj _ h3
    rcases hI.new _ _ h3 with h4 | ⟨-,h4⟩
    ·rcases h.live (by omega) hbj with ⟨b0,h5,h6⟩ | h5
     ·exact .inr ⟨j,b0,kj,h5,h6 hbw,h4⟩
     ·rw [hH0.fr _ h5] at h4;cases h4
    ·exact h4
 ·exact hs.keepO g (hI.keepO g hg hno) (wsNo g (fun i b hb _=>hno i b hb) (hH0.low g hg))
 ·rw [hs.blk g (Nat.lt_of_lt_of_le hg hI.still.size) (wsNo g hno hg)]
  exact hI.blk g hg hno
theorem Chain.dinit (h:Chain P bd all l S F R run T1) {a:Act} (hH:HConc ρ0 O0 (S 0).H W0) (hT:TConc ρ0 O0 (S 0).T a W0) {L:Array Bool} (f0:∀ p,p<l.length→L.getD p false=false):DInv l S F R ρ0 O0 W0 L a { W0 with drawn:=W0.drawn+1 } ρ0 O0:=by
 have mono0:=fun {y:Nat} (h2:y≤l.length)=>h.monoH (q:=0) (Nat.zero_le y) h2
 have none_:∀ {ws:Nat→List Nat} {x q:Nat},Con l.length ws L x q→∀ p,0≤p→p<q→q≤l.length→x∉ws p:=fun hcon p _ hp hq hx=>by
  have:=(hcon p (by omega) hx).2 hp
  rw [f0 p (by omega)] at this;cases this
 have sE:Still O0 W0 O0 { W0 with drawn:=W0.drawn+1 }:=⟨Nat.le_refl _,fun g _ hO=>⟨hO,rfl⟩,Shp.of_same fun _ _=>rfl⟩
 refine ⟨hH.low,hT.df,hT.sz,fun q hq _ i h1 _=>hH.fr i (Nat.le_trans (mono0 (by omega)).1 h1),fun i hi=>hH.fr i (Nat.le_trans (mono0 (Nat.le_refl _)).1 hi),fun t q hq hcon v hv=>?_,fun i q hq hcon=>?_,fun i j q q' b b' g k k' hq hq' hc1 hc2 h1 h2 h3 h4=>?_,Sub.refl _,fun i p hp=>.inl hp,sE,fun g hg _=>hg,⟨rfl,rfl,rfl⟩,fun g _ _=>rfl⟩
 ·have htl:t<(S 0).T.length:=by rw [← h.lenT q hq];exact (List.getElem?_eq_some_iff.1 hv).1
  obtain ⟨c,hc,hr⟩:=hT.tm t _ (List.getElem?_eq_getElem htl)
  exact ⟨c,hc,(h.keepT (Nat.zero_le q) hq (fun p a b=>none_ (ws:=fun p=>(R p).wt) hcon p a b hq) (List.getElem?_eq_getElem htl) hv hr).mono sE (Sub.refl _)⟩
 ·rw [h.keepH (Nat.zero_le q) hq fun p a b=>none_ (ws:=fun p=>(R p).wd) hcon p a b hq]
  have:=hH.hp i
  cases hl:look (S 0).H i with
  | none=>trivial
  | some b =>
   rw [hl] at this
   obtain ⟨g,hg,hO,hB⟩:=this
   exact ⟨g,hg,hO,hB.mono sE (Sub.refl _) rfl⟩
 ·rw [h.keepH (Nat.zero_le q) hq fun p a b=>none_ (ws:=fun p=>(R p).wd) hc1 p a b hq] at h1
  rw [h.keepH (Nat.zero_le q') hq' fun p a b=>none_ (ws:=fun p=>(R p).wd) hc2 p a b hq'] at h2
  exact hH.inj i j b b' g k k' h1 h2 h3 h4
theorem Chain.dstep {Q:Exit→Act→World→Prop} (h:Chain P bd all l S F R run T1) (hbd:(S 0).H.length+l.length≤bd) (hH:HConc ρ0 O0 (S 0).H W0) {L:Array Bool} {a:Act} {W:World} {ρ:PMap} {O:Nat→Prop} (hI:DInv l S F R ρ0 O0 W0 L a W ρ O) (hLs:l.length≤L.size) (hc:Clo all L) {q:Nat} (hql:q<l.length) (hq:all[q]? = some l[q]) (hL' : L.getD q false=false) (hr' : Rdy all L q)
  {K:Act→World→Prop} (hK:∀ a' W' ρ' O',DInv l S F R ρ0 O0 W0 (L.setIfInBounds q true) a' W' ρ' O' → K a' W'):wpOp P all.toArray Q q K a W:=by
 have mono0:=fun {y:Nat} (h2:y≤l.length)=>h.monoH (q:=0) (Nat.zero_le y) h2
 have hst:=h.at hql
 have hcT:=fun t (ht:t∈(R q).rt∨t∈(R q).wt)=>h.con_t hc hql hL' hr' ht
 have hcD:=fun t (ht:t∈(R q).rd∨t∈(R q).wd)=>h.con_d hc hql hL' hr' ht
 have hwant:=hst.want ρ O W a fun t ht v hv=>hI.tm t q (by omega) (hcT t (.inl ht)) v hv
 have hi' : all.toArray[q]? = some l[q]:=by simpa using hq
 unfold wpOp
 simp only [hi',hwant]
 cases hrun:run q with
 | false =>
  obtain ⟨h1,h2⟩:=hst.skip hrun
  simp only [Bool.false_eq_true,if_false]
  obtain ⟨-,h3,h4,-⟩:=wrOk_spec hst.wr
  refine hK _ _ ρ O ?_
  refine hI.next h hH hLs hc hql hL' hr' (c:=undef) (by rw [h1];exact rp_tuple.2 ⟨#[],rfl,rfl,fun i x hx=>by simp at hx⟩) (by rw [h2];intro p hp;cases hp) ?_
  exact ⟨Sub.refl _,fun _ _ h=>.inl h,Still.refl _ _,hI.low,fun _ h _=>h,⟨rfl,rfl,rfl⟩,fun _ _ _=>rfl⟩
 | true =>
  simp only [if_true]
  left
  refine hst.act hrun ρ O a W _ _ hI.low (fun x hx=>?_) (fun i hi=>hI.hp i q (by omega) (hcD i (.inl (by rw [hst.rd];exact hi)))) (fun p hp=>hI.hp p.1 q (by omega) (hcD p.1 (.inr (by rw [hst.wd];exact List.mem_map.2 ⟨p,hp,rfl⟩)))) (fun i h1 h2=>hI.fresh q hql hL' i h1 h2) (fun i hi=>hI.bd i ?_) (fun i hi j hj b b' g k k' h1 h2 h3 h4=>?_) fun c ρ' O' W' hv hw hs=>hK _ _ ρ' O' ?_
  ·cases x with
   | tmp t =>
    show Rp ρ O W (((T1 q)[t]?).getD vUnk) (a.tmps.getD t undef)
    cases ht:(T1 q)[t]? with
    | none=>exact rp_unk _
    | some v1 =>
     have htl:t<(S q).T.length:=by rw [← hst.fin.1];exact (List.getElem?_eq_some_iff.1 ht).1
     obtain ⟨c,hc',hr''⟩:=hI.tm t q (by omega) (hcT t (.inl (hst.rt t hx))) _ (List.getElem?_eq_getElem htl)
     have:=hst.fin.2 t _ v1 (List.getElem?_eq_getElem htl) ht _ _ _ _ hr''
     simpa [hc'] using this
   | const v=>exact rp_absC v
   | global g=>exact rp_unk _
   | func f=>exact rp_func.2 ⟨#[],#[],rfl,⟨rfl,fun i x hx=>by simp at hx⟩,⟨rfl,fun i x hx=>by simp at hx⟩⟩
  ·have:=(mono0 (Nat.le_refl l.length)).2;omega
  ·exact hI.inj i j q q b b' g k k' (by omega) (by omega) (hcD i (.inl (by rw [hst.rd];exact hi))) (hcD j (.inl (by rw [hst.rd];exact hj))) h1 h2 h3 h4
  ·exact hI.next h hH hLs hc hql hL' hr' hv hw hs
theorem Chain.dend (h:Chain P bd all l S F R run T1) {L:Array Bool} {a:Act} {W:World} {ρ:PMap} {O:Nat→Prop} (hI:DInv l S F R ρ0 O0 W0 L a W ρ O) (t0:∀ p,p<l.length→L.getD p false=true):HConc ρ O (S l.length).H W∧TConc ρ O (S l.length).T a W∧Ext ρ0 O0 (S 0).H W0 ρ O (S l.length).H W:=by
 have mono0:=fun {y:Nat} (h2:y≤l.length)=>h.monoH (q:=0) (Nat.zero_le y) h2
 have all_:∀ {ws:Nat→List Nat} {x:Nat},Con l.length ws L x l.length:=fun p hp _=>⟨fun _=>hp,fun _=>t0 p hp⟩
 exact ⟨⟨hI.low,hI.bd,fun i=>hI.hp i _ (Nat.le_refl _) all_,fun i j b b' g k k' => hI.inj i j _ _ b b' g k k' (Nat.le_refl _) (Nat.le_refl _) all_ all_⟩,⟨hI.df,by rw [h.lenT _ (Nat.le_refl _)];exact hI.sz,fun t v hv=>hI.tm t _ (Nat.le_refl _) all_ v hv⟩,
  ⟨hI.sub,hI.new,hI.still,hI.keepO,fun i b hb=>h.live (Nat.le_refl _) hb,hI.str,hI.blk,fun i b hb hw=>h.ro hb hw (Nat.le_refl _),(mono0 (Nat.le_refl _)).1⟩⟩
theorem getD_ft {L:Array Bool} {q:Nat} (hq:q<L.size) (hL:L.getD q true=false):L.getD q false=false:=by simpa [Array.getD,hq] using hL
theorem Chain.region {id:Nat} {Q:Exit→Act→World→Prop} (h:Chain P bd l l S F R run T1) (hbd:(S 0).H.length+l.length≤bd) (hm:P.follows .mixedOrders=true) (ha:acyc l=true) {a:Act} (hH:HConc ρ0 O0 (S 0).H W0) (hT:TConc ρ0 O0 (S 0).T a W0)
  (hK:∀ ρ' O' a' W',HConc ρ' O' (S l.length).H W' → TConc ρ' O' (S l.length).T a' W' → Ext ρ0 O0 (S 0).H W0 ρ' O' (S l.length).H W' → Q .normal a' W'):(Code.region id l.toArray true).wp P Q a W0:=by
 refine wp_region_inv (fun L a W=>Clo l L∧∃ ρ O,DInv l S F R ρ0 O0 W0 L a W ρ O) hm ha ⟨fun k o hk hl=>?_,ρ0,O0,h.dinit hH hT fun p hp=>by simp [Array.getD,hp]⟩ (fun L a W q o hLs hI hq hL hr=>?_) (fun a W hI=>?_)
 ·have:k<l.length:=(List.getElem?_eq_some_iff.1 hk).1
  simp [Array.getD,this] at hl
 ·obtain ⟨hc,ρ,O,hI⟩:=hI
  have hql:q<l.length:=(List.getElem?_eq_some_iff.1 hq).1
  have hoq:l[q]=o:=by have:=List.getElem?_eq_getElem hql;rw [hq] at this;exact (Option.some.inj this).symm
  have hr' : Rdy l L q:=fun o' ho' e he hb=>by rw [hq] at ho';cases ho';exact hr e he hb
  exact h.dstep hbd hH hI (by omega) hc hql (List.getElem?_eq_getElem hql) (getD_ft (by omega) hL) hr' fun a' W' ρ' O' hI' => ⟨hc.set (by omega) hr',ρ',O',hI'⟩
 ·obtain ⟨-,ρ,O,hI⟩:=hI
  obtain ⟨h1,h2,h3⟩:=h.dend hI fun p hp=>by simp [Array.getD,hp]
  exact hK ρ O a W h1 h2 h3
theorem evOp_at {ext:List FuncId} {call:CallF} (hcall:CallOk P call) {o:Oper} {s s' : Sg} {orc orc' : List Value} {ob:List Prop} (h:evOp P ext call all o s orc=some (s',orc',ob)) (hob:conj ob) {i:Nat} (hi:all[i]? = some o) {ρ:PMap} {O:Nat→Prop} {a:Act} {W:World} (hH:HConc ρ O s.H W) (hT:TConc ρ O s.T a W) {Q:Exit→Act→World→Prop} {K:Act→World→Prop}
  (hK:∀ ρ' O' a' W',HConc ρ' O' s'.H W' → TConc ρ' O' s'.T a' W' → Ext ρ O s.H W ρ' O' s'.H W' → K a' W'):wpOp P all.toArray Q i K a W:=by
 have hi' : all.toArray[i]? = some o:=by simpa using hi
 unfold evOp at h
 split at h
 ·next run T1 orc1 ob1 hg =>
  have hfin:∀ {ob2},conj (ob1++ob2)→Finer s.T T1:=fun h=>evGd_finer hg (conj_append.1 h).1
  have hwant:∀ {ob2},conj (ob1++ob2)→Region.wanted o (yielded all.toArray a.tmps)=run:=fun h=>evGd_wanted (ρ:=ρ) (O:=O) (W:=W) hg (conj_append.1 h).1 (fun t _ v hv=>hT.tm t v hv)
  split at h
  ·cases h
   have hob' : conj (ob++[]):=by simpa using hob
   unfold wpOp
   simp only [hi',hwant hob',Bool.false_eq_true,if_false]
   exact hK ρ O _ W hH (tconc_put ((hfin hob').conc hT) o.dst (rp_tuple.2 ⟨#[],rfl,rfl,fun i x hx=>by simp at hx⟩)) (Ext.refl _ _ _ _)
  ·split at h
   ·next g args hin =>
    split at h
    ·next v H' orc2 ob2 hc =>
     cases h
     obtain ⟨fo,xs,ats,fs,cs,ho,hfo,hok,rfl⟩:=inlOf_spec hin
     have hT1:=(hfin hob).conc hT
     obtain ⟨ys,us,hfv,hat⟩:=args_at (T:=T1) ho hfo (fun x _=>rp_eo hT1 x)
     unfold wpOp
     simp only [hi',hwant hob,if_true]
     left
     refine upon_enter' (run_call ho hfv hok) ((hcall _ _ _ _ _ _ _ _ hc (conj_append.1 hob).2 ρ O W _ hH hat).mono ?_)
     rintro e W' ⟨c,ρ',O',rfl,hv,hH',hE⟩
     exact ⟨c,rfl,hK ρ' O' _ W' hH' (tconc_put (hT1.mono hE.still hE.sub) o.dst hv) hE⟩
    ·cases h
   ·split at h
    ·next fx orc2 ob2 hfx =>
     split at h
     ·next hw =>
      cases h
      unfold wpOp
      simp only [hi',hwant hob,if_true]
      left
      exact seq_do (evFx_ok hfx (conj_append.1 hob).2) hw hH ((hfin hob).conc hT) hK
     ·cases h
    ·cases h
 ·cases h
theorem evDr_ok {call:CallF} (hcall:CallOk P call) {ext:List FuncId} {s s' : Sg} {orc orc' : List Value} {ob:List Prop} (hm:P.follows .mixedOrders=true) (ha:acyc l=true) (h:evDr P ext call (s.H.length+l.length) l (befs l []) l [] s orc=some (s',orc',ob)) (hob:conj ob)
  {id:Nat} {Q:Exit→Act→World→Prop} {a:Act} (hH:HConc ρ0 O0 s.H W0) (hT:TConc ρ0 O0 s.T a W0) (hK:∀ ρ' O' a' W',HConc ρ' O' s'.H W' → TConc ρ' O' s'.T a' W' → Ext ρ0 O0 s.H W0 ρ' O' s'.H W' → Q .normal a' W'):(Code.region id l.toArray true).wp P Q a W0:=by
 obtain ⟨S,F,R,run,T1,h1,h2,-,h4⟩:=evDr_steps hcall h hob
 simp only [List.length_nil,Nat.zero_add] at h1 h2 h4
 subst h1 h2
 have hC:Chain P ((S 0).H.length+l.length) l l S F R run T1:=⟨fun q o ho=>(h4 q o ho).1,fun q hq p hp=>((h4 q _ (List.getElem?_eq_getElem hq)).2 p hp).imp (befs_spec l [] [] rfl rfl (fun q p hb=>by simp at hb) q p) (fun h=>h)⟩
 exact hC.region (Nat.le_refl _) hm ha hH hT hK
theorem evDrL_ok {call:CallF} (hcall:CallOk P call) {ext:List FuncId} {s s' : Sg} {orc orc' : List Value} {ob:List Prop} (hm:P.follows .mixedOrders=true) (ha:acyc l=true) (hl:lastE P l=true) (h:evDrL P ext call l s orc=some (s',orc',ob)) (hob:conj ob)
  {id:Nat} {Q:Exit→Act→World→Prop} {a:Act} (hH:HConc ρ0 O0 s.H W0) (hT:TConc ρ0 O0 s.T a W0) (hK:∀ ρ' O' a' W',HConc ρ' O' s'.H W' → TConc ρ' O' s'.T a' W' → Ext ρ0 O0 s.H W0 ρ' O' s'.H W' → Q .normal a' W'):(Code.region id l.toArray true).wp P Q a W0:=by
 unfold evDrL at h
 split at h
 ·next o ho =>
  split at h
  ·next s1 orc1 ob1 h1 =>
   split at h
   ·next s2 orc2 ob2 h2 =>
    cases h
    obtain ⟨hb1,hb2⟩:=conj_append.1 hob
    have el:l.dropLast++[o]=l:=by
     obtain ⟨h7,h8⟩:=List.getLast?_eq_some_iff.1 ho
     rw [h8];simp
    have elen:l.length=l.dropLast.length+1:=by rw [← el];simp
    obtain ⟨S,F,R,run,T1,e1,e2,-,h4⟩:=evDr_steps hcall h1 hb1
    simp only [List.length_nil,Nat.zero_add] at e1 e2 h4
    subst e1 e2
    have hat:∀ q (hq:q<l.dropLast.length),l[q]? = some l.dropLast[q]:=fun q hq=>by
     have:(l.dropLast++[o])[q]? = some l.dropLast[q]:=by rw [List.getElem?_append_left hq];exact List.getElem?_eq_getElem hq
     rwa [el] at this
    have hlo:l[l.dropLast.length]? = some o:=by
     have:(l.dropLast++[o])[l.dropLast.length]? = some o:=by rw [List.getElem?_append_right (Nat.le_refl _)];simp
     rwa [el] at this
    have hbef:∀ q p,((befs l []).getD q 0).testBit p=true→BefS l p q:=befs_spec l [] [] rfl rfl (fun q p hb=>by simp at hb)
    have hC:Chain P ((S 0).H.length+l.length) l l.dropLast S F R run T1:=⟨fun q o ho=>(h4 q o ho).1,fun q hq p hp=>((h4 q _ (List.getElem?_eq_getElem hq)).2 p hp).imp (hbef q p) (fun h=>h)⟩
    have hlast:∀ p,p<l.dropLast.length→BefS l p l.dropLast.length:=fun p hp=>by
     unfold lastE at hl
     rw [ho] at hl
     simp only [Bool.and_eq_true] at hl
     have h5:=List.all_eq_true.1 hl.2 p (List.mem_range.2 (by omega))
     rw [show l.length - 1=l.dropLast.length by omega] at h5
     exact hbef _ _ h5
    refine wp_region_inv (fun L a W=>Clo l L∧((L.getD l.dropLast.length false=false∧∃ ρ O,DInv l.dropLast S F R ρ0 O0 W0 L a W ρ O)∨((∀ p,p<l.length→L.getD p false=true)∧∃ ρ O,HConc ρ O s'.H W∧TConc ρ O s'.T a W∧Ext ρ0 O0 (S 0).H W0 ρ O s'.H W))) hm ha ⟨fun k o hk hl=>?_,.inl ⟨?_,ρ0,O0,hC.dinit hH hT fun p hp=>?_⟩⟩ (fun L a W q o' hLs hI hq hL hr=>?_) (fun a W hI=>?_)
    ·have:k<l.length:=(List.getElem?_eq_some_iff.1 hk).1
     simp [Array.getD,this] at hl
    ·simp [Array.getD,show l.dropLast.length<l.length by omega]
    ·simp [Array.getD,show p<l.length by omega]
    ·obtain ⟨hc,hI⟩:=hI
     have hql:q<l.length:=(List.getElem?_eq_some_iff.1 hq).1
     have hL' := getD_ft (show q<L.size by omega) hL
     have hr' : Rdy l L q:=fun o' ho' e he hb=>by rw [hq] at ho';cases ho';exact hr e he hb
     rcases hI with ⟨hL0,ρ,O,hI⟩ | ⟨hall,-⟩
     ·by_cases hqn:q<l.dropLast.length
      ·refine hC.dstep (by omega) hH hI (by omega) hc hqn (hat q hqn) hL' hr' fun a' W' ρ' O' hI' => ⟨hc.set (by omega) hr',.inl ⟨?_,ρ',O',hI'⟩⟩
       rw [getD_set (show q<L.size by omega),hL0]
       simp;omega
      ·obtain rfl:q=l.dropLast.length:=by omega
       rw [hlo] at hq;cases hq
       have hdone:∀ p,p<l.dropLast.length→L.getD p false=true:=fun p hp=>hlast p hp L hc hr'
       obtain ⟨g1,g2,g3⟩:=hC.dend hI hdone
       refine evOp_at hcall h2 hb2 hlo g1 g2 fun ρ' O' a' W' g4 g5 g6=>⟨hc.set (by omega) hr',.inr ⟨fun p hp=>?_,ρ',O',g4,g5,g3.trans g6 hH⟩⟩
       rw [getD_set (show l.dropLast.length<L.size by omega)]
       by_cases e:p=l.dropLast.length
       ·simp [e]
       ·rw [hdone p (by omega)];simp
     ·rw [hall q hql] at hL';cases hL'
    ·obtain ⟨-,hI⟩:=hI
     rcases hI with ⟨hL0,-⟩ | ⟨-,ρ,O,g1,g2,g3⟩
     ·simp [Array.getD] at hL0;omega
     ·exact hK ρ O a W g1 g2 g3
   ·cases h
  ·cases h
 ·cases h
end
end
section
open Go.RowKit
section
variable {P:Program}
def CodeOk (P:Program) (c:Code) (s:Sg) (x:Exit) (s' : Sg):Prop :=
 ∀ (ρ:PMap) (O:Nat→Prop) (a:Act) (W:World) (Q:Exit→Act→World→Prop),HConc ρ O s.H W→TConc ρ O s.T a W →
  (∀ ρ' O' a' W',HConc ρ' O' s'.H W' → TConc ρ' O' s'.T a' W' → Ext ρ O s.H W ρ' O' s'.H W' → Q x a' W')→c.wp P Q a W
theorem loop_ok {c:Code} {f:Sg→List Value→EcR} (hf:∀ s orc x s' orc' ob,f s orc=some (x,s',orc',ob)→conj ob→CodeOk P c s x s') {n:Nat} {s s' : Sg} {orc orc' : List Value} {x:Exit} {ob:List Prop} (h:loopN f n s orc=some (x,s',orc',ob)) (hob:conj ob):CodeOk P (.loop c) s x s' := by
 intro ρ O a W Q hH hT hK
 let LI:Nat→Act→World→Prop:=fun n a W=>∃ s orc x s' orc' ob ρ O,loopN f n s orc=some (x,s',orc',ob)∧conj ob∧HConc ρ O s.H W∧TConc ρ O s.T a W∧(∀ ρ' O' a' W',HConc ρ' O' s'.H W' → TConc ρ' O' s'.T a' W' → Ext ρ O s.H W ρ' O' s'.H W' → Q x a' W')
 have least:∀ a W,(∃ n,LI n a W)→∃ n,LI n a W∧∀ m,LI m a W→n≤m:=fun a W ⟨n,hn⟩=>by
  induction n using Nat.strongRecOn with
  | _ n ih =>
   by_cases hex:∃ m,m<n∧LI m a W
   ·obtain ⟨m,hm,hl⟩:=hex;exact ih m hm hl
   ·exact ⟨n,hn,fun m hm=>Nat.le_of_not_lt fun hlt=>hex ⟨m,hlt,hm⟩⟩
 let μ:Act→World→Nat:=fun a W=>@dite Nat (∃ n,LI n a W) (Classical.propDecidable _) (fun h=>Classical.choose (least a W h)) (fun _=>0)
 have μs:∀ a W,(∃ n,LI n a W)→LI (μ a W) a W∧∀ m,LI m a W→μ a W≤m:=fun a W h=>by
  have:μ a W=Classical.choose (least a W h):=by simp only [μ];exact dif_pos h
  rw [this];exact Classical.choose_spec (least a W h)
 refine wp_loop (fun a W=>∃ n,LI n a W) μ ⟨n,s,orc,x,s',orc',ob,ρ,O,h,hob,hH,hT,hK⟩ fun a W hI=>?_
 obtain ⟨h1,hmin⟩:=μs a W hI
 generalize hμ:μ a W=m at h1
 cases m with
 | zero=>obtain ⟨s,orc,x,s',orc',ob,ρ,O,h,-⟩:=h1;cases h
 | succ m =>
  obtain ⟨s,orc,x,s',orc',ob,ρ,O,h,hob,hH,hT,hK⟩:=h1
  simp only [loopN] at h
  split at h
  ·next x1 s1 orc1 ob1 h2 =>
   split at h
   ·split at h
    ·next x2 s2 orc2 ob2 h3 =>
     cases h
     obtain ⟨hb1,hb2⟩:=conj_append.1 hob
     refine hf _ _ _ _ _ _ h2 hb1 ρ O a W _ hH hT fun ρ' O' a' W' hH' hT' hE=>?_
     have hl:LI m a' W' := ⟨s1,orc1,x,s',orc',ob2,ρ',O',h3,hb2,hH',hT',fun ρ'' O'' a'' W'' h4 h5 h6=>hK ρ'' O'' a'' W'' h4 h5 (hE.trans h6 hH)⟩
     exact ⟨⟨m,hl⟩,by have:=(μs a' W' ⟨m,hl⟩).2 m hl;omega⟩
    ·cases h
   ·next hne =>
    cases h
    refine hf _ _ _ _ _ _ h2 hob ρ O a W _ hH hT fun ρ' O' a' W' hH' hT' hE=>?_
    have:=hK ρ' O' a' W' hH' hT' hE
    cases x <;> first | exact this | exact absurd rfl hne
  ·cases h
theorem setD_finer {T:List Value} {c:Operand} {b:Bool} (h:∀ ρ O W c',Rp ρ O W (eo T c) c' → c' = .bool b):Finer T (setD T c b):=by
 cases c with
 | tmp t =>
  cases ht:T[t]? with
  | none =>
   have:T.set t (vD b)=T:=List.set_eq_of_length_le (by simpa using ht)
   show Finer T (T.set t (vD b))
   rw [this];exact Finer.refl T
  | some u =>
   refine finer_set ht fun ρ O W c' hr=>h ρ O W c' ?_
   show Rp ρ O W ((T[t]?).getD vUnk) c'
   rw [ht];exact hr
 | const v=>exact Finer.refl T
 | global g=>exact Finer.refl T
 | func f=>exact Finer.refl T
theorem evCode_ok (hm:P.follows .mixedOrders=true) {ext:List FuncId} {call:CallF} (hcall:CallOk P call) {fuel:Nat}:∀ (c:Code) {s s' : Sg} {orc orc' : List Value} {x:Exit} {ob:List Prop},evCode P ext call fuel c s orc=some (x,s',orc',ob)→conj ob→CodeOk P c s x s'
 | .skip,s,s',orc,orc',x,ob,h,_=>by
  simp only [evCode,Option.some.injEq,Prod.mk.injEq] at h
  obtain ⟨rfl,rfl,-,-⟩:=h
  exact fun ρ O a W Q hH hT hK=>wp_skip (hK ρ O a W hH hT (Ext.refl _ _ _ _))
 | .region id ops draw,s,s',orc,orc',x,ob,h,hob=>by
  simp only [evCode] at h
  split at h
  ·obtain ⟨r,hr,he⟩:=Option.map_eq_some_iff.1 h
   cases he
   exact fun ρ O a W Q hH hT hK=>wp_region_list (by have:=evOps_ok hcall hr hob hH hT hK;rwa [Array.toArray_toList] at this)
  ·split at h
   ·split at h
    ·next hd =>
     cases h
     exact fun ρ O a W Q hH hT hK=>regM_ok hob.1 hd hH hT (hK)
    ·cases h
   ·split at h
    ·next hac =>
     split at h
     ·next hle =>
      obtain ⟨r,hr,he⟩:=Option.map_eq_some_iff.1 h
      cases he
      exact fun ρ O a W Q hH hT hK=>by have:=evDrL_ok (id:=id) hcall hm hac hle hr hob hH hT hK;rwa [Array.toArray_toList] at this
     obtain ⟨r,hr,he⟩:=Option.map_eq_some_iff.1 h
     cases he
     exact fun ρ O a W Q hH hT hK=>by have:=evDr_ok (id:=id) hcall hm hac hr hob hH hT hK;rwa [Array.toArray_toList] at this
    ·cases h
 | .seq c d,s,s',orc,orc',x,ob,h,hob=>by
  simp only [evCode] at h
  split at h
  ·next x1 s1 orc1 ob1 h1 =>
   split at h
   ·split at h
    ·next x2 s2 orc2 ob2 h2 =>
     cases h
     obtain ⟨hb1,hb2⟩:=conj_append.1 hob
     refine fun ρ O a W Q hH hT hK=>wp_seq (evCode_ok hm hcall c h1 hb1 ρ O a W _ hH hT fun ρ' O' a' W' hH' hT' hE=>?_)
     exact evCode_ok hm hcall d h2 hb2 ρ' O' a' W' Q hH' hT' fun ρ'' O'' a'' W'' h3 h4 h5=>hK ρ'' O'' a'' W'' h3 h4 (hE.trans h5 hH)
    ·cases h
   ·next hne =>
    cases h
    refine fun ρ O a W Q hH hT hK=>wp_seq (evCode_ok hm hcall c h1 hob ρ O a W _ hH hT fun ρ' O' a' W' hH' hT' hE=>?_)
    have:=hK ρ' O' a' W' hH' hT' hE
    cases x <;> first | exact this | exact absurd rfl hne
  ·cases h
 | .cond e c d,s,s',orc,orc',x,ob,h,hob=>by
  simp only [evCode] at h
  split at h
  ·next b orc1 ob1 hd =>
   split at h
   ·next x2 s2 orc2 ob2 h2 =>
    cases h
    obtain ⟨hb1,hb2⟩:=conj_append.1 hob
    intro ρ O a W Q hH hT hK
    have hb:=decideB_ok hd hb1 (rp_eo hT e)
    have hfin:Finer s.T (setD s.T e b):=setD_finer fun ρ O W c' hr=>decideB_ok hd hb1 hr
    have hT' := hfin.conc hT
    cases b with
    | true=>exact wp_cond_true hb (evCode_ok hm hcall c h2 hb2 ρ O a W Q hH hT' hK)
    | false=>exact wp_cond_false hb (evCode_ok hm hcall d h2 hb2 ρ O a W Q hH hT' hK)
   ·cases h
  ·cases h
 | .block id c,s,s',orc,orc',x,ob,h,hob=>by
  simp only [evCode] at h
  split at h
  ·next x1 r h1 =>
   obtain ⟨s1,orc1,ob1⟩:=r
   split at h
   ·next id' =>
    cases h
    refine fun ρ O a W Q hH hT hK=>wp_block (evCode_ok hm hcall c h1 hob ρ O a W _ hH hT fun ρ' O' a' W' hH' hT' hE=>?_)
    have:=hK ρ' O' a' W' hH' hT' hE
    simp only [Exit.inBlock]
    split
    ·next e=>rw [if_pos e] at this;exact this
    ·next e=>rw [if_neg e] at this;exact this
   ·next hne =>
    cases h
    refine fun ρ O a W Q hH hT hK=>wp_block (evCode_ok hm hcall c h1 hob ρ O a W _ hH hT fun ρ' O' a' W' hH' hT' hE=>?_)
    have:=hK ρ' O' a' W' hH' hT' hE
    cases x <;> first | exact this | exact absurd rfl (hne _)
  ·cases h
 | .loop c,s,s',orc,orc',x,ob,h,hob=>by
  simp only [evCode] at h
  split at h
  ·split at h
   ·next im keep x1 s1 hd =>
    split at h
    ·next s0 hc =>
     cases h
     obtain ⟨⟨n,hL⟩,-⟩:=hob
     intro ρ O a W Q hH hT hK
     obtain ⟨hc1,hc2,-⟩:=canon_ok hc hH hT
     refine wp_loop_rounds n (hL (canR ρ im) O a W Q hc1 hc2 fun ρ' O' a' W' h1 h2 h3=>?_)
     obtain ⟨ρ'',h4,h5,h6,-⟩:=join_ok hc hH hT h1 h2 h3
     exact hK ρ'' O' a' W' h4 h5 h6
    ·cases h
   ·cases h
  ·split at h
   ·next K im keep x1 s1 hd =>
    split at h
    ·next s0 hc =>
     cases h
     obtain ⟨⟨n,hL⟩,-⟩:=hob
     intro ρ O a W Q hH hT hK
     obtain ⟨hc1,hc2,-⟩:=canon_ok hc hH hT
     refine wp_loop_rounds n (hL (canR ρ im) O a W Q hc1 hc2 fun ρ' O' a' W' h1 h2 h3 h3' => ?_)
     obtain ⟨ρ'',h4,h5,h6⟩:=joinK_ok hc hH hT h1 h2 h3 h3'
     exact hK ρ'' O' a' W' h4 h5 h6
    ·cases h
   ·cases h
  ·exact loop_ok (fun s orc x s' orc' ob h hob=>evCode_ok hm hcall c h hob) h hob
 | .exit id,s,s',orc,orc',x,ob,h,_=>by
  simp only [evCode,Option.some.injEq,Prod.mk.injEq] at h
  obtain ⟨rfl,rfl,-,-⟩:=h
  exact fun ρ O a W Q hH hT hK=>wp_exit (hK ρ O a W hH hT (Ext.refl _ _ _ _))
 | .ret,s,s',orc,orc',x,ob,h,_=>by
  simp only [evCode,Option.some.injEq,Prod.mk.injEq] at h
  obtain ⟨rfl,rfl,-,-⟩:=h
  exact fun ρ O a W Q hH hT hK=>wp_ret (hK ρ O a W hH hT (Ext.refl _ _ _ _))
 | .rangeFunc ..,_,_,_,_,_,_,h,_=>by simp [evCode] at h
 | .scope _,_,_,_,_,_,_,h,_=>by simp [evCode] at h
 | .label _,_,_,_,_,_,_,h,_=>by simp [evCode] at h
 | .goto l,s,s',orc,orc',x,ob,h,_=>by
  simp only [evCode,Option.some.injEq,Prod.mk.injEq] at h
  obtain ⟨rfl,rfl,-,-⟩:=h
  exact fun ρ O a W Q hH hT hK=>wp_goto (hK ρ O a W hH hT (Ext.refl _ _ _ _))
 | .refuse _,_,_,_,_,_,_,h,_=>by simp [evCode] at h
theorem decL_goto {n:Nat} {v:Value} {im keep:List Nat} {x:Exit} {s' : Sg} (h:decL n v=some (im,keep,x,s')):(∃ k,x = .exit k)∨x = .ret:=by
 unfold decL at h
 split at h
 ·split at h
  ·split at h
   ·next z _ _ _ _ _ _ _=>cases h;unfold decX;split;exact .inl ⟨_,rfl⟩;exact .inr rfl
   ·cases h
  ·cases h
 ·cases h
theorem evSc_ok (hm:P.follows .mixedOrders=true) {ext:List FuncId} {call:CallF} (hcall:CallOk P call) {fuel l:Nat} {r:Code}:∀ (c:Code) {s s' : Sg} {orc orc' : List Value} {x:Exit} {ob:List Prop},lbl c=some (l,r)→evSc P ext call fuel c s orc=some (x,s',orc',ob)→conj ob →
  ((∃ k,x = .exit k)∨x = .ret)∧∀ (ρ:PMap) (O:Nat→Prop) (a:Act) (W:World) (Q:Exit→Act→World→Prop),HConc ρ O s.H W→TConc ρ O s.T a W→(∀ ρ' O' a' W',HConc ρ' O' s'.H W' → TConc ρ' O' s'.T a' W' → Ext ρ O s.H W ρ' O' s'.H W' → Q x a' W')→c.wp P (Exit.jump l (fun a w=>∃ n,jumpsN P r l Q n a w) Q) a W
 | .seq a b,s,s',orc,orc',x,ob,hl,h,hob=>by
  unfold lbl at hl
  unfold evSc at h
  split at hl
  ·next l' =>
   cases hl
   simp only at h
   split at h
   ·split at h
    ·next im keep x1 s1 hd =>
     split at h
     ·next s0 hc =>
      cases h
      obtain ⟨⟨n,hL⟩,-⟩:=hob
      refine ⟨decL_goto hd,fun ρ O a W Q hH hT hK=>?_⟩
      obtain ⟨hc1,hc2,-⟩:=canon_ok hc hH hT
      have hj:=hL (canR ρ im) O a W Q hc1 hc2 fun ρ' O' a' W' h1 h2 h3=>by
       obtain ⟨ρ'',h4,h5,h6,-⟩:=join_ok hc hH hT h1 h2 h3
       exact hK ρ'' O' a' W' h4 h5 h6
      refine wp_seq (wp_label ?_)
      cases n with
      | zero=>exact hj.elim
      | succ n =>
       refine wp_mono (Q:=Exit.jump l (jumpsN P r l Q n) Q) hj fun e a1 w1 he=>?_
       cases e with
       | goto l' => exact ⟨he.1,n,he.2⟩
       | _=>exact he
     ·cases h
    ·cases h
   ·cases h
  ·next hne =>
   split at hl
   ·next l' r' hb =>
    split at hl
    ·cases hl
     split at h
     ·exact absurd rfl (hne _)
     ·split at h
      ·next x1 s1 orc1 ob1 h1 =>
       split at h
       ·split at h
        ·next x2 s2 orc2 ob2 h2 =>
         cases h
         obtain ⟨hb1,hb2⟩:=conj_append.1 hob
         obtain ⟨hx,hgo⟩:=evSc_ok hm hcall b hb h2 hb2
         refine ⟨hx,fun ρ O a W Q hH hT hK=>wp_seq (evCode_ok hm hcall _ h1 hb1 ρ O a W _ hH hT fun ρ' O' a' W' hH' hT' hE=>?_)⟩
         exact hgo ρ' O' a' W' Q hH' hT' fun ρ'' O'' a'' W'' h3 h4 h5=>hK ρ'' O'' a'' W'' h3 h4 (hE.trans h5 hH)
        ·cases h
       ·cases h
      ·cases h
    ·cases hl
   ·cases hl
 | .skip,_,_,_,_,_,_,h,_,_ | .region ..,_,_,_,_,_,_,h,_,_ | .cond ..,_,_,_,_,_,_,h,_,_ | .block ..,_,_,_,_,_,_,h,_,_ | .loop ..,_,_,_,_,_,_,h,_,_ | .rangeFunc ..,_,_,_,_,_,_,h,_,_ | .exit _,_,_,_,_,_,_,h,_,_ | .scope _,_,_,_,_,_,_,h,_,_ | .label _,_,_,_,_,_,_,h,_,_ | .goto _,_,_,_,_,_,_,h,_,_ | .ret,_,_,_,_,_,_,h,_,_ | .refuse _,_,_,_,_,_,_,h,_,_=>by simp [lbl] at h
theorem evBody_ok (hm:P.follows .mixedOrders=true) {ext:List FuncId} {call:CallF} (hcall:CallOk P call) {fuel:Nat} {c:Code} {s s' : Sg} {orc orc' : List Value} {x:Exit} {ob:List Prop} (h:evBody P ext call fuel c s orc=some (x,s',orc',ob)) (hob:conj ob):CodeOk P c s x s' := by
 unfold evBody at h
 split at h
 ·next a b =>
  split at h
  ·next p hl =>
   obtain ⟨l,r⟩:=p
   split at h
   ·next x1 s1 orc1 ob1 h1 =>
    split at h
    ·split at h
     ·next x2 s2 orc2 ob2 h2 =>
      cases h
      obtain ⟨hb1,hb2⟩:=conj_append.1 hob
      obtain ⟨-,hgo⟩:=evSc_ok hm hcall b hl h2 hb2
      refine fun ρ O a W Q hH hT hK=>wp_seq (evCode_ok hm hcall _ h1 hb1 ρ O a W _ hH hT fun ρ' O' a' W' hH' hT' hE=>?_)
      exact wp_scope_jumpsN (lbl_find b hl) (hgo ρ' O' a' W' Q hH' hT' fun ρ'' O'' a'' W'' h3 h4 h5=>hK ρ'' O'' a'' W'' h3 h4 (hE.trans h5 hH))
     ·cases h
    ·cases h
   ·cases h
  ·cases h
 ·exact evCode_ok hm hcall _ h hob
theorem evLoad_run {ρ:PMap} {O:Nat→Prop} {W:World} {t:TypeId} {v u c:Value} {H:Nat→Option Blk} {orc orc' : List Value} {rd:List Nat} {ob:List Prop} (h:evLoad P t v H orc=some (u,rd,orc',ob)) (hob:conj ob) (hr:Rp ρ O W v c) (hH:∀ i,HAt ρ O W i (H i)) :
  ∃ a c',c = .pointer (some a)∧(loadVar t a).run P W = .ok c' W∧Rp ρ O W u c' := by
 have:=evLoad_ok (x:=.tmp 0) (e:=fun _=>v) h hob ρ O W { dst:=none,op:=.load t (.tmp 0),type:=0,pos:="",after:=#[],guard:=none } (fun _=>c) rfl (fun _ _=>hr) (fun i _=>hH i)
 obtain ⟨c',hrun,hu⟩:=this
 have hp:∃ a,c = .pointer (some a):=by
  match c,hrun with
  | .pointer (some a),_=>exact ⟨a,rfl⟩
  | .pointer none,h | .bool _,h | .int _ _,h | .float _ _,h | .complex _ _ _,h | .string _,h | .slice _ _ _,h | .map _,h | .chan _,h | .func _ _ _,h | .nilFunc,h | .iface _ _,h | .nilIface,h | .agg _,h | .tuple _,h=>simp [execOp,Instr.loadAt,Instr.sureAddr,Sem.run_bind] at h
 obtain ⟨a,rfl⟩:=hp
 refine ⟨a,c',rfl,?_,hu⟩
 simp only [execOp,Instr.loadAt,Instr.sureAddr,Sem.run_bind,Sem.run_pure,Result.andThen_ok] at hrun
 cases hl:(loadVar t a).run P W with
 | ok x w=>rw [hl] at hrun;simp only [Result.andThen_ok,Sem.run_pure,Result.ok.injEq,Next.value.injEq] at hrun;rw [hrun.1,hrun.2]
 | halt x w=>rw [hl] at hrun;simp at hrun
def resG (tmps:Array Value):ResultVar→Sem Value
 | .tmp t=>pure (tmps.getD t undef)
 | .cell a t=>do loadVar t (← asAddr (tmps.getD a undef))
theorem evRes1_ok {ρ:PMap} {O:Nat→Prop} {W:World} {s:Sg} {a:Act} (hH:HConc ρ O s.H W) (hT:TConc ρ O s.T a W):∀ (l:List ResultVar) {vs:List Value},l.mapM (evRes1 P s)=some vs→∃ cs:List Value,(l.mapM (resG a.tmps)).run P W = .ok cs W∧AtAll (Rp ρ O W) vs.toArray cs.toArray
 | [],vs,h=>by simp at h;subst h;exact ⟨[],by simp,rfl,fun i x hx=>by simp at hx⟩
 | r::l,vs,h=>by
  simp only [List.mapM_cons,Option.bind_eq_bind,Option.pure_def] at h
  cases h1:evRes1 P s r with
  | none=>simp [h1] at h
  | some v =>
   cases h2:l.mapM (evRes1 P s) with
   | none=>simp [h1,h2] at h
   | some us =>
    simp [h1,h2] at h
    subst h
    obtain ⟨cs,hcs,hat⟩:=evRes1_ok hH hT l h2
    have:∃ c,(resG a.tmps r).run P W = .ok c W∧Rp ρ O W v c:=by
     cases r with
     | tmp t =>
      simp only [evRes1,Option.some.injEq] at h1
      subst h1
      exact ⟨_,rfl,rp_eo hT (.tmp t)⟩
     | cell t ty =>
      simp only [evRes1] at h1
      split at h1
      ·next u hu =>
       split at h1
       ·next w rd orc' ob hl =>
        split at h1
        ·next he =>
         cases h1
         have he' : ob=[]:=List.isEmpty_iff.1 he
         subst he'
         obtain ⟨c,hc,hr⟩:=hT.tm t u hu
         obtain ⟨ad,c',hc',hrun,hu'⟩:=evLoad_run hl trivial hr hH.hp
         refine ⟨c',?_,hu'⟩
         have:a.tmps.getD t undef = .pointer (some ad):=by simp [hc,hc']
         simp [resG,this,asAddr,Sem.run_bind,hrun]
        ·cases h1
       ·cases h1
      ·cases h1
    obtain ⟨c,hc,hr⟩:=this
    refine ⟨c::cs,by simp [List.mapM_cons,hc,hcs],by have:=hat.1;simpa using this,fun i x hx=>?_⟩
    cases i with
    | zero=>simp at hx;subst hx;exact ⟨c,by simp,hr⟩
    | succ i =>
     obtain ⟨y,hy,hr'⟩:=hat.2 i x (by simpa using hx)
     exact ⟨y,by simpa using hy,hr'⟩
theorem evRes_ok {ρ:PMap} {O:Nat→Prop} {W:World} {s:Sg} {a:Act} {fn:Func} {v:Value} (hH:HConc ρ O s.H W) (hT:TConc ρ O s.T a W) (h:evRes P fn s=some v):∃ c,(results fn a.tmps).run P W = .ok c W∧Rp ρ O W v c:=by
 have key:∀ {vs:List Value},fn.results.toList.mapM (evRes1 P s)=some vs→∃ cs:List Value,(results fn a.tmps).run P W = .ok (if h:cs.toArray.size=1 then cs.toArray[0] else .tuple cs.toArray) W∧AtAll (Rp ρ O W) vs.toArray cs.toArray:=fun {vs} hv=>by
  obtain ⟨cs,hcs,hat⟩:=evRes1_ok hH hT _ hv
  refine ⟨cs,?_,hat⟩
  have he:results fn a.tmps=(do let vs ← fn.results.mapM (resG a.tmps);pure (if h:vs.size=1 then vs[0] else .tuple vs)):=by
   unfold results
   congr 1
  rw [he,Array.mapM_eq_mapM_toList]
  simp [Sem.run_bind,hcs]
 unfold evRes at h
 split at h
 ·next u hv =>
  cases h
  obtain ⟨cs,hcs,hat⟩:=key hv
  match cs,hat,hcs with
  | [c],hat,hcs =>
   obtain ⟨y,hy,hr⟩:=hat.2 0 v (by simp)
   simp at hy;subst hy
   exact ⟨c,by simpa using hcs,hr⟩
  | [],hat,_=>have:=hat.1;simp at this
  | _::_::_,hat,_=>have:=hat.1;simp at this
 ·next vs hne hv =>
  cases h
  obtain ⟨cs,hcs,hat⟩:=key hv
  have h1:¬ cs.toArray.size=1:=fun e=>by
   have:=hat.1
   rw [e] at this
   match vs,this,hne with
   | [u],_,hne=>exact hne u rfl
   | [],this,_=>simp at this
   | _::_::_,this,_=>simp at this
  rw [dif_neg h1] at hcs
  exact ⟨_,hcs,rp_tuple.2 ⟨_,rfl,hat⟩⟩
 ·cases h
theorem evFn_ok (hm:P.follows .mixedOrders=true) {ext:List FuncId} {fuel:Nat}:∀ n,CallOk P (evFn P ext fuel n)
 | 0=>fun g args H orc r H' orc' ob h=>by simp [evFn] at h
 | n+1=>fun g args H orc r H' orc' ob h hob ρ O W vs hH hat=>by
  simp only [evFn] at h
  split at h
  ·next fn hfn =>
   split at h
   ·next c hc =>
    split at h
    ·next x s orc1 ob1 hev =>
     have hsz:vs.size=args.length:=by simpa using hat.1
     have hT:TConc ρ O (args++List.replicate (fn.ntmps - args.length) (.tuple #[])) { tmps:=vs++Array.replicate (fn.ntmps - vs.size) undef,defers:=[] } W:=by
      refine ⟨rfl,by simp [hsz],fun t v hv=>?_⟩
      by_cases ht:t<args.length
      ·rw [List.getElem?_append_left ht] at hv
       obtain ⟨c,hc,hr⟩:=hat.2 t v (by simpa using hv)
       exact ⟨c,by simp only [Array.getElem?_append_left (show t<vs.size by omega)];exact hc,hr⟩
      ·rw [List.getElem?_append_right (by omega),List.getElem?_replicate] at hv
       split at hv
       ·next hlt =>
        cases hv
        refine ⟨undef,?_,rp_tuple.2 ⟨#[],rfl,rfl,fun i x hx=>by simp at hx⟩⟩
        simp only [Array.getElem?_append_right (show vs.size≤t by omega),hsz]
        simp [hlt]
       ·cases hv
     have fin:(∃ v,evRes P fn s=some v∧v=r∧s.H=H' ∧ ob1=ob)→(x = .normal∨x = .ret)→Calls P g vs W fun e W' => ∃ c ρ' O',e = .returned c∧Rp ρ' O' W' r c∧HConc ρ' O' H' W' ∧ Ext ρ O H W ρ' O' H' W' := fun ⟨v,hv,hvr,hs,hobe⟩ hx=>by
      subst hvr hs hobe
      refine calls_of_wp hfn hc (evBody_ok hm (evFn_ok hm n) hev hob ρ O _ W _ hH hT fun ρ' O' a' W' hH' hT' hE=>?_)
      obtain ⟨c',hrun,hr⟩:=evRes_ok hH' hT' hv
      rcases hx with rfl | rfl <;> exact ⟨hT'.df,c',hrun,c',ρ',O',rfl,hr,hH',hE⟩
     split at h
     ·split at h
      ·next v hv=>cases h;exact fin ⟨_,hv,rfl,rfl,rfl⟩ (.inl rfl)
      ·cases h
     ·split at h
      ·next v hv=>cases h;exact fin ⟨_,hv,rfl,rfl,rfl⟩ (.inr rfl)
      ·cases h
     ·cases h
    ·cases h
   ·cases h
  ·cases h
def lendR (H:Nat→Option Blk):Value→Option (Value×List Nat×List Prop)
 | .tuple xs=>(lendL (lendV H) xs.toList).map fun r=>(.tuple r.1.toArray,r.2)
 | v=>lendV H v
theorem lendR_ok {ρ:PMap} {O:Nat→Prop} {W:World} {H:Nat→Option Blk} {v v' c:Value} {is:List Nat} {ob:List Prop} (h:lendR H v=some (v',is,ob)) (hob:conj ob) (hr:Rp ρ O W v c) (hh:∀ i∈is,HAt ρ O W i (H i)):Rp nowhere (Unlent ρ O is) W v' c:=by
 unfold lendR at h
 split at h
 ·next xs =>
  obtain ⟨r,hr',he⟩:=Option.map_eq_some_iff.1 h
  obtain ⟨al,js,ps⟩:=r
  cases he
  obtain ⟨ys,rfl,ha⟩:=rp_tuple.1 hr
  have:=lendL_ok (H:=H) (ys:=ys.toList) (fun v v' c is ob=>lendV_ok) hr' hob (by simpa using ha) hh
  exact rp_tuple.2 ⟨ys,rfl,by simpa using this⟩
 ·exact lendV_ok h hob hr hh
def evRun (P:Program) (ext:List FuncId) (fuel n:Nat) (g:FuncId) (args orc:List Value):Option (Value×Prop) :=
 match evFn P ext fuel n g args [] orc with
 | some (r,H,[],ob)=>match lendR (look H) r with
  | some (r',is,ps)=>if is.all (fun i=>(look H i).isSome) then some (r',conj (ob++ps)) else none
  | none=>none
 | _=>none
theorem ac_path (hm:P.follows .mixedOrders=true) {ext:List FuncId} {fuel n:Nat} {g:FuncId} {args orc:List Value} {r:Value} {A:Prop} (hA:A) (h:evRun P ext fuel n g args orc=some (r,A)):AC P g args r:=by
 unfold evRun at h
 split at h
 ·next r0 H ob hev =>
  split at h
  ·next r' is ps hl =>
   split at h
   ·next his =>
    cases h
    obtain ⟨hb1,hb2⟩:=conj_append.1 hA
    intro O W vs hlow hat
    have hH:HConc nowhere O [] W:=⟨hlow,fun _ _=>rfl,fun i=>by simp [look,HAt],fun i j b b' g k k' h1=>by simp [look] at h1⟩
    refine (evFn_ok hm n _ _ _ _ _ _ _ _ hev hb1 nowhere O W vs hH hat).mono ?_
    rintro e W' ⟨c,ρ',O',rfl,hr,hH',hE⟩
    have h1:=lendR_ok hl hb2 hr (fun i _=>hH'.hp i)
    refine ⟨c,rfl,h1.mono ⟨Nat.le_refl _,fun g _ hn=>⟨fun hO=>hn ⟨hE.keepO g hO fun i b hb=>by simp [look] at hb,fun i hi k hk=>?_⟩,rfl⟩,Shp.of_same fun _ _=>rfl⟩ (Sub.refl _),⟨hE.str.2.1,hE.str.1,hE.str.2.2,hE.still.size,fun g hg=>hE.blk g hg fun i b hb=>by simp [look] at hb⟩⟩
    rcases hE.new i _ hk with h2 | ⟨-,h2⟩
    ·cases h2
    ·have:=hlow g hO
     rcases h2 with h2 | ⟨j,b,k,h2,-⟩
     ·simp at h2;omega
     ·simp [look] at h2
   ·cases h
  ·cases h
 ·cases h
end
end
section
open Go.ChangeShapes Go.WideShapes Go.ChangeAt Go.RowKit
abbrev Bs:Type:=Option (Option IntKind)
def Ck:Nat→Type
 | 0=>Bs
 | n+1=>Sum Bs (List (Ck n))
def Ck.base:(n:Nat)→Bs→Ck n
 | 0,b=>b
 | _+1,b=>Sum.inl b
def Ck.int {n:Nat} (k:IntKind):Ck n:=Ck.base n (some (some k))
def Ck.bool {n:Nat}:Ck n:=Ck.base n (some none)
def Ck.str {n:Nat}:Ck n:=Ck.base n none
def Ck.row {n:Nat} (e:List (Ck n)):Ck (n+1):=Sum.inr e
def ReadB:Bs→Value→Prop
 | some (some k),v=>∃ q,v = .int k q∧(Lit.int k q).wf=true
 | some none,v=>∃ b,v = .bool b
 | none,v=>∃ s,v = .string s∧s.size≤maxLen
def AllZ {α β:Type} (R:α→β→Prop):List α→List β→Prop
 | [],vs=>vs=[]
 | c::l,vs=>∃ v r,vs=v::r∧R c v∧AllZ R l r
def ReadCn (W:World):(n:Nat)→Ck n→Value→Prop
 | 0,b,v=>ReadB b v
 | n+1,c,v =>
  match (show Sum Bs (List (Ck n)) from c) with
  | Sum.inl b=>ReadB b v
  | Sum.inr e=>∃ (p:Option Addr) (len cap:Nat),v = .slice p len cap∧len≤cap∧cap≤maxLen∧(p=none→cap=0) ∧
   ∀ a,p=some a→∀ i,i<cap→∃ vs:List Value,vs.length=e.length∧(∀ j,j<e.length→W.cell? (a.add (i * e.length+j))=vs[j]?)∧AllZ (ReadCn W n) e vs
def ReadC (W:World) {n:Nat} (c:Ck n) (v:Value):Prop:=ReadCn W n c v
def ReadL (W:World) {n:Nat} (l:List (Ck n)) (vs:List Value):Prop:=AllZ (ReadCn W n) l vs
theorem read_nil {W:World} {n:Nat} {vs:List Value}:ReadL W ([]:List (Ck n)) vs↔vs=[]:=Iff.rfl
theorem read_cons {W:World} {n:Nat} {c:Ck n} {l:List (Ck n)} {vs:List Value}:ReadL W (c::l) vs↔∃ v r,vs=v::r∧ReadC W c v∧ReadL W l r:=Iff.rfl
theorem read_base {W:World} {n:Nat} {b:Bs} {v:Value}:ReadC W (Ck.base n b) v↔ReadB b v:=by cases n <;> exact Iff.rfl
theorem read_int {W:World} {n:Nat} {k:IntKind} {v:Value}:ReadC W (Ck.int k:Ck n) v↔∃ q,v = .int k q∧(Lit.int k q).wf=true:=read_base
theorem read_bool {W:World} {n:Nat} {v:Value}:ReadC W (Ck.bool:Ck n) v↔∃ b,v = .bool b:=read_base
theorem read_str {W:World} {n:Nat} {v:Value}:ReadC W (Ck.str:Ck n) v↔∃ s,v = .string s∧s.size≤maxLen:=read_base
theorem read_row {W:World} {n:Nat} {e:List (Ck n)} {v:Value}:ReadC W (Ck.row e) v↔∃ (p:Option Addr) (len cap:Nat),v = .slice p len cap∧len≤cap∧cap≤maxLen∧(p=none→cap=0) ∧
   ∀ a,p=some a→∀ i,i<cap→∃ vs:List Value,vs.length=e.length∧(∀ j,j<e.length→W.cell? (a.add (i * e.length+j))=vs[j]?)∧ReadL W e vs:=Iff.rfl
theorem read_one {W:World} {n:Nat} {c:Ck n} {v:Value} (h:ReadC W c v):ReadL W [c] [v]:=⟨v,[],rfl,h,rfl⟩
theorem ReadL.append {W:World} {n:Nat}:∀ {l k:List (Ck n)} {vs us:List Value},ReadL W l vs→ReadL W k us→ReadL W (l++k) (vs++us)
 | [],_,_,_,h,h' => by rw [read_nil] at h;subst h;exact h'
 | _::_,_,_,_,h,h' => by
  obtain ⟨v,r,rfl,hv,hr⟩:=read_cons.1 h
  exact read_cons.2 ⟨v,_,rfl,hv,ReadL.append hr h'⟩
def joinFs {α:Type} (P:Program) (sh:TypeId→Option (List α)):List Field→Nat→Option (List α)
 | [],_=>some []
 | f::r,o=>if f.offset=o then (sh f.type).bind fun l=>if P.cellsOf f.type=l.length then (joinFs P sh r (o+l.length)).map (l++·) else none else none
def rowOf (sh:(n:Nat)→Option (List (Ck n))) (cells:Nat):(n:Nat)→Option (List (Ck n))
 | 0=>none
 | n+1=>(sh n).bind fun l=>if cells=l.length then some [Ck.row l] else none
def shapeOf (P:Program):Nat→(n:Nat)→TypeId→Option (List (Ck n))
 | 0,_,_=>none
 | f+1,n,t =>
  match P.underlying t with
  | some .bool=>some [Ck.bool]
  | some (.int k)=>some [Ck.int k]
  | some .string=>some [Ck.str]
  | some (.slice e)=>rowOf (fun m=>shapeOf P f m e) (P.cellsOf e) n
  | some (.struct fs)=>(joinFs P (shapeOf P f n) fs.toList 0).bind fun l=>if P.cellsOf t=l.length then some l else none
  | _=>none
section
variable {H:Type} {enc:TypeId×Value→H} {P:Program} {w:World} {base:Nat} {held:Bool}
theorem reads_fields {g n m:Nat} (ih:∀ {t:TypeId} {cs:List Value} {x:DataW H×List MemPlace} {l:List (Ck n)},shapeOf P g n t=some l→DataW.trod enc P w base (fun _=>true) held m t cs=some x→ReadL w l cs) :
  ∀ {fs:List Field} {o:Nat} {l:List (Ck n)} {cs:List Value},joinFs P (shapeOf P g n) fs o=some l→o+l.length≤cs.length →
   (∀ f∈fs,∃ x,DataW.trod enc P w base (fun _=>true) held m f.type ((cs.drop f.offset).take (P.cellsOf f.type))=some x)→ReadL w l ((cs.drop o).take l.length)
 | [],o,l,cs,h,_,_=>by
  simp only [joinFs,Option.some.injEq] at h
  subst h
  exact read_nil.2 (by simp)
 | f::r,o,l,cs,h,hlen,hf=>by
  simp only [joinFs] at h
  split at h
  ·rename_i ho
   subst ho
   obtain ⟨k,hk,h⟩:=Option.bind_eq_some_iff.1 h
   split at h
   ·rename_i hc
    obtain ⟨r',hr',rfl⟩:=Option.map_eq_some_iff.1 h
    obtain ⟨x,hx⟩:=hf f (by simp)
    have h1:=ih hk hx
    rw [hc] at h1
    have h2:=reads_fields (fs:=r) ih hr' (by simp at hlen;omega) (fun g hg=>hf g (by simp [hg]))
    have:=ReadL.append h1 h2
    rw [List.length_append,List.take_add,List.drop_drop]
    exact this
   ·cases h
  ·cases h
theorem reads_trod:∀ {g n fuel:Nat} {t:TypeId} {cs:List Value} {x:DataW H×List MemPlace} {l:List (Ck n)},shapeOf P g n t=some l→DataW.trod enc P w base (fun _=>true) held fuel t cs=some x→ReadL w l cs
 | 0,_,_,_,_,_,_,h,_=>by simp [shapeOf] at h
 | g+1,n,fuel,t,cs,x,l,h,ht=>by
  simp only [shapeOf] at h
  split at h
  ·rename_i hu
   cases h
   obtain ⟨b,rfl,_⟩:=DataW.trod_bool hu ht
   exact read_one (read_bool.2 ⟨b,rfl⟩)
  ·rename_i k hu
   cases h
   obtain ⟨q,rfl,_,hw⟩:=DataW.trod_int hu ht
   exact read_one (read_int.2 ⟨q,rfl,hw⟩)
  ·rename_i hu
   cases h
   obtain ⟨s,rfl,_,hw⟩:=DataW.trod_string hu ht
   exact read_one (read_str.2 ⟨s,rfl,hw⟩)
  ·rename_i e hu
   cases n with
   | zero=>simp [rowOf] at h
   | succ n =>
    simp only [rowOf] at h
    obtain ⟨k,hk,h⟩:=Option.bind_eq_some_iff.1 h
    split at h
    ·rename_i hc
     cases h
     rcases Deep.open_slice hu ht with ⟨rfl,_⟩ | ⟨a,len,cap,m,n',D,Pl,rfl,_,hl,hm,hmm,_,hi⟩
     ·exact read_one (read_row.2 ⟨none,0,0,rfl,by omega,by omega,fun _=>rfl,fun _ h=>by cases h⟩)
     ·refine read_one (read_row.2 ⟨some a,len,cap,rfl,hl,hm,(fun h=>by cases h),?_⟩)
      intro _ hae i hic
      cases hae
      obtain ⟨vs,h1,h2⟩:=hi i (by rw [hmm];simpa using hic)
      rw [hc] at h1
      obtain ⟨_,hvl,hva⟩:=World.cells?_some h1
      refine ⟨vs,hvl,fun j hj=>?_,reads_trod hk h2⟩
      rw [← hva j hj,Go.Deep.add_add]
    ·cases h
  ·rename_i fs hu
   obtain ⟨k,hk,h⟩:=Option.bind_eq_some_iff.1 h
   split at h
   ·rename_i hc
    cases h
    obtain ⟨xs,m,_,_,hlen,hxl,hf⟩:=DataW.trod_struct hu ht
    have:=reads_fields (enc:=enc) (w:=w) (base:=base) (held:=held) (m:=m) (fun h h' => reads_trod h h') hk (cs:=cs) (by omega) (fun f hfm=>by
     obtain ⟨i,hi,rfl⟩:=List.getElem_of_mem hfm
     have h0:i<fs.size:=by simpa using hi
     have:=hf i fs[i] (by simp [h0])
     exact ⟨xs[i]'(by omega),by simpa [hxl,h0] using this⟩)
    simpa [← hc,← hlen] using this
   ·cases h
  ·cases h
theorem open_struct {r:Reach} {b0 g n:Nat} {t:TypeId} {fs:Array Field} {l:List (Ck n)} {v:Value} {d:DataW H} {p:List MemPlace} (hs:P.underlying t=some (.struct fs)) (hl:shapeOf P g n t=some l)
  (hv:Value.okWide P w r b0 t v) (h:DataW.Trod enc P w base (fun _=>true) held t v d p):∃ cs,v = .agg ⟨cs⟩∧ReadL w l cs:=by
 obtain ⟨cs,rfl,_⟩:=okWide_struct hs hv
 obtain ⟨fuel,hf⟩:=h
 exact ⟨cs.toList,rfl,reads_trod hl hf⟩
theorem open_row {r:Reach} {b0 g n:Nat} {t e:TypeId} {l:List (Ck n)} {v:Value} {d:DataW H} {p:List MemPlace} (hs:P.underlying t=some (.slice e)) (hl:shapeOf P g (n+1) t=some [Ck.row l])
  (hv:Value.okWide P w r b0 t v) (h:DataW.Trod enc P w base (fun _=>true) held t v d p):ReadC w (Ck.row l) v:=by
 obtain ⟨fuel,hf⟩:=h
 have hc:v.cells.toList=[v]:=by
  simp only [Value.okWide,hs,Cell.okWide,Cell.ok] at hv
  split at hv <;> simp_all [Value.cells]
 rw [hc] at hf
 obtain ⟨u,r',h1,h2,_⟩:=read_cons.1 (reads_trod hl hf)
 cases h1
 exact h2
end
structure Sl {α:Type} (W:World) (k:Nat) (enc:α→List Value) (xs:List α) (v:Value):Prop where
 is:∃ (p:Option Addr) (cap:Nat),v = .slice p xs.length cap∧xs.length≤cap∧cap≤maxLen∧(p=none→cap=0) ∧
  (xs≠[]→∃ b o,p=some ⟨b,o,none⟩∧b<W.heap.size∧∀ i x,xs[i]? = some x→∀ j,j<k→W.cell? ⟨b,o+i * k+j,none⟩=(enc x)[j]?)
theorem Sl.kept {α:Type} {W W' : World} {k:Nat} {enc:α→List Value} {xs:List α} {v:Value} (h:Sl W k enc xs v) (hk:Below W.heap.size W W'):Sl W' k enc xs v:=by
 obtain ⟨p,cap,hv,h1,h2,h3,h4⟩:=h.is
 refine ⟨p,cap,hv,h1,h2,h3,fun hne=>?_⟩
 obtain ⟨b,o,hp,hb,hc⟩:=h4 hne
 exact ⟨b,o,hp,Nat.lt_of_lt_of_le hb hk.size,fun i x hx j hj=>(hk.cell (p:=⟨b,_,none⟩) hb).trans (hc i x hx j hj)⟩
theorem addr_plain {W:World} {a:Addr} {v:Value} (h:W.cell? a=some v):a=⟨a.block,a.off,none⟩∧a.block<W.heap.size:=by
 obtain ⟨b,o,s⟩:=a
 simp only [World.cell?] at h
 split at h
 ·rename_i ho
  split at h
  ·cases h
  ·rename_i hs
   cases s with
   | none=>exact ⟨rfl,(Array.getElem?_eq_some_iff.1 ho).1⟩
   | some _=>simp at hs
 ·cases h
theorem Sl.of_read {α:Type} {W:World} {n:Nat} {e:List (Ck n)} {v:Value} (enc:α→List Value) (ok:α→Prop) (hne:0<e.length) (h:ReadC W (Ck.row e) v) (hd:∀ vs,ReadL W e vs→∃ x,vs=enc x∧ok x) :
  ∃ xs:List α,Sl W e.length enc xs v∧(∀ x∈xs,ok x)∧xs.length≤maxLen:=by
 obtain ⟨p,len,cap,rfl,h1,h2,h3,h4⟩:=read_row.1 h
 cases p with
 | none =>
  have:cap=0:=h3 rfl
  have:len=0:=by omega
  subst this
  exact ⟨[],⟨none,cap,rfl,by simp,h2,h3,fun h=>absurd rfl h⟩,by simp,by simp⟩
 | some a =>
  have hx:∀ i,i<cap→∃ x:α,ok x∧∀ j,j<e.length→W.cell? (a.add (i * e.length+j))=(enc x)[j]? := fun i hi=>by
   obtain ⟨vs,hl,hc,hr⟩:=h4 a rfl i hi
   obtain ⟨x,rfl,ho⟩:=hd vs hr
   exact ⟨x,ho,hc⟩
  by_cases hl:len=0
  ·subst hl
   exact ⟨[],⟨some a,cap,rfl,by simp,h2,h3,fun h=>absurd rfl h⟩,by simp,by simp⟩
  ·have hpl:a=⟨a.block,a.off,none⟩∧a.block<W.heap.size:=by
    obtain ⟨vs,hvl,hc,_⟩:=h4 a rfl 0 (by omega)
    have h0:=hc 0 (by omega)
    rw [List.getElem?_eq_getElem (by omega)] at h0
    have:a.add (0 * e.length+0)=a:=by simp [Addr.add]
    rw [this] at h0
    exact addr_plain h0
   let f:Nat→α:=fun i=>if h:i<cap then Classical.choose (hx i h) else Classical.choose (hx 0 (by omega))
   have hf:∀ i,i<cap→ok (f i)∧∀ j,j<e.length→W.cell? (a.add (i * e.length+j))=(enc (f i))[j]? := fun i hi=>by
    simp only [f,hi,dif_pos];exact Classical.choose_spec (hx i hi)
   refine ⟨(List.range len).map f,⟨some a,cap,by simp,by simp;omega,h2,h3,fun _=>⟨a.block,a.off,by rw [← hpl.1],hpl.2,fun i x hix j hj=>?_⟩⟩,?_,by simp;omega⟩
   ·simp only [List.getElem?_map,Option.map_eq_some_iff] at hix
    obtain ⟨i',hi',rfl⟩:=hix
    obtain ⟨hlt,rfl⟩:=List.getElem?_eq_some_iff.1 hi'
    simp only [List.length_range,List.getElem_range] at hlt ⊢
    rw [← (hf i (by omega)).2 j hj]
    congr 1
    rw [hpl.1]
    unfold Addr.add
    split
    ·rename_i h0;rw [Nat.add_assoc,h0];rfl
    ·simp [Nat.add_assoc]
   ·intro x hx
    obtain ⟨i,hi,rfl⟩:=List.mem_map.1 hx
    exact (hf i (by have:=List.mem_range.1 hi;omega)).1
end
end Go.Proofs.YtbckpadeamlidaaGreat
