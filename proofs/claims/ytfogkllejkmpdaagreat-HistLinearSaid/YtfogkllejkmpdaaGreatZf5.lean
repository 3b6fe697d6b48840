/- Texts merged: SlotFT, SloRT, FifoFT, FifoXT, ThT, StT, OpFT, ThFT, LineFT, EventFT, IterT, ConfFT, FabFT, WordFT. -/
import Derived.Test.YtfogkllejkmpdaaGreatZf4
import Derived.Laws.StructEq
import Derived.Test.YtfogkllejkmpdaaGreatZf1
import Derived.Lib.Hide
import Derived.RangeFuncNested
import Derived.RangeFuncLeaves
import Derived.Shelf.Abstract
import Derived.Shelf.RegionOpen
import Derived.OwnWalkIn
import Derived.TacticsInMore
import Derived.LoopNIn
import Derived.LoopIn
namespace Go.Proofs.YtfogkllejkmpdaaGreat
set_option linter.unusedVariables false
set_option linter.unusedSimpArgs false
set_option maxRecDepth 100000
section
structure Slo where
 st:Int
 vl:Int
def Slo.cells (s:Slo):List Value:=[.int .i64 s.st,.int .i64 s.vl]
theorem Slo.enc:Enc 2 Slo.cells:=⟨fun _=>rfl,fun x c hc=>by simp [Slo.cells] at hc;rcases hc with rfl | rfl <;> rfl⟩
instance sloEq:DecidableEq Slo:=fun a b=>decidable_of_iff (a.st=b.st∧a.vl=b.vl) (by cases a;cases b;simp)
def gs (l:List Slo) (i:Nat):Slo:=l.getD i ⟨0,0⟩
theorem oG {l:List Slo} {i:Nat} (h:i<l.length):gs l i=l[i]:=by simp [gs,h]
theorem mD {l:List Slo} {i j:Nat} {s:Slo} (h:i<l.length):gs (l.set i s) j=if i=j then s else gs l j:=by
 simp only [gs,List.getD_eq_getElem?_getD,List.getElem?_set]
 by_cases e:i=j
 ·subst e;simp [h]
 ·simp [e]
def pV (r:Int):Bool:=decide (1≤r)&&decide (r≤64)
def iE (r:Int):List Slo:=if pV r=true then (List.range r.toNat).map fun (i:Nat)=>(⟨(i:Int),0⟩:Slo) else []
def lN (n i:Nat) (s:Slo):Bool:=decide (0≤s.st)&&decide (s.st≤2199023255552)&&I9 s.st n==i
def fH (l:List Slo):Bool:=pV l.length&&(List.range l.length).all fun i=>lN l.length i (gs l i)
def dY (l:List Slo) (p:Int):Bool:=decide (0≤p)&&fH l
def plc (l:List Slo) (p:Int):Nat:=(I9 p l.length).toNat
def dz (l:List Slo) (p:Int):Bool:=dY l p&&(gs l (plc l p)).st==p
def wrE (l:List Slo) (p:Int):Int:=if dY l p=false then 40 else if dz l p=false then 30 else 0
def wrL (l:List Slo) (p v:Int):List Slo:=if dz l p=true then l.set (plc l p) ⟨p,v⟩ else l
def rdE (l:List Slo) (p:Int):Int:=if dz l p=true then 0 else 40
def rdV (l:List Slo) (p:Int):Int:=if dz l p=true then (gs l (plc l p)).vl else 0
def rlB (l:List Slo) (p:Int):Bool:=dz l p&&decide (p≤1099511627776)
def rlE (l:List Slo) (p:Int):Int:=if rlB l p=true then 0 else 40
def rlL (l:List Slo) (p:Int):List Slo:=if rlB l p=true then l.set (plc l p) ⟨p+l.length,(gs l (plc l p)).vl⟩ else l
theorem iw {r:Int}:pV r=true↔1≤r∧r≤64:=by simp [pV]
theorem mM {n i:Nat} {s:Slo}:lN n i s=true↔0≤s.st∧s.st≤2199023255552∧I9 s.st n=i:=by simp [lN,and_assoc]
theorem aR {l:List Slo}:fH l=true↔(1≤l.length∧l.length≤64)∧∀ i,i<l.length→lN l.length i (gs l i)=true:=by
 unfold fH
 rw [Bool.and_eq_true,iw,List.all_eq_true]
 simp only [List.mem_range]
 constructor
 ·rintro ⟨h1,h2⟩;exact ⟨by omega,h2⟩
 ·rintro ⟨h1,h2⟩;exact ⟨by omega,h2⟩
theorem eP {l:List Slo} {p:Int}:dY l p=true↔0≤p∧fH l=true:=by simp [dY]
theorem oW {l:List Slo} {p:Int} (h:dY l p=true):plc l p<l.length∧I9 p l.length=(plc l p:Int):=by
 obtain ⟨h1,h2⟩:=eP.1 h
 have:=(aR.1 h2).1
 have:=EA h1 (show (1:Int)≤(l.length:Int) by omega)
 unfold plc
 omega
theorem dZ {l:List Slo} {p:Int} (h:dz l p=true):dY l p=true∧(gs l (plc l p)).st=p:=by
 simpa [dz] using h
theorem Lp {l:List Slo} {p:Int}:dz l p=true↔dY l p=true∧(gs l (plc l p)).st=p:=by simp [dz]
abbrev sts (l:List Slo):List Int:=l.map Slo.st
theorem qC {l m:List Slo} (h:sts l=sts m):l.length=m.length:=by simpa using congrArg List.length h
theorem GN {l m:List Slo} (h:sts l=sts m) (i:Nat):(gs l i).st=(gs m i).st:=by
 have hl:=qC h
 by_cases hi:i<l.length
 ·rw [oG hi,oG (by omega)]
  have h1:=congrArg (·[i]?) h
  simp only [sts,List.getElem?_map,List.getElem?_eq_getElem hi,List.getElem?_eq_getElem (show i<m.length by omega),Option.map_some,Option.some.injEq] at h1
  exact h1
 ·simp [gs,List.getElem?_eq_none (show l.length≤i by omega),List.getElem?_eq_none (show m.length≤i by omega)]
theorem ZF {l m:List Slo} (h:sts l=sts m):fH l=fH m:=by
 rw [Bool.eq_iff_iff,aR,aR,qC h]
 refine and_congr_right fun _=>forall₂_congr fun i _=>?_
 rw [mM,mM,GN h]
theorem KN {l m:List Slo} (h:sts l=sts m) (p:Int):plc l p=plc m p:=by unfold plc;rw [qC h]
theorem Hm (l:List Slo) (p v:Int):sts (wrL l p v)=sts l:=by
 unfold wrL
 split
 ·rename_i h
  obtain ⟨h1,h2⟩:=dZ h
  have h3:=(oW h1).1
  apply List.ext_getElem?
  intro j
  simp only [sts,List.getElem?_map,List.getElem?_set]
  by_cases e:plc l p=j
  ·subst e
   rw [if_pos rfl,if_pos h3,List.getElem?_eq_getElem h3,← oG h3]
   simp [h2]
  ·rw [if_neg e]
 ·rfl
theorem Da (l:List Slo) (p v:Int):(wrL l p v).length=l.length:=qC (Hm l p v)
theorem ig (l:List Slo) (p:Int):(rlL l p).length=l.length:=by unfold rlL;split <;> simp
theorem Yw (l:List Slo) (p v:Int):(wrE l p=0∧dz l p=true∧dY l p=true)∨(wrE l p=30∧wrL l p v=l∧dY l p=true)∨(wrE l p=40∧wrL l p v=l∧dY l p=false):=by
 unfold wrE wrL
 cases h:dY l p
 ·have:dz l p=false:=by simp [dz,h]
  simp [this]
 ·cases h2:dz l p <;> simp
theorem Mt {p n:Int} (h:0≤p) (hn:1≤n):I9 (p+n) n=I9 p n:=by
 have:=(Im h hn (show (0:Int)≤1 by omega)).2
 rwa [Int.one_mul] at this
theorem WK {a:List Slo} {p:Int} (h:dz a p=true) (hp:p≤1099511627776) :
  fH (rlL a p)=true∧rlE a p=0∧dz (rlL a p) p=false∧dz (rlL a p) (p+a.length)=true∧rlL a p=a.set (plc a p) ⟨p+a.length,(gs a (plc a p)).vl⟩:=by
 obtain ⟨h1,h2⟩:=dZ h
 obtain ⟨h3,h4⟩:=oW h1
 obtain ⟨h5,h6⟩:=eP.1 h1
 obtain ⟨h7,h8⟩:=aR.1 h6
 have hB:rlB a p=true:=by simp [rlB,h,hp]
 have hL:rlL a p=a.set (plc a p) ⟨p+a.length,(gs a (plc a p)).vl⟩:=by unfold rlL;rw [if_pos hB]
 have hlap:I9 (p+a.length) a.length=(plc a p:Int):=by rw [Mt h5 (by omega)];exact h4
 have hok:fH (rlL a p)=true:=by
  rw [aR,ig]
  refine ⟨h7,fun i hi=>?_⟩
  rw [hL,mD h3]
  split
  ·rename_i e
   subst e
   exact mM.2 ⟨by simp only;omega,by simp only;omega,hlap⟩
  ·exact h8 i hi
 have hg:∀ q:Int,I9 q a.length=(plc a p:Int)→gs (rlL a p) (plc (rlL a p) q)=⟨p+a.length,(gs a (plc a p)).vl⟩:=by
  intro q hq
  have:plc (rlL a p) q=plc a p:=by unfold plc at *;rw [ig,hq];omega
  rw [this,hL,mD h3,if_pos rfl]
 refine ⟨hok,by simp [rlE,hB],?_,?_,hL⟩
 ·unfold dz
  rw [hg p h4]
  simp;intro _;omega
 ·rw [Lp,hg _ hlap]
  exact ⟨eP.2 ⟨by omega,hok⟩,rfl⟩
theorem Dy {k:Nat} (h:1≤k∧k≤64):(iE k).length=k:=by
 unfold iE;rw [if_pos (iw.2 (by omega))];simp
theorem a0Y {k:Nat} (h:1≤k∧k≤64) {i:Nat} (hi:i<k):gs (iE k) i=⟨i,0⟩:=by
 unfold iE;rw [if_pos (iw.2 (by omega))];simp [gs,hi]
theorem Er {i k:Nat} (hi:i<k):I9 i k=i:=by
 rw [rD (by omega) (by omega)]
 exact Int.emod_eq_of_lt (by omega) (by omega)
theorem a1N {k:Nat} (h:1≤k∧k≤64):fH (iE k)=true:=by
 rw [aR,Dy h]
 refine ⟨h,fun i hi=>?_⟩
 rw [a0Y h hi]
 exact mM.2 ⟨by simp only;omega,by simp only;omega,Er hi⟩
end
section
open Go.ChangeShapes Go.WideShapes Go.ChangeAt Go.RowKit
abbrev Slo.size:Nat:=2
def Slo.ok (d:Slo):Prop:=In64 d.st∧In64 d.vl
end
section
structure Qu where
 vals:List Int
 cap:Int
 pol:Int
 mode:Int
structure En where
 th:Int
 ki:Int
 va:Int
 re:Int
 go:Int
def En.cells (e:En):List Value:=[.int .i64 e.th,.int .i64 e.ki,.int .i64 e.va,.int .i64 e.re,.int .i64 e.go]
def F5 (k:Int):Bool:=decide (1≤k)&&decide (k≤3)
def I5 (k:Int):Bool:=decide (4≤k)&&decide (k≤6)
def Qu.full (q:Qu):Bool:=decide (q.cap≤q.vals.length)
def Qu.with (q:Qu) (l:List Int):Qu:=⟨l,q.cap,q.pol,q.mode⟩
def Qu.gone (q:Qu) (n:Int):Qu×Bool :=
 match q.vals with
 | []=>(q,false)
 | v::r=>if v=n then (q.with r,true) else (q,false)
def Qu.send (q:Qu) (e:En):Qu×Bool :=
 if e.re=1 then (if decide (q.mode≠0)||q.full then (q,false) else (q.with (q.vals++[e.va]),true))
 else if e.re=2 then (q,decide (q.mode=0)&&q.full&&decide (q.pol=0)&&decide (e.ki=2))
 else if e.re=3 then (q,decide (q.mode=0)&&q.full&&decide (q.pol=1))
 else if e.re=5 then (q,decide (e.ki=3))
 else if e.re=6 then (q,decide (q.mode=1))
 else if e.re=7 then (q,decide (q.mode=2))
 else (q,false)
def Qu.recv (q:Qu) (e:En):Qu×Bool :=
 if e.re=1 then (if q.mode=2 then (q,false) else q.gone e.go)
 else if e.re=4 then (q,decide (q.mode=0)&&decide (q.vals.length=0)&&decide (e.ki=5))
 else if e.re=5 then (q,decide (e.ki=6))
 else if e.re=6 then (q,decide (q.mode=1)&&decide (q.vals.length=0))
 else if e.re=7 then (q,decide (q.mode=2))
 else (q,false)
def gW (m:Int):Int:=if m=0 then 1 else m
def Qu.tell (q:Qu) (e:En):Qu×Bool :=
 if F5 e.ki then q.send e
 else if I5 e.ki then q.recv e
 else if e.re≠1 then (q,false)
 else if e.ki=7 then (⟨q.vals,q.cap,q.pol,gW q.mode⟩,true)
 else if e.ki=8 then (⟨q.vals,q.cap,q.pol,2⟩,true)
 else if e.ki=9 then (if q.mode≠0∨q.pol≠2∨(q.vals.length:Int)<q.cap then (q,false) else q.gone e.go)
 else (q,false)
def Qu.all (q:Qu):List En→Qu×Nat
 | []=>(q,0)
 | e::l=>if (q.tell e).2 then (((q.tell e).1.all l).1,((q.tell e).1.all l).2+1) else (q,0)
end
section
open Go.ChangeShapes Go.WideShapes Go.ChangeAt Go.RowKit
abbrev En.size:Nat:=5
def En.ok (_:En):Prop:=True
theorem En.enc:Enc 5 En.cells:=⟨fun _=>rfl,fun x c hc=>by simp [En.cells] at hc;rcases hc with rfl | rfl | rfl | rfl | rfl <;> rfl⟩
def Qu.ok (q:Qu):Prop:=In64 q.cap∧In64 q.pol∧In64 q.mode
end
section
open Go.ChangeShapes Go.WideShapes Go.ChangeAt Go.RowKit
@[ext] structure Th where
 st:Int
 ki:Int
 va:Int
 un:Int
 pc:Int
 re:Int
 se:Int
 tr:Int
 la:Bool
 rs:Int
 go:Int
def Th.cells (c:Th):List Value:=[.int .i64 c.st,.int .i64 c.ki,.int .i64 c.va,.int .i64 c.un,.int .i64 c.pc,.int .i64 c.re,.int .i64 c.se,.int .i64 c.tr,.bool c.la,.int .i64 c.rs,.int .i64 c.go]
abbrev Th.size:Nat:=11
def Th.ok (c:Th):Prop:=In64 c.st∧In64 c.ki∧In64 c.va∧In64 c.un∧In64 c.pc∧In64 c.re∧In64 c.se∧In64 c.tr∧In64 c.rs∧In64 c.go
theorem Th.enc:Enc 11 Th.cells:=⟨fun _=>rfl,fun x c hc=>by simp [Th.cells] at hc;rcases hc with rfl | rfl | rfl | rfl | rfl | rfl | rfl | rfl | rfl | rfl | rfl <;> rfl⟩
theorem Am {a b:Th}:a=b↔(a.st=b.st∧a.ki=b.ki∧a.va=b.va∧a.un=b.un∧a.pc=b.pc∧a.re=b.re∧a.se=b.se∧a.tr=b.tr∧a.la=b.la∧a.rs=b.rs∧a.go=b.go):=Th.ext_iff
instance thEq:DecidableEq Th:=fun a b=>decidable_of_iff _ Am.symm
set_option maxHeartbeats 1000000 in
theorem PL (a b:Th) (w:World):(Op.equal 57 (.agg #[.int .i64 a.st,.int .i64 a.ki,.int .i64 a.va,.int .i64 a.un,.int .i64 a.pc,.int .i64 a.re,.int .i64 a.se,.int .i64 a.tr,.bool a.la,.int .i64 a.rs,.int .i64 a.go]) (.agg #[.int .i64 b.st,.int .i64 b.ki,.int .i64 b.va,.int .i64 b.un,.int .i64 b.pc,.int .i64 b.re,.int .i64 b.se,.int .i64 b.tr,.bool b.la,.int .i64 b.rs,.int .i64 b.go])).run Tryz.prog w = .ok (decide (a=b)) w:=by
 have hu:=Tryz.underlying57
 have h3:=Tryz.underlying3
 have h4:=Tryz.underlying4
 have hp:Tryz.prog.stoodInHeld 57=false:=by kernel_rfl
 have hc:Tryz.prog.info? 3=_:=rfl
 have hd:Tryz.prog.info? 4=_:=rfl
 have e:decide (a=b)=(a.st==b.st&&(a.ki==b.ki&&(a.va==b.va&&(a.un==b.un&&(a.pc==b.pc&&(a.re==b.re&&(a.se==b.se&&(a.tr==b.tr&&(a.la==b.la&&(a.rs==b.rs&&a.go==b.go)))))))))):=by
  rw [Bool.eq_iff_iff];simp only [decide_eq_true_eq,Bool.and_eq_true,beq_iff_eq];exact Am
 rw [e]
 unfold Op.equal Op.maxDepth
 rw [run_equalIn_struct w 9999 _ _ _ (by unfold Program.fieldsOf;rw [hu]) hp]
 unfold Program.fieldsOf
 rw [hu]
 cases c0:(a.st==b.st)
 ·simp [Op.eqFields,part,isAgg,run_underlying h3,run_underlying h4,run_equalIn_int _ _ _ _ _ _ _ h3,run_equalIn_bool _ _ _ _ _ h4,c0]
 cases c1:(a.ki==b.ki)
 ·simp [Op.eqFields,part,isAgg,run_underlying h3,run_underlying h4,run_equalIn_int _ _ _ _ _ _ _ h3,run_equalIn_bool _ _ _ _ _ h4,c0,c1]
 cases c2:(a.va==b.va)
 ·simp [Op.eqFields,part,isAgg,run_underlying h3,run_underlying h4,run_equalIn_int _ _ _ _ _ _ _ h3,run_equalIn_bool _ _ _ _ _ h4,c0,c1,c2]
 cases c3:(a.un==b.un)
 ·simp [Op.eqFields,part,isAgg,run_underlying h3,run_underlying h4,run_equalIn_int _ _ _ _ _ _ _ h3,run_equalIn_bool _ _ _ _ _ h4,c0,c1,c2,c3]
 cases c4:(a.pc==b.pc)
 ·simp [Op.eqFields,part,isAgg,run_underlying h3,run_underlying h4,run_equalIn_int _ _ _ _ _ _ _ h3,run_equalIn_bool _ _ _ _ _ h4,c0,c1,c2,c3,c4]
 cases c5:(a.re==b.re)
 ·simp [Op.eqFields,part,isAgg,run_underlying h3,run_underlying h4,run_equalIn_int _ _ _ _ _ _ _ h3,run_equalIn_bool _ _ _ _ _ h4,c0,c1,c2,c3,c4,c5]
 cases c6:(a.se==b.se)
 ·simp [Op.eqFields,part,isAgg,run_underlying h3,run_underlying h4,run_equalIn_int _ _ _ _ _ _ _ h3,run_equalIn_bool _ _ _ _ _ h4,c0,c1,c2,c3,c4,c5,c6]
 cases c7:(a.tr==b.tr)
 ·simp [Op.eqFields,part,isAgg,run_underlying h3,run_underlying h4,run_equalIn_int _ _ _ _ _ _ _ h3,run_equalIn_bool _ _ _ _ _ h4,c0,c1,c2,c3,c4,c5,c6,c7]
 cases c8:(a.la==b.la)
 ·simp [Op.eqFields,part,isAgg,run_underlying h3,run_underlying h4,run_equalIn_int _ _ _ _ _ _ _ h3,run_equalIn_bool _ _ _ _ _ h4,c0,c1,c2,c3,c4,c5,c6,c7,c8]
 cases c9:(a.rs==b.rs)
 ·simp [Op.eqFields,part,isAgg,run_underlying h3,run_underlying h4,run_equalIn_int _ _ _ _ _ _ _ h3,run_equalIn_bool _ _ _ _ _ h4,c0,c1,c2,c3,c4,c5,c6,c7,c8,c9]
 cases c10:(a.go==b.go)
 ·simp [Op.eqFields,part,isAgg,run_underlying h3,run_underlying h4,run_equalIn_int _ _ _ _ _ _ _ h3,run_equalIn_bool _ _ _ _ _ h4,c0,c1,c2,c3,c4,c5,c6,c7,c8,c9,c10]
 simp [Op.eqFields,part,isAgg,run_underlying h3,run_underlying h4,run_equalIn_int _ _ _ _ _ _ _ h3,run_equalIn_bool _ _ _ _ _ h4,c0,c1,c2,c3,c4,c5,c6,c7,c8,c9,c10]
theorem a0J (a b:Th) (w:World):(binOp .eql 57 (.agg #[.int .i64 a.st,.int .i64 a.ki,.int .i64 a.va,.int .i64 a.un,.int .i64 a.pc,.int .i64 a.re,.int .i64 a.se,.int .i64 a.tr,.bool a.la,.int .i64 a.rs,.int .i64 a.go]) (.agg #[.int .i64 b.st,.int .i64 b.ki,.int .i64 b.va,.int .i64 b.un,.int .i64 b.pc,.int .i64 b.re,.int .i64 b.se,.int .i64 b.tr,.bool b.la,.int .i64 b.rs,.int .i64 b.go])).run Tryz.prog w = .ok (.bool (decide (a=b))) w:=by
 have h:=PL a b w
 have hu:=Tryz.underlying57
 simp [binOp,h,run_underlying hu,Result.andThen]
end
section
open Go.ChangeShapes Go.WideShapes Go.ChangeAt Go.RowKit
structure St where
 cf:Cf
 hd:Int
 tl:Int
 md:Int
 sl:List Slo
 sn:List Int
 rc:List Int
 fe:Int
 fl:List Int
 ee:Int
 el:List Int
 nw:Int
 th:List Th
 lg:List En
structure Pz where
 p1:Option Addr
 k1:Nat
 p2:Option Addr
 k2:Nat
 p3:Option Addr
 k3:Nat
 p4:Option Addr
 k4:Nat
 p5:Option Addr
 k5:Nat
 p6:Option Addr
 k6:Nat
 p7:Option Addr
 k7:Nat
def St.cells (s:St) (z:Pz):List Value:=[.int .i64 s.cf.lg,.int .i64 s.cf.th,.int .i64 s.cf.po,.int .i64 s.cf.wt,.int .i64 s.cf.sp,.int .i64 s.cf.yi,.bool s.cf.si,.int .i64 s.hd,.int .i64 s.tl,.int .i64 s.md,
 .slice z.p1 s.sl.length z.k1,.slice z.p2 s.sn.length z.k2,.slice z.p3 s.rc.length z.k3,.int .i64 s.fe,.slice z.p4 s.fl.length z.k4,.int .i64 s.ee,.slice z.p5 s.el.length z.k5,.int .i64 s.nw,.slice z.p6 s.th.length z.k6,.slice z.p7 s.lg.length z.k7]
structure StAt (W:World) (s:St) (z:Pz):Prop where
 sl:Sl W 2 Slo.cells s.sl (.slice z.p1 s.sl.length z.k1)
 sn:Sl W 1 Z8 s.sn (.slice z.p2 s.sn.length z.k2)
 rc:Sl W 1 Z8 s.rc (.slice z.p3 s.rc.length z.k3)
 fl:Sl W 1 Z8 s.fl (.slice z.p4 s.fl.length z.k4)
 el:Sl W 1 Z8 s.el (.slice z.p5 s.el.length z.k5)
 th:Sl W 11 Th.cells s.th (.slice z.p6 s.th.length z.k6)
 lg:Sl W 5 En.cells s.lg (.slice z.p7 s.lg.length z.k7)
theorem StAt.kept {W W' : World} {s:St} {z:Pz} (h:StAt W s z) (hk:Below W.heap.size W W'):StAt W' s z:=⟨h.sl.kept hk,h.sn.kept hk,h.rc.kept hk,h.fl.kept hk,h.el.kept hk,h.th.kept hk,h.lg.kept hk⟩
structure St.ok (s:St):Prop where
 cf:s.cf.ok
 hd:In64 s.hd
 tl:In64 s.tl
 md:In64 s.md
 fe:In64 s.fe
 ee:In64 s.ee
 nw:In64 s.nw
 sl:(∀ x∈s.sl,x.ok)∧s.sl.length≤maxLen
 sn:(∀ x∈s.sn,In64 x)∧s.sn.length≤maxLen
 rc:(∀ x∈s.rc,In64 x)∧s.rc.length≤maxLen
 fl:(∀ x∈s.fl,In64 x)∧s.fl.length≤maxLen
 el:(∀ x∈s.el,In64 x)∧s.el.length≤maxLen
 th:(∀ x∈s.th,x.ok)∧s.th.length≤maxLen
 lg:s.lg.length≤maxLen
theorem row_of {α:Type} {W:World} {e:List (Ck 0)} {v:Value} (enc:α→List Value) (ok:α→Prop) (hne:0<e.length) (h:lV W (Ck.row e:Ck 1) v) (hd:∀ vs,ReadL W e vs→∃ x,vs=enc x∧ok x) :
  ∃ (xs:List α) (p:Option Addr) (k:Nat),v = .slice p xs.length k∧Sl W e.length enc xs (.slice p xs.length k)∧(∀ x∈xs,ok x)∧xs.length≤maxLen:=by
 obtain ⟨xs,hs,ho,hl⟩:=Sl.of_read enc ok hne h hd
 obtain ⟨p,k,rfl,_⟩:=hs.is
 exact ⟨xs,p,k,rfl,hs,ho,hl⟩
end
section
def opB (k:Int):Bool:=decide (1≤k)&&decide (k≤8)
def j6 (k:Int):Int:=if 1≤k∧k≤3 then 1 else if 4≤k∧k≤6 then 2 else if 7≤k∧k≤8 then 3 else 0
def K3 (k:Int):Bool:=(k==3)||(k==6)
def fE (k:Int):Bool:=(k==2)||(k==5)
def iO (th:Int) (si:Bool) (i k:Int):Int:=if i<0∨th≤i then 123 else if opB k=false then 190 else if si=true∧j6 k=2∧i≠0 then 123 else 0
theorem Tg (k:Int):k=1∨k=2∨k=3∨k=4∨k=5∨k=6∨k=7∨k=8∨(k<1∨8<k):=by omega
theorem X0 (k:Int):(j6 k=1∧1≤k∧k≤3)∨(j6 k=2∧4≤k∧k≤6)∨(j6 k=3∧7≤k∧k≤8)∨(j6 k=0∧(k<1∨8<k)):=by
 unfold j6
 repeat' split
 all_goals omega
theorem vZ {k:Int}:opB k=true↔1≤k∧k≤8:=by simp [opB]
end
section
def gU (n l h:Int):Bool:=decide (l≤n)&&decide (n≤h)
def uJ (st ki:Int):Bool:=(st==0&&ki==0)||(gU st 0 2&&opB ki)
def iT (ki un:Int) (la:Bool):Bool:=if K3 ki=true then gU un 0 1099511627776 else (un==0 && !la)
def mV (pc re se tr rs:Int):Bool:=gU pc 0 11&&(gU re 0 1099511627776&&(gU se (-1) 1099511627776&&(gU tr 0 1099511627776&&gU rs 0 7)))
def kW (st pc re se tr:Int) (la:Bool):Bool:=st==0&&(pc==0&&(re==0&&(se==0&&(tr==0 && !la))))
def thB (t:Th):Bool:=uJ t.st t.ki&&(iT t.ki t.un t.la&&(mV t.pc t.re t.se t.tr t.rs&&(!(t.st==0)||kW t.st t.pc t.re t.se t.tr t.la)))
def H7 (st:Int):Int:=if st=0 then 121 else if st=2 then 122 else 0
def zU (t:Th) (k v u E:Int) (r:Th):Prop :=
 (t.st≠0∧E=120∧r=t)∨(t.st=0∧opB k=false∧E=190∧r=t)∨(t.st=0∧opB k=true∧K3 k=false∧E=0∧r=⟨1,k,v,0,0,0,0,0,false,0,0⟩) ∨
 (t.st=0∧opB k=true∧K3 k=true∧¬(0≤u∧u≤1099511627776)∧E=50∧r=t)∨(t.st=0∧opB k=true∧K3 k=true∧(0≤u∧u≤1099511627776)∧E=0∧r=⟨1,k,v,u,0,0,0,0,false,0,0⟩)
def Qd (t:Th) (p E:Int) (r:Th):Prop :=
 (t.st=0∧E=121∧r=t)∨(t.st=2∧E=122∧r=t)∨(t.st≠0∧t.st≠2∧E=0∧r=⟨2,t.ki,t.va,t.un,p,t.re,t.se,0,t.la,t.rs,t.go⟩)
def Py (t:Th) (E:Int) (r:Th):Prop :=
 (t.st=0∧E=121∧r=t)∨(t.st=2∧E=122∧r=t)∨(t.st≠0∧t.st≠2∧E=0∧r=⟨0,t.ki,t.va,t.un,0,0,0,0,false,t.rs,t.go⟩)
def bI (b:Bool):Int:=if b=true then 1 else 0
theorem jv {k:Int}:K3 k=true↔(k=3∨k=6):=by simp [K3]
theorem K6 {st ki va un pc re se tr rs go:Int} {la:Bool}:thB ⟨st,ki,va,un,pc,re,se,tr,la,rs,go⟩=true ↔
  ((st=0∧ki=0)∨(0≤st∧st≤2∧1≤ki∧ki≤8))∧(((ki=3∨ki=6)∧0≤un∧un≤1099511627776)∨(¬(ki=3∨ki=6)∧un=0∧bI la=0)) ∧
  (0≤pc∧pc≤11∧0≤re∧re≤1099511627776∧-1≤se∧se≤1099511627776∧0≤tr∧tr≤1099511627776∧0≤rs∧rs≤7) ∧
  (st≠0∨(pc=0∧re=0∧se=0∧tr=0∧bI la=0)):=by
 have hw:iT ki un la=true↔(((ki=3∨ki=6)∧0≤un∧un≤1099511627776)∨(¬(ki=3∨ki=6)∧un=0∧bI la=0)):=by
  unfold iT
  by_cases h:ki=3∨ki=6
  ·rw [if_pos (jv.2 h)];cases la <;> simp [h,gU,bI]
  ·rw [if_neg (fun h' => h (jv.1 h'))];cases la <;> simp [h,bI]
 simp only [thB,Bool.and_eq_true,hw]
 cases la <;> simp [uJ,mV,kW,gU,opB,bI] <;> omega
end
section
def gQ (th i:Int):Bool:=decide (i<0)||decide (th≤i)
def ixI (l:List Int) (i:Int):Int:=if i∈l then (l.idxOf i:Int) else -1
def P5 (l:List Int):Bool:=!l.any (gQ 16)&&decide l.Nodup
def plI (l:List Int) (i:Int):Int:=if P5 l=true then ixI l i else -1
def aX (l:List Int) (i:Int):Int:=if P5 l=true∧gQ 16 i=false then (if i∈l then 60 else 0) else 40
def Z0 (l:List Int) (i:Int):List Int:=if aX l i=0 then l++[i] else l
def lvE (l:List Int) (i:Int):Int:=if plI l i<0 then 40 else 0
def lvL (l:List Int) (i:Int):List Int:=if plI l i<0 then l else l.eraseIdx (plI l i).toNat
def nxB (l:List Int):Bool:=P5 l && !l.isEmpty
def nxI (l:List Int):Int:=if nxB l=true then l.headD 0 else 0
def nxL (l:List Int):List Int:=if nxB l=true then l.tail else l
theorem aO {l:List Int}:P5 l=true↔(∀ x∈l,0≤x∧x≤15)∧l.Nodup:=by
 simp only [P5,Bool.and_eq_true,Bool.not_eq_true',List.any_eq_false,decide_eq_true_eq,gQ,Bool.or_eq_true,not_or]
 refine and_congr_left fun _=>forall₂_congr fun x _=>?_
 omega
theorem EN {i:Int}:gQ 16 i=false↔0≤i∧i≤15:=by
 simp [gQ];omega
theorem SB {l:List Int} {i:Int} {j:Nat} (hj:j<l.length) (hi:l[j]=i) (h:i∉l.take j):ixI l i=j:=by
 have hm:i∈l:=by rw [← hi];exact List.getElem_mem hj
 have hs:l=l.take j++i::l.drop (j+1):=by rw [← hi];simp
 unfold ixI
 rw [if_pos hm]
 have:l.idxOf i=j:=by
  rw [hs,List.idxOf_append,if_neg h]
  simp;omega
 rw [this]
theorem Ws {l:List Int} {i:Int} (h:i∉l):ixI l i = -1:=by simp [ixI,h]
theorem a2e {l:List Int} {i:Int} : -1≤ixI l i∧ixI l i<l.length:=by
 unfold ixI
 split
 ·rename_i h
  have:=List.idxOf_lt_length_iff.2 h
  omega
 ·omega
theorem uo {l:List Int} {i:Int}:0≤ixI l i↔i∈l:=by
 unfold ixI
 split <;> simp [*]
theorem ze {l:List Int} {i:Int} {j:Nat} (hj:j<l.length) (hi:l[j]≠i) (h:i∉l.take j):i∉l.take (j+1):=by
 rw [List.take_succ_eq_append_getElem hj]
 simp only [List.mem_append,List.mem_singleton,not_or]
 exact ⟨h,Ne.symm hi⟩
theorem lw {l:List Int} {j:Nat} (hj:j<l.length):(l.take (j+1)).Nodup↔(l.take j).Nodup∧l[j]∉l.take j:=by
 rw [List.take_succ_eq_append_getElem hj,List.nodup_append]
 simp only [List.mem_singleton]
 constructor
 ·rintro ⟨h1,-,h3⟩
  exact ⟨h1,fun h=>h3 _ h _ rfl rfl⟩
 ·rintro ⟨h1,h2⟩
  exact ⟨h1,by simp,fun a ha b hb e=>h2 (by rw [← hb,← e];exact ha)⟩
theorem rE {l:List Int} {j:Nat} (hj:j<l.length) (h:l[j]∈l.take j):¬ l.Nodup:=fun hn =>
 ((lw hj).1 (hn.sublist (List.take_sublist _ _))).2 h
theorem a1u {l:List Int} {i:Int} (h:aX l i=0):P5 l=true∧(0≤i∧i≤15)∧i∉l:=by
 unfold aX at h
 split at h
 ·rename_i hc
  split at h
  ·cases h
  ·rename_i hm
   exact ⟨hc.1,EN.1 hc.2,hm⟩
 ·cases h
theorem JB {l:List Int} {i:Int} (h1:P5 l=true) (h2:0≤i∧i≤15) (h3:i∉l):aX l i=0:=by
 unfold aX
 rw [if_pos ⟨h1,EN.2 h2⟩,if_neg h3]
theorem qf {l:List Int} {i:Int} (h:aX l i=0):Z0 l i=l++[i]:=by simp [Z0,h]
theorem Dw {l:List Int} {i:Int} (h:aX l i=0):P5 (l++[i])=true:=by
 obtain ⟨h1,h2,h3⟩:=a1u h
 obtain ⟨a,b⟩:=aO.1 h1
 refine aO.2 ⟨fun x hx=>?_,?_⟩
 ·rcases List.mem_append.1 hx with hx | hx
  ·exact a x hx
  ·rw [List.mem_singleton] at hx;subst hx;exact h2
 ·rw [List.nodup_append]
  exact ⟨b,by simp,fun x hx y hy e=>by rw [List.mem_singleton] at hy;subst hy;subst e;exact h3 hx⟩
theorem YB {l:List Int} {i:Int} : -1≤plI l i∧plI l i<l.length:=by
 unfold plI
 split
 ·exact a2e
 ·omega
theorem pQ {l:List Int} {i:Int} (h:0≤plI l i):P5 l=true∧∃ s t,l=s++i::t∧i∉s∧i∉t∧plI l i=s.length∧lvL l i=s++t∧P5 (s++t)=true:=by
 have hok:P5 l=true:=by
  unfold plI at h
  split at h
  ·assumption
  ·omega
 have hp:plI l i=ixI l i:=by unfold plI;rw [if_pos hok]
 have hm:i∈l:=uo.1 (by rw [← hp];exact h)
 obtain ⟨s,t,rfl⟩:=List.append_of_mem hm
 have hs:i∉s:=fun hi=>(List.nodup_append.1 (aO.1 hok).2).2.2 i hi i (by simp) rfl
 obtain ⟨a,b⟩:=aO.1 hok
 have hnd:=List.nodup_append.1 b
 have ht:i∉t:=(List.nodup_cons.1 hnd.2.1).1
 have hpl:plI (s++i::t) i=s.length:=by
  rw [hp,SB (j:=s.length) (by simp) (by simp) (by simpa using hs)]
 refine ⟨hok,s,t,rfl,hs,ht,hpl,?_,?_⟩
 ·unfold lvL
  rw [if_neg (by omega),hpl,Int.toNat_natCast,List.eraseIdx_append_of_length_le (by omega)]
  simp
 ·refine aO.2 ⟨fun x hx=>a x ?_,?_⟩
  ·rcases List.mem_append.1 hx with hx | hx <;> simp [hx]
  ·rw [List.nodup_append]
   exact ⟨hnd.1,(List.nodup_cons.1 hnd.2.1).2,fun x hx y hy=>hnd.2.2 x hx y (by simp [hy])⟩
theorem a2H {l:List Int} {i:Int} (h:lvE l i≠0):plI l i = -1∧lvL l i=l:=by
 have hn:plI l i<0:=by
  unfold lvE at h
  split at h
  ·assumption
  ·exact absurd rfl h
 have:=YB (l:=l) (i:=i)
 exact ⟨by omega,by unfold lvL;rw [if_pos hn]⟩
theorem a1m {l:List Int} {i:Int} (h:lvE l i=0):0≤plI l i:=by
 unfold lvE at h
 split at h
 ·cases h
 ·omega
theorem O6 {l:List Int} (h:P5 l=true) (j:Nat):P5 (l.drop j)=true:=by
 obtain ⟨a,b⟩:=aO.1 h
 exact aO.2 ⟨fun x hx=>a x (List.mem_of_mem_drop hx),b.sublist (List.drop_sublist _ _)⟩
theorem Ef:∀ (n:Nat) (l:List Int),l.Nodup→(∀ x∈l,0≤x∧x<n)→l.length≤n
 | 0,l,_,h=>by
  cases l with
  | nil=>simp
  | cons x r=>have:=h x (by simp);omega
 | n+1,l,hd,h=>by
  have h1:=Ef n (l.erase (n:Int)) (hd.sublist List.erase_sublist) (fun x hx=>by
   have h2:=h x (List.mem_of_mem_erase hx)
   have h3:x≠(n:Int):=fun e=>by subst e;exact (hd.not_mem_erase) hx
   omega)
  have h4:=List.length_erase (a:=(n:Int)) (l:=l)
  split at h4 <;> omega
theorem X9 {l:List Int} (h:P5 l=true):l.length≤16:=by
 obtain ⟨a,b⟩:=aO.1 h
 exact Ef 16 l b (fun x hx=>by have:=a x hx;omega)
theorem Gd {l:List Int} {i:Int} (h:P5 l=true):P5 (Z0 l i)=true:=by
 unfold Z0
 split
 ·rename_i he;exact Dw he
 ·exact h
end
section
def okE (ep:Int) (l:List Int):Bool:=decide (0≤ep)&&decide (ep≤1099511627776)&&P5 l
def prE (ep:Int) (l:List Int):Int:=if okE ep l=true then ep else -1
def nxE (ep:Int):Int:=if ep+1≤1099511627776 then ep+1 else 1099511627776
def ntE (ep:Int) (l:List Int):Int:=if okE ep l=true then nxE ep else ep
def ntL (m:Nat) (ep:Int) (l:List Int):List Int:=if okE ep l=true then l.drop m else l
def ntT (m:Nat) (ep:Int) (l:List Int):List Int:=if okE ep l=true then l.take m else []
def cmC (ep:Int) (l:List Int) (i:Int):Int:=if okE ep l=true then aX l i else 40
def cmB (ep:Int) (l:List Int) (s i:Int):Bool:=okE ep l&&(aX l i==0)&&(ep==s)
def cmL (ep:Int) (l:List Int) (s i:Int):List Int:=if cmB ep l s i=true then l++[i] else l
def cnL (ep:Int) (l:List Int) (i:Int):List Int:=if okE ep l=true then lvL l i else l
def cnB (ep:Int) (l:List Int) (i:Int):Bool:=okE ep l&&(lvE l i==0)
def hdI (l:List Int):Int:=l.headD 0
def hdB (l:List Int):Bool:=!l.isEmpty
theorem O7 {ep:Int} {l:List Int}:okE ep l=true↔(0≤ep∧ep≤1099511627776)∧P5 l=true:=by
 simp [okE]
theorem R8 {ep:Int} {l:List Int} (h:okE ep l=true):P5 l=true:=(O7.1 h).2
theorem fF {ep:Int} {l m:List Int} (h:okE ep l=true) (hm:P5 m=true):okE (nxE ep) m=true:=by
 obtain ⟨⟨h1,h2⟩,_⟩:=O7.1 h
 refine O7.2 ⟨?_,hm⟩
 unfold nxE
 split <;> omega
theorem Em {ep:Int} {l m:List Int} (h:okE ep l=true) (hm:P5 m=true):okE ep m=true:=O7.2 ⟨(O7.1 h).1,hm⟩
theorem YM {l:List Int} (h:P5 l=true) (i:Int):P5 (lvL l i)=true:=by
 by_cases hv:lvE l i=0
 ·obtain ⟨-,s,t,-,-,-,-,hlv,hst⟩:=pQ (a1m hv)
  rw [hlv];exact hst
 ·rw [(a2H hv).2];exact h
theorem TF {l:List Int} (h:P5 l=true) (m:Nat):P5 (l.drop m)=true:=O6 h m
theorem Xj {ep:Int}:nxE ep=min (ep+1) 1099511627776:=by unfold nxE;rw [Int.min_def]
end
section
open Go.RowKit
structure Rnd (n₀ B S:Nat) (A C:World):Prop where
 os:C.os=A.os
 tape:C.tape=A.tape
 output:C.output=A.output
 size:A.heap.size≤C.heap.size
 block:∀ k,k<n₀∨(B≤k∧k<S)→C.heap[k]? = A.heap[k]?
theorem Rnd.refl (n₀ B S:Nat) (A:World):Rnd n₀ B S A A:=⟨rfl,rfl,rfl,Nat.le_refl _,fun _ _=>rfl⟩
theorem Rnd.trans {n₀ B S:Nat} {X Y Z:World} (h:Rnd n₀ B S X Y) (k:Rnd n₀ B S Y Z):Rnd n₀ B S X Z :=
 ⟨k.os.trans h.os,k.tape.trans h.tape,k.output.trans h.output,Nat.le_trans h.size k.size,fun i hi=>(k.block i hi).trans (h.block i hi)⟩
theorem Rnd.of_below {n₀ B S T:Nat} {A C:World} (h:Below T A C) (hn:n₀≤T) (hS:S≤T):Rnd n₀ B S A C :=
 ⟨h.os,h.tape,h.output,h.size,fun k hk=>h.block k (by omega)⟩
theorem Rnd.setCell {n₀ B S:Nat} {A C:World} (h:Rnd n₀ B S A C) {p:Addr} (hp:n₀≤p.block) (hp' : p.block<B∨S≤p.block) (u:Value):Rnd n₀ B S A (C.setCell p u) :=
 h.trans ⟨rfl,rfl,rfl,by simp [World.setCell],fun k hk=>Below.heap_setCell _ _ _ _ (by omega)⟩
structure Turn (B:Nat) (A C:World):Prop where
 os:C.os=A.os
 tape:C.tape=A.tape
 output:C.output=A.output
 size:A.heap.size≤C.heap.size
 block:∀ k o,A.heap[k]? = some o→k<B∨o.isCells=true→C.heap[k]? = some o
theorem Ju {W:World} {k:Nat} (h:k<W.heap.size):∃ o,W.heap[k]? = some o:=⟨W.heap[k],Array.getElem?_eq_getElem h⟩
theorem lt_of_some {W:World} {k:Nat} {o:Obj} (h:W.heap[k]? = some o):k<W.heap.size:=(Array.getElem?_eq_some_iff.1 h).1
theorem Turn.of_kept {B:Nat} {A C:World} (h:Below A.heap.size A C):Turn B A C :=
 ⟨h.os,h.tape,h.output,h.size,fun k _ hk _=>(h.block k (lt_of_some hk)).trans hk⟩
theorem Turn.putObj {B:Nat} {A:World} {l:Nat} {o:Obj} (h:A.heap[l]? = some o) (ho:o.isCells=false) (hl:B≤l) (o' : Obj):Turn B A (A.putObj l o') :=
 ⟨rfl,rfl,rfl,by simp,fun k p hk hp=>by
  have:k≠l:=by
   intro e;subst e;rw [h] at hk;cases hk
   rcases hp with hp | hp
   ·omega
   ·rw [ho] at hp;cases hp
  exact (World.putObj_heap_other this).trans hk⟩
theorem Turn.below {B:Nat} {A C w:World} (h:Turn B A C) (hB:w.heap.size≤B) (k:Below w.heap.size w A):Below w.heap.size w C :=
 k.trans ⟨h.os,h.tape,h.output,h.size,fun i hi=>by
  obtain ⟨o,ho⟩:=Ju (W:=A) (k:=i) (Nat.lt_of_lt_of_le hi k.size)
  rw [ho,h.block i o ho (.inl (by omega))]⟩
theorem Turn.cell {B:Nat} {A C:World} (h:Turn B A C) {p:Addr} {v:Value} (hc:A.cell? p=some v):C.cell? p=some v:=by
 obtain ⟨o,ho,hi⟩:=cells_of_cell hc
 rw [World.cell?_of_block (w:=A) ((h.block _ o ho (.inr hi)).trans ho.symm)];exact hc
theorem Turn.frozen {B:Nat} {A C:World} (h:Turn B A C) {p:Addr} {v:Value} (hc:A.cell? p=some v):C.frozen? p=A.frozen? p:=by
 obtain ⟨o,ho,hi⟩:=cells_of_cell hc
 exact World.frozen?_of_block (w:=A) ((h.block _ o ho (.inr hi)).trans ho.symm)
def Iter {α:Type} (P:Program) (gf:Nat) (bd lb:Array Value) (enc:α→Value) (n₀:Nat) (xs:List α) (w:World):Prop :=
 ∀ (l:Nat) (J Jx:List α→World→Prop) (W:World),Below w.heap.size w W →
  (∀ s A C,J s A→Below A.heap.size A C→J s C)→(∀ s A C,Jx s A→Below A.heap.size A C→Jx s C) →
  (∀ (m:Nat) pre x suf A,9≤m→xs=pre++x::suf→J pre A→YieldAt Fence.wide m P l #[enc x] A fun e C =>
   (e = .returned (.bool true)∧J (pre++[x]) C∧Rnd n₀ W.heap.size A.heap.size A C)∨(e = .returned (.bool false)∧Jx (pre++[x]) C)) →
  J [] W→Calls P gf (bd++#[.func (.yield l) #[] #[]]++lb) W fun e C=>(∃ v,e = .returned v)∧(J xs C∨∃ pre,Jx pre C)
def Xq {α:Type} (n₀ B S:Nat) (I:List α→World→Prop) (Ix:Code→List α→World→Prop) (xs:List α) (A:World):Exit→Act→World→Prop
 | .normal,_,C=>Rnd n₀ B S A C∧I xs C
 | .ret,_,C=>Rnd n₀ B S A C∧Ix .ret xs C
 | .exit id,_,C=>Rnd n₀ B S A C∧Ix (.exit id) xs C
 | _,_,_=>False
theorem Mq {α:Type} {P:Program} {n:Nat} {g:Operand} {ps:Array Tmp} {assign body:Code} {Q:Exit→Act→World→Prop} {a:Act} {w:World}
  {gf:Nat} {bd lb:Array Value} (hg:a.eval g = .func (.func gf) bd lb) (eg:∀ args w,(callFunc gf args).run P w = .ok (.enter gf args) w)
  {enc:α→Value} {n₀:Nat} {xs:List α} (hseq:Iter P gf bd lb enc n₀ xs w) (hn₀:n₀≤w.heap.size) (hps:ps.size=1)
  (I:List α→World→Prop) (Ix:Code→List α→World→Prop) (hI:∀ s A C,I s A→Turn w.heap.size A C→I s C) (hIx:∀ c s A C,Ix c s A→Turn w.heap.size A C→Ix c s C) (h0:I [] w)
  (hround:∀ (m l:Nat) (pre suf:List α) (x:α) (A:World),9≤m→xs=pre++x::suf→w.heap.size+2≤A.heap.size→I pre A →
   assign.wpIn (Fence.wide.inRound l) m P (Exit.then (fun a₁ A₁=>Below A.heap.size A A₁∧∀ C,Turn w.heap.size A₁ C→C.heap.size=A₁.heap.size →
     body.wpIn (Fence.wide.inRound l) m P (Xq n₀ w.heap.size A.heap.size I Ix (pre++[x]) C) a₁ C) (fun _ _ _=>False))
    { tmps:=(ps.zip #[enc x]).foldl (fun t (p,v)=>t.setIfInBounds p v) a.tmps,defers:=[] } A)
  (hdone:∀ (D:Nat) (W:World),w.heap.size≤D→I xs W→W.heap[D]? = some (.deferred (some []))→Q .normal { a with defers:={ target:=.collected D,args:=#[] }::a.defers } W)
  (hstop:∀ (D:Nat) (c:Code) (pre:List α) (W:World),w.heap.size≤D→Ix c pre W→W.heap[D]? = some (.deferred (some []))→c.wpIn Fence.wide n P Q { a with defers:={ target:=.collected D,args:=#[] }::a.defers } W) :
  (Code.rangeFunc g ps assign body).wpIn Fence.wide n P Q a w:=by
 refine wpIn_rangeFunc fun fn hfn=>?_
 obtain ⟨rec,hrec⟩:∃ rec:LoopState→Option Code→Loop,rec=fun st pe=>{ state:=st,pending:=pe,fn,tmps:=a.tmps,params:=ps,assign,body,defers:=w.heap.size }:=⟨_,rfl⟩
 obtain ⟨V,hV⟩:∃ V,(w.alloc (.deferred (some []))).alloc (.loop (rec .ready none))=V:=⟨_,rfl⟩
 have hwV:Below w.heap.size w V:=by rw [← hV];exact ((Below.refl _ w).alloc (Nat.le_refl _) _).alloc (by simp) _
 have hsV:V.heap.size=w.heap.size+2:=by rw [← hV];simp
 have hlV:V.heap[w.heap.size+1]? = some (.loop (rec .ready none)):=by
  rw [← hV];have:=World.alloc_heap_new (w.alloc (.deferred (some []))) (.loop (rec .ready none));rwa [World.size_alloc] at this
 have hdV:V.heap[w.heap.size]? = some (.deferred (some [])):=by
  rw [← hV];exact (Below.heap_alloc _ _ _ (by simp)).trans (World.alloc_heap_new w _)
 refine ⟨w.heap.size+1,[{ target:=.collected w.heap.size,args:=#[] }],V,{ target:=.fn (.func gf) lb,args:=bd++#[.func (.yield (w.heap.size+1)) #[] #[]] },V,gf,
  bd++#[.func (.yield (w.heap.size+1)) #[] #[]]++lb,V,?_,?_,fun _ _=>trivial,?_,fun h=>by simp [Fence.wide] at h,?_⟩
 ·rw [← hV,hrec];exact run_enterLoop_outer _ _ _ _ _
 ·simp only [resolve,hg]
  simp [go_sem,Deferred.ofValue]
 ·simp [invoke,go_sem,eg]
 refine (callsIn_wide.2 (hseq (w.heap.size+1)
  (fun pre W=>I pre W∧W.heap[w.heap.size+1]? = some (.loop (rec .ready none))∧W.heap[w.heap.size]? = some (.deferred (some []))∧w.heap.size+2≤W.heap.size)
  (fun pre W=>∃ c,Ix c pre W∧W.heap[w.heap.size+1]? = some (.loop (rec .done (some c)))∧W.heap[w.heap.size]? = some (.deferred (some [])))
  V hwV
  (fun s A C hs hk=>⟨hI s A C hs.1 (Turn.of_kept hk),(hk.block _ (lt_of_some hs.2.1)).trans hs.2.1,(hk.block _ (lt_of_some hs.2.2.1)).trans hs.2.2.1,Nat.le_trans hs.2.2.2 hk.size⟩)
  (fun s A C hs hk=>by obtain ⟨c,h1,h2,h3⟩:=hs;exact ⟨c,hIx c s A C h1 (Turn.of_kept hk),(hk.block _ (lt_of_some h2)).trans h2,(hk.block _ (lt_of_some h3)).trans h3⟩)
  ?_ ⟨hI _ _ _ h0 (Turn.of_kept hwV),hlV,hdV,by omega⟩)).mono ?_
 ·rintro m pre x suf A hm hxs ⟨hi,hl,hd,hsz⟩
  have hy:=run_yield (P:=P) (args:=#[enc x]) hl (by rw [hrec];exact hps.symm)
  rw [hrec] at hy
  refine ⟨fn,_,assign,body,hy,roundIn_of_wpIn trivial (wpIn_mono (hround m (w.heap.size+1) pre suf x A hm hxs hsz hi) ?_)⟩
  clear hy
  rintro e a₁ A₁ hq
  cases e with
  | normal =>
   obtain ⟨hk,hbody⟩:=hq
   have hl1:=(hk.block _ (lt_of_some hl)).trans hl
   have hd1:=(hk.block _ (lt_of_some hd)).trans hd
   refine ⟨_,run_beginRound hl1 (by rw [hrec]),wpIn_mono (hbody _ (Turn.putObj hl1 rfl (by omega) _) (by simp)) ?_⟩
   obtain ⟨A₂,hA₂⟩:∃ A₂,A₁.putObj (w.heap.size+1) (.loop { rec .ready none with state:=.busy })=A₂:=⟨_,rfl⟩
   rw [hA₂]
   have hl2:A₂.heap[w.heap.size+1]? = some (.loop (rec .busy none)):=by rw [← hA₂];exact (World.putObj_heap_same (lt_of_some hl1)).trans (by rw [hrec])
   have hd2:A₂.heap[w.heap.size]? = some (.deferred (some [])):=by rw [← hA₂];exact (World.putObj_heap_other (by omega)).trans hd1
   have ho2:∀ k,k≠w.heap.size+1→A₂.heap[k]? = A₁.heap[k]? := fun k hk=>by rw [← hA₂];exact World.putObj_heap_other hk
   have hs2:A₂.heap.size=A₁.heap.size:=by rw [← hA₂];simp
   have hos:A₂.os=A₁.os∧A₂.tape=A₁.tape∧A₂.output=A₁.output:=by rw [← hA₂];exact ⟨rfl,rfl,rfl⟩
   have fin:∀ (jump:Option Code) (C:World),Rnd n₀ w.heap.size A.heap.size A₂ C →
     (Instr.endRound (w.heap.size+1) jump).run P C = .ok (.bool jump.isNone) (C.putObj (w.heap.size+1) (.loop (rec (if jump.isNone then .ready else .done) jump))) ∧
     Turn w.heap.size C (C.putObj (w.heap.size+1) (.loop (rec (if jump.isNone then .ready else .done) jump))) ∧
     (C.putObj (w.heap.size+1) (.loop (rec (if jump.isNone then .ready else .done) jump))).heap[w.heap.size+1]? = some (.loop (rec (if jump.isNone then .ready else .done) jump)) ∧
     (C.putObj (w.heap.size+1) (.loop (rec (if jump.isNone then .ready else .done) jump))).heap[w.heap.size]? = some (.deferred (some [])):=fun jump C hC=>by
    have hl3:=(hC.block _ (.inr ⟨by omega,by omega⟩)).trans hl2
    have hd3:=(hC.block _ (.inr ⟨by omega,by omega⟩)).trans hd2
    have hr:=run_endRound (P:=P) jump hl3
    refine ⟨by rw [hr,hrec],Turn.putObj hl3 rfl (by omega) _,World.putObj_heap_same (lt_of_some hl3),(World.putObj_heap_other (by omega)).trans hd3⟩
   rintro e a₃ C hp
   cases e with
   | normal =>
    obtain ⟨hC,hi3⟩:=hp
    obtain ⟨hr,ht,hl4,hd4⟩:=fin none C hC
    refine ⟨_,_,hr,.inl ⟨rfl,⟨hI _ _ _ hi3 ht,hl4,hd4,?_⟩,?_⟩⟩
    ·have:=hC.size;have:=hk.size;simp;omega
    ·refine ⟨?_,?_,?_,?_,fun k hk' => ?_⟩
     ·exact hC.os.trans (hos.1.trans hk.os)
     ·exact hC.tape.trans (hos.2.1.trans hk.tape)
     ·exact hC.output.trans (hos.2.2.trans hk.output)
     ·have:=hC.size;have:=hk.size;simp;omega
     ·rw [World.putObj_heap_other (by omega),hC.block k (by omega),ho2 k (by omega),hk.block k (by omega)]
   | ret =>
    obtain ⟨hC,hi3⟩:=hp
    obtain ⟨hr,ht,hl4,hd4⟩:=fin (some .ret) C hC
    exact ⟨_,_,hr,.inr ⟨rfl,_,hIx _ _ _ _ hi3 ht,hl4,hd4⟩⟩
   | exit id =>
    obtain ⟨hC,hi3⟩:=hp
    obtain ⟨hr,ht,hl4,hd4⟩:=fin (some (.exit id)) C hC
    exact ⟨_,_,hr,.inr ⟨rfl,_,hIx _ _ _ _ hi3 ht,hl4,hd4⟩⟩
   | goto t=>exact hp.elim
   | panic ch=>exact hp.elim
   | outgrown=>exact hp.elim
  | ret=>exact hq
  | exit id=>exact hq
  | goto t=>exact hq
  | panic ch=>exact hq
  | outgrown=>exact hq
 ·rintro e C ⟨⟨v,rfl⟩,⟨hi,hl,hd,-⟩ | ⟨pre,c,hi,hl,hd⟩⟩
  ·have he:=run_endLoop (P:=P) hl (by rw [hrec];simp)
   rw [hrec] at he
   exact ⟨none,_,he,hdone _ _ (Nat.le_refl _) (hI _ _ _ hi (Turn.putObj hl rfl (by omega) _)) ((World.putObj_heap_other (by omega)).trans hd)⟩
  ·have he:=run_endLoop (P:=P) hl (by rw [hrec];simp)
   rw [hrec] at he
   exact ⟨some c,_,he,hstop _ c pre _ (Nat.le_refl _) (hIx _ _ _ _ hi (Turn.putObj hl rfl (by omega) _)) ((World.putObj_heap_other (by omega)).trans hd)⟩
end
section
structure Bd where
 n:Int
 low:Int
 high:Int
def Bd.val (b:Bd):Value:=.agg #[.int .i64 b.n,.int .i64 b.low,.int .i64 b.high]
def inB (n low high:Int):Bool:=decide (low≤n)&&decide (n≤high)
def Bd.inB (b:Bd):Bool:=Go.Proofs.YtfogkllejkmpdaaGreat.inB b.n b.low b.high
def sP (wt:Int):Int:=if wt=2 then 8 else 0
def zf (lg th po wt sp yi:Int):List Bd:=[⟨lg,1,6⟩,⟨th,1,16⟩,⟨po,0,2⟩,⟨wt,0,3⟩,⟨sp,0,sP wt⟩,⟨yi,0,sP wt⟩]
def okL (l:List Bd):Bool:=l.all Bd.inB
def fD (lg th po wt sp yi:Int):Bool:=okL (zf lg th po wt sp yi)
def ckI (lg th po wt sp yi:Int):Int:=if fD lg th po wt sp yi then 0 else 20
theorem Sj {l:List Bd} {x:Bd} (h:okL l=true) (k:x.inB=true):okL (l++[x])=true:=by
 unfold okL at *;simp only [List.all_append,h,Bool.true_and,List.all_cons,k,List.all_nil]
theorem Xa {lg th po wt sp yi:Int} {pre suf:List Bd} {x:Bd} (h:zf lg th po wt sp yi=pre++x::suf) (k:x.inB=false):fD lg th po wt sp yi=false:=by
 unfold fD okL;rw [h];simp only [List.all_append,List.all_cons,k,Bool.false_and,Bool.and_false]
theorem nA {lg th po wt sp yi:Int}:fD lg th po wt sp yi=true ↔
  1≤lg∧lg≤6∧1≤th∧th≤16∧0≤po∧po≤2∧0≤wt∧wt≤3∧0≤sp∧sp≤8∧0≤yi∧yi≤8∧(wt=2∨sp=0∧yi=0):=by
 unfold fD okL zf sP
 simp only [List.all_cons,List.all_nil,Bd.inB,inB,Bool.and_eq_true,decide_eq_true_eq,Bool.and_true]
 by_cases h:wt=2
 ·rw [if_pos h];omega
 ·rw [if_neg h];omega
theorem IA {lg th po wt sp yi:Int} (h:fD lg th po wt sp yi=true):ckI lg th po wt sp yi=0:=by rw [ckI,if_pos h]
theorem PR {lg th po wt sp yi:Int} (h:fD lg th po wt sp yi=false):ckI lg th po wt sp yi=20:=by rw [ckI,h];rfl
theorem a3k {lg th po wt sp yi:Int} (h:¬ (1≤lg∧lg≤6∧1≤th∧th≤16∧0≤po∧po≤2∧0≤wt∧wt≤3∧0≤sp∧sp≤8∧0≤yi∧yi≤8∧(wt=2∨sp=0∧yi=0))):fD lg th po wt sp yi=false:=by
 cases hm:fD lg th po wt sp yi
 ·rfl
 ·exact absurd (nA.1 hm) h
def pw (lg:Int):Int:=if lg=1 then 2 else if lg=2 then 4 else if lg=3 then 8 else if lg=4 then 16 else if lg=5 then 32 else 64
def rH (lg th po wt sp yi:Int):Int:=if fD lg th po wt sp yi then pw lg else 0
theorem WX {lg th po wt sp yi:Int} (h:fD lg th po wt sp yi=false):rH lg th po wt sp yi=0:=by rw [rH,h];rfl
theorem Fj {lg th po wt sp yi:Int} (h:fD lg th po wt sp yi=true):rH lg th po wt sp yi=pw lg:=by rw [rH,if_pos h]
theorem a2T (lg:Int):2≤pw lg∧pw lg≤64:=by
 unfold pw
 repeat' split
 all_goals omega
theorem WP (lg th po wt sp yi:Int):0≤rH lg th po wt sp yi∧rH lg th po wt sp yi≤64:=by
 have:=a2T lg
 unfold rH;split <;> omega
end
section
def cfB (c:Cf):Bool:=fD c.lg c.th c.po c.wt c.sp c.yi
def cfR (c:Cf):Int:=rH c.lg c.th c.po c.wt c.sp c.yi
def EP (many i:Int):Bool:=decide (many≤i)
def W9 (many:Int) (l:List Int):Bool:=P5 l && !(l.any (EP many))
def mg (t:Th):Bool:=!thB t
def bY (s:St):Bool:=H6 s.hd s.tl s.md (cfR s.cf)&&(decide ((s.sl.length:Int)=cfR s.cf)&&fH s.sl)
def iU (s:St):Bool:=decide ((s.th.length:Int)=s.cf.th) && !(s.th.any mg)
def oq (s:St):Bool:=W9 s.cf.th s.sn&&(W9 s.cf.th s.rc&&(W9 s.cf.th s.fl&&W9 s.cf.th s.el))
def stB (s:St):Bool:=cfB s.cf&&(bY s&&(oq s&&(okE s.fe s.fl&&(okE s.ee s.el&&(decide (0≤s.nw)&&(decide (s.nw≤1099511627776)&&iU s))))))
def th0:Th:=⟨0,0,0,0,0,0,0,0,false,0,0⟩
def gth (l:List Th) (i:Nat):Th:=l.getD i th0
theorem Rx {l:List Th} {i:Nat} (h:i<l.length):l[i]? = some (gth l i):=by simp [gth,h]
theorem pO {l:List Th} {i:Nat} (h:i<l.length):gth l i=l[i]:=by simp [gth,h]
theorem H9 {l:List Th} {i j:Nat} {t:Th} (h:i<l.length):gth (l.set i t) j=if i=j then t else gth l j:=by
 simp only [gth,List.getD_eq_getElem?_getD,List.getElem?_set]
 by_cases e:i=j
 ·subst e;simp [h]
 ·simp [e]
theorem qG {l:List Th} {i:Nat}:l.set i (gth l i)=l:=by
 apply List.ext_getElem?
 intro j
 rw [List.getElem?_set]
 by_cases e:i=j
 ·subst e
  by_cases h:i<l.length
  ·simp [h,gth]
  ·simp [h,List.getElem?_eq_none (by omega:l.length≤i)]
 ·simp [e]
def St.setTh (s:St) (i:Nat) (t:Th):St:=⟨s.cf,s.hd,s.tl,s.md,s.sl,s.sn,s.rc,s.fe,s.fl,s.ee,s.el,s.nw,s.th.set i t,s.lg⟩
def St.addLg (s:St) (e:En):St:=⟨s.cf,s.hd,s.tl,s.md,s.sl,s.sn,s.rc,s.fe,s.fl,s.ee,s.el,s.nw,s.th,s.lg++[e]⟩
theorem IP (s:St) (i:Nat):s.setTh i (gth s.th i)=s:=by
 cases s;simp only [St.setTh,qG]
def cf0:Cf:=⟨0,0,0,0,0,0,false⟩
def st0:St:=⟨cf0,0,0,0,[],[],[],0,[],0,[],0,[],[]⟩
def E5 (c:Cf):St:=⟨c,0,0,0,iE (cfR c),[],[],0,[],0,[],0,List.replicate c.th.toNat th0,[]⟩
def hasB (s:St) (i:Int):Bool:=stB s&&(decide (0≤i)&&decide (i<s.th.length))
def atV (s:St) (p:Int):Int:=(gs s.sl (plc s.sl p)).vl
def Q7 (s:St) (p:Int):Int:=if p<0 then 0 else if stB s=true then atV s p else 0
def quV (s:St):Qu:=if stB s=true then ⟨(List.range (s.tl - s.hd).toNat).map fun (n:Nat)=>atV s (s.hd+n),cfR s.cf,s.cf.po,s.md⟩ else ⟨[],0,0,0⟩
def mR (s:St) (i k v u E:Int) (r:St):Prop :=
 (stB s=false∧E=20∧r=s)∨(stB s=true∧iO s.cf.th s.cf.si i k≠0∧E=iO s.cf.th s.cf.si i k∧r=s) ∨
 (stB s=true∧iO s.cf.th s.cf.si i k=0∧∃ (n:Nat) (t:Th),i=n∧n<s.th.length∧zU (gth s.th n) k v u E t∧r=s.setTh n t)
def F3 (t:Th) (k r g:Int):Th:=if k=9 then t else ⟨t.st,t.ki,t.va,t.un,t.pc,t.re,t.se,t.tr,t.la,r,g⟩
def bH (s:St) (i k r g:Int):St:=if hasB s i=true then (s.setTh i.toNat (F3 (gth s.th i.toNat) k r g)).addLg ⟨i,k,(gth s.th i.toNat).va,r,g⟩ else s
theorem N7 {s:St}:stB s=true↔cfB s.cf=true∧bY s=true∧oq s=true∧okE s.fe s.fl=true∧okE s.ee s.el=true∧0≤s.nw∧s.nw≤1099511627776∧iU s=true:=by
 simp [stB,and_assoc]
theorem J5 {s:St} {i:Int}:hasB s i=true↔stB s=true∧0≤i∧i<s.th.length:=by simp [hasB]
theorem vC {c:Cf} (h:cfB c=true):cfR c=2∨cfR c=4∨cfR c=8∨cfR c=16∨cfR c=32∨cfR c=64:=by
 obtain ⟨lg,th,po,wt,sp,yi,si⟩:=c
 have hp:=nA.1 (show fD lg th po wt sp yi=true from h)
 have hc:cfR ⟨lg,th,po,wt,sp,yi,si⟩=pw lg:=Fj h
 rw [hc]
 clear hc
 obtain rfl | rfl | rfl | rfl | rfl | rfl:lg=1∨lg=2∨lg=3∨lg=4∨lg=5∨lg=6:=by omega
 all_goals decide
theorem Zf (c:Cf):0≤cfR c∧cfR c≤64:=WP _ _ _ _ _ _
theorem xe {c:Cf} (h:cfB c=true):1≤c.th∧c.th≤16∧1≤c.lg∧c.lg≤6∧0≤c.po∧c.po≤2∧0≤c.wt∧c.wt≤3:=by
 obtain ⟨lg,th,po,wt,sp,yi,si⟩:=c
 have hp:=nA.1 (show fD lg th po wt sp yi=true from h)
 simp only
 omega
theorem a1I:thB th0=true:=by decide
theorem FY:P5 []=true:=by decide
theorem Co {c:Cf} (h:cfB c=true):stB (E5 c)=true:=by
 have hr:=vC h
 have ht:=xe h
 have hb:pV (cfR c)=true:=iw.2 (by omega)
 obtain ⟨k,hk⟩:∃ k:Nat,cfR c=k:=⟨(cfR c).toNat,by omega⟩
 have hk' : 1≤k∧k≤64:=by omega
 have hl:(iE (cfR c)).length=k:=by rw [hk];exact Dy hk'
 have hstn:∀ m,W9 m []=true:=fun m=>by simp [W9,FY]
 have hE:okE 0 []=true:=by simp [okE,FY]
 refine N7.2 ⟨h,?_,?_,hE,hE,by simp [E5],by simp [E5],?_⟩
 ·unfold bY
  rw [Bool.and_eq_true,Bool.and_eq_true]
  refine ⟨?_,?_,?_⟩
  ·have:bV 0 0=0:=by decide
   show H6 0 0 0 (cfR c)=true
   simp [H6,this];omega
  ·exact decide_eq_true (show ((iE (cfR c)).length:Int)=cfR c by omega)
  ·show fH (iE (cfR c))=true
   rw [hk];exact a1N hk'
 ·simp [oq,E5,hstn]
 ·have h1:(List.replicate c.th.toNat th0).any mg=false:=by
   rw [List.any_eq_false]
   intro x hx
   rw [(List.mem_replicate.1 hx).2]
   simp [mg,a1I]
  have h2:((List.replicate c.th.toNat th0).length:Int)=c.th:=by rw [List.length_replicate];omega
  show (decide (((List.replicate c.th.toNat th0).length:Int)=c.th) && !((List.replicate c.th.toNat th0).any mg))=true
  rw [h1,decide_eq_true h2]
  rfl
end
section
def jX (h t m r:Int):Bool:=m==2 || !H6 h t m r
def qA (h t:Int):Bool:=decide (0<bV h t)
def acR (h t m r:Int):Int:=if jX h t m r then 7 else if m=1 then 6 else if lu h t r||t==1099511627776 then 2 else 1
def acT (h t m r:Int):Int:=if acR h t m r=1 then t+1 else t
def acP (h t m r:Int):Int:=if acR h t m r=1 then t else 0
def tkR (h t m r:Int):Int:=if jX h t m r then 7 else if qA h t then 1 else if m=1 then 6 else 4
def tkH (h t m r:Int):Int:=if tkR h t m r=1 then h+1 else h
def tkP (h t m r:Int):Int:=if tkR h t m r=1 then h else 0
def dA (h t m r x:Int):Bool:=h==x&&m==0&&H6 h t m r&&lu h t r&&qA h t
def evH (h t m r x:Int):Int:=if dA h t m r x then h+1 else h
def clM (m d:Int):Int:=if (d=1∨d=2)∧m<d then d else m
theorem lM {h t m r:Int} (c:H6 h t m r=true):qA h t=decide (h<t):=by
 have:=M3 c
 unfold qA;rw [Bool.eq_iff_iff];simp;omega
theorem xw {h t m r:Int} (c:H6 h t m r=true):lu h t r=decide (t - h=r):=by
 have:=M3 c
 unfold lu;rw [Bool.eq_iff_iff];simp;omega
theorem a3w {h t m r:Int} (c:acR h t m r≠1):acT h t m r=t∧acP h t m r=0:=by simp [acT,acP,c]
theorem DW {h t m r:Int} (c:acR h t m r=1):acT h t m r=t+1∧acP h t m r=t:=by simp [acT,acP,c]
theorem El {h t m r:Int} (c:tkR h t m r≠1):tkH h t m r=h∧tkP h t m r=0:=by simp [tkH,tkP,c]
theorem a0b {h t m r:Int} (c:tkR h t m r=1):tkH h t m r=h+1∧tkP h t m r=h:=by simp [tkH,tkP,c]
theorem WS {h t m r:Int}:acR h t m r=1↔H6 h t m r=true∧m=0∧t - h<r∧t<1099511627776:=by
 unfold acR jX
 cases c:H6 h t m r
 ·simp
 ·have:=M3 c
  rw [xw c]
  by_cases h2:m=2
  ·simp [h2]
  ·by_cases h1:m=1
   ·simp [h1]
   ·by_cases hf:t - h=r
    ·simp [h1,h2,hf]
    ·by_cases he:t=1099511627776
     ·simp [h1,h2,hf,he]
     ·simp [h1,h2,hf,he];omega
theorem PY {h t m r x:Int}:dA h t m r x=true↔H6 h t m r=true∧m=0∧h=x∧t - h=r∧h<t:=by
 unfold dA
 cases c:H6 h t m r
 ·simp
 ·rw [lM c,xw c];simp
  constructor <;> (intro h;omega)
end
end Go.Proofs.YtfogkllejkmpdaaGreat
