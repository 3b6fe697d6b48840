/- Texts merged: FifoXT, ThT, StT, OpFT, ThFT, LineFT, EventFT, IterT, ConfFT, FabFT, WordFT, WordGT, WayFT, SendFT. -/
import Derived.Test.YtbckpadeamlidaaGreatZe4
import Derived.Test.YtbckpadeamlidaaGreatZe3
import Derived.Laws.StructEq
import Derived.Test.YtbckpadeamlidaaGreatZe1
import Derived.Lib.Hide
import Derived.RangeFuncNested
import Derived.RangeFuncLeaves
import Derived.Shelf.Abstract
import Derived.Shelf.RegionOpen
import Derived.OwnWalkIn
import Derived.TacticsInMore
import Derived.LoopNIn
import Derived.LoopIn
namespace Go.Proofs.YtbckpadeamlidaaGreat
set_option linter.unusedVariables false
set_option linter.unusedSimpArgs false
set_option maxRecDepth 100000
section
open Go.ChangeShapes Go.WideShapes Go.ChangeAt Go.RowKit
def En.shape:List (Ck 0):=[.int .i64,.int .i64,.int .i64,.int .i64,.int .i64]
abbrev En.size:Nat:=5
def En.ok (_:En):Prop:=True
def En.zero:List Value:=[.int .i64 0,.int .i64 0,.int .i64 0,.int .i64 0,.int .i64 0]
theorem En.of_read {W:World} {vs:List Value} (h:ReadL W En.shape vs):∃ e:En,vs=e.cells∧e.ok:=by
 simp only [En.shape,read_nil,read_cons,read_int,read_bool,read_str] at h
 obtain ⟨_,_,rfl,⟨th,rfl,h0⟩,_,_,rfl,⟨ki,rfl,h1⟩,_,_,rfl,⟨va,rfl,h2⟩,_,_,rfl,⟨re,rfl,h3⟩,_,_,rfl,⟨go,rfl,h4⟩,rfl⟩:=h
 exact ⟨⟨th,ki,va,re,go⟩,rfl,trivial⟩
theorem En.enc:Enc 5 En.cells:=⟨fun _=>rfl,fun x c hc=>by simp [En.cells] at hc;rcases hc with rfl | rfl | rfl | rfl | rfl <;> rfl⟩
def Qu.shape:List (Ck 1):=[.row [.int .i64],.int .i64,.int .i64,.int .i64]
def Qu.ok (q:Qu):Prop:=In64 q.cap∧In64 q.pol∧In64 q.mode
theorem Qu.of_read {W:World} {vs:List Value} (h:ReadL W Qu.shape vs):∃ (q:Qu) (p:Option Addr) (k:Nat),vs=[.slice p q.vals.length k,.int .i64 q.cap,.int .i64 q.pol,.int .i64 q.mode]∧Sl W 1 intC q.vals (.slice p q.vals.length k)∧q.ok∧q.vals.length≤maxLen:=by
 simp only [Qu.shape,read_cons,read_nil,read_int] at h
 obtain ⟨v,_,rfl,hv,_,_,rfl,⟨c,rfl,h1⟩,_,_,rfl,⟨po,rfl,h2⟩,_,_,rfl,⟨m,rfl,h3⟩,rfl⟩:=h
 obtain ⟨xs,hs,_,hl⟩:=Sl.of_read (α:=Int) intC (fun _=>True) (by decide) hv (fun vs h=>by
  simp only [read_cons,read_nil,read_int] at h
  obtain ⟨_,_,rfl,⟨x,rfl,_⟩,rfl⟩:=h
  exact ⟨x,rfl,trivial⟩)
 obtain ⟨p,k,rfl,_⟩:=hs.is
 exact ⟨⟨xs,c,po,m⟩,p,k,rfl,hs,⟨in64_of_wf h1,in64_of_wf h2,in64_of_wf h3⟩,hl⟩
end
section
open Go.ChangeShapes Go.WideShapes Go.ChangeAt Go.RowKit
@[ext] structure Th where
 st:Int
 ki:Int
 va:Int
 un:Int
 pc:Int
 re:Int
 se:Int
 tr:Int
 la:Bool
 rs:Int
 go:Int
def Th.cells (c:Th):List Value:=[.int .i64 c.st,.int .i64 c.ki,.int .i64 c.va,.int .i64 c.un,.int .i64 c.pc,.int .i64 c.re,.int .i64 c.se,.int .i64 c.tr,.bool c.la,.int .i64 c.rs,.int .i64 c.go]
def Th.shape:List (Ck 0):=[.int .i64,.int .i64,.int .i64,.int .i64,.int .i64,.int .i64,.int .i64,.int .i64,.bool,.int .i64,.int .i64]
abbrev Th.size:Nat:=11
def Th.ok (c:Th):Prop:=In64 c.st∧In64 c.ki∧In64 c.va∧In64 c.un∧In64 c.pc∧In64 c.re∧In64 c.se∧In64 c.tr∧In64 c.rs∧In64 c.go
def Th.zero:List Value:=[.int .i64 0,.int .i64 0,.int .i64 0,.int .i64 0,.int .i64 0,.int .i64 0,.int .i64 0,.int .i64 0,.bool false,.int .i64 0,.int .i64 0]
theorem Th.of_read {W:World} {vs:List Value} (h:ReadL W Th.shape vs):∃ c:Th,vs=c.cells∧c.ok:=by
 simp only [Th.shape,read_nil,read_cons,read_int,read_bool,read_str] at h
 obtain ⟨_,_,rfl,⟨st,rfl,h0⟩,_,_,rfl,⟨ki,rfl,h1⟩,_,_,rfl,⟨va,rfl,h2⟩,_,_,rfl,⟨un,rfl,h3⟩,_,_,rfl,⟨pc,rfl,h4⟩,_,_,rfl,⟨re,rfl,h5⟩,_,_,rfl,⟨se,rfl,h6⟩,_,_,rfl,⟨tr,rfl,h7⟩,_,_,rfl,⟨la,rfl⟩,_,_,rfl,⟨rs,rfl,h9⟩,_,_,rfl,⟨go,rfl,h10⟩,rfl⟩:=h
 exact ⟨⟨st,ki,va,un,pc,re,se,tr,la,rs,go⟩,rfl,in64_of_wf h0,in64_of_wf h1,in64_of_wf h2,in64_of_wf h3,in64_of_wf h4,in64_of_wf h5,in64_of_wf h6,in64_of_wf h7,in64_of_wf h9,in64_of_wf h10⟩
theorem Th.enc:Enc 11 Th.cells:=⟨fun _=>rfl,fun x c hc=>by simp [Th.cells] at hc;rcases hc with rfl | rfl | rfl | rfl | rfl | rfl | rfl | rfl | rfl | rfl | rfl <;> rfl⟩
theorem th_eq_iff {a b:Th}:a=b↔(a.st=b.st∧a.ki=b.ki∧a.va=b.va∧a.un=b.un∧a.pc=b.pc∧a.re=b.re∧a.se=b.se∧a.tr=b.tr∧a.la=b.la∧a.rs=b.rs∧a.go=b.go):=Th.ext_iff
instance thEq:DecidableEq Th:=fun a b=>decidable_of_iff _ th_eq_iff.symm
set_option maxHeartbeats 1000000 in
theorem th_equal (a b:Th) (w:World):(Op.equal 52 (.agg #[.int .i64 a.st,.int .i64 a.ki,.int .i64 a.va,.int .i64 a.un,.int .i64 a.pc,.int .i64 a.re,.int .i64 a.se,.int .i64 a.tr,.bool a.la,.int .i64 a.rs,.int .i64 a.go]) (.agg #[.int .i64 b.st,.int .i64 b.ki,.int .i64 b.va,.int .i64 b.un,.int .i64 b.pc,.int .i64 b.re,.int .i64 b.se,.int .i64 b.tr,.bool b.la,.int .i64 b.rs,.int .i64 b.go])).run Tryz.prog w = .ok (decide (a=b)) w:=by
 have hu:=Tryz.underlying52
 have h3:=Tryz.underlying3
 have h4:=Tryz.underlying4
 have hp:Tryz.prog.stoodInHeld 52=false:=by kernel_rfl
 have hc:Tryz.prog.info? 3=_:=rfl
 have hd:Tryz.prog.info? 4=_:=rfl
 have e:decide (a=b)=(a.st==b.st&&(a.ki==b.ki&&(a.va==b.va&&(a.un==b.un&&(a.pc==b.pc&&(a.re==b.re&&(a.se==b.se&&(a.tr==b.tr&&(a.la==b.la&&(a.rs==b.rs&&a.go==b.go)))))))))):=by
  rw [Bool.eq_iff_iff];simp only [decide_eq_true_eq,Bool.and_eq_true,beq_iff_eq];exact th_eq_iff
 rw [e]
 unfold Op.equal Op.maxDepth
 rw [run_equalIn_struct w 9999 _ _ _ (by unfold Program.fieldsOf;rw [hu]) hp]
 unfold Program.fieldsOf
 rw [hu]
 cases c0:(a.st==b.st)
 ·simp [Op.eqFields,part,isAgg,run_underlying h3,run_underlying h4,run_equalIn_int _ _ _ _ _ _ _ h3,run_equalIn_bool _ _ _ _ _ h4,c0]
 cases c1:(a.ki==b.ki)
 ·simp [Op.eqFields,part,isAgg,run_underlying h3,run_underlying h4,run_equalIn_int _ _ _ _ _ _ _ h3,run_equalIn_bool _ _ _ _ _ h4,c0,c1]
 cases c2:(a.va==b.va)
 ·simp [Op.eqFields,part,isAgg,run_underlying h3,run_underlying h4,run_equalIn_int _ _ _ _ _ _ _ h3,run_equalIn_bool _ _ _ _ _ h4,c0,c1,c2]
 cases c3:(a.un==b.un)
 ·simp [Op.eqFields,part,isAgg,run_underlying h3,run_underlying h4,run_equalIn_int _ _ _ _ _ _ _ h3,run_equalIn_bool _ _ _ _ _ h4,c0,c1,c2,c3]
 cases c4:(a.pc==b.pc)
 ·simp [Op.eqFields,part,isAgg,run_underlying h3,run_underlying h4,run_equalIn_int _ _ _ _ _ _ _ h3,run_equalIn_bool _ _ _ _ _ h4,c0,c1,c2,c3,c4]
 cases c5:(a.re==b.re)
 ·simp [Op.eqFields,part,isAgg,run_underlying h3,run_underlying h4,run_equalIn_int _ _ _ _ _ _ _ h3,run_equalIn_bool _ _ _ _ _ h4,c0,c1,c2,c3,c4,c5]
 cases c6:(a.se==b.se)
 ·simp [Op.eqFields,part,isAgg,run_underlying h3,run_underlying h4,run_equalIn_int _ _ _ _ _ _ _ h3,run_equalIn_bool _ _ _ _ _ h4,c0,c1,c2,c3,c4,c5,c6]
 cases c7:(a.tr==b.tr)
 ·simp [Op.eqFields,part,isAgg,run_underlying h3,run_underlying h4,run_equalIn_int _ _ _ _ _ _ _ h3,run_equalIn_bool _ _ _ _ _ h4,c0,c1,c2,c3,c4,c5,c6,c7]
 cases c8:(a.la==b.la)
 ·simp [Op.eqFields,part,isAgg,run_underlying h3,run_underlying h4,run_equalIn_int _ _ _ _ _ _ _ h3,run_equalIn_bool _ _ _ _ _ h4,c0,c1,c2,c3,c4,c5,c6,c7,c8]
 cases c9:(a.rs==b.rs)
 ·simp [Op.eqFields,part,isAgg,run_underlying h3,run_underlying h4,run_equalIn_int _ _ _ _ _ _ _ h3,run_equalIn_bool _ _ _ _ _ h4,c0,c1,c2,c3,c4,c5,c6,c7,c8,c9]
 cases c10:(a.go==b.go)
 ·simp [Op.eqFields,part,isAgg,run_underlying h3,run_underlying h4,run_equalIn_int _ _ _ _ _ _ _ h3,run_equalIn_bool _ _ _ _ _ h4,c0,c1,c2,c3,c4,c5,c6,c7,c8,c9,c10]
 simp [Op.eqFields,part,isAgg,run_underlying h3,run_underlying h4,run_equalIn_int _ _ _ _ _ _ _ h3,run_equalIn_bool _ _ _ _ _ h4,c0,c1,c2,c3,c4,c5,c6,c7,c8,c9,c10]
theorem th_neq (a b:Th) (w:World):(binOp .neq 52 (.agg #[.int .i64 a.st,.int .i64 a.ki,.int .i64 a.va,.int .i64 a.un,.int .i64 a.pc,.int .i64 a.re,.int .i64 a.se,.int .i64 a.tr,.bool a.la,.int .i64 a.rs,.int .i64 a.go]) (.agg #[.int .i64 b.st,.int .i64 b.ki,.int .i64 b.va,.int .i64 b.un,.int .i64 b.pc,.int .i64 b.re,.int .i64 b.se,.int .i64 b.tr,.bool b.la,.int .i64 b.rs,.int .i64 b.go])).run Tryz.prog w = .ok (.bool (!decide (a=b))) w:=by
 have h:=th_equal a b w
 have hu:=Tryz.underlying52
 simp [binOp,h,run_underlying hu,Result.andThen]
theorem th_eql (a b:Th) (w:World):(binOp .eql 52 (.agg #[.int .i64 a.st,.int .i64 a.ki,.int .i64 a.va,.int .i64 a.un,.int .i64 a.pc,.int .i64 a.re,.int .i64 a.se,.int .i64 a.tr,.bool a.la,.int .i64 a.rs,.int .i64 a.go]) (.agg #[.int .i64 b.st,.int .i64 b.ki,.int .i64 b.va,.int .i64 b.un,.int .i64 b.pc,.int .i64 b.re,.int .i64 b.se,.int .i64 b.tr,.bool b.la,.int .i64 b.rs,.int .i64 b.go])).run Tryz.prog w = .ok (.bool (decide (a=b))) w:=by
 have h:=th_equal a b w
 have hu:=Tryz.underlying52
 simp [binOp,h,run_underlying hu,Result.andThen]
end
section
open Go.ChangeShapes Go.WideShapes Go.ChangeAt Go.RowKit
structure St where
 cf:Cf
 hd:Int
 tl:Int
 md:Int
 sl:List Slo
 sn:List Int
 rc:List Int
 fe:Int
 fl:List Int
 ee:Int
 el:List Int
 nw:Int
 th:List Th
 lg:List En
structure Pz where
 p1:Option Addr
 k1:Nat
 p2:Option Addr
 k2:Nat
 p3:Option Addr
 k3:Nat
 p4:Option Addr
 k4:Nat
 p5:Option Addr
 k5:Nat
 p6:Option Addr
 k6:Nat
 p7:Option Addr
 k7:Nat
def St.cells (s:St) (z:Pz):List Value:=[.int .i64 s.cf.lg,.int .i64 s.cf.th,.int .i64 s.cf.po,.int .i64 s.cf.wt,.int .i64 s.cf.sp,.int .i64 s.cf.yi,.bool s.cf.si,.int .i64 s.hd,.int .i64 s.tl,.int .i64 s.md,
 .slice z.p1 s.sl.length z.k1,.slice z.p2 s.sn.length z.k2,.slice z.p3 s.rc.length z.k3,.int .i64 s.fe,.slice z.p4 s.fl.length z.k4,.int .i64 s.ee,.slice z.p5 s.el.length z.k5,.int .i64 s.nw,.slice z.p6 s.th.length z.k6,.slice z.p7 s.lg.length z.k7]
def St.zero:List Value:=[.int .i64 0,.int .i64 0,.int .i64 0,.int .i64 0,.int .i64 0,.int .i64 0,.bool false,.int .i64 0,.int .i64 0,.int .i64 0,
 .slice none 0 0,.slice none 0 0,.slice none 0 0,.int .i64 0,.slice none 0 0,.int .i64 0,.slice none 0 0,.int .i64 0,.slice none 0 0,.slice none 0 0]
def St.shape:List (Ck 1):=[.int .i64,.int .i64,.int .i64,.int .i64,.int .i64,.int .i64,.bool,.int .i64,.int .i64,.int .i64,
 .row Slo.shape,.row intShape,.row intShape,.int .i64,.row intShape,.int .i64,.row intShape,.int .i64,.row Th.shape,.row En.shape]
structure StAt (W:World) (s:St) (z:Pz):Prop where
 sl:Sl W 2 Slo.cells s.sl (.slice z.p1 s.sl.length z.k1)
 sn:Sl W 1 intC s.sn (.slice z.p2 s.sn.length z.k2)
 rc:Sl W 1 intC s.rc (.slice z.p3 s.rc.length z.k3)
 fl:Sl W 1 intC s.fl (.slice z.p4 s.fl.length z.k4)
 el:Sl W 1 intC s.el (.slice z.p5 s.el.length z.k5)
 th:Sl W 11 Th.cells s.th (.slice z.p6 s.th.length z.k6)
 lg:Sl W 5 En.cells s.lg (.slice z.p7 s.lg.length z.k7)
theorem StAt.kept {W W' : World} {s:St} {z:Pz} (h:StAt W s z) (hk:Below W.heap.size W W'):StAt W' s z:=⟨h.sl.kept hk,h.sn.kept hk,h.rc.kept hk,h.fl.kept hk,h.el.kept hk,h.th.kept hk,h.lg.kept hk⟩
structure St.ok (s:St):Prop where
 cf:s.cf.ok
 hd:In64 s.hd
 tl:In64 s.tl
 md:In64 s.md
 fe:In64 s.fe
 ee:In64 s.ee
 nw:In64 s.nw
 sl:(∀ x∈s.sl,x.ok)∧s.sl.length≤maxLen
 sn:(∀ x∈s.sn,In64 x)∧s.sn.length≤maxLen
 rc:(∀ x∈s.rc,In64 x)∧s.rc.length≤maxLen
 fl:(∀ x∈s.fl,In64 x)∧s.fl.length≤maxLen
 el:(∀ x∈s.el,In64 x)∧s.el.length≤maxLen
 th:(∀ x∈s.th,x.ok)∧s.th.length≤maxLen
 lg:s.lg.length≤maxLen
theorem row_of {α:Type} {W:World} {e:List (Ck 0)} {v:Value} (enc:α→List Value) (ok:α→Prop) (hne:0<e.length) (h:ReadC W (Ck.row e:Ck 1) v) (hd:∀ vs,ReadL W e vs→∃ x,vs=enc x∧ok x) :
  ∃ (xs:List α) (p:Option Addr) (k:Nat),v = .slice p xs.length k∧Sl W e.length enc xs (.slice p xs.length k)∧(∀ x∈xs,ok x)∧xs.length≤maxLen:=by
 obtain ⟨xs,hs,ho,hl⟩:=Sl.of_read enc ok hne h hd
 obtain ⟨p,k,rfl,_⟩:=hs.is
 exact ⟨xs,p,k,rfl,hs,ho,hl⟩
theorem St.of_read {W:World} {vs:List Value} (h:ReadL W St.shape vs):∃ (s:St) (z:Pz),vs=s.cells z∧StAt W s z∧s.ok:=by
 simp only [St.shape,read_nil,read_cons,read_int,read_bool,read_str] at h
 obtain ⟨_,_,rfl,⟨c0,rfl,h0⟩,_,_,rfl,⟨c1,rfl,h1⟩,_,_,rfl,⟨c2,rfl,h2⟩,_,_,rfl,⟨c3,rfl,h3⟩,_,_,rfl,⟨c4,rfl,h4⟩,_,_,rfl,⟨c5,rfl,h5⟩,_,_,rfl,⟨c6,rfl⟩,_,_,rfl,⟨c7,rfl,h7⟩,_,_,rfl,⟨c8,rfl,h8⟩,_,_,rfl,⟨c9,rfl,h9⟩,
  v1,_,rfl,r1,v2,_,rfl,r2,v3,_,rfl,r3,_,_,rfl,⟨c13,rfl,h13⟩,v4,_,rfl,r4,_,_,rfl,⟨c15,rfl,h15⟩,v5,_,rfl,r5,_,_,rfl,⟨c17,rfl,h17⟩,v6,_,rfl,r6,v7,_,rfl,r7,rfl⟩:=h
 obtain ⟨sl,p1,k1,rfl,s1,o1,m1⟩:=row_of Slo.cells Slo.ok (by decide) r1 (fun vs h=>Slo.of_read h)
 obtain ⟨sn,p2,k2,rfl,s2,o2,m2⟩:=row_of intC In64 (by decide) r2 (fun vs h=>int_of_read h)
 obtain ⟨rc,p3,k3,rfl,s3,o3,m3⟩:=row_of intC In64 (by decide) r3 (fun vs h=>int_of_read h)
 obtain ⟨fl,p4,k4,rfl,s4,o4,m4⟩:=row_of intC In64 (by decide) r4 (fun vs h=>int_of_read h)
 obtain ⟨el,p5,k5,rfl,s5,o5,m5⟩:=row_of intC In64 (by decide) r5 (fun vs h=>int_of_read h)
 obtain ⟨th,p6,k6,rfl,s6,o6,m6⟩:=row_of Th.cells Th.ok (by decide) r6 (fun vs h=>Th.of_read h)
 obtain ⟨lg,p7,k7,rfl,s7,_,m7⟩:=row_of En.cells En.ok (by decide) r7 (fun vs h=>En.of_read h)
 exact ⟨⟨⟨c0,c1,c2,c3,c4,c5,c6⟩,c7,c8,c9,sl,sn,rc,c13,fl,c15,el,c17,th,lg⟩,⟨p1,k1,p2,k2,p3,k3,p4,k4,p5,k5,p6,k6,p7,k7⟩,rfl,⟨s1,s2,s3,s4,s5,s6,s7⟩,
  ⟨⟨in64_of_wf h0,in64_of_wf h1,in64_of_wf h2,in64_of_wf h3,in64_of_wf h4,in64_of_wf h5⟩,in64_of_wf h7,in64_of_wf h8,in64_of_wf h9,in64_of_wf h13,in64_of_wf h15,in64_of_wf h17,⟨o1,m1⟩,⟨o2,m2⟩,⟨o3,m3⟩,⟨o4,m4⟩,⟨o5,m5⟩,⟨o6,m6⟩,m7⟩⟩
end
section
def opB (k:Int):Bool:=decide (1≤k)&&decide (k≤8)
def opSide (k:Int):Int:=if 1≤k∧k≤3 then 1 else if 4≤k∧k≤6 then 2 else if 7≤k∧k≤8 then 3 else 0
def opTimed (k:Int):Bool:=(k==3)||(k==6)
def opOnce (k:Int):Bool:=(k==2)||(k==5)
def opMay (th:Int) (si:Bool) (i k:Int):Int:=if i<0∨th≤i then 123 else if opB k=false then 190 else if si=true∧opSide k=2∧i≠0 then 123 else 0
theorem op_cases (k:Int):k=1∨k=2∨k=3∨k=4∨k=5∨k=6∨k=7∨k=8∨(k<1∨8<k):=by omega
theorem side_is (k:Int):(opSide k=1∧1≤k∧k≤3)∨(opSide k=2∧4≤k∧k≤6)∨(opSide k=3∧7≤k∧k≤8)∨(opSide k=0∧(k<1∨8<k)):=by
 unfold opSide
 repeat' split
 all_goals omega
theorem opB_iff {k:Int}:opB k=true↔1≤k∧k≤8:=by simp [opB]
end
section
def thIn (n l h:Int):Bool:=decide (l≤n)&&decide (n≤h)
def thDoes (st ki:Int):Bool:=(st==0&&ki==0)||(thIn st 0 2&&opB ki)
def thWaits (ki un:Int) (la:Bool):Bool:=if opTimed ki=true then thIn un 0 1099511627776 else (un==0 && !la)
def thCounts (pc re se tr rs:Int):Bool:=thIn pc 0 11&&(thIn re 0 1099511627776&&(thIn se (-1) 1099511627776&&(thIn tr 0 1099511627776&&thIn rs 0 7)))
def thRests (st pc re se tr:Int) (la:Bool):Bool:=st==0&&(pc==0&&(re==0&&(se==0&&(tr==0 && !la))))
def thB (t:Th):Bool:=thDoes t.st t.ki&&(thWaits t.ki t.un t.la&&(thCounts t.pc t.re t.se t.tr t.rs&&(!(t.st==0)||thRests t.st t.pc t.re t.se t.tr t.la)))
def thRuns (st:Int):Int:=if st=0 then 121 else if st=2 then 122 else 0
def thBeg (t:Th) (k v u E:Int) (r:Th):Prop :=
 (t.st≠0∧E=120∧r=t)∨(t.st=0∧opB k=false∧E=190∧r=t)∨(t.st=0∧opB k=true∧opTimed k=false∧E=0∧r=⟨1,k,v,0,0,0,0,0,false,0,0⟩) ∨
 (t.st=0∧opB k=true∧opTimed k=true∧¬(0≤u∧u≤1099511627776)∧E=50∧r=t)∨(t.st=0∧opB k=true∧opTimed k=true∧(0≤u∧u≤1099511627776)∧E=0∧r=⟨1,k,v,u,0,0,0,0,false,0,0⟩)
def thPark (t:Th) (p E:Int) (r:Th):Prop :=
 (t.st=0∧E=121∧r=t)∨(t.st=2∧E=122∧r=t)∨(t.st≠0∧t.st≠2∧E=0∧r=⟨2,t.ki,t.va,t.un,p,t.re,t.se,0,t.la,t.rs,t.go⟩)
def thDone (t:Th) (E:Int) (r:Th):Prop :=
 (t.st=0∧E=121∧r=t)∨(t.st=2∧E=122∧r=t)∨(t.st≠0∧t.st≠2∧E=0∧r=⟨0,t.ki,t.va,t.un,0,0,0,0,false,t.rs,t.go⟩)
theorem beg_is (t:Th) (k v u:Int):∃ E r,thBeg t k v u E r:=by
 unfold thBeg
 by_cases h:t.st=0
 ·cases h1:opB k
  ·exact ⟨190,t,.inr (.inl ⟨h,rfl,rfl,rfl⟩)⟩
  ·cases h2:opTimed k
   ·exact ⟨0,_,.inr (.inr (.inl ⟨h,rfl,rfl,rfl,rfl⟩))⟩
   ·by_cases h3:0≤u∧u≤1099511627776
    ·exact ⟨0,_,.inr (.inr (.inr (.inr ⟨h,rfl,rfl,h3,rfl,rfl⟩)))⟩
    ·exact ⟨50,t,.inr (.inr (.inr (.inl ⟨h,rfl,rfl,h3,rfl,rfl⟩)))⟩
 ·exact ⟨120,t,.inl ⟨h,rfl,rfl⟩⟩
def bI (b:Bool):Int:=if b=true then 1 else 0
theorem timed_iff {k:Int}:opTimed k=true↔(k=3∨k=6):=by simp [opTimed]
theorem thB_iff {st ki va un pc re se tr rs go:Int} {la:Bool}:thB ⟨st,ki,va,un,pc,re,se,tr,la,rs,go⟩=true ↔
  ((st=0∧ki=0)∨(0≤st∧st≤2∧1≤ki∧ki≤8))∧(((ki=3∨ki=6)∧0≤un∧un≤1099511627776)∨(¬(ki=3∨ki=6)∧un=0∧bI la=0)) ∧
  (0≤pc∧pc≤11∧0≤re∧re≤1099511627776∧-1≤se∧se≤1099511627776∧0≤tr∧tr≤1099511627776∧0≤rs∧rs≤7) ∧
  (st≠0∨(pc=0∧re=0∧se=0∧tr=0∧bI la=0)):=by
 have hw:thWaits ki un la=true↔(((ki=3∨ki=6)∧0≤un∧un≤1099511627776)∨(¬(ki=3∨ki=6)∧un=0∧bI la=0)):=by
  unfold thWaits
  by_cases h:ki=3∨ki=6
  ·rw [if_pos (timed_iff.2 h)];cases la <;> simp [h,thIn,bI]
  ·rw [if_neg (fun h' => h (timed_iff.1 h'))];cases la <;> simp [h,bI]
 simp only [thB,Bool.and_eq_true,hw]
 cases la <;> simp [thDoes,thCounts,thRests,thIn,opB,bI] <;> omega
end
section
def noneB (th i:Int):Bool:=decide (i<0)||decide (th≤i)
def ixI (l:List Int) (i:Int):Int:=if i∈l then (l.idxOf i:Int) else -1
def okLn (l:List Int):Bool:=!l.any (noneB 16)&&decide l.Nodup
def plI (l:List Int) (i:Int):Int:=if okLn l=true then ixI l i else -1
def entE (l:List Int) (i:Int):Int:=if okLn l=true∧noneB 16 i=false then (if i∈l then 60 else 0) else 40
def entL (l:List Int) (i:Int):List Int:=if entE l i=0 then l++[i] else l
def lvE (l:List Int) (i:Int):Int:=if plI l i<0 then 40 else 0
def lvL (l:List Int) (i:Int):List Int:=if plI l i<0 then l else l.eraseIdx (plI l i).toNat
def nxB (l:List Int):Bool:=okLn l && !l.isEmpty
def nxI (l:List Int):Int:=if nxB l=true then l.headD 0 else 0
def nxL (l:List Int):List Int:=if nxB l=true then l.tail else l
theorem okl_iff {l:List Int}:okLn l=true↔(∀ x∈l,0≤x∧x≤15)∧l.Nodup:=by
 simp only [okLn,Bool.and_eq_true,Bool.not_eq_true',List.any_eq_false,decide_eq_true_eq,noneB,Bool.or_eq_true,not_or]
 refine and_congr_left fun _=>forall₂_congr fun x _=>?_
 omega
theorem none_iff {i:Int}:noneB 16 i=false↔0≤i∧i≤15:=by
 simp [noneB];omega
theorem ix_hit {l:List Int} {i:Int} {j:Nat} (hj:j<l.length) (hi:l[j]=i) (h:i∉l.take j):ixI l i=j:=by
 have hm:i∈l:=by rw [← hi];exact List.getElem_mem hj
 have hs:l=l.take j++i::l.drop (j+1):=by rw [← hi];simp
 unfold ixI
 rw [if_pos hm]
 have:l.idxOf i=j:=by
  rw [hs,List.idxOf_append,if_neg h]
  simp;omega
 rw [this]
theorem ix_miss {l:List Int} {i:Int} (h:i∉l):ixI l i = -1:=by simp [ixI,h]
theorem ix_ge {l:List Int} {i:Int} : -1≤ixI l i∧ixI l i<l.length:=by
 unfold ixI
 split
 ·rename_i h
  have:=List.idxOf_lt_length_iff.2 h
  omega
 ·omega
theorem ix_nonneg {l:List Int} {i:Int}:0≤ixI l i↔i∈l:=by
 unfold ixI
 split <;> simp [*]
theorem not_take_succ {l:List Int} {i:Int} {j:Nat} (hj:j<l.length) (hi:l[j]≠i) (h:i∉l.take j):i∉l.take (j+1):=by
 rw [List.take_succ_eq_append_getElem hj]
 simp only [List.mem_append,List.mem_singleton,not_or]
 exact ⟨h,Ne.symm hi⟩
theorem nodup_take_succ {l:List Int} {j:Nat} (hj:j<l.length):(l.take (j+1)).Nodup↔(l.take j).Nodup∧l[j]∉l.take j:=by
 rw [List.take_succ_eq_append_getElem hj,List.nodup_append]
 simp only [List.mem_singleton]
 constructor
 ·rintro ⟨h1,-,h3⟩
  exact ⟨h1,fun h=>h3 _ h _ rfl rfl⟩
 ·rintro ⟨h1,h2⟩
  exact ⟨h1,by simp,fun a ha b hb e=>h2 (by rw [← hb,← e];exact ha)⟩
theorem not_nodup_of_take {l:List Int} {j:Nat} (hj:j<l.length) (h:l[j]∈l.take j):¬ l.Nodup:=fun hn =>
 ((nodup_take_succ hj).1 (hn.sublist (List.take_sublist _ _))).2 h
theorem ok_false_none {l:List Int} {j:Nat} (hj:j<l.length) (h:noneB 16 l[j]=true):okLn l=false:=by
 cases hk:okLn l
 ·rfl
 ·have:=none_iff.2 ((okl_iff.1 hk).1 _ (List.getElem_mem hj))
  rw [h] at this;cases this
theorem ok_false_dup {l:List Int} {j:Nat} (hj:j<l.length) (h:l[j]∈l.take j):okLn l=false:=by
 cases hk:okLn l
 ·rfl
 ·exact absurd (okl_iff.1 hk).2 (not_nodup_of_take hj h)
theorem ix_self {l:List Int} {j:Nat} (hj:j<l.length):ixI l l[j]=j↔l[j]∉l.take j:=by
 constructor
 ·intro h hm
  have h1:l[j]∈l:=List.getElem_mem hj
  unfold ixI at h
  rw [if_pos h1] at h
  obtain ⟨a,ha,hae⟩:=List.mem_iff_getElem.1 hm
  have h2:(l.take j).idxOf l[j]<(l.take j).length:=List.idxOf_lt_length_iff.2 hm
  have h3:l.idxOf l[j]=(l.take j).idxOf l[j]:=by
   generalize l[j]=x at *
   have h4:(l.take j++l.drop j).idxOf x=(l.take j).idxOf x:=by rw [List.idxOf_append,if_pos hm]
   rwa [List.take_append_drop] at h4
  simp at h2
  omega
 ·intro h
  exact ix_hit hj rfl h
theorem ok_take_succ {l:List Int} {j:Nat} (hj:j<l.length) (h:okLn (l.take j)=true) (hn:noneB 16 l[j]=false) (hx:l[j]∉l.take j):okLn (l.take (j+1))=true:=by
 refine okl_iff.2 ⟨fun x hx' => ?_,(nodup_take_succ hj).2 ⟨(okl_iff.1 h).2,hx⟩⟩
 rw [List.take_succ_eq_append_getElem hj,List.mem_append,List.mem_singleton] at hx'
 rcases hx' with hx' | rfl
 ·exact (okl_iff.1 h).1 _ hx'
 ·exact none_iff.1 hn
theorem ent_ok {l:List Int} {i:Int} (h:entE l i=0):okLn l=true∧(0≤i∧i≤15)∧i∉l:=by
 unfold entE at h
 split at h
 ·rename_i hc
  split at h
  ·cases h
  ·rename_i hm
   exact ⟨hc.1,none_iff.1 hc.2,hm⟩
 ·cases h
theorem ent_yes {l:List Int} {i:Int} (h:entE l i=0):entL l i=l++[i]:=by simp [entL,h]
theorem ok_snoc {l:List Int} {i:Int} (h:entE l i=0):okLn (l++[i])=true:=by
 obtain ⟨h1,h2,h3⟩:=ent_ok h
 obtain ⟨a,b⟩:=okl_iff.1 h1
 refine okl_iff.2 ⟨fun x hx=>?_,?_⟩
 ·rcases List.mem_append.1 hx with hx | hx
  ·exact a x hx
  ·rw [List.mem_singleton] at hx;subst hx;exact h2
 ·rw [List.nodup_append]
  exact ⟨b,by simp,fun x hx y hy e=>by rw [List.mem_singleton] at hy;subst hy;subst e;exact h3 hx⟩
theorem pl_ge {l:List Int} {i:Int} : -1≤plI l i∧plI l i<l.length:=by
 unfold plI
 split
 ·exact ix_ge
 ·omega
theorem line_split {l:List Int} {i:Int} (h:0≤plI l i):okLn l=true∧∃ s t,l=s++i::t∧i∉s∧i∉t∧plI l i=s.length∧lvL l i=s++t∧okLn (s++t)=true:=by
 have hok:okLn l=true:=by
  unfold plI at h
  split at h
  ·assumption
  ·omega
 have hp:plI l i=ixI l i:=by unfold plI;rw [if_pos hok]
 have hm:i∈l:=ix_nonneg.1 (by rw [← hp];exact h)
 obtain ⟨s,t,rfl⟩:=List.append_of_mem hm
 have hs:i∉s:=fun hi=>(List.nodup_append.1 (okl_iff.1 hok).2).2.2 i hi i (by simp) rfl
 obtain ⟨a,b⟩:=okl_iff.1 hok
 have hnd:=List.nodup_append.1 b
 have ht:i∉t:=(List.nodup_cons.1 hnd.2.1).1
 have hpl:plI (s++i::t) i=s.length:=by
  rw [hp,ix_hit (j:=s.length) (by simp) (by simp) (by simpa using hs)]
 refine ⟨hok,s,t,rfl,hs,ht,hpl,?_,?_⟩
 ·unfold lvL
  rw [if_neg (by omega),hpl,Int.toNat_natCast,List.eraseIdx_append_of_length_le (by omega)]
  simp
 ·refine okl_iff.2 ⟨fun x hx=>a x ?_,?_⟩
  ·rcases List.mem_append.1 hx with hx | hx <;> simp [hx]
  ·rw [List.nodup_append]
   exact ⟨hnd.1,(List.nodup_cons.1 hnd.2.1).2,fun x hx y hy=>hnd.2.2 x hx y (by simp [hy])⟩
theorem lv_no {l:List Int} {i:Int} (h:lvE l i≠0):plI l i = -1∧lvL l i=l:=by
 have hn:plI l i<0:=by
  unfold lvE at h
  split at h
  ·assumption
  ·exact absurd rfl h
 have:=pl_ge (l:=l) (i:=i)
 exact ⟨by omega,by unfold lvL;rw [if_pos hn]⟩
theorem lv_yes {l:List Int} {i:Int} (h:lvE l i=0):0≤plI l i:=by
 unfold lvE at h
 split at h
 ·cases h
 ·omega
theorem ok_drop {l:List Int} (h:okLn l=true) (j:Nat):okLn (l.drop j)=true:=by
 obtain ⟨a,b⟩:=okl_iff.1 h
 exact okl_iff.2 ⟨fun x hx=>a x (List.mem_of_mem_drop hx),b.sublist (List.drop_sublist _ _)⟩
theorem nodup_le:∀ (n:Nat) (l:List Int),l.Nodup→(∀ x∈l,0≤x∧x<n)→l.length≤n
 | 0,l,_,h=>by
  cases l with
  | nil=>simp
  | cons x r=>have:=h x (by simp);omega
 | n+1,l,hd,h=>by
  have h1:=nodup_le n (l.erase (n:Int)) (hd.sublist List.erase_sublist) (fun x hx=>by
   have h2:=h x (List.mem_of_mem_erase hx)
   have h3:x≠(n:Int):=fun e=>by subst e;exact (hd.not_mem_erase) hx
   omega)
  have h4:=List.length_erase (a:=(n:Int)) (l:=l)
  split at h4 <;> omega
theorem ok_len {l:List Int} (h:okLn l=true):l.length≤16:=by
 obtain ⟨a,b⟩:=okl_iff.1 h
 exact nodup_le 16 l b (fun x hx=>by have:=a x hx;omega)
theorem ent_ok_keep {l:List Int} {i:Int} (h:okLn l=true):okLn (entL l i)=true:=by
 unfold entL
 split
 ·rename_i he;exact ok_snoc he
 ·exact h
end
section
def okE (ep:Int) (l:List Int):Bool:=decide (0≤ep)&&decide (ep≤1099511627776)&&okLn l
def prE (ep:Int) (l:List Int):Int:=if okE ep l=true then ep else -1
def nxE (ep:Int):Int:=if ep+1≤1099511627776 then ep+1 else 1099511627776
def ntE (ep:Int) (l:List Int):Int:=if okE ep l=true then nxE ep else ep
def ntL (m:Nat) (ep:Int) (l:List Int):List Int:=if okE ep l=true then l.drop m else l
def ntT (m:Nat) (ep:Int) (l:List Int):List Int:=if okE ep l=true then l.take m else []
def cmC (ep:Int) (l:List Int) (i:Int):Int:=if okE ep l=true then entE l i else 40
def cmB (ep:Int) (l:List Int) (s i:Int):Bool:=okE ep l&&(entE l i==0)&&(ep==s)
def cmL (ep:Int) (l:List Int) (s i:Int):List Int:=if cmB ep l s i=true then l++[i] else l
def cnL (ep:Int) (l:List Int) (i:Int):List Int:=if okE ep l=true then lvL l i else l
def cnB (ep:Int) (l:List Int) (i:Int):Bool:=okE ep l&&(lvE l i==0)
def hdI (l:List Int):Int:=l.headD 0
def hdB (l:List Int):Bool:=!l.isEmpty
theorem okE_iff {ep:Int} {l:List Int}:okE ep l=true↔(0≤ep∧ep≤1099511627776)∧okLn l=true:=by
 simp [okE]
theorem okE_ln {ep:Int} {l:List Int} (h:okE ep l=true):okLn l=true:=(okE_iff.1 h).2
theorem okE_nx {ep:Int} {l m:List Int} (h:okE ep l=true) (hm:okLn m=true):okE (nxE ep) m=true:=by
 obtain ⟨⟨h1,h2⟩,_⟩:=okE_iff.1 h
 refine okE_iff.2 ⟨?_,hm⟩
 unfold nxE
 split <;> omega
theorem okE_with {ep:Int} {l m:List Int} (h:okE ep l=true) (hm:okLn m=true):okE ep m=true:=okE_iff.2 ⟨(okE_iff.1 h).1,hm⟩
theorem ok_lv {l:List Int} (h:okLn l=true) (i:Int):okLn (lvL l i)=true:=by
 by_cases hv:lvE l i=0
 ·obtain ⟨-,s,t,-,-,-,-,hlv,hst⟩:=line_split (lv_yes hv)
  rw [hlv];exact hst
 ·rw [(lv_no hv).2];exact h
theorem ok_drop' {l:List Int} (h:okLn l=true) (m:Nat):okLn (l.drop m)=true:=ok_drop h m
theorem nxE_min {ep:Int}:nxE ep=min (ep+1) 1099511627776:=by unfold nxE;rw [Int.min_def]
end
section
open Go.RowKit
structure Rnd (n₀ B S:Nat) (A C:World):Prop where
 os:C.os=A.os
 tape:C.tape=A.tape
 output:C.output=A.output
 size:A.heap.size≤C.heap.size
 block:∀ k,k<n₀∨(B≤k∧k<S)→C.heap[k]? = A.heap[k]?
theorem Rnd.refl (n₀ B S:Nat) (A:World):Rnd n₀ B S A A:=⟨rfl,rfl,rfl,Nat.le_refl _,fun _ _=>rfl⟩
theorem Rnd.trans {n₀ B S:Nat} {X Y Z:World} (h:Rnd n₀ B S X Y) (k:Rnd n₀ B S Y Z):Rnd n₀ B S X Z :=
 ⟨k.os.trans h.os,k.tape.trans h.tape,k.output.trans h.output,Nat.le_trans h.size k.size,fun i hi=>(k.block i hi).trans (h.block i hi)⟩
theorem Rnd.of_below {n₀ B S T:Nat} {A C:World} (h:Below T A C) (hn:n₀≤T) (hS:S≤T):Rnd n₀ B S A C :=
 ⟨h.os,h.tape,h.output,h.size,fun k hk=>h.block k (by omega)⟩
theorem Rnd.setCell {n₀ B S:Nat} {A C:World} (h:Rnd n₀ B S A C) {p:Addr} (hp:n₀≤p.block) (hp' : p.block<B∨S≤p.block) (u:Value):Rnd n₀ B S A (C.setCell p u) :=
 h.trans ⟨rfl,rfl,rfl,by simp [World.setCell],fun k hk=>Below.heap_setCell _ _ _ _ (by omega)⟩
theorem Rnd.alloc {n₀ B S:Nat} {A C:World} (h:Rnd n₀ B S A C) (hn:n₀≤C.heap.size) (hS:S≤C.heap.size) (o:Obj):Rnd n₀ B S A (C.alloc o) :=
 h.trans (Rnd.of_below ((Below.refl C.heap.size C).alloc (Nat.le_refl _) o) hn hS)
theorem Rnd.call {n₀ B S:Nat} {A C D:World} (h:Rnd n₀ B S A C) (k:Below C.heap.size C D) (hn:n₀≤C.heap.size) (hS:S≤C.heap.size):Rnd n₀ B S A D :=
 h.trans (Rnd.of_below k hn hS)
structure Turn (B:Nat) (A C:World):Prop where
 os:C.os=A.os
 tape:C.tape=A.tape
 output:C.output=A.output
 size:A.heap.size≤C.heap.size
 block:∀ k o,A.heap[k]? = some o→k<B∨o.isCells=true→C.heap[k]? = some o
theorem some_of_lt {W:World} {k:Nat} (h:k<W.heap.size):∃ o,W.heap[k]? = some o:=⟨W.heap[k],Array.getElem?_eq_getElem h⟩
theorem lt_of_some {W:World} {k:Nat} {o:Obj} (h:W.heap[k]? = some o):k<W.heap.size:=(Array.getElem?_eq_some_iff.1 h).1
theorem Turn.of_kept {B:Nat} {A C:World} (h:Below A.heap.size A C):Turn B A C :=
 ⟨h.os,h.tape,h.output,h.size,fun k _ hk _=>(h.block k (lt_of_some hk)).trans hk⟩
theorem Turn.putObj {B:Nat} {A:World} {l:Nat} {o:Obj} (h:A.heap[l]? = some o) (ho:o.isCells=false) (hl:B≤l) (o' : Obj):Turn B A (A.putObj l o') :=
 ⟨rfl,rfl,rfl,by simp,fun k p hk hp=>by
  have:k≠l:=by
   intro e;subst e;rw [h] at hk;cases hk
   rcases hp with hp | hp
   ·omega
   ·rw [ho] at hp;cases hp
  exact (World.putObj_heap_other this).trans hk⟩
theorem Turn.below {B:Nat} {A C w:World} (h:Turn B A C) (hB:w.heap.size≤B) (k:Below w.heap.size w A):Below w.heap.size w C :=
 k.trans ⟨h.os,h.tape,h.output,h.size,fun i hi=>by
  obtain ⟨o,ho⟩:=some_of_lt (W:=A) (k:=i) (Nat.lt_of_lt_of_le hi k.size)
  rw [ho,h.block i o ho (.inl (by omega))]⟩
theorem Turn.cell {B:Nat} {A C:World} (h:Turn B A C) {p:Addr} {v:Value} (hc:A.cell? p=some v):C.cell? p=some v:=by
 obtain ⟨o,ho,hi⟩:=cells_of_cell hc
 rw [World.cell?_of_block (w:=A) ((h.block _ o ho (.inr hi)).trans ho.symm)];exact hc
theorem Turn.frozen {B:Nat} {A C:World} (h:Turn B A C) {p:Addr} {v:Value} (hc:A.cell? p=some v):C.frozen? p=A.frozen? p:=by
 obtain ⟨o,ho,hi⟩:=cells_of_cell hc
 exact World.frozen?_of_block (w:=A) ((h.block _ o ho (.inr hi)).trans ho.symm)
def Iter {α:Type} (P:Program) (gf:Nat) (bd lb:Array Value) (enc:α→Value) (n₀:Nat) (xs:List α) (w:World):Prop :=
 ∀ (l:Nat) (J Jx:List α→World→Prop) (W:World),Below w.heap.size w W →
  (∀ s A C,J s A→Below A.heap.size A C→J s C)→(∀ s A C,Jx s A→Below A.heap.size A C→Jx s C) →
  (∀ (m:Nat) pre x suf A,9≤m→xs=pre++x::suf→J pre A→YieldAt Fence.wide m P l #[enc x] A fun e C =>
   (e = .returned (.bool true)∧J (pre++[x]) C∧Rnd n₀ W.heap.size A.heap.size A C)∨(e = .returned (.bool false)∧Jx (pre++[x]) C)) →
  J [] W→Calls P gf (bd++#[.func (.yield l) #[] #[]]++lb) W fun e C=>(∃ v,e = .returned v)∧(J xs C∨∃ pre,Jx pre C)
def rndPost {α:Type} (n₀ B S:Nat) (I:List α→World→Prop) (Ix:Code→List α→World→Prop) (xs:List α) (A:World):Exit→Act→World→Prop
 | .normal,_,C=>Rnd n₀ B S A C∧I xs C
 | .ret,_,C=>Rnd n₀ B S A C∧Ix .ret xs C
 | .exit id,_,C=>Rnd n₀ B S A C∧Ix (.exit id) xs C
 | _,_,_=>False
theorem wpIn_over {α:Type} {P:Program} {n:Nat} {g:Operand} {ps:Array Tmp} {assign body:Code} {Q:Exit→Act→World→Prop} {a:Act} {w:World}
  {gf:Nat} {bd lb:Array Value} (hg:a.eval g = .func (.func gf) bd lb) (eg:∀ args w,(callFunc gf args).run P w = .ok (.enter gf args) w)
  {enc:α→Value} {n₀:Nat} {xs:List α} (hseq:Iter P gf bd lb enc n₀ xs w) (hn₀:n₀≤w.heap.size) (hps:ps.size=1)
  (I:List α→World→Prop) (Ix:Code→List α→World→Prop) (hI:∀ s A C,I s A→Turn w.heap.size A C→I s C) (hIx:∀ c s A C,Ix c s A→Turn w.heap.size A C→Ix c s C) (h0:I [] w)
  (hround:∀ (m l:Nat) (pre suf:List α) (x:α) (A:World),9≤m→xs=pre++x::suf→w.heap.size+2≤A.heap.size→I pre A →
   assign.wpIn (Fence.wide.inRound l) m P (Exit.then (fun a₁ A₁=>Below A.heap.size A A₁∧∀ C,Turn w.heap.size A₁ C→C.heap.size=A₁.heap.size →
     body.wpIn (Fence.wide.inRound l) m P (rndPost n₀ w.heap.size A.heap.size I Ix (pre++[x]) C) a₁ C) (fun _ _ _=>False))
    { tmps:=(ps.zip #[enc x]).foldl (fun t (p,v)=>t.setIfInBounds p v) a.tmps,defers:=[] } A)
  (hdone:∀ (D:Nat) (W:World),w.heap.size≤D→I xs W→W.heap[D]? = some (.deferred (some []))→Q .normal { a with defers:={ target:=.collected D,args:=#[] }::a.defers } W)
  (hstop:∀ (D:Nat) (c:Code) (pre:List α) (W:World),w.heap.size≤D→Ix c pre W→W.heap[D]? = some (.deferred (some []))→c.wpIn Fence.wide n P Q { a with defers:={ target:=.collected D,args:=#[] }::a.defers } W) :
  (Code.rangeFunc g ps assign body).wpIn Fence.wide n P Q a w:=by
 refine wpIn_rangeFunc fun fn hfn=>?_
 obtain ⟨rec,hrec⟩:∃ rec:LoopState→Option Code→Loop,rec=fun st pe=>{ state:=st,pending:=pe,fn,tmps:=a.tmps,params:=ps,assign,body,defers:=w.heap.size }:=⟨_,rfl⟩
 obtain ⟨V,hV⟩:∃ V,(w.alloc (.deferred (some []))).alloc (.loop (rec .ready none))=V:=⟨_,rfl⟩
 have hwV:Below w.heap.size w V:=by rw [← hV];exact ((Below.refl _ w).alloc (Nat.le_refl _) _).alloc (by simp) _
 have hsV:V.heap.size=w.heap.size+2:=by rw [← hV];simp
 have hlV:V.heap[w.heap.size+1]? = some (.loop (rec .ready none)):=by
  rw [← hV];have:=World.alloc_heap_new (w.alloc (.deferred (some []))) (.loop (rec .ready none));rwa [World.size_alloc] at this
 have hdV:V.heap[w.heap.size]? = some (.deferred (some [])):=by
  rw [← hV];exact (Below.heap_alloc _ _ _ (by simp)).trans (World.alloc_heap_new w _)
 refine ⟨w.heap.size+1,[{ target:=.collected w.heap.size,args:=#[] }],V,{ target:=.fn (.func gf) lb,args:=bd++#[.func (.yield (w.heap.size+1)) #[] #[]] },V,gf,
  bd++#[.func (.yield (w.heap.size+1)) #[] #[]]++lb,V,?_,?_,fun _ _=>trivial,?_,fun h=>by simp [Fence.wide] at h,?_⟩
 ·rw [← hV,hrec];exact run_enterLoop_outer _ _ _ _ _
 ·simp only [resolve,hg]
  simp [go_sem,Deferred.ofValue]
 ·simp [invoke,go_sem,eg]
 refine (callsIn_wide.2 (hseq (w.heap.size+1)
  (fun pre W=>I pre W∧W.heap[w.heap.size+1]? = some (.loop (rec .ready none))∧W.heap[w.heap.size]? = some (.deferred (some []))∧w.heap.size+2≤W.heap.size)
  (fun pre W=>∃ c,Ix c pre W∧W.heap[w.heap.size+1]? = some (.loop (rec .done (some c)))∧W.heap[w.heap.size]? = some (.deferred (some [])))
  V hwV
  (fun s A C hs hk=>⟨hI s A C hs.1 (Turn.of_kept hk),(hk.block _ (lt_of_some hs.2.1)).trans hs.2.1,(hk.block _ (lt_of_some hs.2.2.1)).trans hs.2.2.1,Nat.le_trans hs.2.2.2 hk.size⟩)
  (fun s A C hs hk=>by obtain ⟨c,h1,h2,h3⟩:=hs;exact ⟨c,hIx c s A C h1 (Turn.of_kept hk),(hk.block _ (lt_of_some h2)).trans h2,(hk.block _ (lt_of_some h3)).trans h3⟩)
  ?_ ⟨hI _ _ _ h0 (Turn.of_kept hwV),hlV,hdV,by omega⟩)).mono ?_
 ·rintro m pre x suf A hm hxs ⟨hi,hl,hd,hsz⟩
  have hy:=run_yield (P:=P) (args:=#[enc x]) hl (by rw [hrec];exact hps.symm)
  rw [hrec] at hy
  refine ⟨fn,_,assign,body,hy,roundIn_of_wpIn trivial (wpIn_mono (hround m (w.heap.size+1) pre suf x A hm hxs hsz hi) ?_)⟩
  clear hy
  rintro e a₁ A₁ hq
  cases e with
  | normal =>
   obtain ⟨hk,hbody⟩:=hq
   have hl1:=(hk.block _ (lt_of_some hl)).trans hl
   have hd1:=(hk.block _ (lt_of_some hd)).trans hd
   refine ⟨_,run_beginRound hl1 (by rw [hrec]),wpIn_mono (hbody _ (Turn.putObj hl1 rfl (by omega) _) (by simp)) ?_⟩
   obtain ⟨A₂,hA₂⟩:∃ A₂,A₁.putObj (w.heap.size+1) (.loop { rec .ready none with state:=.busy })=A₂:=⟨_,rfl⟩
   rw [hA₂]
   have hl2:A₂.heap[w.heap.size+1]? = some (.loop (rec .busy none)):=by rw [← hA₂];exact (World.putObj_heap_same (lt_of_some hl1)).trans (by rw [hrec])
   have hd2:A₂.heap[w.heap.size]? = some (.deferred (some [])):=by rw [← hA₂];exact (World.putObj_heap_other (by omega)).trans hd1
   have ho2:∀ k,k≠w.heap.size+1→A₂.heap[k]? = A₁.heap[k]? := fun k hk=>by rw [← hA₂];exact World.putObj_heap_other hk
   have hs2:A₂.heap.size=A₁.heap.size:=by rw [← hA₂];simp
   have hos:A₂.os=A₁.os∧A₂.tape=A₁.tape∧A₂.output=A₁.output:=by rw [← hA₂];exact ⟨rfl,rfl,rfl⟩
   have fin:∀ (jump:Option Code) (C:World),Rnd n₀ w.heap.size A.heap.size A₂ C →
     (Instr.endRound (w.heap.size+1) jump).run P C = .ok (.bool jump.isNone) (C.putObj (w.heap.size+1) (.loop (rec (if jump.isNone then .ready else .done) jump))) ∧
     Turn w.heap.size C (C.putObj (w.heap.size+1) (.loop (rec (if jump.isNone then .ready else .done) jump))) ∧
     (C.putObj (w.heap.size+1) (.loop (rec (if jump.isNone then .ready else .done) jump))).heap[w.heap.size+1]? = some (.loop (rec (if jump.isNone then .ready else .done) jump)) ∧
     (C.putObj (w.heap.size+1) (.loop (rec (if jump.isNone then .ready else .done) jump))).heap[w.heap.size]? = some (.deferred (some [])):=fun jump C hC=>by
    have hl3:=(hC.block _ (.inr ⟨by omega,by omega⟩)).trans hl2
    have hd3:=(hC.block _ (.inr ⟨by omega,by omega⟩)).trans hd2
    have hr:=run_endRound (P:=P) jump hl3
    refine ⟨by rw [hr,hrec],Turn.putObj hl3 rfl (by omega) _,World.putObj_heap_same (lt_of_some hl3),(World.putObj_heap_other (by omega)).trans hd3⟩
   rintro e a₃ C hp
   cases e with
   | normal =>
    obtain ⟨hC,hi3⟩:=hp
    obtain ⟨hr,ht,hl4,hd4⟩:=fin none C hC
    refine ⟨_,_,hr,.inl ⟨rfl,⟨hI _ _ _ hi3 ht,hl4,hd4,?_⟩,?_⟩⟩
    ·have:=hC.size;have:=hk.size;simp;omega
    ·refine ⟨?_,?_,?_,?_,fun k hk' => ?_⟩
     ·exact hC.os.trans (hos.1.trans hk.os)
     ·exact hC.tape.trans (hos.2.1.trans hk.tape)
     ·exact hC.output.trans (hos.2.2.trans hk.output)
     ·have:=hC.size;have:=hk.size;simp;omega
     ·rw [World.putObj_heap_other (by omega),hC.block k (by omega),ho2 k (by omega),hk.block k (by omega)]
   | ret =>
    obtain ⟨hC,hi3⟩:=hp
    obtain ⟨hr,ht,hl4,hd4⟩:=fin (some .ret) C hC
    exact ⟨_,_,hr,.inr ⟨rfl,_,hIx _ _ _ _ hi3 ht,hl4,hd4⟩⟩
   | exit id =>
    obtain ⟨hC,hi3⟩:=hp
    obtain ⟨hr,ht,hl4,hd4⟩:=fin (some (.exit id)) C hC
    exact ⟨_,_,hr,.inr ⟨rfl,_,hIx _ _ _ _ hi3 ht,hl4,hd4⟩⟩
   | goto t=>exact hp.elim
   | panic ch=>exact hp.elim
   | outgrown=>exact hp.elim
  | ret=>exact hq
  | exit id=>exact hq
  | goto t=>exact hq
  | panic ch=>exact hq
  | outgrown=>exact hq
 ·rintro e C ⟨⟨v,rfl⟩,⟨hi,hl,hd,-⟩ | ⟨pre,c,hi,hl,hd⟩⟩
  ·have he:=run_endLoop (P:=P) hl (by rw [hrec];simp)
   rw [hrec] at he
   exact ⟨none,_,he,hdone _ _ (Nat.le_refl _) (hI _ _ _ hi (Turn.putObj hl rfl (by omega) _)) ((World.putObj_heap_other (by omega)).trans hd)⟩
  ·have he:=run_endLoop (P:=P) hl (by rw [hrec];simp)
   rw [hrec] at he
   exact ⟨some c,_,he,hstop _ c pre _ (Nat.le_refl _) (hIx _ _ _ _ hi (Turn.putObj hl rfl (by omega) _)) ((World.putObj_heap_other (by omega)).trans hd)⟩
end
section
structure Bd where
 n:Int
 low:Int
 high:Int
def Bd.val (b:Bd):Value:=.agg #[.int .i64 b.n,.int .i64 b.low,.int .i64 b.high]
def inB (n low high:Int):Bool:=decide (low≤n)&&decide (n≤high)
def Bd.inB (b:Bd):Bool:=Go.Proofs.YtbckpadeamlidaaGreat.inB b.n b.low b.high
def triesI (wt:Int):Int:=if wt=2 then 8 else 0
def bdsL (lg th po wt sp yi:Int):List Bd:=[⟨lg,1,6⟩,⟨th,1,16⟩,⟨po,0,2⟩,⟨wt,0,3⟩,⟨sp,0,triesI wt⟩,⟨yi,0,triesI wt⟩]
def okL (l:List Bd):Bool:=l.all Bd.inB
def mayB (lg th po wt sp yi:Int):Bool:=okL (bdsL lg th po wt sp yi)
def ckI (lg th po wt sp yi:Int):Int:=if mayB lg th po wt sp yi then 0 else 20
theorem okL_snoc {l:List Bd} {x:Bd} (h:okL l=true) (k:x.inB=true):okL (l++[x])=true:=by
 unfold okL at *;simp only [List.all_append,h,Bool.true_and,List.all_cons,k,List.all_nil]
theorem may_not {lg th po wt sp yi:Int} {pre suf:List Bd} {x:Bd} (h:bdsL lg th po wt sp yi=pre++x::suf) (k:x.inB=false):mayB lg th po wt sp yi=false:=by
 unfold mayB okL;rw [h];simp only [List.all_append,List.all_cons,k,Bool.false_and,Bool.and_false]
theorem may_iff {lg th po wt sp yi:Int}:mayB lg th po wt sp yi=true ↔
  1≤lg∧lg≤6∧1≤th∧th≤16∧0≤po∧po≤2∧0≤wt∧wt≤3∧0≤sp∧sp≤8∧0≤yi∧yi≤8∧(wt=2∨sp=0∧yi=0):=by
 unfold mayB okL bdsL triesI
 simp only [List.all_cons,List.all_nil,Bd.inB,inB,Bool.and_eq_true,decide_eq_true_eq,Bool.and_true]
 by_cases h:wt=2
 ·rw [if_pos h];omega
 ·rw [if_neg h];omega
theorem ck_yes {lg th po wt sp yi:Int} (h:mayB lg th po wt sp yi=true):ckI lg th po wt sp yi=0:=by rw [ckI,if_pos h]
theorem ck_no {lg th po wt sp yi:Int} (h:mayB lg th po wt sp yi=false):ckI lg th po wt sp yi=20:=by rw [ckI,h];rfl
theorem may_f {lg th po wt sp yi:Int} (h:¬ (1≤lg∧lg≤6∧1≤th∧th≤16∧0≤po∧po≤2∧0≤wt∧wt≤3∧0≤sp∧sp≤8∧0≤yi∧yi≤8∧(wt=2∨sp=0∧yi=0))):mayB lg th po wt sp yi=false:=by
 cases hm:mayB lg th po wt sp yi
 ·rfl
 ·exact absurd (may_iff.1 hm) h
def pw (lg:Int):Int:=if lg=1 then 2 else if lg=2 then 4 else if lg=3 then 8 else if lg=4 then 16 else if lg=5 then 32 else 64
def roomI (lg th po wt sp yi:Int):Int:=if mayB lg th po wt sp yi then pw lg else 0
theorem room_no {lg th po wt sp yi:Int} (h:mayB lg th po wt sp yi=false):roomI lg th po wt sp yi=0:=by rw [roomI,h];rfl
theorem room_yes {lg th po wt sp yi:Int} (h:mayB lg th po wt sp yi=true):roomI lg th po wt sp yi=pw lg:=by rw [roomI,if_pos h]
theorem pw_bd (lg:Int):2≤pw lg∧pw lg≤64:=by
 unfold pw
 repeat' split
 all_goals omega
theorem room_bd (lg th po wt sp yi:Int):0≤roomI lg th po wt sp yi∧roomI lg th po wt sp yi≤64:=by
 have:=pw_bd lg
 unfold roomI;split <;> omega
end
section
def cfB (c:Cf):Bool:=mayB c.lg c.th c.po c.wt c.sp c.yi
def cfR (c:Cf):Int:=roomI c.lg c.th c.po c.wt c.sp c.yi
def overB (many i:Int):Bool:=decide (many≤i)
def stnB (many:Int) (l:List Int):Bool:=okLn l && !(l.any (overB many))
def notTh (t:Th):Bool:=!thB t
def ringSt (s:St):Bool:=checkB s.hd s.tl s.md (cfR s.cf)&&(decide ((s.sl.length:Int)=cfR s.cf)&&okSl s.sl)
def thsSt (s:St):Bool:=decide ((s.th.length:Int)=s.cf.th) && !(s.th.any notTh)
def lnsSt (s:St):Bool:=stnB s.cf.th s.sn&&(stnB s.cf.th s.rc&&(stnB s.cf.th s.fl&&stnB s.cf.th s.el))
def stB (s:St):Bool:=cfB s.cf&&(ringSt s&&(lnsSt s&&(okE s.fe s.fl&&(okE s.ee s.el&&(decide (0≤s.nw)&&(decide (s.nw≤1099511627776)&&thsSt s))))))
def th0:Th:=⟨0,0,0,0,0,0,0,0,false,0,0⟩
def gth (l:List Th) (i:Nat):Th:=l.getD i th0
theorem gth_some {l:List Th} {i:Nat} (h:i<l.length):l[i]? = some (gth l i):=by simp [gth,h]
theorem gth_eq {l:List Th} {i:Nat} (h:i<l.length):gth l i=l[i]:=by simp [gth,h]
theorem gth_set {l:List Th} {i j:Nat} {t:Th} (h:i<l.length):gth (l.set i t) j=if i=j then t else gth l j:=by
 simp only [gth,List.getD_eq_getElem?_getD,List.getElem?_set]
 by_cases e:i=j
 ·subst e;simp [h]
 ·simp [e]
theorem gth_set_self {l:List Th} {i:Nat}:l.set i (gth l i)=l:=by
 apply List.ext_getElem?
 intro j
 rw [List.getElem?_set]
 by_cases e:i=j
 ·subst e
  by_cases h:i<l.length
  ·simp [h,gth]
  ·simp [h,List.getElem?_eq_none (by omega:l.length≤i)]
 ·simp [e]
def St.setTh (s:St) (i:Nat) (t:Th):St:=⟨s.cf,s.hd,s.tl,s.md,s.sl,s.sn,s.rc,s.fe,s.fl,s.ee,s.el,s.nw,s.th.set i t,s.lg⟩
def St.addLg (s:St) (e:En):St:=⟨s.cf,s.hd,s.tl,s.md,s.sl,s.sn,s.rc,s.fe,s.fl,s.ee,s.el,s.nw,s.th,s.lg++[e]⟩
theorem setTh_self (s:St) (i:Nat):s.setTh i (gth s.th i)=s:=by
 cases s;simp only [St.setTh,gth_set_self]
def newSt (c:Cf):St:=⟨c,0,0,0,newL (cfR c),[],[],0,[],0,[],0,List.replicate c.th.toNat th0,[]⟩
def hasB (s:St) (i:Int):Bool:=stB s&&(decide (0≤i)&&decide (i<s.th.length))
def atV (s:St) (p:Int):Int:=(gs s.sl (plc s.sl p)).vl
def valV (s:St) (p:Int):Int:=if p<0 then 0 else if stB s=true then atV s p else 0
def stBeg (s:St) (i k v u E:Int) (r:St):Prop :=
 (stB s=false∧E=20∧r=s)∨(stB s=true∧opMay s.cf.th s.cf.si i k≠0∧E=opMay s.cf.th s.cf.si i k∧r=s) ∨
 (stB s=true∧opMay s.cf.th s.cf.si i k=0∧∃ (n:Nat) (t:Th),i=n∧n<s.th.length∧thBeg (gth s.th n) k v u E t∧r=s.setTh n t)
def tellT (t:Th) (k r g:Int):Th:=if k=9 then t else ⟨t.st,t.ki,t.va,t.un,t.pc,t.re,t.se,t.tr,t.la,r,g⟩
def tellS (s:St) (i k r g:Int):St:=if hasB s i=true then (s.setTh i.toNat (tellT (gth s.th i.toNat) k r g)).addLg ⟨i,k,(gth s.th i.toNat).va,r,g⟩ else s
theorem st_iff {s:St}:stB s=true↔cfB s.cf=true∧ringSt s=true∧lnsSt s=true∧okE s.fe s.fl=true∧okE s.ee s.el=true∧0≤s.nw∧s.nw≤1099511627776∧thsSt s=true:=by
 simp [stB,and_assoc]
theorem has_iff {s:St} {i:Int}:hasB s i=true↔stB s=true∧0≤i∧i<s.th.length:=by simp [hasB]
theorem cf_room {c:Cf} (h:cfB c=true):cfR c=2∨cfR c=4∨cfR c=8∨cfR c=16∨cfR c=32∨cfR c=64:=by
 obtain ⟨lg,th,po,wt,sp,yi,si⟩:=c
 have hp:=may_iff.1 (show mayB lg th po wt sp yi=true from h)
 have hc:cfR ⟨lg,th,po,wt,sp,yi,si⟩=pw lg:=room_yes h
 rw [hc]
 clear hc
 obtain rfl | rfl | rfl | rfl | rfl | rfl:lg=1∨lg=2∨lg=3∨lg=4∨lg=5∨lg=6:=by omega
 all_goals decide
theorem cf_bd (c:Cf):0≤cfR c∧cfR c≤64:=room_bd _ _ _ _ _ _
theorem cf_th {c:Cf} (h:cfB c=true):1≤c.th∧c.th≤16∧1≤c.lg∧c.lg≤6∧0≤c.po∧c.po≤2∧0≤c.wt∧c.wt≤3:=by
 obtain ⟨lg,th,po,wt,sp,yi,si⟩:=c
 have hp:=may_iff.1 (show mayB lg th po wt sp yi=true from h)
 simp only
 omega
theorem th0_ok:thB th0=true:=by decide
theorem line_nil:okLn []=true:=by decide
theorem new_stB {c:Cf} (h:cfB c=true):stB (newSt c)=true:=by
 have hr:=cf_room h
 have ht:=cf_th h
 have hb:ringB (cfR c)=true:=ring_iff.2 (by omega)
 obtain ⟨k,hk⟩:∃ k:Nat,cfR c=k:=⟨(cfR c).toNat,by omega⟩
 have hk' : 1≤k∧k≤64:=by omega
 have hl:(newL (cfR c)).length=k:=by rw [hk];exact new_len hk'
 have hstn:∀ m,stnB m []=true:=fun m=>by simp [stnB,line_nil]
 have hE:okE 0 []=true:=by simp [okE,line_nil]
 refine st_iff.2 ⟨h,?_,?_,hE,hE,by simp [newSt],by simp [newSt],?_⟩
 ·unfold ringSt
  rw [Bool.and_eq_true,Bool.and_eq_true]
  refine ⟨?_,?_,?_⟩
  ·have:lenI 0 0=0:=by decide
   show checkB 0 0 0 (cfR c)=true
   simp [checkB,this];omega
  ·exact decide_eq_true (show ((newL (cfR c)).length:Int)=cfR c by omega)
  ·show okSl (newL (cfR c))=true
   rw [hk];exact new_ok hk'
 ·simp [lnsSt,newSt,hstn]
 ·have h1:(List.replicate c.th.toNat th0).any notTh=false:=by
   rw [List.any_eq_false]
   intro x hx
   rw [(List.mem_replicate.1 hx).2]
   simp [notTh,th0_ok]
  have h2:((List.replicate c.th.toNat th0).length:Int)=c.th:=by rw [List.length_replicate];omega
  show (decide (((List.replicate c.th.toNat th0).length:Int)=c.th) && !((List.replicate c.th.toNat th0).any notTh))=true
  rw [h1,decide_eq_true h2]
  rfl
theorem beg_stB (s:St) (i k v u:Int):∃ E r,stBeg s i k v u E r:=by
 cases h:stB s
 ·exact ⟨20,s,.inl ⟨h,rfl,rfl⟩⟩
 ·by_cases h1:opMay s.cf.th s.cf.si i k=0
  ·have hth:thsSt s=true:=(st_iff.1 h).2.2.2.2.2.2.2
   simp only [thsSt,Bool.and_eq_true,decide_eq_true_eq] at hth
   have hi:¬ (i<0∨s.cf.th≤i):=fun h' => by unfold opMay at h1;rw [if_pos h'] at h1;cases h1
   obtain ⟨E,t,ht⟩:=beg_is (gth s.th i.toNat) k v u
   exact ⟨E,s.setTh i.toNat t,.inr (.inr ⟨h,h1,i.toNat,t,by omega,by omega,ht,rfl⟩)⟩
  ·exact ⟨_,s,.inr (.inl ⟨h,h1,rfl,rfl⟩)⟩
end
section
def haltB (h t m r:Int):Bool:=m==2 || !checkB h t m r
def someB (h t:Int):Bool:=decide (0<lenI h t)
def acR (h t m r:Int):Int:=if haltB h t m r then 7 else if m=1 then 6 else if fullB h t r||t==1099511627776 then 2 else 1
def acT (h t m r:Int):Int:=if acR h t m r=1 then t+1 else t
def acP (h t m r:Int):Int:=if acR h t m r=1 then t else 0
def tkR (h t m r:Int):Int:=if haltB h t m r then 7 else if someB h t then 1 else if m=1 then 6 else 4
def tkH (h t m r:Int):Int:=if tkR h t m r=1 then h+1 else h
def tkP (h t m r:Int):Int:=if tkR h t m r=1 then h else 0
def evwB (h t m r x:Int):Bool:=h==x&&m==0&&checkB h t m r&&fullB h t r&&someB h t
def evH (h t m r x:Int):Int:=if evwB h t m r x then h+1 else h
def clM (m d:Int):Int:=if (d=1∨d=2)∧m<d then d else m
theorem some_iff {h t m r:Int} (c:checkB h t m r=true):someB h t=decide (h<t):=by
 have:=check_len c
 unfold someB;rw [Bool.eq_iff_iff];simp;omega
theorem full_iff {h t m r:Int} (c:checkB h t m r=true):fullB h t r=decide (t - h=r):=by
 have:=check_len c
 unfold fullB;rw [Bool.eq_iff_iff];simp;omega
theorem ac_n {h t m r:Int} (c:acR h t m r≠1):acT h t m r=t∧acP h t m r=0:=by simp [acT,acP,c]
theorem ac_y {h t m r:Int} (c:acR h t m r=1):acT h t m r=t+1∧acP h t m r=t:=by simp [acT,acP,c]
theorem tk_n {h t m r:Int} (c:tkR h t m r≠1):tkH h t m r=h∧tkP h t m r=0:=by simp [tkH,tkP,c]
theorem tk_y {h t m r:Int} (c:tkR h t m r=1):tkH h t m r=h+1∧tkP h t m r=h:=by simp [tkH,tkP,c]
theorem ac1_iff {h t m r:Int}:acR h t m r=1↔checkB h t m r=true∧m=0∧t - h<r∧t<1099511627776:=by
 unfold acR haltB
 cases c:checkB h t m r
 ·simp
 ·have:=check_len c
  rw [full_iff c]
  by_cases h2:m=2
  ·simp [h2]
  ·by_cases h1:m=1
   ·simp [h1]
   ·by_cases hf:t - h=r
    ·simp [h1,h2,hf]
    ·by_cases he:t=1099511627776
     ·simp [h1,h2,hf,he]
     ·simp [h1,h2,hf,he];omega
theorem ev_iff {h t m r x:Int}:evwB h t m r x=true↔checkB h t m r=true∧m=0∧h=x∧t - h=r∧h<t:=by
 unfold evwB
 cases c:checkB h t m r
 ·simp
 ·rw [some_iff c,full_iff c];simp
  constructor <;> (intro h;omega)
end
section
theorem check_iff {h t m r:Int}:checkB h t m r=true↔0≤h∧h≤t∧t≤1099511627776∧0≤m∧m≤2∧t - h≤r:=by
 constructor
 ·intro c;have:=check_len c;omega
 ·intro c
  have:lenI h t=t - h:=by unfold lenI;split <;> omega
  simp [checkB,this];omega
theorem ac_or (h t m r:Int):(acR h t m r=1∧acT h t m r=t+1∧acP h t m r=t∧checkB h t m r=true∧m=0∧t - h<r∧t<1099511627776)∨(acR h t m r≠1∧acT h t m r=t∧acP h t m r=0):=by
 by_cases c:acR h t m r=1
 ·exact .inl ⟨c,(ac_y c).1,(ac_y c).2,ac1_iff.1 c⟩
 ·exact .inr ⟨c,ac_n c⟩
theorem ev_or (h t m r x:Int):(evwB h t m r x=true∧evH h t m r x=h+1∧checkB h t m r=true∧m=0∧h=x∧t - h=r∧h<t)∨(evwB h t m r x=false∧evH h t m r x=h):=by
 cases c:evwB h t m r x
 ·exact .inr ⟨rfl,by simp [evH,c]⟩
 ·exact .inl ⟨rfl,by simp [evH,c],ev_iff.1 c⟩
theorem ac_check {h t m r:Int} (c:checkB h t m r=true):checkB h (acT h t m r) m r=true:=by
 rcases ac_or h t m r with ⟨_,e,_,_,_,_,_⟩ | ⟨_,e,_⟩
 ·rw [e];rw [check_iff] at c ⊢;omega
 ·rw [e];exact c
theorem ev_check {h t m r x:Int} (c:checkB h t m r=true):checkB (evH h t m r x) t m r=true:=by
 rcases ev_or h t m r x with ⟨_,e,_,_,_,_⟩ | ⟨_,e⟩
 ·rw [e];rw [check_iff] at c ⊢;omega
 ·rw [e];exact c
theorem tk_of {h t m r:Int} (c:checkB h t m r=true):tkR h t m r=if m=2 then 7 else if h<t then 1 else if m=1 then 6 else 4:=by
 unfold tkR haltB
 rw [c,some_iff c]
 by_cases h2:m=2
 ·simp [h2]
 ·simp [h2]
end
section
def wayI (wt sp yi n:Int):Int:=if wt=0 then 0 else if wt=1 then 1 else if wt=2 then (if n<sp then 0 else if n<sp+yi then 1 else 2) else 2
def wtnI (lg th po wt sp yi n:Int):Int:=if mayB lg th po wt sp yi then wayI wt sp yi n else 0
end
section
def pcT (t:Th) (p:Int):Th:=⟨t.st,t.ki,t.va,t.un,p,t.re,t.se,t.tr,t.la,t.rs,t.go⟩
def onT (t:Th):Th:=⟨t.st,t.ki,t.va,t.un,t.pc,t.re,t.se,if t.tr<1099511627776 then t.tr+1 else t.tr,t.la,t.rs,t.go⟩
def regT (t:Th) (r p:Int):Th:=⟨t.st,t.ki,t.va,t.un,p,r,t.se,t.tr,t.la,t.rs,t.go⟩
def seenT (t:Th) (e p:Int):Th:=⟨t.st,t.ki,t.va,t.un,p,t.re,e,t.tr,t.la,t.rs,t.go⟩
def parkT (t:Th) (p:Int):Th:=⟨2,t.ki,t.va,t.un,p,t.re,t.se,0,t.la,t.rs,t.go⟩
def doneT (t:Th):Th:=⟨0,t.ki,t.va,t.un,0,0,0,0,false,t.rs,t.go⟩
def wakeT (t:Th):Th:=if t.st=2 then ⟨1,t.ki,t.va,t.un,t.pc,t.re,t.se,t.tr,t.la,t.rs,t.go⟩ else t
def St.onTh (s:St) (n:Nat) (f:Th→Th):St:=s.setTh n (f (gth s.th n))
def St.toWord (s:St) (h t m:Int):St:=⟨s.cf,h,t,m,s.sl,s.sn,s.rc,s.fe,s.fl,s.ee,s.el,s.nw,s.th,s.lg⟩
def St.toSl (s:St) (l:List Slo):St:=⟨s.cf,s.hd,s.tl,s.md,l,s.sn,s.rc,s.fe,s.fl,s.ee,s.el,s.nw,s.th,s.lg⟩
def St.toSn (s:St) (l:List Int):St:=⟨s.cf,s.hd,s.tl,s.md,s.sl,l,s.rc,s.fe,s.fl,s.ee,s.el,s.nw,s.th,s.lg⟩
def St.toRc (s:St) (l:List Int):St:=⟨s.cf,s.hd,s.tl,s.md,s.sl,s.sn,l,s.fe,s.fl,s.ee,s.el,s.nw,s.th,s.lg⟩
def St.toFull (s:St) (e:Int) (l:List Int):St:=⟨s.cf,s.hd,s.tl,s.md,s.sl,s.sn,s.rc,e,l,s.ee,s.el,s.nw,s.th,s.lg⟩
def St.toEmpty (s:St) (e:Int) (l:List Int):St:=⟨s.cf,s.hd,s.tl,s.md,s.sl,s.sn,s.rc,s.fe,s.fl,e,l,s.nw,s.th,s.lg⟩
def wakeS (s:St) (i:Int):St:=if hasB s i=true then s.onTh i.toNat wakeT else s
def toldS (s:St) (n:Nat) (k r g p:Int):St:=(tellS s n k r g).onTh n (pcT · p)
def runsB (s:St) (i d:Int):Bool:=hasB s i&&((gth s.th i.toNat).st==1&&opSide (gth s.th i.toNat).ki==d)
def seesS (s:St):Int:=acR s.hd s.tl s.md s.sl.length
def waySt (s:St) (n:Int):Int:=wtnI s.cf.lg s.cf.th s.cf.po s.cf.wt s.cf.sp s.cf.yi n
def fullS (s:St) (n:Nat):St :=
 if s.cf.po=1 then toldS s n (gth s.th n).ki 3 0 9
 else if s.cf.po=2 then s.onTh n (regT · s.hd 10)
 else if (gth s.th n).ki=2 then toldS s n (gth s.th n).ki 2 0 9
 else if (gth s.th n).la=true then toldS s n (gth s.th n).ki 5 0 9
 else if waySt s (gth s.th n).tr=2 then s.onTh n (pcT · 5)
 else s.onTh n onT
def lookS (s:St) (n:Nat):St :=
 if seesS s=1 then s.onTh n (regT · s.tl 3)
 else if seesS s=2 then fullS s n
 else toldS s n (gth s.th n).ki (seesS s) 0 9
def firstS (s:St) (n:Nat):St :=
 if plI s.sn n=0 then s.onTh n (pcT · 2)
 else if (gth s.th n).la=true then toldS s n (gth s.th n).ki 5 0 9
 else s.onTh n onT
def acceptS (s:St) (n:Nat):St :=
 if seesS s=1 then toldS (s.toWord s.hd (s.tl+1) s.md) n (gth s.th n).ki 1 0 6
 else if seesS s=2 then s.onTh n (pcT · 2)
 else toldS s n (gth s.th n).ki (seesS s) 0 9
def notifyS (s:St) (n:Nat):St :=
 if hdB (ntT 1 s.ee s.el)=true then wakeS ((s.toEmpty (ntE s.ee s.el) (ntL 1 s.ee s.el)).onTh n (pcT · 9)) (hdI (ntT 1 s.ee s.el))
 else (s.toEmpty (ntE s.ee s.el) (ntL 1 s.ee s.el)).onTh n (pcT · 9)
def commitS (s:St) (n:Nat):St :=
 if (gth s.th n).la=true then s.onTh n (pcT · 2)
 else if cmB s.fe s.fl (gth s.th n).se n=true then (s.toFull s.fe (s.fl++[(n:Int)])).onTh n (parkT · 2)
 else s.onTh n (pcT · 2)
def evictS (s:St) (n:Nat):St :=
 if evwB s.hd s.tl s.md s.sl.length (gth s.th n).re=true then toldS (s.toWord (s.hd+1) s.tl s.md) n 9 1 (valV s (gth s.th n).re) 11
 else s.onTh n (pcT · 2)
def sendN (s:St) (n:Nat):St :=
 if (gth s.th n).pc=0 then (s.toSn (entL s.sn n)).onTh n (pcT · 1)
 else if (gth s.th n).pc=1 then firstS s n
 else if (gth s.th n).pc=2 then lookS s n
 else if (gth s.th n).pc=3 then (if wrE s.sl (gth s.th n).re=0 then (s.toSl (wrL s.sl (gth s.th n).re (gth s.th n).va)).onTh n (pcT · 4) else s)
 else if (gth s.th n).pc=4 then acceptS s n
 else if (gth s.th n).pc=5 then s.onTh n (seenT · s.fe 7)
 else if (gth s.th n).pc=6 then notifyS s n
 else if (gth s.th n).pc=7 then (if seesS s=2∧(gth s.th n).la=false then s.onTh n (pcT · 8) else s.onTh n (pcT · 2))
 else if (gth s.th n).pc=8 then commitS s n
 else if (gth s.th n).pc=9 then (s.toSn (lvL s.sn n)).onTh n doneT
 else if (gth s.th n).pc=10 then evictS s n
 else (s.toSl (rlL s.sl (gth s.th n).re)).onTh n (pcT · 2)
def sendS (s:St) (i:Int):St:=if runsB s i 1=true then sendN s i.toNat else s
def sendK (s:St) (i:Int):Nat→St×Nat
 | 0=>(s,0)
 | k+1=>if runsB s i 1=true then ((sendK (sendS s i) i k).1,(sendK (sendS s i) i k).2+1) else (s,0)
theorem th_stB {s:St} (h:stB s=true) {n:Nat} {t:Th} (ht:thB t=true):stB (s.setTh n t)=true:=by
 obtain ⟨h1,h2,h3,h4,h5,h6,h7,h8⟩:=st_iff.1 h
 refine st_iff.2 ⟨h1,h2,h3,h4,h5,h6,h7,?_⟩
 simp only [thsSt,Bool.and_eq_true,decide_eq_true_eq,Bool.not_eq_true'] at h8 ⊢
 refine ⟨by show ((s.th.set n t).length:Int)=s.cf.th;rw [List.length_set];exact h8.1,?_⟩
 rw [List.any_eq_false] at h8 ⊢
 intro x hx
 rcases List.mem_or_eq_of_mem_set hx with h9 | rfl
 ·exact h8.2 x h9
 ·simp [notTh,ht]
theorem onTh_stB {s:St} (h:stB s=true) {n:Nat} {f:Th→Th} (ht:thB (f (gth s.th n))=true):stB (s.onTh n f)=true:=th_stB h ht
theorem gth_ok {s:St} (h:stB s=true) {n:Nat} (hn:n<s.th.length):thB (gth s.th n)=true:=by
 have h8:=(st_iff.1 h).2.2.2.2.2.2.2
 simp only [thsSt,Bool.and_eq_true,decide_eq_true_eq,Bool.not_eq_true',List.any_eq_false] at h8
 have:=h8.2 (gth s.th n) (by rw [gth_eq hn];exact List.getElem_mem hn)
 simpa [notTh] using this
theorem th_len {s:St} (h:stB s=true):(s.th.length:Int)=s.cf.th∧1≤s.th.length∧s.th.length≤16:=by
 have h8:=(st_iff.1 h).2.2.2.2.2.2.2
 simp only [thsSt,Bool.and_eq_true,decide_eq_true_eq] at h8
 have:=cf_th (st_iff.1 h).1
 omega
theorem word_ok {s:St} (h:stB s=true):checkB s.hd s.tl s.md s.sl.length=true∧okSl s.sl=true∧(s.sl.length:Int)=cfR s.cf:=by
 have h2:=(st_iff.1 h).2.1
 simp only [ringSt,Bool.and_eq_true,decide_eq_true_eq] at h2
 exact ⟨by rw [h2.2.1];exact h2.1,h2.2.2,h2.2.1⟩
theorem word_stB {s:St} (h:stB s=true) {a b c:Int} (hc:checkB a b c s.sl.length=true):stB (s.toWord a b c)=true:=by
 obtain ⟨h1,h2,h3,h4,h5,h6,h7,h8⟩:=st_iff.1 h
 refine st_iff.2 ⟨h1,?_,h3,h4,h5,h6,h7,h8⟩
 simp only [ringSt,Bool.and_eq_true,decide_eq_true_eq] at h2 ⊢
 exact ⟨by rw [h2.2.1] at hc;exact hc,h2.2⟩
theorem sl_stB {s:St} (h:stB s=true) {l:List Slo} (hl:l.length=s.sl.length) (hk:okSl l=true):stB (s.toSl l)=true:=by
 obtain ⟨h1,h2,h3,h4,h5,h6,h7,h8⟩:=st_iff.1 h
 refine st_iff.2 ⟨h1,?_,h3,h4,h5,h6,h7,h8⟩
 simp only [ringSt,Bool.and_eq_true,decide_eq_true_eq] at h2 ⊢
 exact ⟨h2.1,by show (l.length:Int)=_;rw [hl];exact h2.2.1,hk⟩
theorem stn_iff {m:Int} {l:List Int}:stnB m l=true↔okLn l=true∧∀ x∈l,x<m:=by
 simp only [stnB,Bool.and_eq_true,Bool.not_eq_true',List.any_eq_false]
 refine and_congr_right fun _=>forall_congr' fun x=>?_
 simp [overB]
theorem lns_iff {s:St}:lnsSt s=true↔stnB s.cf.th s.sn=true∧stnB s.cf.th s.rc=true∧stnB s.cf.th s.fl=true∧stnB s.cf.th s.el=true:=by
 simp [lnsSt]
theorem sn_stB {s:St} (h:stB s=true) {l:List Int} (hl:stnB s.cf.th l=true):stB (s.toSn l)=true:=by
 obtain ⟨h1,h2,h3,h4,h5,h6,h7,h8⟩:=st_iff.1 h
 obtain ⟨a,b,c,d⟩:=lns_iff.1 h3
 exact st_iff.2 ⟨h1,h2,lns_iff.2 ⟨hl,b,c,d⟩,h4,h5,h6,h7,h8⟩
theorem rc_stB {s:St} (h:stB s=true) {l:List Int} (hl:stnB s.cf.th l=true):stB (s.toRc l)=true:=by
 obtain ⟨h1,h2,h3,h4,h5,h6,h7,h8⟩:=st_iff.1 h
 obtain ⟨a,b,c,d⟩:=lns_iff.1 h3
 exact st_iff.2 ⟨h1,h2,lns_iff.2 ⟨a,hl,c,d⟩,h4,h5,h6,h7,h8⟩
theorem full_stB {s:St} (h:stB s=true) {e:Int} {l:List Int} (he:okE e l=true) (hl:stnB s.cf.th l=true):stB (s.toFull e l)=true:=by
 obtain ⟨h1,h2,h3,h4,h5,h6,h7,h8⟩:=st_iff.1 h
 obtain ⟨a,b,c,d⟩:=lns_iff.1 h3
 exact st_iff.2 ⟨h1,h2,lns_iff.2 ⟨a,b,hl,d⟩,he,h5,h6,h7,h8⟩
theorem empty_stB {s:St} (h:stB s=true) {e:Int} {l:List Int} (he:okE e l=true) (hl:stnB s.cf.th l=true):stB (s.toEmpty e l)=true:=by
 obtain ⟨h1,h2,h3,h4,h5,h6,h7,h8⟩:=st_iff.1 h
 obtain ⟨a,b,c,d⟩:=lns_iff.1 h3
 exact st_iff.2 ⟨h1,h2,lns_iff.2 ⟨a,b,c,hl⟩,h4,he,h6,h7,h8⟩
theorem stn_sub {m:Int} {l k:List Int} (h:stnB m l=true) (hk:okLn k=true) (hs:∀ x∈k,x∈l):stnB m k=true :=
 stn_iff.2 ⟨hk,fun x hx=>(stn_iff.1 h).2 x (hs x hx)⟩
theorem stn_ent {m:Int} {l:List Int} {i:Int} (h:stnB m l=true) (hi:i<m):stnB m (entL l i)=true:=by
 obtain ⟨h1,h2⟩:=stn_iff.1 h
 refine stn_iff.2 ⟨ent_ok_keep h1,fun x hx=>?_⟩
 unfold entL at hx
 split at hx
 ·rcases List.mem_append.1 hx with h3 | h3
  ·exact h2 x h3
  ·simp at h3;omega
 ·exact h2 x hx
theorem stn_lv {m:Int} {l:List Int} {i:Int} (h:stnB m l=true):stnB m (lvL l i)=true:=by
 refine stn_sub h (ok_lv (stn_iff.1 h).1 i) fun x hx=>?_
 unfold lvL at hx
 split at hx
 ·exact hx
 ·exact List.mem_of_mem_eraseIdx hx
theorem ok_th {s:St} {n:Nat} (h:stB s=true) (hn:n<s.th.length):(n:Int)<s.cf.th∧(0:Int)≤n∧(n:Int)≤15:=by
 have:=th_len h;omega
theorem pcT_ok {t:Th} (h:thB t=true) (h1:t.st≠0) {p:Int} (hp:0≤p∧p≤11):thB (pcT t p)=true:=by
 obtain ⟨st,ki,va,un,pc,re,se,tr,la,rs,go⟩:=t
 simp only [pcT] at *;rw [thB_iff] at *;omega
theorem onT_ok {t:Th} (h:thB t=true) (h1:t.st≠0):thB (onT t)=true:=by
 obtain ⟨st,ki,va,un,pc,re,se,tr,la,rs,go⟩:=t
 simp only [onT] at *;rw [thB_iff] at *;split <;> omega
theorem regT_ok {t:Th} (h:thB t=true) (h1:t.st≠0) {r p:Int} (hr:0≤r∧r≤1099511627776) (hp:0≤p∧p≤11):thB (regT t r p)=true:=by
 obtain ⟨st,ki,va,un,pc,re,se,tr,la,rs,go⟩:=t
 simp only [regT] at *;rw [thB_iff] at *;omega
theorem seenT_ok {t:Th} (h:thB t=true) (h1:t.st≠0) {e p:Int} (hr : -1≤e∧e≤1099511627776) (hp:0≤p∧p≤11):thB (seenT t e p)=true:=by
 obtain ⟨st,ki,va,un,pc,re,se,tr,la,rs,go⟩:=t
 simp only [seenT] at *;rw [thB_iff] at *;omega
theorem parkT_ok {t:Th} (h:thB t=true) (h1:t.st≠0) {p:Int} (hp:0≤p∧p≤11):thB (parkT t p)=true:=by
 obtain ⟨st,ki,va,un,pc,re,se,tr,la,rs,go⟩:=t
 simp only [parkT] at *;rw [thB_iff] at *;omega
theorem doneT_ok {t:Th} (h:thB t=true) (h1:t.st≠0):thB (doneT t)=true:=by
 obtain ⟨st,ki,va,un,pc,re,se,tr,la,rs,go⟩:=t
 simp only [doneT] at *;rw [thB_iff] at *;have hf:bI false=0:=rfl;omega
theorem wakeT_ok {t:Th} (h:thB t=true):thB (wakeT t)=true:=by
 unfold wakeT
 split
 ·obtain ⟨st,ki,va,un,pc,re,se,tr,la,rs,go⟩:=t
  simp only at *;rw [thB_iff] at *;omega
 ·exact h
theorem tellT_ok {t:Th} (h:thB t=true) {k r g:Int} (hr:0≤r∧r≤7):thB (tellT t k r g)=true:=by
 unfold tellT
 split
 ·exact h
 ·obtain ⟨st,ki,va,un,pc,re,se,tr,la,rs,go⟩:=t
  simp only;rw [thB_iff] at *;omega
theorem lg_stB (s:St) (e:En):stB (s.addLg e)=stB s:=rfl
theorem tell_stB {s:St} (h:stB s=true) {i k r g:Int} (hr:0≤r∧r≤7):stB (tellS s i k r g)=true:=by
 unfold tellS
 split
 ·next hh =>
  have hi:=has_iff.1 hh
  rw [lg_stB]
  exact th_stB h (tellT_ok (gth_ok h (by omega)) hr)
 ·exact h
theorem has_of {s:St} (h:stB s=true) {n:Nat} (hn:n<s.th.length):hasB s n=true:=has_iff.2 ⟨h,by omega,by omega⟩
theorem tell_th {s:St} (h:stB s=true) {n:Nat} (hn:n<s.th.length) (k r g:Int):tellS s n k r g=(s.setTh n (tellT (gth s.th n) k r g)).addLg ⟨n,k,(gth s.th n).va,r,g⟩:=by
 unfold tellS;rw [if_pos (has_of h hn)];simp
theorem tellT_st (t:Th) (k r g:Int):(tellT t k r g).st=t.st:=by unfold tellT;split <;> rfl
theorem gth_tell {s:St} (h:stB s=true) {n:Nat} (hn:n<s.th.length) (k r g:Int):gth (tellS s n k r g).th n=tellT (gth s.th n) k r g:=by
 rw [tell_th h hn]
 show gth (s.th.set n _) n=_
 rw [gth_set hn,if_pos rfl]
theorem told_stB {s:St} (h:stB s=true) {n:Nat} (hn:n<s.th.length) (h1:(gth s.th n).st≠0) {k r g p:Int} (hr:0≤r∧r≤7) (hp:0≤p∧p≤11):stB (toldS s n k r g p)=true:=by
 refine onTh_stB (tell_stB h hr) ?_
 rw [gth_tell h hn]
 exact pcT_ok (tellT_ok (gth_ok h hn) hr) (by rw [tellT_st];exact h1) hp
theorem sees_bd (s:St):0≤seesS s∧seesS s≤7:=by
 unfold seesS acR;repeat' split
 all_goals omega
theorem wake_stB {s:St} (h:stB s=true) (i:Int):stB (wakeS s i)=true:=by
 unfold wakeS
 split
 ·next hh=>exact onTh_stB h (wakeT_ok (gth_ok h (by have:=has_iff.1 hh;omega)))
 ·exact h
theorem wrL_ok {l:List Slo} (h:okSl l=true) (p v:Int):okSl (wrL l p v)=true:=by rw [ok_sts (wr_sts l p v)];exact h
theorem rlL_ok {l:List Slo} (h:okSl l=true) (p:Int):okSl (rlL l p)=true:=by
 cases hb:rlB l p
 ·unfold rlL;rw [hb];exact h
 ·simp only [rlB,Bool.and_eq_true,decide_eq_true_eq] at hb
  exact (rl_laid hb.1 hb.2).1
theorem runs_iff {s:St} {i d:Int}:runsB s i d=true↔hasB s i=true∧(gth s.th i.toNat).st=1∧opSide (gth s.th i.toNat).ki=d:=by simp [runsB]
theorem full_lines {s:St} (h:stB s=true):stnB s.cf.th s.sn=true∧stnB s.cf.th s.rc=true∧stnB s.cf.th s.fl=true∧stnB s.cf.th s.el=true∧okE s.fe s.fl=true∧okE s.ee s.el=true:=by
 obtain ⟨h1,h2,h3,h4,h5,h6,h7,h8⟩:=st_iff.1 h
 obtain ⟨a,b,c,d⟩:=lns_iff.1 h3
 exact ⟨a,b,c,d,h4,h5⟩
theorem fullS_stB {s:St} (h:stB s=true) {n:Nat} (hn:n<s.th.length) (h1:(gth s.th n).st≠0):stB (fullS s n)=true:=by
 have hc:=check_iff.1 (word_ok h).1
 unfold fullS
 repeat' split
 ·exact told_stB h hn h1 (by decide) (by decide)
 ·exact onTh_stB h (regT_ok (gth_ok h hn) h1 (by omega) (by decide))
 ·exact told_stB h hn h1 (by decide) (by decide)
 ·exact told_stB h hn h1 (by decide) (by decide)
 ·exact onTh_stB h (pcT_ok (gth_ok h hn) h1 (by decide))
 ·exact onTh_stB h (onT_ok (gth_ok h hn) h1)
theorem lookS_stB {s:St} (h:stB s=true) {n:Nat} (hn:n<s.th.length) (h1:(gth s.th n).st≠0):stB (lookS s n)=true:=by
 have hc:=check_iff.1 (word_ok h).1
 unfold lookS
 repeat' split
 ·exact onTh_stB h (regT_ok (gth_ok h hn) h1 (by omega) (by decide))
 ·exact fullS_stB h hn h1
 ·exact told_stB h hn h1 (sees_bd s) (by decide)
theorem firstS_stB {s:St} (h:stB s=true) {n:Nat} (hn:n<s.th.length) (h1:(gth s.th n).st≠0):stB (firstS s n)=true:=by
 unfold firstS
 repeat' split
 ·exact onTh_stB h (pcT_ok (gth_ok h hn) h1 (by decide))
 ·exact told_stB h hn h1 (by decide) (by decide)
 ·exact onTh_stB h (onT_ok (gth_ok h hn) h1)
theorem acceptS_stB {s:St} (h:stB s=true) {n:Nat} (hn:n<s.th.length) (h1:(gth s.th n).st≠0):stB (acceptS s n)=true:=by
 unfold acceptS
 repeat' split
 ·next hs =>
  have h2:=ac_check (word_ok h).1
  rw [(ac_y hs).1] at h2
  exact told_stB (s:=s.toWord s.hd (s.tl+1) s.md) (word_stB h h2) hn h1 (by decide) (by decide)
 ·exact onTh_stB h (pcT_ok (gth_ok h hn) h1 (by decide))
 ·exact told_stB h hn h1 (sees_bd s) (by decide)
theorem notifyS_stB {s:St} (h:stB s=true) {n:Nat} (hn:n<s.th.length) (h1:(gth s.th n).st≠0):stB (notifyS s n)=true:=by
 obtain ⟨-,-,-,d,-,e⟩:=full_lines h
 have h2:stB (s.toEmpty (ntE s.ee s.el) (ntL 1 s.ee s.el))=true:=by
  refine empty_stB h ?_ ?_
  ·simp only [ntE,ntL,e,if_true];exact okE_nx e (ok_drop (okE_ln e) 1)
  ·simp only [ntL,e,if_true];exact stn_sub d (ok_drop (okE_ln e) 1) (fun x hx=>List.mem_of_mem_drop hx)
 have h3:stB ((s.toEmpty (ntE s.ee s.el) (ntL 1 s.ee s.el)).onTh n (pcT · 9))=true:=onTh_stB h2 (pcT_ok (gth_ok h hn) h1 (by decide))
 unfold notifyS
 split
 ·exact wake_stB h3 _
 ·exact h3
theorem commitS_stB {s:St} (h:stB s=true) {n:Nat} (hn:n<s.th.length) (h1:(gth s.th n).st≠0):stB (commitS s n)=true:=by
 obtain ⟨-,-,c,-,e,-⟩:=full_lines h
 unfold commitS
 repeat' split
 ·exact onTh_stB h (pcT_ok (gth_ok h hn) h1 (by decide))
 ·next hb =>
  have hE:entE s.fl n=0:=by simp only [cmB,Bool.and_eq_true,beq_iff_eq] at hb;exact hb.1.2
  have h2:=stn_ent c (ok_th h hn).1
  rw [ent_yes hE] at h2
  exact onTh_stB (s:=s.toFull s.fe (s.fl++[(n:Int)])) (full_stB h (okE_with e (ok_snoc hE)) h2) (parkT_ok (gth_ok h hn) h1 (by decide))
 ·exact onTh_stB h (pcT_ok (gth_ok h hn) h1 (by decide))
theorem evictS_stB {s:St} (h:stB s=true) {n:Nat} (hn:n<s.th.length) (h1:(gth s.th n).st≠0):stB (evictS s n)=true:=by
 unfold evictS
 split
 ·next hb =>
  have h2:=ev_check (x:=(gth s.th n).re) (word_ok h).1
  rw [show evH s.hd s.tl s.md s.sl.length (gth s.th n).re=s.hd+1 by unfold evH;rw [if_pos hb]] at h2
  exact told_stB (s:=s.toWord (s.hd+1) s.tl s.md) (word_stB h h2) hn h1 (by decide) (by decide)
 ·exact onTh_stB h (pcT_ok (gth_ok h hn) h1 (by decide))
theorem sendN_0 {s:St} {n:Nat} (h:(gth s.th n).pc=0):sendN s n=(s.toSn (entL s.sn n)).onTh n (pcT · 1):=by unfold sendN;rw [h];rfl
theorem sendN_1 {s:St} {n:Nat} (h:(gth s.th n).pc=1):sendN s n=firstS s n:=by unfold sendN;rw [h];rfl
theorem sendN_2 {s:St} {n:Nat} (h:(gth s.th n).pc=2):sendN s n=lookS s n:=by unfold sendN;rw [h];rfl
theorem sendN_3 {s:St} {n:Nat} (h:(gth s.th n).pc=3):sendN s n=(if wrE s.sl (gth s.th n).re=0 then (s.toSl (wrL s.sl (gth s.th n).re (gth s.th n).va)).onTh n (pcT · 4) else s):=by unfold sendN;rw [h];rfl
theorem sendN_4 {s:St} {n:Nat} (h:(gth s.th n).pc=4):sendN s n=acceptS s n:=by unfold sendN;rw [h];rfl
theorem sendN_5 {s:St} {n:Nat} (h:(gth s.th n).pc=5):sendN s n=s.onTh n (seenT · s.fe 7):=by unfold sendN;rw [h];rfl
theorem sendN_6 {s:St} {n:Nat} (h:(gth s.th n).pc=6):sendN s n=notifyS s n:=by unfold sendN;rw [h];rfl
theorem sendN_7 {s:St} {n:Nat} (h:(gth s.th n).pc=7):sendN s n=(if seesS s=2∧(gth s.th n).la=false then s.onTh n (pcT · 8) else s.onTh n (pcT · 2)):=by unfold sendN;rw [h];rfl
theorem sendN_8 {s:St} {n:Nat} (h:(gth s.th n).pc=8):sendN s n=commitS s n:=by unfold sendN;rw [h];rfl
theorem sendN_9 {s:St} {n:Nat} (h:(gth s.th n).pc=9):sendN s n=(s.toSn (lvL s.sn n)).onTh n doneT:=by unfold sendN;rw [h];rfl
theorem sendN_10 {s:St} {n:Nat} (h:(gth s.th n).pc=10):sendN s n=evictS s n:=by unfold sendN;rw [h];rfl
theorem sendN_11 {s:St} {n:Nat} (h:(gth s.th n).pc=11):sendN s n=(s.toSl (rlL s.sl (gth s.th n).re)).onTh n (pcT · 2):=by unfold sendN;rw [h];rfl
theorem pc_or {t:Th} (h:thB t=true):t.pc=0∨t.pc=1∨t.pc=2∨t.pc=3∨t.pc=4∨t.pc=5∨t.pc=6∨t.pc=7∨t.pc=8∨t.pc=9∨t.pc=10∨t.pc=11:=by
 obtain ⟨st,ki,va,un,pc,re,se,tr,la,rs,go⟩:=t
 rw [thB_iff] at h;simp only;omega
theorem sendN_stB {s:St} (h:stB s=true) {n:Nat} (hn:n<s.th.length) (h1:(gth s.th n).st≠0):stB (sendN s n)=true:=by
 obtain ⟨a,-,-,-,e,-⟩:=full_lines h
 have ho:=word_ok h
 have he:=okE_iff.1 e
 have hg:=gth_ok h hn
 obtain p | p | p | p | p | p | p | p | p | p | p | p:=pc_or hg
 ·rw [sendN_0 p];exact onTh_stB (sn_stB h (stn_ent a (ok_th h hn).1)) (pcT_ok hg h1 (by decide))
 ·rw [sendN_1 p];exact firstS_stB h hn h1
 ·rw [sendN_2 p];exact lookS_stB h hn h1
 ·rw [sendN_3 p]
  split
  ·exact onTh_stB (sl_stB h (wr_len _ _ _) (wrL_ok ho.2.1 _ _)) (pcT_ok hg h1 (by decide))
  ·exact h
 ·rw [sendN_4 p];exact acceptS_stB h hn h1
 ·rw [sendN_5 p];exact onTh_stB h (seenT_ok hg h1 (by omega) (by decide))
 ·rw [sendN_6 p];exact notifyS_stB h hn h1
 ·rw [sendN_7 p]
  split
  ·exact onTh_stB h (pcT_ok hg h1 (by decide))
  ·exact onTh_stB h (pcT_ok hg h1 (by decide))
 ·rw [sendN_8 p];exact commitS_stB h hn h1
 ·rw [sendN_9 p];exact onTh_stB (sn_stB h (stn_lv a)) (doneT_ok hg h1)
 ·rw [sendN_10 p];exact evictS_stB h hn h1
 ·rw [sendN_11 p];exact onTh_stB (sl_stB h (rl_len _ _) (rlL_ok ho.2.1 _)) (pcT_ok hg h1 (by decide))
theorem sendS_stB (s:St) (i:Int):stB (sendS s i)=stB s:=by
 unfold sendS
 split
 ·next hr =>
  obtain ⟨hh,h1,-⟩:=runs_iff.1 hr
  obtain ⟨h,h2,h3⟩:=has_iff.1 hh
  rw [h]
  exact sendN_stB h (by omega) (by omega)
 ·rfl
end
end Go.Proofs.YtbckpadeamlidaaGreat
