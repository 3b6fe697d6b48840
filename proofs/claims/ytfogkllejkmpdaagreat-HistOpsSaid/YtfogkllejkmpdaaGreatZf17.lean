/- Texts merged: CaPT, StepST, PlLT, PpNT, PpDT, HbFT, EngPT, HbDT, HbET, HbRT, HbGT, HyBT, HyCT, PpRT. -/
import Derived.Test.YtfogkllejkmpdaaGreatZf12
import Derived.Test.YtfogkllejkmpdaaGreatZf16
import Derived.Test.YtfogkllejkmpdaaGreatZf11
import Derived.Test.YtfogkllejkmpdaaGreatZf13
import Derived.Test.YtfogkllejkmpdaaGreatZf14
import Derived.Test.YtfogkllejkmpdaaGreatZf2
import Derived.Test.YtfogkllejkmpdaaGreatZf4
namespace Go.Proofs.YtfogkllejkmpdaaGreat
set_option linter.unusedVariables false
set_option linter.unusedSimpArgs false
set_option maxRecDepth 100000
section
open Go.ChangeShapes Go.WideShapes Go.ChangeAt Go.RowKit
def knB (k:Int):Bool:=opB k||(k==10||k==11)
def upB (m n:Int):Bool:=decide (0≤n)&&decide (n≤m)
def dh (x:Ca):Ca:=if x.ki=11 then ⟨x.ki,0,x.va,0⟩ else if x.ki=10 then ⟨x.ki,x.th,0,0⟩ else ⟨x.ki,x.th,if j6 x.ki=1 then x.va else 0,if K3 x.ki=true then x.un else 0⟩
instance caEq:DecidableEq Ca:=fun a b=>decidable_of_iff (a.ki=b.ki∧a.th=b.th∧a.va=b.va∧a.un=b.un) (by cases a;cases b;simp)
theorem Cx {k:Int}:knB k=true↔(1≤k∧k≤8)∨k=10∨k=11:=by simp [knB,opB]
theorem ol {m n:Int}:upB m n=true↔0≤n∧n≤m:=by simp [upB]
theorem Fq {x:Ca} (hk:knB x.ki=true):x=dh x↔(x.ki=11→x.th=0∧x.un=0)∧(x.ki=10→x.va=0∧x.un=0)∧(4≤x.ki∧x.ki≤8→x.va=0)∧(x.ki≠3→x.ki≠6→x.ki≤8→x.un=0):=by
 obtain ⟨k,t,v,u⟩:=x
 have hk:=Cx.1 hk
 simp only at hk
 have h:k=1∨k=2∨k=3∨k=4∨k=5∨k=6∨k=7∨k=8∨k=10∨k=11:=by omega
 rcases h with rfl | rfl | rfl | rfl | rfl | rfl | rfl | rfl | rfl | rfl <;> simp [dh,j6,K3]
theorem Wi (x:Ca):caE x=if knB x.ki=false then 190 else if (!decide (x=dh x))=true then 190 else if upB 15 x.th=false then 190 else if upB 1099511627776 x.un=false then 50 else if x.ki=11∧upB 1099511627776 x.va=false then 50 else 0:=by
 cases hk:knB x.ki
 ·have:=mt Cx.2 (by rw [hk];decide)
  simp only [if_pos]
  unfold caE
  rw [if_pos (by omega)]
 ·have h1:=Cx.1 hk
  simp only [Bool.true_eq_false,if_false]
  cases hb:decide (x=dh x)
  ·have h2:=mt (Fq hk).2 (by simpa using hb)
   simp only [Bool.not_false,if_pos]
   unfold caE
   split
   ·rfl
   ·split
    ·rfl
    ·rw [if_pos (by omega)]
  ·have h2:=(Fq hk).1 (by simpa using hb)
   simp only [Bool.not_true,Bool.false_eq_true,if_false]
   cases ht:upB 15 x.th
   ·have:=mt ol.2 (by rw [ht];decide)
    simp only [if_pos]
    unfold caE
    rw [if_pos (by omega)]
   ·have h3:=ol.1 ht
    simp only [Bool.true_eq_false,if_false]
    unfold caE
    rw [if_neg (by omega),if_neg (by omega),if_neg (by omega)]
    cases hu:upB 1099511627776 x.un
    ·have:=mt ol.2 (by rw [hu];decide)
     simp only [if_pos]
     rw [if_pos (by omega)]
    ·have h4:=ol.1 hu
     simp only [Bool.true_eq_false,if_false]
     cases hv:upB 1099511627776 x.va
     ·have:=mt ol.2 (by rw [hv];decide)
      simp only [and_true]
      by_cases e:x.ki=11
      ·rw [if_pos e,if_pos (by omega)]
      ·rw [if_neg e,if_neg (by omega)]
     ·have h5:=ol.1 hv
      simp only [Bool.true_eq_false,and_false,if_false]
      rw [if_neg (by omega)]
theorem LD (a b:Ca) (w:World):(Op.equal 75 (caT a) (caT b)).run Tryz.prog w = .ok (decide (a=b)) w:=by
 have hu:=Tryz.underlying75
 have h3:=Tryz.underlying3
 have hp:Tryz.prog.stoodInHeld 75=false:=by kernel_rfl
 have e:decide (a=b)=(a.ki==b.ki&&(a.th==b.th&&(a.va==b.va&&a.un==b.un))):=by
  rw [Bool.eq_iff_iff];cases a;cases b;simp
 rw [e]
 unfold caT Op.equal Op.maxDepth
 rw [run_equalIn_struct w 9999 _ _ _ (by unfold Program.fieldsOf;rw [hu]) hp]
 unfold Program.fieldsOf
 rw [hu]
 cases c0:(a.ki==b.ki)
 ·simp [Op.eqFields,part,isAgg,run_underlying h3,run_equalIn_int _ _ _ _ _ _ _ h3,c0]
 cases c1:(a.th==b.th)
 ·simp [Op.eqFields,part,isAgg,run_underlying h3,run_equalIn_int _ _ _ _ _ _ _ h3,c0,c1]
 cases c2:(a.va==b.va)
 ·simp [Op.eqFields,part,isAgg,run_underlying h3,run_equalIn_int _ _ _ _ _ _ _ h3,c0,c1,c2]
 cases c3:(a.un==b.un)
 ·simp [Op.eqFields,part,isAgg,run_underlying h3,run_equalIn_int _ _ _ _ _ _ _ h3,c0,c1,c2,c3]
 simp [Op.eqFields,part,isAgg,run_underlying h3,run_equalIn_int _ _ _ _ _ _ _ h3,c0,c1,c2,c3]
theorem jw (x y:Ca) {r:Bool} (h:(!decide (x=y))=r) (a b:Operand):uj Tryz.prog (.binOp .neq 75 a b 75) [caT x,caT y] (.bool r) :=
 nQ (fun a b W=>(gF (by kernel_rfl) a b _ _ W).1) (fun W=>by
  have h' := LD x y W
  have hu:=Tryz.underlying75
  unfold caT at h'
  simp [binOp,h',run_underlying hu,Result.andThen,← h]) a b
theorem dE {k:Int} {b:Bool} (hb:knB k=b):AC Tryz.prog 151 [.int .i64 k] (.bool b):=by
 rw [← hb];unfold knB
 cases h1:opB k
 ·cases h2:k==10
  ·exact d9 mixed (ext:=[75,109,198]) (fuel:=9) (n:=6) (orc:=[vD false,.bool false]) (an (J7 h1)<|an h2 trivial) (by kernel_rfl)
  ·exact d9 mixed (ext:=[75,109,198]) (fuel:=9) (n:=6) (orc:=[vD false,.bool true]) (an (J7 h1)<|an h2 trivial) (by kernel_rfl)
 ·exact d9 mixed (ext:=[75,109,198]) (fuel:=9) (n:=6) (orc:=[vD true]) (an (J7 h1) trivial) (by kernel_rfl)
theorem aA {m n:Int} {b:Bool} (hb:upB m n=b):AC Tryz.prog 153 [.int .i64 m,.int .i64 n] (.bool b):=by
 rw [← hb];unfold upB
 cases h1:decide (0≤n)
 ·exact d9 mixed (ext:=[75,109,198]) (fuel:=9) (n:=6) (orc:=[.bool false]) (an h1 trivial) (by kernel_rfl)
 ·exact d9 mixed (ext:=[75,109,198]) (fuel:=9) (n:=6) (orc:=[.bool true]) (an h1 trivial) (by kernel_rfl)
theorem jQ (x:Ca):AC Tryz.prog 152 [caT x] (caT (dh x)):=by
 unfold dh
 cases h1:x.ki==11
 ·rw [if_neg (by simpa using h1)]
  cases h2:x.ki==10
  ·rw [if_neg (by simpa using h2)]
   cases h3:j6 x.ki != 1
   ·rw [if_pos (by simpa using h3)]
    cases h4:K3 x.ki
    ·exact d9 mixed (ext:=[75,109,198]) (fuel:=9) (n:=6) (orc:=[.bool false,.bool false,.int .i64 (j6 x.ki),.bool false,vD false]) (an h1<|an h2<|an (O8 x.ki)<|an h3<|an (R5 h4) trivial) (by kernel_rfl)
    ·exact d9 mixed (ext:=[75,109,198]) (fuel:=9) (n:=6) (orc:=[.bool false,.bool false,.int .i64 (j6 x.ki),.bool false,vD true]) (an h1<|an h2<|an (O8 x.ki)<|an h3<|an (R5 h4) trivial) (by kernel_rfl)
   ·rw [if_neg (by simpa using h3)]
    cases h4:K3 x.ki
    ·exact d9 mixed (ext:=[75,109,198]) (fuel:=9) (n:=6) (orc:=[.bool false,.bool false,.int .i64 (j6 x.ki),.bool true,vD false]) (an h1<|an h2<|an (O8 x.ki)<|an h3<|an (R5 h4) trivial) (by kernel_rfl)
    ·exact d9 mixed (ext:=[75,109,198]) (fuel:=9) (n:=6) (orc:=[.bool false,.bool false,.int .i64 (j6 x.ki),.bool true,vD true]) (an h1<|an h2<|an (O8 x.ki)<|an h3<|an (R5 h4) trivial) (by kernel_rfl)
  ·rw [if_pos (by simpa using h2)]
   exact d9 mixed (ext:=[75,109,198]) (fuel:=9) (n:=6) (orc:=[.bool false,.bool true]) (an h1<|an h2 trivial) (by kernel_rfl)
 ·rw [if_pos (by simpa using h1)]
  exact d9 mixed (ext:=[75,109,198]) (fuel:=9) (n:=6) (orc:=[.bool true]) (an h1 trivial) (by kernel_rfl)
theorem Lm (x:Ca):AC Tryz.prog 110 [caT x] (.int .i64 (caE x)):=by
 rw [Wi]
 cases h1:knB x.ki
 ·exact d9 mixed (ext:=[151,152,153]) (fuel:=9) (n:=6) (orc:=[vD false]) (an (dE h1) trivial) (by kernel_rfl)
 cases h2 : !decide (x=dh x)
 ·cases h3:upB 15 x.th
  ·exact d9 mixed (ext:=[151,152,153]) (fuel:=9) (n:=6) (orc:=[vD true,caT (dh x),.bool false,.nilFunc,vD false]) (an (dE h1)<|an (jQ x)<|an (jw x (dh x) h2 (.tmp 9) (.tmp 11))<|an (aA h3) trivial) (by kernel_rfl)
  cases h4:upB 1099511627776 x.un
  ·exact d9 mixed (ext:=[151,152,153]) (fuel:=9) (n:=6) (orc:=[vD true,caT (dh x),.bool false,.nilFunc,vD true,vD false]) (an (dE h1)<|an (jQ x)<|an (jw x (dh x) h2 (.tmp 9) (.tmp 11))<|an (aA h3)<|an (aA h4) trivial) (by kernel_rfl)
  cases h5:x.ki==11
  ·rw [if_neg (c:=x.ki=11∧_) (by simp at h5;simp [h5])]
   exact d9 mixed (ext:=[151,152,153]) (fuel:=9) (n:=6) (orc:=[vD true,caT (dh x),.bool false,.nilFunc,vD true,vD true,.bool false]) (an (dE h1)<|an (jQ x)<|an (jw x (dh x) h2 (.tmp 9) (.tmp 11))<|an (aA h3)<|an (aA h4)<|an h5 trivial) (by kernel_rfl)
  cases h6:upB 1099511627776 x.va
  ·rw [if_pos (c:=x.ki=11∧_) (by simpa using h5)]
   exact d9 mixed (ext:=[151,152,153]) (fuel:=9) (n:=6) (orc:=[vD true,caT (dh x),.bool false,.nilFunc,vD true,vD true,.bool true,vD false]) (an (dE h1)<|an (jQ x)<|an (jw x (dh x) h2 (.tmp 9) (.tmp 11))<|an (aA h3)<|an (aA h4)<|an h5<|an (aA h6) trivial) (by kernel_rfl)
  ·rw [if_neg (c:=x.ki=11∧_) (by simp)]
   exact d9 mixed (ext:=[151,152,153]) (fuel:=9) (n:=6) (orc:=[vD true,caT (dh x),.bool false,.nilFunc,vD true,vD true,.bool true,vD true]) (an (dE h1)<|an (jQ x)<|an (jw x (dh x) h2 (.tmp 9) (.tmp 11))<|an (aA h3)<|an (aA h4)<|an h5<|an (aA h6) trivial) (by kernel_rfl)
 ·exact d9 mixed (ext:=[151,152,153]) (fuel:=9) (n:=6) (orc:=[vD true,caT (dh x),.bool true,.nilFunc]) (an (dE h1)<|an (jQ x)<|an (jw x (dh x) h2 (.tmp 9) (.tmp 11)) trivial) (by kernel_rfl)
theorem K9 (l:List Int):AC Tryz.prog 76 [l5 l] (.tuple #[caT (deC l),.int .i64 (deE l)]):=by by_cases h:l.length=4;(match l,h with | [a,b,c,d],_=>(obtain ⟨i0,i1,i2,i3⟩:=a3A a b c d;have hc:=Lm ⟨a,b,c,d⟩;rw [(JS a b c d).1,(JS a b c d).2];by_cases he:caE ⟨a,b,c,d⟩=0;(rw [he] at hc ⊢;exact d9 mixed (ext:=[110]) (fuel:=9) (n:=3) (orc:=[.nilFunc,.int .i64 a,.int .i64 b,.int .i64 c,.int .i64 d,.int .i64 0,.nilFunc]) (an i0<|an i1<|an i2<|an i3<|an hc trivial) (by kernel_rfl));(rw [if_neg he];exact d9 mixed (ext:=[110]) (fuel:=9) (n:=3) (orc:=[.nilFunc,.int .i64 a,.int .i64 b,.int .i64 c,.int .i64 d,.int .i64 (caE ⟨a,b,c,d⟩),.bool true]) (an i0<|an i1<|an i2<|an i3<|an hc<|an (show (caE ⟨a,b,c,d⟩ != 0)=true by simpa using he) trivial) (by kernel_rfl))));(have e:deE l=190:=if_neg h;rw [e,a1X (by rw [e];decide)];exact d9 mixed (ext:=[110]) (fuel:=9) (n:=3) (orc:=[.bool true]) (an (show ((l.length:Int) != 4)=true by simp;omega) trivial) (by kernel_rfl))
theorem Rf {s r:St} {x:Ca} {E:Int} (h:Gc s x E r) (hk:TkK s):AC Tryz.prog 77 [stT s,caT x] (.tuple #[stT r,.int .i64 E]):=by
 have hc:=Lm x
 have hf:=hk.fit
 have hl:=hk.few.lg
 rcases h with ⟨he,rfl,rfl⟩ | ⟨he,hi,rfl,rfl⟩ | ⟨he,hi,rfl,rfl⟩ | ⟨he,h1,h2,h⟩
 ·exact d9 mixed (ext:=[110,205,206,204,154]) (fuel:=9) (n:=6) (orc:=[.int .i64 (caE x),.bool true,stT r]) (an hc<|an (show (caE x != 0)=true by simpa using he)<|an (kQ (wS r) hk.ok hf) trivial) (by kernel_rfl)
 ·rw [he] at hc
  obtain ⟨ki,th,va,un⟩:=x
  obtain rfl:ki=10:=hi
  exact d9 mixed (ext:=[110,205,206,204,154]) (fuel:=9) (n:=6) (orc:=[.int .i64 0,.nilFunc,.tuple #[stT (ay s th),.int .i64 (dC s th)]]) (an hc<|an (VC (i:=th) hk.ok hf (by omega)) trivial) (by kernel_rfl)
 ·rw [he] at hc
  have hv:In64 x.va:=by have:=yw.1 he;constructor <;> omega
  obtain ⟨ki,th,va,un⟩:=x
  obtain rfl:ki=11:=hi
  exact d9 mixed (ext:=[110,205,206,204,154]) (fuel:=9) (n:=6) (orc:=[.int .i64 0,.nilFunc,.tuple #[stT (M0 s va),l5 (ed s va),.int .i64 (M8 s va)]]) (an hc<|an (QI (n:=va) hk hv) trivial) (by kernel_rfl)
 ·have hb:=a3a he
  have hi:=yw.1 he
  rw [he] at hc
  have h:=Pj h ⟨hb.2.2.2.2.1,hb.2.2.2.2.2⟩
  obtain ⟨ki,th,va,un⟩:=x
  simp only at h1 h2 hi
  have hk8:ki=1∨ki=2∨ki=3∨ki=4∨ki=5∨ki=6∨ki=7∨ki=8:=by omega
  clear h1 h2 hi hb he
  rcases hk8 with rfl | rfl | rfl | rfl | rfl | rfl | rfl | rfl
  all_goals exact d9 mixed (ext:=[110,205,206,204,154]) (fuel:=9) (n:=6) (orc:=[.int .i64 0,.nilFunc,.iface 1000014 (.int .i64 (IntKind.i64.wrap (s.nw+un))),.tuple #[stT r,.int .i64 E]]) (an hc<|an (WZ (t:=3) s.nw un (.tmp 14) (.tmp 16))<|an (IJ h hk.ok hf) trivial) (by kernel_rfl)
end
section
open Go.RowKit
section
variable {s u:St} {l:List Int} {o j:Int} {b:Bool} (ho:s.ok) (hf:s.fit) (hB:stB s=b)
include ho hf hB
end
section
variable {s:St} {b:Bool} {N:Int} {n:Nat} {l:List Int} {S:Sg} {x:Exit}
section
variable (lt:decide ((n:Int)<N)=true) (j1:In64 ((n:Int)+1))
include lt j1
end
end
end
section
section
variable {l:List En} {a b:St}
theorem LF.late (h:LF l a b) (n:Nat):LF l (O4 a n) (O4 b n):=by obtain rfl:=h;exact A9 rfl rfl rfl
theorem LF.lates:∀ (k:List Int) {a b:St},LF l a b→LF l (aF k a) (aF k b)
 | [],_,_,h=>h
 | i::k,_,_,h=>LF.lates k (h.late i.toNat)
theorem LF.pick (h:LF l a b) (i:Int):LF l (ay a i) (ay b i)∧dC a i=dC b i:=by
 have h' := h
 obtain rfl:=h
 refine ⟨A9 rfl ?_ rfl,rfl⟩
 rw [mh,mh];exact h'.stepD i
theorem YE {a b:St} (h:a.th=b.th):∀ k,tdS a k=tdS b k
 | 0=>rfl
 | k+1=>by
  show (if tdB (gth a.th k)=true then ji (tdS a k) ⟨(gth a.th k).un,k⟩ else tdS a k)=if tdB (gth b.th k)=true then ji (tdS b k) ⟨(gth b.th k).un,k⟩ else tdS b k
  rw [YE h k,h]
theorem LF.tick (h:LF l a b) (n:Int):LF l (M0 a n) (M0 b n)∧M8 a n=M8 b n:=by
 obtain rfl:=h
 have h0:LF l ((b.toLg (l++b.lg)).toNow (b.nw+n)) (b.toNow (b.nw+n)):=rfl
 have e1:M8 (b.toLg (l++b.lg)) n=M8 b n:=rfl
 have e2:Y1 (b.toLg (l++b.lg))=Y1 b:=by
  show (if stB b=true then tdS (b.toLg (l++b.lg)) b.th.length else [])=if stB b=true then tdS b b.th.length else []
  rw [YE (a:=b.toLg (l++b.lg)) (b:=b) rfl]
 have e3:ed (b.toLg (l++b.lg)) n=ed b n:=by unfold ed;rw [e1,e2];rfl
 refine ⟨?_,e1⟩
 unfold M0
 rw [e1,e3]
 exact A9 rfl (LF.lates (ed b n) h0) rfl
theorem LF.beg (h:LF l a b) (i k v u:Int):LF l (BB a i k v u).1 (BB b i k v u).1∧(BB a i k v u).2=(BB b i k v u).2:=by
 obtain rfl:=h
 unfold BB
 show LF l (if stB b=false then _ else if iO b.cf.th b.cf.si i k≠0 then _ else _:St×Int).1 _∧(if stB b=false then _ else if iO b.cf.th b.cf.si i k≠0 then _ else _:St×Int).2=_
 by_cases h1:stB b=false
 ·rw [if_pos h1,if_pos h1];exact ⟨rfl,rfl⟩
 rw [if_neg h1,if_neg h1]
 by_cases h2:iO b.cf.th b.cf.si i k≠0
 ·rw [if_pos h2,if_pos h2];exact ⟨rfl,rfl⟩
 rw [if_neg h2,if_neg h2];exact ⟨rfl,rfl⟩
theorem LF.do (h:LF l a b) (x:Ca):LF l (doF a x).1 (doF b x).1∧(doF a x).2=(doF b x).2:=by
 have e:a.nw=b.nw:=by obtain rfl:=h;rfl
 unfold doF
 by_cases h1:caE x≠0
 ·rw [if_pos h1,if_pos h1];exact ⟨h,rfl⟩
 rw [if_neg h1,if_neg h1]
 by_cases h2:x.ki=10
 ·rw [if_pos h2,if_pos h2];exact h.pick x.th
 rw [if_neg h2,if_neg h2]
 by_cases h3:x.ki=11
 ·rw [if_pos h3,if_pos h3];exact h.tick x.va
 rw [if_neg h3,if_neg h3,e];exact h.beg _ _ _ _
end
theorem a0W (s:St) (k:List Int):(D5 s k).1=(D5 (s.toLg []) k).1.toLg (s.lg++(D5 (s.toLg []) k).1.lg)∧(D5 s k).2=(D5 (s.toLg []) k).2:=by
 unfold D5
 by_cases h:deE k=0
 ·rw [if_pos h,if_pos h];exact (Te s).do _
 ·rw [if_neg h,if_neg h];exact ⟨Te s,rfl⟩
end
section
open Go.RowKit
def PP (P:Program) (ext:List FuncId) (fuel n:Nat) (g:FuncId) (args orc:List Value) (pos:Nat):Option (Value×Prop) :=
 match zn P ext fuel n g args [] orc with
 | some (.tuple zs,H,[],ob)=>match zs.toList with
  | [.agg xs,.int k e]=>match xs.toList[pos]? with
   | some (.slice none 0 0)=>match iD (qB (look H)) xs.toList with
    | some (al,is,ps)=>if is.all (fun i=>(look H i).isSome) then some (.tuple #[.agg (al.set pos (.slice none 0 0)).toArray,.int k e],J3 (ob++ps)) else none
    | none=>none
   | _=>none
  | _=>none
 | _=>none
theorem PU {P:Program} (hm:P.follows .mixedOrders=true) {ext:List FuncId} {fuel n:Nat} {g:FuncId} {args orc:List Value} {pos:Nat} {r:Value} {A:Prop} (hA:A) (h:PP P ext fuel n g args orc pos=some (r,A)):AC P g args r:=by
 unfold PP at h
 split at h
 ·next zs H ob hev =>
  split at h
  ·next xs k e hz =>
   have hz' : zs=#[.agg xs,.int k e]:=by rw [← hz]
   subst hz'
   split at h
   ·next hp =>
    split at h
    ·next al is ps hl =>
     split at h
     ·next his =>
      cases h
      obtain ⟨hb1,hb2⟩:=o6.1 hA
      intro O W vs hlow hat
      have hH:HConc nowhere O [] W:=⟨hlow,fun _ _=>rfl,fun i=>by simp [look,HAt],fun i j b b' g k k' h1=>by simp [look] at h1⟩
      refine (bg hm n _ _ _ _ _ _ _ _ hev hb1 nowhere O W vs hH hat).mono ?_
      rintro e' W' ⟨c,ρ',O',rfl,hr,hH',hE⟩
      obtain ⟨_,rfl,c1,_,rfl,hr1,c2,_,rfl,hr2,rfl⟩:=(vX (xs:=[.agg xs,.int k e])).1 hr
      obtain ⟨us,rfl,hau⟩:=R9.1 hr1
      have h5:=bW (H:=look H) (fun v v' c is ob=>gX) hl hb2 (ys:=us.toList) (by simpa using hau) (fun j _=>hH'.hp j)
      have hlen:al.length=us.toList.length:=by have:=h5.1;simpa using this.symm
      have hat2:AtAll (Rp nowhere (N9 ρ' O' is) W') (al.set pos (.slice none 0 0)).toArray us:=by
       refine ⟨by simpa using hlen.symm,fun j x hx=>?_⟩
       simp only [List.getElem?_toArray,List.getElem?_set] at hx
       split at hx
       ·next e =>
        subst e
        obtain ⟨u,hu,hru⟩:=hau.2 pos _ (by simpa using hp)
        split at hx
        ·cases hx
         exact ⟨_,hu,Y2.2 (Y2.1 hru)⟩
        ·cases hx
       ·obtain ⟨y,hy,hr'⟩:=h5.2 j x (by simpa using hx)
        exact ⟨y,by simpa using hy,hr'⟩
      refine ⟨_,rfl,(a2l (R9.2 ⟨us,rfl,hat2⟩) (p8.2 (p8.1 hr2)):Rp nowhere (N9 ρ' O' is) W' _ _).mono ⟨Nat.le_refl _,fun g _ hn=>⟨fun hO=>hn ⟨hE.keepO g hO fun i b hb=>by simp [look] at hb,fun i hi k hk=>?_⟩,rfl⟩,Shp.of_same fun _ _=>rfl⟩ (Sub.refl _),⟨hE.str.2.1,hE.str.1,hE.str.2.2,hE.still.size,fun g hg=>hE.blk g hg fun i b hb=>by simp [look] at hb⟩⟩
      rcases hE.new i _ hk with h2 | ⟨-,h2⟩
      ·cases h2
      ·have:=hlow g hO
       rcases h2 with h2 | ⟨j,b,k,h2,-⟩
       ·simp at h2;omega
       ·simp [look] at h2
     ·cases h
    ·cases h
   ·cases h
  ·cases h
 ·cases h
theorem UH {c:Cf} (hc:cfB c=true):AC Tryz.prog 35 [cfT c] (.tuple #[.agg (stN (E5 c)),.int .i64 0]) :=
 PU mixed (ext:=[58,43,59]) (fuel:=9) (n:=4) (pos:=19) (orc:=[.int .i64 0,.nilFunc,.int .i64 (cfR c),U0 (iE (cfR c)),aT (List.replicate c.th.toNat th0)])
  (an (dJ (c:=c) (r:=0) (by simp [hc]))<|an (qg c)<|an (Lh (cfR c) (BJ c))<|an (KM (n:=c.th) (by have:=xe hc;omega) (by have:=xe hc;omega))<|an (l7 (f:=thT) (List.replicate c.th.toNat th0)) trivial) (by kernel_rfl)
end
section
open Go.RowKit
def uB (k n:Nat):Value:=.slice (some ⟨k,0,some 0⟩) n 0
def qy:Value:=.slice none 0 0
def a0L (k:Nat) (f:Value) (raw:List (List Int)) (i:Int):List (Nat×Value):=[(2,f),(6,pt (k+1)),(8,pt k),(22,eG raw),(23,.int .i64 raw.length),(24,.int .i64 i)]
def plT (k:Nat) (f:Value) (raw:List (List Int)) (i:Int):List Value:=mkT 36 (a0L k f raw i)
def plF:Value:=.func (.func 41) #[] #[]
def Cg (s:St) (raw:List (List Int)) (i:Nat):Sg:=⟨plT 0 plF raw i,[bSt s qy,bZr]⟩
def Ch (s:St) (raw:List (List Int)) (i:Nat):Sg:=⟨plT 0 plF raw i,[bSt s (uB 2 s.lg.length),bZr,bLg s.lg]⟩
def plX:List FuncId:=[76,77]
end
section
def aC (s r:St) (i:Nat) (l:List Int) (o:Op):Op:=if o.en = -1∧Y8 s o.th l=true then ⟨o.th,o.ki,o.va,o.be,i,(gth r.th o.th.toNat).rs,(gth r.th o.th.toNat).go⟩ else o
theorem eX (s r:St) (i:Nat) (l:List Int) (o:Op):(aC s r i l o).th=o.th:=by unfold aC;split <;> rfl
theorem EB (l:List Int):∀ (a:List (List Int)) (s:St) (k:Nat) (j:Int),jd j s k (a++[l])=match jd j s k a with
  | some x=>some x
  | none=>if Y8 (A7 s a) j l=true then some (k+a.length,gth (D5 (A7 s a) l).1.th j.toNat) else none
 | [],s,k,j=>rfl
 | x::a,s,k,j=>by
  show (if Y8 s j x=true then _ else jd j (D5 s x).1 (k+1) (a++[l]))=_
  rw [EB l a]
  show _=match (if Y8 s j x=true then some (k,gth (D5 s x).1.th j.toNat) else jd j (D5 s x).1 (k+1) a) with
   | some x=>some x
   | none=>if Y8 (A7 (D5 s x).1 a) j l=true then some (k+(a.length+1),gth (D5 (A7 (D5 s x).1 a) l).1.th j.toNat) else none
  rw [show k+(a.length+1)=k+1+a.length by omega]
  split <;> rfl
theorem FJ (l:List Int):∀ (a:List (List Int)) (s:St) (i:Nat),lX s i (a++[l])=(lX s i a).map (aC (A7 s a) (D5 (A7 s a) l).1 (i+a.length) l)++if V9 (A7 s a) l=true then [bA (D6 l) (i+a.length) none] else []
 | [],s,i=>by show (if V9 s l=true then [bA (D6 l) i none] else [])++[]=_;rw [List.append_nil];rfl
 | x::a,s,i=>by
  show (if V9 s x=true then [bA (D6 x) i (jd (D6 x).th (D5 s x).1 (i+1) (a++[l]))] else [])++lX (D5 s x).1 (i+1) (a++[l])=((if V9 s x=true then [bA (D6 x) i (jd (D6 x).th (D5 s x).1 (i+1) a)] else [])++lX (D5 s x).1 (i+1) a).map (aC (A7 (D5 s x).1 a) (D5 (A7 (D5 s x).1 a) l).1 (i+(a.length+1)) l)++if V9 (A7 (D5 s x).1 a) l=true then [bA (D6 l) (i+(a.length+1)) none] else []
  rw [FJ l a,EB l a,List.map_append,List.append_assoc,show i+(a.length+1)=i+1+a.length by omega]
  congr 1
  split
  ·rw [List.map_cons,List.map_nil]
   congr 1
   cases he:jd (D6 x).th (D5 s x).1 (i+1) a with
   | none =>
    simp only
    unfold aC
    by_cases hb:Y8 (A7 (D5 s x).1 a) (D6 x).th l=true
    ·rw [if_pos hb,if_pos ⟨rfl,hb⟩];rfl
    ·rw [if_neg hb,if_neg (fun h=>hb h.2)]
   | some p =>
    obtain ⟨e,t⟩:=p
    simp only
    unfold aC
    rw [if_neg (fun h=>by have:=h.1;simp only [bA] at this;omega)]
  ·rfl
def aP:Nat→List Op→List (Int×Int)
 | _,[]=>[]
 | k,o::r=>(if o.en = -1 then [(o.th,(k:Int))] else [])++aP (k+1) r
theorem Bi (o:Op):∀ (l:List Op) (k:Nat),aP k (l++[o])=aP k l++if o.en = -1 then [(o.th,((k+l.length:Nat):Int))] else []
 | [],k=>by show (if o.en = -1 then _ else _)++[]=_;rw [List.append_nil];rfl
 | x::l,k=>by
  show _++aP (k+1) (l++[o])=(_++aP (k+1) l)++_
  rw [Bi o l,List.append_assoc,show k+1+l.length=k+(x::l).length by simp;omega]
theorem rJ:∀ {l:List Op} {k:Nat} {p:Int×Int},p∈aP k l↔∃ (n:Nat) (o:Op),l[n]? = some o∧o.en = -1∧p=(o.th,((k+n:Nat):Int))
 | [],k,p=>⟨fun h=>(by cases h),fun ⟨n,o,h,_⟩=>by simp at h⟩
 | x::l,k,p=>by
  show p∈_++aP (k+1) l↔_
  rw [List.mem_append,rJ]
  constructor
  ·rintro (h | ⟨n,o,h1,h2,h3⟩)
   ·split at h
    ·next e=>exact ⟨0,x,rfl,e,by simpa using h⟩
    ·cases h
   ·exact ⟨n+1,o,h1,h2,by rw [h3];congr 2;omega⟩
  ·rintro ⟨n,o,h1,h2,h3⟩
   cases n with
   | zero =>
    simp only [List.getElem?_cons_zero,Option.some.injEq] at h1
    subst h1
    exact .inl (by rw [if_pos h2];simpa using h3)
   | succ n=>exact .inr ⟨n,o,by simpa using h1,h2,by rw [h3];congr 2;omega⟩
theorem Fu {T:Op→Op} {j:Int} (hth:∀ o,(T o).th=o.th):∀ {l:List Op} {k:Nat},(∀ o∈l,(T o).en = -1↔o.en = -1∧o.th≠j)→aP k (l.map T)=(aP k l).filter fun p=>!(p.1==j)
 | [],_,_=>rfl
 | x::l,k,h=>by
  show (if (T x).en = -1 then _ else _)++aP (k+1) (l.map T)=(_++aP (k+1) l).filter _
  rw [Fu hth (fun o ho=>h o (List.mem_cons_of_mem _ ho)),List.filter_append,hth]
  congr 1
  have:=h x (List.mem_cons_self ..)
  by_cases e:x.en = -1
  ·by_cases e2:x.th=j
   ·rw [if_neg (fun h=>(this.1 h).2 e2),if_pos e];simp [e2]
   ·rw [if_pos (this.2 ⟨e,e2⟩),if_pos e];simp [e2]
  ·rw [if_neg (fun h=>e (this.1 h).1),if_neg e];rfl
def mpE (p:Int×Int):Value:=.agg #[Value.int .i64 p.1,Value.int .i64 p.2]
theorem Tj (j:Int) (m:List (Int×Int)):Ji j (m.map mpE)=(m.filter fun p=>!(p.1==j)).map mpE:=by
 unfold Ji
 rw [List.filter_map]
 rfl
theorem Zw {j v:Int} {m:List (Int×Int)} (h:∀ p∈m,p.1≠j):zl j (Value.int .i64 v) (m.map mpE)=(m++[(j,v)]).map mpE:=by
 unfold zl
 have:=Tj j m
 unfold Ji at this
 rw [this,List.filter_eq_self.2 (fun p hp=>by simp [h p hp]),List.map_append]
 rfl
theorem JK {j v:Int}:∀ {m:List (Int×Int)},(j,v)∈m→(∀ p∈m,p.1=j→p.2=v)→jq j (m.map mpE)=some (some (Value.int .i64 v))
 | [],h,_=>by cases h
 | p::m,h,hu=>by
  obtain ⟨a,b⟩:=p
  show (match a==j with
   | true=>some (some (Value.int .i64 b))
   | false=>jq j (m.map mpE))=_
  cases e:a==j
  ·refine JK ?_ fun p hp=>hu p (List.mem_cons_of_mem _ hp)
   rcases List.mem_cons.1 h with h | h
   ·cases h;simp at e
   ·exact h
  ·have:=hu (a,b) (List.mem_cons_self ..) (by simpa using e)
   simp only at this
   rw [this]
structure OpnI (ops:List Op) (s:St):Prop where
 act:∀ j,j<s.th.length→((gth s.th j).st≠0↔∃ (n:Nat) (o:Op),ops[n]? = some o∧o.th=(j:Int)∧o.en = -1)
 th:∀ (n:Nat) (o:Op),ops[n]? = some o→∃ j:Nat,o.th=j∧j<s.th.length
 one:∀ (n m:Nat) (o p:Op),ops[n]? = some o→ops[m]? = some p→o.en = -1→p.en = -1→o.th=p.th→n=m
theorem Wt (c:Cf):OpnI [] (E5 c):=by
 refine ⟨fun j hj=>⟨fun h=>?_,fun ⟨n,o,h,_⟩=>by simp at h⟩,fun n o h=>by simp at h,fun n m o p h=>by simp at h⟩
 refine absurd ?_ h
 have:j<(E5 c).th.length:=hj
 simp [E5] at this
 simp [E5,gth,this,List.getD]
 rfl
theorem VD {s:St} {ops:List Op} (hi:Inv s) (h:OpnI ops s) (i:Nat) (l:List Int) :
  OpnI (ops.map (aC s (D5 s l).1 i l)++if V9 s l=true then [bA (D6 l) i none] else []) (D5 s l).1:=by
 have hlen:=kL hi l
 have hsee:=fun {j} hj=>wP hi (j:=j) hj l
 obtain ⟨r,hr⟩:∃ r,(D5 s l).1=r:=⟨_,rfl⟩
 rw [hr] at hlen hsee ⊢
 have hget:∀ (n:Nat) (o:Op),(ops.map (aC s r i l)++if V9 s l=true then [bA (D6 l) i none] else [])[n]? = some o↔(∃ o0,ops[n]? = some o0∧o=aC s r i l o0)∨(V9 s l=true∧n=ops.length∧o=bA (D6 l) i none):=fun n o=>by
  rw [List.getElem?_append,List.length_map]
  split
  ·next hn =>
   rw [List.getElem?_map]
   constructor
   ·intro e;obtain ⟨o0,h1,h2⟩:=Option.map_eq_some_iff.1 e;exact .inl ⟨o0,h1,h2.symm⟩
   ·rintro (⟨o0,h1,rfl⟩ | ⟨-,e,-⟩)
    ·rw [h1];rfl
    ·omega
  ·next hn =>
   constructor
   ·intro e
    split at e
    ·next hb =>
     have:n - ops.length<1:=by have:=(List.getElem?_eq_some_iff.1 e).1;simpa using this
     have e0:n - ops.length=0:=by omega
     rw [e0] at e
     simp only [List.getElem?_cons_zero,Option.some.injEq] at e
     exact .inr ⟨hb,by omega,e.symm⟩
    ·simp at e
   ·rintro (⟨o0,h1,-⟩ | ⟨hb,rfl,rfl⟩)
    ·have:=(List.getElem?_eq_some_iff.1 h1).1;omega
    ·rw [if_pos hb,Nat.sub_self];rfl
 have hen:∀ o,(aC s r i l o).en = -1↔o.en = -1∧Y8 s o.th l=false:=fun o=>by
  unfold aC
  split
  ·next e =>
   simp only [e.2]
   constructor
   ·intro h;omega
   ·rintro ⟨-,h⟩;cases h
  ·next e =>
   constructor
   ·intro h;exact ⟨h,by cases hb:Y8 s o.th l;rfl;exact absurd ⟨h,hb⟩ e⟩
   ·exact (·.1)
 -- who begins is a thread,and was idle
 have hbeg:V9 s l=true→∃ j:Nat,(D6 l).th=j∧j<s.th.length∧(gth s.th j).st=0∧(gth r.th j).st≠0:=fun hb=>by
  obtain ⟨j,e1,e2,e3,e4,-⟩:=rF hi hb
  rw [hr] at e4
  exact ⟨j,e1,e2,e3,e4⟩
 refine ⟨fun j hj=>?_,fun n o ho=>?_,fun n m o p ho hp eo ep eth=>?_⟩
 ·rw [hlen] at hj
  have key:(∃ (n:Nat) (o:Op),(ops.map (aC s r i l)++if V9 s l=true then [bA (D6 l) i none] else [])[n]? = some o∧o.th=(j:Int)∧o.en = -1)↔((∃ (n:Nat) (o:Op),ops[n]? = some o∧o.th=(j:Int)∧o.en = -1)∧Y8 s j l=false)∨(V9 s l=true∧(D6 l).th=j):=by
   constructor
   ·rintro ⟨n,o,h1,h2,h3⟩
    rcases (hget n o).1 h1 with ⟨o0,h4,rfl⟩ | ⟨hb,-,rfl⟩
    ·rw [eX] at h2
     obtain ⟨h5,h6⟩:=(hen o0).1 h3
     exact .inl ⟨⟨n,o0,h4,h2,h5⟩,h2 ▸ h6⟩
    ·exact .inr ⟨hb,h2⟩
   ·rintro (⟨⟨n,o,h1,h2,h3⟩,h4⟩ | ⟨hb,h2⟩)
    ·exact ⟨n,_,(hget n _).2 (.inl ⟨o,h1,rfl⟩),by rw [eX];exact h2,(hen o).2 ⟨h3,by rw [h2];exact h4⟩⟩
    ·exact ⟨ops.length,_,(hget _ _).2 (.inr ⟨hb,rfl,rfl⟩),h2,rfl⟩
  rw [key,← h.act j hj]
  rcases hsee hj with ⟨g1,-,-,-,-,-,-,g8,g9⟩ | ⟨g1,g2,-,-,-,-,g7,g8,g9⟩ | ⟨⟨-,g0,-⟩,g2,g3⟩
  ·constructor
   ·intro hne;exact .inl ⟨fun e=>hne (g1.2 e),g9⟩
   ·rintro (⟨h1,-⟩ | ⟨hb,h2⟩)
    ·exact fun e=>h1 (g1.1 e)
    ·exact absurd h2 (g8 hb)
  ·exact ⟨fun _=>.inr ⟨g7,g8⟩,fun _=>g2⟩
  ·constructor
   ·intro hne
    refine .inl ⟨g0,?_⟩
    cases hb:Y8 s j l
    ·rfl
    ·exact absurd (g3.1 hb) hne
   ·rintro (⟨-,h1⟩ | ⟨hb,-⟩)
    ·intro e;rw [g3.2 e] at h1;cases h1
    ·rw [g2] at hb;cases hb
 ·rw [hlen]
  rcases (hget n o).1 ho with ⟨o0,h1,rfl⟩ | ⟨hb,-,rfl⟩
  ·rw [eX];exact h.th n o0 h1
  ·obtain ⟨j,e1,e2,-⟩:=hbeg hb;exact ⟨j,e1,e2⟩
 ·rcases (hget n o).1 ho with ⟨o0,h1,rfl⟩ | ⟨hb,rfl,rfl⟩ <;> rcases (hget m p).1 hp with ⟨p0,h2,rfl⟩ | ⟨hb',rfl,rfl⟩
  ·rw [eX,eX] at eth
   exact h.one n m o0 p0 h1 h2 ((hen o0).1 eo).1 ((hen p0).1 ep).1 eth
  ·obtain ⟨j,e1,e2,e3,-⟩:=hbeg hb'
   rw [eX] at eth
   exact absurd e3 ((h.act j e2).2 ⟨n,o0,h1,eth.trans e1,((hen o0).1 eo).1⟩)
  ·obtain ⟨j,e1,e2,e3,-⟩:=hbeg hb
   rw [eX] at eth
   exact absurd e3 ((h.act j e2).2 ⟨m,p0,h2,eth.symm.trans e1,((hen p0).1 ep).1⟩)
  ·rfl
end
section
open Go.RowKit
section
variable {P:Program}
def Sw (H:Nat→Option Blk) (v:Value):Option (Value×List Nat×List Prop):=match v with
 | .map _=>some (gN,[],[])
 | v=>qB H v
def TA (H:Nat→Option Blk) (i:Nat):Option (Value×List Nat×List Prop):=match H i with
 | some b=>match b.els with
  | [el]=>if b.isMap then none else (iD (Sw H) el.cells.toList).map fun r=>(vEp r.1,i::r.2.1,r.2.2)
  | _=>none
 | none=>none
theorem QD {ρ:A8} {O:Nat→Prop} {W:World} {H:Nat→Option Blk} {v v' c:Value} {is:List Nat} {ob:List Prop} (h:Sw H v=some (v',is,ob)) (hob:J3 ob) (hr:Rp ρ O W v c) (hh:∀ i∈is,HAt ρ O W i (H i)):Rp nowhere (N9 ρ O is) W v' c:=by
 unfold Sw at h
 split at h
 ·cases h;exact dF _
 ·exact gX h hob hr hh
theorem QV {ρ:A8} {O:Nat→Prop} {W:World} {H:Nat→Option Blk} {i:Nat} {v' c:Value} {is:List Nat} {ob:List Prop} (h:TA H i=some (v',is,ob)) (hob:J3 ob) (hr:Rp ρ O W (.pointer (some ⟨i,0,some 0⟩)) c) (hh:∀ i∈is,HAt ρ O W i (H i)):Rp nowhere (N9 ρ O is) W v' c:=by
 unfold TA at h
 split at h
 ·next b hb =>
  split at h
  ·next el hel =>
   split at h
   ·cases h
   ·next hm =>
    obtain ⟨r,hr',he⟩:=Option.map_eq_some_iff.1 h
    obtain ⟨al,js,ps⟩:=r
    cases he
    obtain ⟨g,k,j,g1,g2,rfl⟩:=V8.1 hr
    cases g2
    have hi:=hh i (List.mem_cons_self ..)
    rw [hb] at hi
    obtain ⟨g',g3,hO,hB⟩:=hi
    rw [show ρ i=_ from g1] at g3;cases g3
    obtain ⟨-,hcs⟩:=hB.cells (by simpa using hm) (n:=0) (el:=el) (by rw [hel];rfl)
    let us:List Value:=(List.range el.cells.size).map fun j=>(W.cell? ⟨g,0+j,none⟩).getD undef
    have hat:AtAll (Rp ρ O W) el.cells.toList.toArray us.toArray:=⟨by simp [us],fun j x hx=>by
     have hx' : el.cells[j]? = some x:=by simpa using hx
     have hj:=(Array.getElem?_eq_some_iff.1 hx').1
     obtain ⟨u,hu,hr⟩:=hcs j x hx'
     rw [Nat.zero_mul] at hu
     exact ⟨u,by simp only [us,List.getElem?_toArray,List.getElem?_map,List.getElem?_range hj,Option.map_some,hu,Option.getD_some],hr⟩⟩
    have:=bW (H:=H) (ys:=us) (fun v v' c is ob=>QD) hr' hob hat (fun j hj=>hh j (List.mem_cons_of_mem _ hj))
    refine wM.2 ⟨g,0 * b.k+0,rfl,hB.lt,fun hn=>hn.2 i (List.mem_cons_self ..) _ g1,fun j x hx=>?_⟩
    obtain ⟨u,hu,hru⟩:=this.2 j x hx
    have hj:j<us.length:=by have:=(Array.getElem?_eq_some_iff.1 hu).1;simpa using this
    have hj' : j<el.cells.size:=by simpa [us] using hj
    obtain ⟨u',hu',-⟩:=hcs j el.cells[j] (by simp [hj'])
    rw [Nat.zero_mul] at hu'
    refine ⟨u,?_,hru.mono (gP fun j hj=>List.mem_cons_of_mem _ hj) (Sub.refl _)⟩
    have e:u=u' := by
     have h2:us[j]? = some u:=by simpa using hu
     simp only [us,List.getElem?_map,List.getElem?_range hj',Option.map_some,Option.some.injEq,hu',Option.getD_some] at h2
     exact h2.symm
    rw [e];simpa using hu'
  ·cases h
 ·cases h
def a2X:Exit→Bool
 | .goto _=>false
 | _=>true
def KR (P:Program) (ext:List FuncId) (call:Z5) (fuel:Nat):Code→Sg→List Value→EcR
 | .seq a b,s,orc=>match a with
  | .label _=>match O1 P ext call fuel b s orc with
   | some (x,r)=>if a2X x then some (x,r) else none
   | none=>none
  | a=>match O1 P ext call fuel a s orc with
   | some (x,s1,orc1,ob1)=>match x with
    | .normal=>match KR P ext call fuel b s1 orc1 with
     | some (x2,s2,orc2,ob2)=>some (x2,s2,orc2,ob1++ob2)
     | none=>none
    | .ret=>some (.ret,s1,orc1,ob1)
    | _=>none
   | none=>none
 | _,_,_=>none
def Db (P:Program) (ext:List FuncId) (call:Z5) (fuel:Nat) (c:Code) (s:Sg) (orc:List Value):EcR :=
 match c with
 | .seq a (.scope b)=>match lbl b with
  | some _=>match O1 P ext call fuel a s orc with
   | some (x,s1,orc1,ob1)=>match x with
    | .normal=>match KR P ext call fuel b s1 orc1 with
     | some (x2,s2,orc2,ob2)=>some (x2,s2,orc2,ob1++ob2)
     | none=>none
    | _=>none
   | none=>none
  | none=>none
 | _=>none
def RX (P:Program) (ext:List FuncId) (fuel n:Nat):Z5:=fun g args H orc =>
 match P.funcs[g]? with
 | some fn=>match fn.body with
  | some c=>match Db P ext (zn P ext fuel n) fuel c ⟨args++List.replicate (fn.ntmps - args.length) (.tuple #[]),H⟩ orc with
   | some (x,s,orc',ob)=>match x with
    | .normal=>match xE P fn s with
     | some v=>some (v,s.H,orc',ob)
     | none=>none
    | .ret=>match xE P fn s with
     | some v=>some (v,s.H,orc',ob)
     | none=>none
    | _=>none
   | none=>none
  | none=>none
 | none=>none
theorem Eb (hm:P.follows .mixedOrders=true) {ext:List FuncId} {call:Z5} (hcall:cz P call) {fuel l:Nat} {r:Code}:∀ (c:Code) {s s' : Sg} {orc orc' : List Value} {x:Exit} {ob:List Prop},lbl c=some (l,r)→KR P ext call fuel c s orc=some (x,s',orc',ob)→J3 ob →
  ∀ (ρ:A8) (O:Nat→Prop) (a:Act) (W:World) (Q:Exit→Act→World→Prop),HConc ρ O s.H W→TConc ρ O s.T a W→(∀ ρ' O' a' W',HConc ρ' O' s'.H W' → TConc ρ' O' s'.T a' W' → Ext ρ O s.H W ρ' O' s'.H W' → Q x a' W')→c.wp P (Exit.jump l (fun a w=>∃ n,pg P r l Q n a w) Q) a W
 | .seq a b,s,s',orc,orc',x,ob,hl,h,hob=>by
  unfold lbl at hl
  unfold KR at h
  split at hl
  ·next l' =>
   cases hl
   simp only at h
   split at h
   ·next x1 r1 h1 =>
    split at h
    ·next hx =>
     cases h
     intro ρ O a W Q hH hT hK
     refine wp_seq (wp_label (I1 hm hcall _ h1 hob ρ O a W _ hH hT fun ρ' O' a' W' hH' hT' hE=>?_))
     have:=hK ρ' O' a' W' hH' hT' hE
     cases x with
     | goto l=>simp [a2X] at hx
     | normal=>exact this
     | ret=>exact this
     | exit id=>exact this
     | panic=>exact this
     | outgrown=>exact this
    ·cases h
   ·cases h
  ·next hne =>
   split at hl
   ·next l' r' hb =>
    split at hl
    ·cases hl
     split at h
     ·exact absurd rfl (hne _)
     ·split at h
      ·next x1 s1 orc1 ob1 h1 =>
       split at h
       ·split at h
        ·next x2 s2 orc2 ob2 h2 =>
         cases h
         obtain ⟨hb1,hb2⟩:=o6.1 hob
         have hgo:=Eb hm hcall b hb h2 hb2
         exact fun ρ O a W Q hH hT hK=>wp_seq (I1 hm hcall _ h1 hb1 ρ O a W _ hH hT fun ρ' O' a' W' hH' hT' hE=>hgo ρ' O' a' W' Q hH' hT' fun ρ'' O'' a'' W'' h3 h4 h5=>hK ρ'' O'' a'' W'' h3 h4 (hE.trans h5 hH))
        ·cases h
       ·cases h
        exact fun ρ O a W Q hH hT hK=>wp_seq (I1 hm hcall _ h1 hob ρ O a W _ hH hT fun ρ' O' a' W' hH' hT' hE=>hK ρ' O' a' W' hH' hT' hE)
       ·cases h
      ·cases h
    ·cases hl
   ·cases hl
 | .skip,_,_,_,_,_,_,h,_,_ | .region ..,_,_,_,_,_,_,h,_,_ | .cond ..,_,_,_,_,_,_,h,_,_ | .block ..,_,_,_,_,_,_,h,_,_ | .loop ..,_,_,_,_,_,_,h,_,_ | .rangeFunc ..,_,_,_,_,_,_,h,_,_ | .exit _,_,_,_,_,_,_,h,_,_ | .scope _,_,_,_,_,_,_,h,_,_ | .label _,_,_,_,_,_,_,h,_,_ | .goto _,_,_,_,_,_,_,h,_,_ | .ret,_,_,_,_,_,_,h,_,_ | .refuse _,_,_,_,_,_,_,h,_,_=>by simp [lbl] at h
theorem Jh (hm:P.follows .mixedOrders=true) {ext:List FuncId} {call:Z5} (hcall:cz P call) {fuel:Nat} {c:Code} {s s' : Sg} {orc orc' : List Value} {x:Exit} {ob:List Prop} (h:Db P ext call fuel c s orc=some (x,s',orc',ob)) (hob:J3 ob):xz P c s x s' := by
 unfold Db at h
 split at h
 ·next a b =>
  split at h
  ·next p hl =>
   obtain ⟨l,r⟩:=p
   split at h
   ·next x1 s1 orc1 ob1 h1 =>
    split at h
    ·split at h
     ·next x2 s2 orc2 ob2 h2 =>
      cases h
      obtain ⟨hb1,hb2⟩:=o6.1 hob
      have hgo:=Eb hm hcall b hl h2 hb2
      refine fun ρ O a W Q hH hT hK=>wp_seq (I1 hm hcall _ h1 hb1 ρ O a W _ hH hT fun ρ' O' a' W' hH' hT' hE=>?_)
      exact lG (xN b hl) (hgo ρ' O' a' W' Q hH' hT' fun ρ'' O'' a'' W'' h3 h4 h5=>hK ρ'' O'' a'' W'' h3 h4 (hE.trans h5 hH))
     ·cases h
    ·cases h
   ·cases h
  ·cases h
 ·cases h
theorem RY (hm:P.follows .mixedOrders=true) {ext:List FuncId} {fuel n:Nat}:cz P (RX P ext fuel n) :=
 fun g args H orc r H' orc' ob h hob ρ O W vs hH hat=>by
  simp only [RX] at h
  split at h
  ·next fn hfn =>
   split at h
   ·next c hc =>
    split at h
    ·next x s orc1 ob1 hev =>
     have hsz:vs.size=args.length:=by simpa using hat.1
     have hT:TConc ρ O (args++List.replicate (fn.ntmps - args.length) (.tuple #[])) { tmps:=vs++Array.replicate (fn.ntmps - vs.size) undef,defers:=[] } W:=by
      refine ⟨rfl,by simp [hsz],fun t v hv=>?_⟩
      by_cases ht:t<args.length
      ·rw [List.getElem?_append_left ht] at hv
       obtain ⟨c,hc,hr⟩:=hat.2 t v (by simpa using hv)
       exact ⟨c,by simp only [Array.getElem?_append_left (show t<vs.size by omega)];exact hc,hr⟩
      ·rw [List.getElem?_append_right (by omega),List.getElem?_replicate] at hv
       split at hv
       ·next hlt =>
        cases hv
        refine ⟨undef,?_,G8.2 ⟨#[],rfl,rfl,fun i x hx=>by simp at hx⟩⟩
        simp only [Array.getElem?_append_right (show vs.size≤t by omega),hsz]
        simp [hlt]
       ·cases hv
     have fin:(∃ v,xE P fn s=some v∧v=r∧s.H=H' ∧ ob1=ob)→(x = .normal∨x = .ret)→Calls P g vs W fun e W' => ∃ c ρ' O',e = .returned c∧Rp ρ' O' W' r c∧HConc ρ' O' H' W' ∧ Ext ρ O H W ρ' O' H' W' := fun ⟨v,hv,hvr,hs,hobe⟩ hx=>by
      subst hvr hs hobe
      refine calls_of_wp hfn hc (Jh hm (bg hm n) hev hob ρ O _ W _ hH hT fun ρ' O' a' W' hH' hT' hE=>?_)
      obtain ⟨c',hrun,hr⟩:=Ep hH' hT' hv
      rcases hx with rfl | rfl <;> exact ⟨hT'.df,c',hrun,c',ρ',O',rfl,hr,hH',hE⟩
     split at h
     ·split at h
      ·next v hv=>cases h;exact fin ⟨_,hv,rfl,rfl,rfl⟩ (.inl rfl)
      ·cases h
     ·split at h
      ·next v hv=>cases h;exact fin ⟨_,hv,rfl,rfl,rfl⟩ (.inr rfl)
      ·cases h
     ·cases h
    ·cases h
   ·cases h
  ·cases h
def SE (P:Program) (ext:List FuncId) (fuel n:Nat) (g:FuncId) (args orc:List Value):Option (Value×Prop) :=
 match RX P ext fuel n g args [] orc with
 | some (.pointer (some ⟨i,0,some 0⟩),H,[],ob)=>match TA (look H) i with
  | some (r',is,ps)=>if is.all (fun i=>(look H i).isSome) then some (r',J3 (ob++ps)) else none
  | none=>none
 | _=>none
theorem rC (hm:P.follows .mixedOrders=true) {ext:List FuncId} {fuel n:Nat} {g:FuncId} {args orc:List Value} {r:Value} {A:Prop} (hA:A) (h:SE P ext fuel n g args orc=some (r,A)):AC P g args r:=by
 unfold SE at h
 split at h
 ·next r0 H ob hev =>
  split at h
  ·next r' is ps hl =>
   split at h
   ·next his =>
    cases h
    obtain ⟨hb1,hb2⟩:=o6.1 hA
    intro O W vs hlow hat
    have hH:HConc nowhere O [] W:=⟨hlow,fun _ _=>rfl,fun i=>by simp [look,HAt],fun i j b b' g k k' h1=>by simp [look] at h1⟩
    refine (RY hm _ _ _ _ _ _ _ _ hev hb1 nowhere O W vs hH hat).mono ?_
    rintro e W' ⟨c,ρ',O',rfl,hr,hH',hE⟩
    have h1:=QV hl hb2 hr (fun i _=>hH'.hp i)
    refine ⟨c,rfl,h1.mono ⟨Nat.le_refl _,fun g _ hn=>⟨fun hO=>hn ⟨hE.keepO g hO fun i b hb=>by simp [look] at hb,fun i hi k hk=>?_⟩,rfl⟩,Shp.of_same fun _ _=>rfl⟩ (Sub.refl _),⟨hE.str.2.1,hE.str.1,hE.str.2.2,hE.still.size,fun g hg=>hE.blk g hg fun i b hb=>by simp [look] at hb⟩⟩
    rcases hE.new i _ hk with h2 | ⟨-,h2⟩
    ·cases h2
    ·have:=hlow g hO
     rcases h2 with h2 | ⟨j,b,k,h2,-⟩
     ·simp at h2;omega
     ·simp [look] at h2
   ·cases h
  ·cases h
 ·cases h
end
end
section
open Go.RowKit
def hbB:Value:=.func (.func 46) #[pt 0] #[]
def hbE:Value:=.func (.func 47) #[pt 0] #[]
def bBk (o l a:Value):Option Blk:=some ⟨true,false,4,1,[.agg #[o,.map (some 3),l,a]]⟩
def bWr:Option Blk:=some ⟨true,false,1,2,[hbB,hbE]⟩
def bMq (m:List (Int×Int)):Option Blk:=some ⟨true,false,0,1,m.map mpE⟩
def bOq (l:List Op):Option Blk:=some ⟨true,true,7,l.length,l.map opT⟩
def Nt (raw:List (List Int)) (i:Int):List (Nat×Value):=[(5,pt 0),(6,pt 1),(8,.slice (some ⟨2,0,some 0⟩) 2 0),(31,eG raw),(32,.int .i64 raw.length),(33,.int .i64 i)]
def hbN (x:St) (raw:List (List Int)) (i:Nat):Sg:=⟨mkT 64 (Nt raw i),[bBk qy qy qy,bS x,bWr,bMq []]⟩
def bOn (n:Nat) (l:List Op):Option Blk:=some ⟨true,true,7,n,l.map opT⟩
def a2h (x:St) (m:List (Int×Int)) (n:Nat) (o:List Op) (raw:List (List Int)) (i:Nat):Sg:=⟨mkT 64 (Nt raw i),[bBk (uB 4 n) qy qy,bS x,bWr,bMq m,bOn n o]⟩
def hbO (x:St) (m:List (Int×Int)) (o:List Op) (raw:List (List Int)) (i:Nat):Sg:=a2h x m o.length o raw i
def a3m (x:St) (m:List (Int×Int)) (n:Nat) (o:List Op) (g:List En) (q:List Int) (raw:List (List Int)) (i:Nat):Sg:=⟨mkT 64 (Nt raw i),[bBk (uB 4 n) (uB 5 g.length) (uB 6 q.length),bS x,bWr,bMq m,bOn n o,bLg g,bIx q]⟩
def hbL (x:St) (m:List (Int×Int)) (o:List Op) (g:List En) (q:List Int) (raw:List (List Int)) (i:Nat):Sg:=a3m x m o.length o g q raw i
theorem Xu (x:St) (m:List (Int×Int)) (o:List Op) (k:Nat) (z:Op) (raw:List (List Int)) (i:Nat):hbO x m (o.set k z) raw i=a2h x m o.length (o.set k z) raw i:=by unfold hbO;rw [List.length_set]
theorem Ye (x:St) (m:List (Int×Int)) (o:List Op) (k:Nat) (z:Op) (g:List En) (q:List Int) (raw:List (List Int)) (i:Nat):hbL x m (o.set k z) g q raw i=a3m x m o.length (o.set k z) g q raw i:=by unfold hbL;rw [List.length_set]
def hbX:List FuncId:=[76,77,75]
end
section
open Go.RowKit
def en1 (y:Op) (i:Nat):Op:=⟨y.th,y.ki,y.va,y.be,i,y.re,y.go⟩
def en2 (y:Op) (i:Nat) (t:Th):Op:=⟨y.th,y.ki,y.va,y.be,i,t.rs,y.go⟩
def enO (y:Op) (i:Nat) (t:Th):Op:=⟨y.th,y.ki,y.va,y.be,i,t.rs,t.go⟩
section
variable {o:List Op} {y z u:Op} {k:Nat}
theorem PH (h:o[k]? = some y):ElP (o.map opT) (0+(k:Int).toNat) (opT y):=by
 unfold ElP;rw [Nat.zero_add,Int.toNat_natCast,List.getElem?_map,h];rfl
theorem BZ (h:o[k]? = some y):ElP ((o.set k z).map opT) (0+(k:Int).toNat) (opT z) :=
 PH (o:=o.set k z) (by rw [List.getElem?_set,if_pos rfl,if_pos (List.getElem?_eq_some_iff.1 h).1])
theorem SL {n j:Nat} {vc:List Value} (hz:vz 7 ((opT y).cells.toList.take j++vc++(opT y).cells.toList.drop (j+vc.length))=opT z) :
  (o.set k z).map opT=(stored ⟨true,true,7,n,o.map opT⟩ (0+(k:Int).toNat) j (opT y) vc).els:=by
 show _=(o.map opT).set _ (vz 7 _)
 rw [hz,Nat.zero_add,Int.toNat_natCast,List.map_set]
theorem Cu {n j:Nat} {vc:List Value} (hz:vz 7 ((opT z).cells.toList.take j++vc++(opT z).cells.toList.drop (j+vc.length))=opT u) :
  (o.set k u).map opT=(stored ⟨true,true,7,n,(o.set k z).map opT⟩ (0+(k:Int).toNat) j (opT z) vc).els:=by
 rw [← SL (o:=o.set k z) (y:=z) (z:=u) hz,List.set_set]
end
end
abbrev qL3:=j4 Tryz.prog (j3 Tryz.prog 26 0)
section
open Go.RowKit
section
variable {x a:St} {raw:List (List Int)} {m n:List (Int×Int)} {o:List Op} {g:List En} {q:List Int} {e:En} {t:Th} {y:Op} {i k:Nat} {E:Int} {ex:Exit} {S:Sg} (hi:i<raw.length) (hr:raw.length≤100000)
include hi hr
theorem Vv (e0:(deE raw[i] != 0)=true) (hL:qL3 (hbN x raw (i+1)) ex S):qL3 (hbN x raw i) ex S :=
 j5 mixed (fuel:=9) (n:=6) (keep:=[5,6,8,31,32,33]) (ext:=hbX) (im:=[0,1,2,3]) (orc:=[.bool true,l5 raw[i],.tuple #[caT (deC raw[i]),.int .i64 (deE raw[i])],.bool true,.bool true]) (an (K8 hi)<|an (ixR hi)<|an (K9 raw[i])<|an e0<|an e0<|an (M9 hi (by omega)) trivial) (by kernel_rfl) hL
theorem UZ (e0:(deE raw[i] != 0)=false) (hx:AC Tryz.prog 77 [stT (x.toLg []),caT (deC raw[i])] (.tuple #[stT (a.toLg []),.int .i64 E])) (h1:(E != 0)=true) (hL:qL3 (hbN (a.toLg []) raw (i+1)) ex S):qL3 (hbN x raw i) ex S :=
 j5 mixed (fuel:=9) (n:=6) (keep:=[5,6,8,31,32,33]) (ext:=hbX) (im:=[0,1,2,3]) (orc:=[.bool true,l5 raw[i],.tuple #[caT (deC raw[i]),.int .i64 (deE raw[i])],.bool false,.tuple #[stT (a.toLg []),.int .i64 E],.bool true]) (an (K8 hi)<|an (ixR hi)<|an (K9 raw[i])<|an e0<|an hx<|an h1<|an (M9 hi (by omega)) trivial) (by kernel_rfl) hL
theorem Yf (e0:(deE raw[i] != 0)=false) (hx:AC Tryz.prog 77 [stT (x.toLg []),caT (deC raw[i])] (.tuple #[stT (a.toLg []),.int .i64 E])) (h1:(E != 0)=false) (hc:AC Tryz.prog 75 [.int .i64 (deC raw[i]).ki] (.bool false)) (hk:((deC raw[i]).ki != 10)=true) (hL:qL3 (hbN (a.toLg []) raw (i+1)) ex S):qL3 (hbN x raw i) ex S :=
 j5 mixed (fuel:=9) (n:=6) (keep:=[5,6,8,31,32,33]) (ext:=hbX) (im:=[0,1,2,3]) (orc:=[.bool true,l5 raw[i],.tuple #[caT (deC raw[i]),.int .i64 (deE raw[i])],.bool false,.tuple #[stT (a.toLg []),.int .i64 E],.bool false,.nilFunc,.nilFunc,vD false,.nilFunc,.bool true,.nilFunc]) (an (K8 hi)<|an (ixR hi)<|an (K9 raw[i])<|an e0<|an hx<|an h1<|an (show (0:Int)≤0∧(0:Int).toNat<2 by decide)<|an hc<|an (show In64 ((0:Int)+1) by decide)<|an (show (0:Int)≤0+1∧((0:Int)+1).toNat<2 by decide)<|an hk<|an (show In64 ((0:Int)+1+1) by decide)<|an (M9 hi (by omega)) trivial) (by kernel_rfl) hL
theorem Wh (e0:(deE raw[i] != 0)=true) (hL:qL3 (hbO x m o raw (i+1)) ex S):qL3 (hbO x m o raw i) ex S :=
 j5 mixed (fuel:=9) (n:=6) (keep:=[5,6,8,31,32,33]) (ext:=hbX) (im:=[0,1,2,3,4]) (orc:=[.bool true,l5 raw[i],.tuple #[caT (deC raw[i]),.int .i64 (deE raw[i])],.bool true,.bool true]) (an (K8 hi)<|an (ixR hi)<|an (K9 raw[i])<|an e0<|an e0<|an (M9 hi (by omega)) trivial) (by kernel_rfl) hL
theorem XL (e0:(deE raw[i] != 0)=false) (hx:AC Tryz.prog 77 [stT (x.toLg []),caT (deC raw[i])] (.tuple #[stT (a.toLg []),.int .i64 E])) (h1:(E != 0)=true) (hL:qL3 (hbO (a.toLg []) m o raw (i+1)) ex S):qL3 (hbO x m o raw i) ex S :=
 j5 mixed (fuel:=9) (n:=6) (keep:=[5,6,8,31,32,33]) (ext:=hbX) (im:=[0,1,2,3,4]) (orc:=[.bool true,l5 raw[i],.tuple #[caT (deC raw[i]),.int .i64 (deE raw[i])],.bool false,.tuple #[stT (a.toLg []),.int .i64 E],.bool true]) (an (K8 hi)<|an (ixR hi)<|an (K9 raw[i])<|an e0<|an hx<|an h1<|an (M9 hi (by omega)) trivial) (by kernel_rfl) hL
theorem XB (e0:(deE raw[i] != 0)=false) (hx:AC Tryz.prog 77 [stT (x.toLg []),caT (deC raw[i])] (.tuple #[stT (a.toLg []),.int .i64 E])) (h1:(E != 0)=false) (hc:AC Tryz.prog 75 [.int .i64 (deC raw[i]).ki] (.bool false)) (hk:((deC raw[i]).ki != 10)=true) (hL:qL3 (hbO (a.toLg []) m o raw (i+1)) ex S):qL3 (hbO x m o raw i) ex S :=
 j5 mixed (fuel:=9) (n:=6) (keep:=[5,6,8,31,32,33]) (ext:=hbX) (im:=[0,1,2,3,4]) (orc:=[.bool true,l5 raw[i],.tuple #[caT (deC raw[i]),.int .i64 (deE raw[i])],.bool false,.tuple #[stT (a.toLg []),.int .i64 E],.bool false,.nilFunc,.nilFunc,vD false,.nilFunc,.bool true,.nilFunc]) (an (K8 hi)<|an (ixR hi)<|an (K9 raw[i])<|an e0<|an hx<|an h1<|an (show (0:Int)≤0∧(0:Int).toNat<2 by decide)<|an hc<|an (show In64 ((0:Int)+1) by decide)<|an (show (0:Int)≤0+1∧((0:Int)+1).toNat<2 by decide)<|an hk<|an (show In64 ((0:Int)+1+1) by decide)<|an (M9 hi (by omega)) trivial) (by kernel_rfl) hL
theorem Va (e0:(deE raw[i] != 0)=true) (hL:qL3 (hbL x m o g q raw (i+1)) ex S):qL3 (hbL x m o g q raw i) ex S :=
 j5 mixed (fuel:=9) (n:=6) (keep:=[5,6,8,31,32,33]) (ext:=hbX) (im:=[0,1,2,3,4,5,6]) (orc:=[.bool true,l5 raw[i],.tuple #[caT (deC raw[i]),.int .i64 (deE raw[i])],.bool true,.bool true]) (an (K8 hi)<|an (ixR hi)<|an (K9 raw[i])<|an e0<|an e0<|an (M9 hi (by omega)) trivial) (by kernel_rfl) hL
theorem WA (e0:(deE raw[i] != 0)=false) (hx:AC Tryz.prog 77 [stT (x.toLg []),caT (deC raw[i])] (.tuple #[stT (a.toLg []),.int .i64 E])) (h1:(E != 0)=true) (hL:qL3 (hbL (a.toLg []) m o g q raw (i+1)) ex S):qL3 (hbL x m o g q raw i) ex S :=
 j5 mixed (fuel:=9) (n:=6) (keep:=[5,6,8,31,32,33]) (ext:=hbX) (im:=[0,1,2,3,4,5,6]) (orc:=[.bool true,l5 raw[i],.tuple #[caT (deC raw[i]),.int .i64 (deE raw[i])],.bool false,.tuple #[stT (a.toLg []),.int .i64 E],.bool true]) (an (K8 hi)<|an (ixR hi)<|an (K9 raw[i])<|an e0<|an hx<|an h1<|an (M9 hi (by omega)) trivial) (by kernel_rfl) hL
theorem VO (e0:(deE raw[i] != 0)=false) (hx:AC Tryz.prog 77 [stT (x.toLg []),caT (deC raw[i])] (.tuple #[stT (a.toLg []),.int .i64 E])) (h1:(E != 0)=false) (hc:AC Tryz.prog 75 [.int .i64 (deC raw[i]).ki] (.bool false)) (hk:((deC raw[i]).ki != 10)=true) (hL:qL3 (hbL (a.toLg []) m o g q raw (i+1)) ex S):qL3 (hbL x m o g q raw i) ex S :=
 j5 mixed (fuel:=9) (n:=6) (keep:=[5,6,8,31,32,33]) (ext:=hbX) (im:=[0,1,2,3,4,5,6]) (orc:=[.bool true,l5 raw[i],.tuple #[caT (deC raw[i]),.int .i64 (deE raw[i])],.bool false,.tuple #[stT (a.toLg []),.int .i64 E],.bool false,.nilFunc,.nilFunc,vD false,.nilFunc,.bool true,.nilFunc]) (an (K8 hi)<|an (ixR hi)<|an (K9 raw[i])<|an e0<|an hx<|an h1<|an (show (0:Int)≤0∧(0:Int).toNat<2 by decide)<|an hc<|an (show In64 ((0:Int)+1) by decide)<|an (show (0:Int)≤0+1∧((0:Int)+1).toNat<2 by decide)<|an hk<|an (show In64 ((0:Int)+1+1) by decide)<|an (M9 hi (by omega)) trivial) (by kernel_rfl) hL
theorem a0u (e0:(deE raw[i] != 0)=false) (hx:AC Tryz.prog 77 [stT (x.toLg []),caT (deC raw[i])] (.tuple #[stT (a.toLg []),.int .i64 E])) (h1:(E != 0)=false) (hc:AC Tryz.prog 75 [.int .i64 (deC raw[i]).ki] (.bool true)) (hm:n.map mpE=zl (deC raw[i]).th (Value.int .i64 0) ([])) (hL:qL3 (hbO (a.toLg []) n [⟨(deC raw[i]).th,(deC raw[i]).ki,(deC raw[i]).va,i,-1,0,0⟩] raw (i+1)) ex S):qL3 (hbN x raw i) ex S :=
 j5 mixed (fuel:=9) (n:=6) (keep:=[5,6,8,31,32,33]) (ext:=hbX) (im:=[0,1,2,3,10]) (orc:=[.bool true,l5 raw[i],.tuple #[caT (deC raw[i]),.int .i64 (deE raw[i])],.bool false,.tuple #[stT (a.toLg []),.int .i64 E],.bool false,.nilFunc,.nilFunc,vD true,.iface 1000020 (.agg (n.map mpE).toArray),jR [⟨(deC raw[i]).th,(deC raw[i]).ki,(deC raw[i]).va,i,-1,0,0⟩]]) (an (K8 hi)<|an (ixR hi)<|an (K9 raw[i])<|an e0<|an hx<|an h1<|an (show (0:Int)≤0∧(0:Int).toNat<2 by decide)<|an hc<|an hm<|an (rfl:(1:Nat)=1)<|an (GD [⟨(deC raw[i]).th,(deC raw[i]).ki,(deC raw[i]).va,i,-1,0,0⟩])<|an (gm (f:=opT) ⟨(deC raw[i]).th,(deC raw[i]).ki,(deC raw[i]).va,i,-1,0,0⟩)<|an (M9 hi (by omega)) trivial) (by kernel_rfl) hL
theorem a1K (e0:(deE raw[i] != 0)=false) (hx:AC Tryz.prog 77 [stT (x.toLg []),caT (deC raw[i])] (.tuple #[stT (a.toLg []),.int .i64 E])) (h1:(E != 0)=false) (hc:AC Tryz.prog 75 [.int .i64 (deC raw[i]).ki] (.bool true)) (hm:n.map mpE=zl (deC raw[i]).th (Value.int .i64 o.length) (m.map mpE)) (ho:o.length≤100000) (hL:qL3 (hbO (a.toLg []) n (o++[⟨(deC raw[i]).th,(deC raw[i]).ki,(deC raw[i]).va,i,-1,0,0⟩]) raw (i+1)) ex S):qL3 (hbO x m o raw i) ex S :=
 j5 mixed (fuel:=9) (n:=6) (keep:=[5,6,8,31,32,33]) (ext:=hbX) (im:=[0,1,2,3,11]) (orc:=[.bool true,l5 raw[i],.tuple #[caT (deC raw[i]),.int .i64 (deE raw[i])],.bool false,.tuple #[stT (a.toLg []),.int .i64 E],.bool false,.nilFunc,.nilFunc,vD true,.iface 1000020 (.agg (n.map mpE).toArray),jR (o++[⟨(deC raw[i]).th,(deC raw[i]).ki,(deC raw[i]).va,i,-1,0,0⟩])]) (an (K8 hi)<|an (ixR hi)<|an (K9 raw[i])<|an e0<|an hx<|an h1<|an (show (0:Int)≤0∧(0:Int).toNat<2 by decide)<|an hc<|an hm<|an (rfl:(1:Nat)=1)<|an (GD [⟨(deC raw[i]).th,(deC raw[i]).ki,(deC raw[i]).va,i,-1,0,0⟩])<|an (show o.length=(o.map opT).length by simp)<|an (bU (f:=opT) o ⟨(deC raw[i]).th,(deC raw[i]).ki,(deC raw[i]).va,i,-1,0,0⟩ (by omega))<|an (M9 hi (by omega)) trivial) (by kernel_rfl) hL
theorem a0E (e0:(deE raw[i] != 0)=false) (hx:AC Tryz.prog 77 [stT (x.toLg []),caT (deC raw[i])] (.tuple #[stT (a.toLg []),.int .i64 E])) (h1:(E != 0)=false) (hc:AC Tryz.prog 75 [.int .i64 (deC raw[i]).ki] (.bool true)) (hm:n.map mpE=zl (deC raw[i]).th (Value.int .i64 o.length) (m.map mpE)) (ho:o.length≤100000) (hL:qL3 (hbL (a.toLg []) n (o++[⟨(deC raw[i]).th,(deC raw[i]).ki,(deC raw[i]).va,i,-1,0,0⟩]) g q raw (i+1)) ex S):qL3 (hbL x m o g q raw i) ex S :=
 j5 mixed (fuel:=9) (n:=6) (keep:=[5,6,8,31,32,33]) (ext:=hbX) (im:=[0,1,2,3,13,5,6]) (orc:=[.bool true,l5 raw[i],.tuple #[caT (deC raw[i]),.int .i64 (deE raw[i])],.bool false,.tuple #[stT (a.toLg []),.int .i64 E],.bool false,.nilFunc,.nilFunc,vD true,.iface 1000020 (.agg (n.map mpE).toArray),jR (o++[⟨(deC raw[i]).th,(deC raw[i]).ki,(deC raw[i]).va,i,-1,0,0⟩])]) (an (K8 hi)<|an (ixR hi)<|an (K9 raw[i])<|an e0<|an hx<|an h1<|an (show (0:Int)≤0∧(0:Int).toNat<2 by decide)<|an hc<|an hm<|an (rfl:(1:Nat)=1)<|an (GD [⟨(deC raw[i]).th,(deC raw[i]).ki,(deC raw[i]).va,i,-1,0,0⟩])<|an (show o.length=(o.map opT).length by simp)<|an (bU (f:=opT) o ⟨(deC raw[i]).th,(deC raw[i]).ki,(deC raw[i]).va,i,-1,0,0⟩ (by omega))<|an (M9 hi (by omega)) trivial) (by kernel_rfl) hL
theorem Wm (e0:(deE raw[i] != 0)=false) (hx:AC Tryz.prog 77 [stT (x.toLg []),caT (deC raw[i])] (.tuple #[stT (a.toLg []),.int .i64 E])) (h1:(E != 0)=false) (hc:AC Tryz.prog 75 [.int .i64 (deC raw[i]).ki] (.bool false)) (hk:((deC raw[i]).ki != 10)=false) (ht:IxP (a.th.map thT).toArray (deC raw[i]).th (thT t)) (hs:(t.st != 0)=true) (hL:qL3 (hbO (a.toLg []) m o raw (i+1)) ex S):qL3 (hbO x m o raw i) ex S :=
 j5 mixed (fuel:=9) (n:=6) (keep:=[5,6,8,31,32,33]) (ext:=hbX) (im:=[0,1,2,3,4]) (orc:=[.bool true,l5 raw[i],.tuple #[caT (deC raw[i]),.int .i64 (deE raw[i])],.bool false,.tuple #[stT (a.toLg []),.int .i64 E],.bool false,.nilFunc,.nilFunc,vD false,.nilFunc,.bool false,thT t,.bool true,.nilFunc]) (an (K8 hi)<|an (ixR hi)<|an (K9 raw[i])<|an e0<|an hx<|an h1<|an (show (0:Int)≤0∧(0:Int).toNat<2 by decide)<|an hc<|an (show In64 ((0:Int)+1) by decide)<|an (show (0:Int)≤0+1∧((0:Int)+1).toNat<2 by decide)<|an hk<|an ht<|an hs<|an (show In64 ((0:Int)+1+1) by decide)<|an (M9 hi (by omega)) trivial) (by kernel_rfl) hL
theorem Wx (e0:(deE raw[i] != 0)=false) (hx:AC Tryz.prog 77 [stT (x.toLg []),caT (deC raw[i])] (.tuple #[stT (a.toLg [e]),.int .i64 E])) (h1:(E != 0)=false) (hc:AC Tryz.prog 75 [.int .i64 (deC raw[i]).ki] (.bool false)) (hk:((deC raw[i]).ki != 10)=false) (ht:IxP (a.th.map thT).toArray (deC raw[i]).th (thT t)) (hs:(t.st != 0)=true) (hL:qL3 (hbL (a.toLg [e]) m o [e] [(i:Int)] raw (i+1)) ex S):qL3 (hbO x m o raw i) ex S :=
 j5 mixed (fuel:=9) (n:=6) (keep:=[5,6,8,31,32,33]) (ext:=hbX) (im:=[0,1,2,3,4,10,12]) (orc:=[.bool true,l5 raw[i],.tuple #[caT (deC raw[i]),.int .i64 (deE raw[i])],.bool false,.tuple #[stT (a.toLg [e]),.int .i64 E],.bool false,.nilFunc,enT e,K5 [e],l5 [(i:Int)],.nilFunc,.nilFunc,vD false,.nilFunc,.bool false,thT t,.bool true,.nilFunc]) (an (K8 hi)<|an (ixR hi)<|an (K9 raw[i])<|an e0<|an hx<|an h1<|an (show IxP ([enT e]:List Value).toArray (0:Int) (enT e) from ⟨by decide,rfl⟩)<|an (rfl:(1:Nat)=1)<|an (X5 [e])<|an (gm (f:=enT) e)<|an (rfl:(1:Nat)=1)<|an (N8 [(i:Int)])<|an (gm (f:=(Value.int .i64 ·)) (i:Int))<|an (show In64 ((0:Int)+1) by decide)<|an (show (0:Int)≤0∧(0:Int).toNat<2 by decide)<|an hc<|an (show In64 ((0:Int)+1) by decide)<|an (show (0:Int)≤0+1∧((0:Int)+1).toNat<2 by decide)<|an hk<|an ht<|an hs<|an (show In64 ((0:Int)+1+1) by decide)<|an (M9 hi (by omega)) trivial) (by kernel_rfl) hL
theorem Vl (e0:(deE raw[i] != 0)=false) (hx:AC Tryz.prog 77 [stT (x.toLg []),caT (deC raw[i])] (.tuple #[stT (a.toLg []),.int .i64 E])) (h1:(E != 0)=false) (hc:AC Tryz.prog 75 [.int .i64 (deC raw[i]).ki] (.bool false)) (hk:((deC raw[i]).ki != 10)=false) (ht:IxP (a.th.map thT).toArray (deC raw[i]).th (thT t)) (hs:(t.st != 0)=true) (hL:qL3 (hbL (a.toLg []) m o g q raw (i+1)) ex S):qL3 (hbL x m o g q raw i) ex S :=
 j5 mixed (fuel:=9) (n:=6) (keep:=[5,6,8,31,32,33]) (ext:=hbX) (im:=[0,1,2,3,4,5,6]) (orc:=[.bool true,l5 raw[i],.tuple #[caT (deC raw[i]),.int .i64 (deE raw[i])],.bool false,.tuple #[stT (a.toLg []),.int .i64 E],.bool false,.nilFunc,.nilFunc,vD false,.nilFunc,.bool false,thT t,.bool true,.nilFunc]) (an (K8 hi)<|an (ixR hi)<|an (K9 raw[i])<|an e0<|an hx<|an h1<|an (show (0:Int)≤0∧(0:Int).toNat<2 by decide)<|an hc<|an (show In64 ((0:Int)+1) by decide)<|an (show (0:Int)≤0+1∧((0:Int)+1).toNat<2 by decide)<|an hk<|an ht<|an hs<|an (show In64 ((0:Int)+1+1) by decide)<|an (M9 hi (by omega)) trivial) (by kernel_rfl) hL
theorem XZ (e0:(deE raw[i] != 0)=false) (hx:AC Tryz.prog 77 [stT (x.toLg []),caT (deC raw[i])] (.tuple #[stT (a.toLg [e]),.int .i64 E])) (h1:(E != 0)=false) (hg:g.length≤100000) (hq:q.length≤100000) (hc:AC Tryz.prog 75 [.int .i64 (deC raw[i]).ki] (.bool false)) (hk:((deC raw[i]).ki != 10)=false) (ht:IxP (a.th.map thT).toArray (deC raw[i]).th (thT t)) (hs:(t.st != 0)=true) (hL:qL3 (hbL (a.toLg [e]) m o (g++[e]) (q++[(i:Int)]) raw (i+1)) ex S):qL3 (hbL x m o g q raw i) ex S :=
 j5 mixed (fuel:=9) (n:=6) (keep:=[5,6,8,31,32,33]) (ext:=hbX) (im:=[0,1,2,3,4,12,14]) (orc:=[.bool true,l5 raw[i],.tuple #[caT (deC raw[i]),.int .i64 (deE raw[i])],.bool false,.tuple #[stT (a.toLg [e]),.int .i64 E],.bool false,.nilFunc,enT e,K5 (g++[e]),l5 (q++[(i:Int)]),.nilFunc,.nilFunc,vD false,.nilFunc,.bool false,thT t,.bool true,.nilFunc]) (an (K8 hi)<|an (ixR hi)<|an (K9 raw[i])<|an e0<|an hx<|an h1<|an (show IxP ([enT e]:List Value).toArray (0:Int) (enT e) from ⟨by decide,rfl⟩)<|an (rfl:(1:Nat)=1)<|an (X5 [e])<|an (ND g)<|an (bU (f:=enT) g e (by omega))<|an (rfl:(1:Nat)=1)<|an (N8 [(i:Int)])<|an (show q.length=(q.map (Value.int .i64 ·)).length by simp)<|an (bU (f:=(Value.int .i64 ·)) q i (by omega))<|an (show In64 ((0:Int)+1) by decide)<|an (show (0:Int)≤0∧(0:Int).toNat<2 by decide)<|an hc<|an (show In64 ((0:Int)+1) by decide)<|an (show (0:Int)≤0+1∧((0:Int)+1).toNat<2 by decide)<|an hk<|an ht<|an hs<|an (show In64 ((0:Int)+1+1) by decide)<|an (M9 hi (by omega)) trivial) (by kernel_rfl) hL
theorem ZI (e0:(deE raw[i] != 0)=false) (hx:AC Tryz.prog 77 [stT (x.toLg []),caT (deC raw[i])] (.tuple #[stT (a.toLg []),.int .i64 E])) (h1:(E != 0)=false) (hc:AC Tryz.prog 75 [.int .i64 (deC raw[i]).ki] (.bool false)) (hk:((deC raw[i]).ki != 10)=false) (ht:IxP (a.th.map thT).toArray (deC raw[i]).th (thT t)) (hs:(t.st != 0)=false) (hf:jq (deC raw[i]).th (m.map mpE)=some (some (Value.int .i64 k))) (hd:n.map mpE=Ji (deC raw[i]).th (m.map mpE)) (hy:o[k]? = some y) (hL:qL3 (hbO (a.toLg []) n (o.set k (enO y i t)) raw (i+1)) ex S):qL3 (hbO x m o raw i) ex S:=by
 rw [Xu] at hL
 exact
 j5 mixed (fuel:=9) (n:=6) (keep:=[5,6,8,31,32,33]) (ext:=hbX) (im:=[0,1,2,3,4]) (orc:=[.bool true,l5 raw[i],.tuple #[caT (deC raw[i]),.int .i64 (deE raw[i])],.bool false,.tuple #[stT (a.toLg []),.int .i64 E],.bool false,.nilFunc,.nilFunc,vD false,.nilFunc,.bool false,thT t,.bool false,.iface 1000021 (.agg #[.int .i64 k]),.iface 1000020 (.agg (n.map mpE).toArray),thT t,opT y,F4 o.length ((o.set k (en1 y i)).map opT),opT (en1 y i),F4 o.length ((o.set k (en2 y i t)).map opT),opT (en2 y i t),F4 o.length ((o.set k (enO y i t)).map opT)]) (an (K8 hi)<|an (ixR hi)<|an (K9 raw[i])<|an e0<|an hx<|an h1<|an (show (0:Int)≤0∧(0:Int).toNat<2 by decide)<|an hc<|an (show In64 ((0:Int)+1) by decide)<|an (show (0:Int)≤0+1∧((0:Int)+1).toNat<2 by decide)<|an hk<|an ht<|an hs<|an hf<|an hd<|an (show (0:Int)≤(k:Int)∧(k:Int).toNat<o.length from ⟨by omega,by have:=(List.getElem?_eq_some_iff.1 hy).1;omega⟩)<|an ht<|an (PH (o:=o) hy)<|an (SL (o:=o) (k:=k) (y:=y) (z:=en1 y i) (n:=o.length) (j:=4) (vc:=[.int .i64 i]) rfl)<|an (BZ (o:=o) (z:=en1 y i) hy)<|an (Cu (o:=o) (k:=k) (z:=en1 y i) (u:=en2 y i t) (n:=o.length) (j:=5) (vc:=[.int .i64 t.rs]) rfl)<|an (BZ (o:=o) (z:=en2 y i t) hy)<|an (Cu (o:=o) (k:=k) (z:=en2 y i t) (u:=enO y i t) (n:=o.length) (j:=6) (vc:=[.int .i64 t.go]) rfl)<|an (M9 hi (by omega)) trivial) (by kernel_rfl) hL
theorem a1J (e0:(deE raw[i] != 0)=false) (hx:AC Tryz.prog 77 [stT (x.toLg []),caT (deC raw[i])] (.tuple #[stT (a.toLg []),.int .i64 E])) (h1:(E != 0)=false) (hc:AC Tryz.prog 75 [.int .i64 (deC raw[i]).ki] (.bool false)) (hk:((deC raw[i]).ki != 10)=false) (ht:IxP (a.th.map thT).toArray (deC raw[i]).th (thT t)) (hs:(t.st != 0)=false) (hf:jq (deC raw[i]).th (m.map mpE)=some (some (Value.int .i64 k))) (hd:n.map mpE=Ji (deC raw[i]).th (m.map mpE)) (hy:o[k]? = some y) (hL:qL3 (hbL (a.toLg []) n (o.set k (enO y i t)) g q raw (i+1)) ex S):qL3 (hbL x m o g q raw i) ex S:=by
 rw [Ye] at hL
 exact
 j5 mixed (fuel:=9) (n:=6) (keep:=[5,6,8,31,32,33]) (ext:=hbX) (im:=[0,1,2,3,4,5,6]) (orc:=[.bool true,l5 raw[i],.tuple #[caT (deC raw[i]),.int .i64 (deE raw[i])],.bool false,.tuple #[stT (a.toLg []),.int .i64 E],.bool false,.nilFunc,.nilFunc,vD false,.nilFunc,.bool false,thT t,.bool false,.iface 1000021 (.agg #[.int .i64 k]),.iface 1000020 (.agg (n.map mpE).toArray),thT t,opT y,F4 o.length ((o.set k (en1 y i)).map opT),opT (en1 y i),F4 o.length ((o.set k (en2 y i t)).map opT),opT (en2 y i t),F4 o.length ((o.set k (enO y i t)).map opT)]) (an (K8 hi)<|an (ixR hi)<|an (K9 raw[i])<|an e0<|an hx<|an h1<|an (show (0:Int)≤0∧(0:Int).toNat<2 by decide)<|an hc<|an (show In64 ((0:Int)+1) by decide)<|an (show (0:Int)≤0+1∧((0:Int)+1).toNat<2 by decide)<|an hk<|an ht<|an hs<|an hf<|an hd<|an (show (0:Int)≤(k:Int)∧(k:Int).toNat<o.length from ⟨by omega,by have:=(List.getElem?_eq_some_iff.1 hy).1;omega⟩)<|an ht<|an (PH (o:=o) hy)<|an (SL (o:=o) (k:=k) (y:=y) (z:=en1 y i) (n:=o.length) (j:=4) (vc:=[.int .i64 i]) rfl)<|an (BZ (o:=o) (z:=en1 y i) hy)<|an (Cu (o:=o) (k:=k) (z:=en1 y i) (u:=en2 y i t) (n:=o.length) (j:=5) (vc:=[.int .i64 t.rs]) rfl)<|an (BZ (o:=o) (z:=en2 y i t) hy)<|an (Cu (o:=o) (k:=k) (z:=en2 y i t) (u:=enO y i t) (n:=o.length) (j:=6) (vc:=[.int .i64 t.go]) rfl)<|an (M9 hi (by omega)) trivial) (by kernel_rfl) hL
omit hi hr in
theorem Si:qL3 (hbN x raw raw.length) (.exit 0) (hbN x raw raw.length) :=
 o5 mixed (fuel:=9) (n:=6) (keep:=[5,6,8,31,32,33]) (ext:=hbX) (im:=[0,1,2,3]) (orc:=[.bool false]) (an (aG raw.length) trivial) (by intro e;cases e) (by kernel_rfl)
omit hi hr in
theorem Uu:qL3 (hbO x m o raw raw.length) (.exit 0) (hbO x m o raw raw.length) :=
 o5 mixed (fuel:=9) (n:=6) (keep:=[5,6,8,31,32,33]) (ext:=hbX) (im:=[0,1,2,3,4]) (orc:=[.bool false]) (an (aG raw.length) trivial) (by intro e;cases e) (by kernel_rfl)
omit hi hr in
theorem Tc:qL3 (hbL x m o g q raw raw.length) (.exit 0) (hbL x m o g q raw raw.length) :=
 o5 mixed (fuel:=9) (n:=6) (keep:=[5,6,8,31,32,33]) (ext:=hbX) (im:=[0,1,2,3,4,5,6]) (orc:=[.bool false]) (an (aG raw.length) trivial) (by intro e;cases e) (by kernel_rfl)
end
end
section
theorem JQ {u r:St} {l:List Int} (hi:Inv u) (h0:(D5 u l).2=0) (hr:(D5 u l).1=r) :
  (V9 u l=true∧opB (deC l).ki=true∧r.lg=u.lg∧(∀ j,Y8 u j l=false)∧∃ n:Nat,(deC l).th=n∧n<u.th.length∧(gth u.th n).st=0) ∨
  (V9 u l=false∧opB (deC l).ki=false∧((deC l).ki != 10)=true∧r.lg=u.lg∧∀ j,Y8 u j l=false) ∨
  (V9 u l=false∧opB (deC l).ki=false∧((deC l).ki != 10)=false∧∃ n:Nat,(deC l).th=n∧n<u.th.length∧(gth u.th n).st≠0∧(∀ j,Y8 u j l=((n:Int)==j&&(gth r.th j.toNat).st==0)) ∧
   (r.lg=u.lg∨((gth r.th n).st != 0)=true∧∃ e,r.lg=u.lg++[e])):=by
 obtain ⟨hd,he,k0,k1⟩:=Bt h0
 have hdo:=bB u (D6 l)
 rw [← he,h0,hr] at hdo
 rw [(uN hd).2.1]
 have hb:V9 u l=opB (D6 l).ki:=by unfold V9;rw [h0,k0];rfl
 have hE:∀ j:Int,Y8 u j l=((D6 l).ki==10&&((D6 l).th==j&&(gth r.th j.toNat).st==0)):=fun j=>by unfold Y8;rw [h0,k0,k1,hr];rfl
 rcases hdo with ⟨hne,-,-⟩ | ⟨-,ki,hp,e⟩ | ⟨-,ki,hp,e⟩ | ⟨hca,k10,k11,hbg⟩
 ·have hca:caE (D6 l)=0:=by rw [← (uN hd).2.1];exact (uN hd).2.2.2
  exact absurd hca hne
 ·obtain ⟨n,en,-,hn,hst⟩:=jE.1 hp.symm
  have hop:opB (D6 l).ki=false:=by rw [ki];rfl
  refine .inr (.inr ⟨hb.trans hop,hop,by rw [ki];rfl,n,en,hn,by omega,fun j=>?_,?_⟩)
  ·rw [hE,ki,en];rfl
  ·have e' : r=aQ u n:=by rw [e,xh hp.symm,en]
   have st:=(BV hn hst hi).2.2
   rw [← e'] at st
   rcases st with ⟨k,-⟩ | ⟨k,-⟩ | ⟨⟨g,k⟩,s0,-⟩ | ⟨k,s0,-⟩
   ·exact .inl k
   ·exact .inl k
   ·exact .inr ⟨by simpa using s0,_,k⟩
   ·exact .inr ⟨by simpa using s0,_,k⟩
 ·have hop:opB (D6 l).ki=false:=by rw [ki];rfl
  refine .inr (.inl ⟨hb.trans hop,hop,by rw [ki];rfl,?_,fun j=>by rw [hE,ki];rfl⟩)
  rw [e];exact (bF hp.symm).2.2.2.2.2.2.2.2.1
 ·obtain ⟨-,n,t,en,hn,ht,e⟩:=kI hbg
  have hop:opB (D6 l).ki=true:=by
   rw [vZ];have:=yw.1 hca;omega
  have b1:=hb.trans hop
  obtain ⟨j,e1,e2,e3,-⟩:=rF hi b1
  have:j=n:=by rw [en] at e1;omega
  subst this
  refine .inl ⟨b1,hop,by rw [e];rfl,fun j=>?_,j,en,hn,e3⟩
  rw [hE];rw [show ((D6 l).ki==10)=false by simpa using k10];rfl
section
variable {u r:St} {ops:List Op} {l:List Int} {i:Nat}
theorem rf (hb:V9 u l=false) (he:∀ j,Y8 u j l=false):ops.map (aC u r i l)++(if V9 u l=true then [bA (D6 l) i none] else [])=ops:=by
 rw [hb,if_neg (by decide),List.append_nil]
 refine (List.map_congr_left fun o _=>?_).trans (List.map_id _)
 unfold aC;rw [if_neg (fun h=>by rw [he] at h;exact absurd h.2 (by decide))];rfl
theorem Vh (hb:V9 u l=true) (he:∀ j,Y8 u j l=false):ops.map (aC u r i l)++(if V9 u l=true then [bA (D6 l) i none] else [])=ops++[bA (D6 l) i none]:=by
 rw [hb,if_pos rfl]
 congr 1
 refine (List.map_congr_left fun o _=>?_).trans (List.map_id _)
 unfold aC;rw [if_neg (fun h=>by rw [he] at h;exact absurd h.2 (by decide))];rfl
theorem VQ (h:OpnI ops u) {n:Nat} (hn:n<u.th.length) (hs:(gth u.th n).st=0) (x:Ca) (hx:x.th=n):(aP 0 (ops++[bA x i none])).map mpE=zl x.th (Value.int .i64 ops.length) ((aP 0 ops).map mpE):=by
 rw [Bi,show (bA x i none).en = -1 from rfl,if_pos rfl,Nat.zero_add]
 refine (Zw fun p hp e=>?_).symm
 obtain ⟨k,o,h1,h2,rfl⟩:=rJ.1 hp
 have e' : o.th=x.th:=e
 exact (h.act n hn).2 ⟨k,o,h1,by rw [e',hx],h2⟩ hs
theorem VL (h:OpnI ops u) {n:Nat} (hn:n<u.th.length) (hs:(gth u.th n).st≠0) (hb:V9 u l=false) (he:∀ j,Y8 u j l=((n:Int)==j&&(gth r.th j.toNat).st==0)) (h0:(gth r.th n).st=0) :
  ∃ k y,ops[k]? = some y∧ops.map (aC u r i l)++(if V9 u l=true then [bA (D6 l) i none] else [])=ops.set k (enO y i (gth r.th n))∧jq n ((aP 0 ops).map mpE)=some (some (Value.int .i64 k)) ∧
   (aP 0 (ops.set k (enO y i (gth r.th n)))).map mpE=Ji n ((aP 0 ops).map mpE):=by
 obtain ⟨k,y,hk,hy,hen⟩:=(h.act n hn).1 hs
 have hE:∀ o∈ops,o.th=(n:Int)→Y8 u o.th l=true:=fun o _ e=>by rw [he,e];simp [h0]
 have hE2:∀ o:Op,Y8 u o.th l=true→o.th=(n:Int):=fun o e=>by rw [he] at e;simp at e;exact e.1.symm
 have hset:ops.map (aC u r i l)=ops.set k (enO y i (gth r.th n)):=by
  refine List.ext_getElem? fun q=>?_
  rw [List.getElem?_map,List.getElem?_set]
  by_cases e:k=q
  ·subst e
   rw [if_pos rfl,if_pos (List.getElem?_eq_some_iff.1 hk).1,hk]
   show some _=some _
   unfold aC
   rw [if_pos ⟨hen,hE y (List.mem_of_getElem? hk) hy⟩,hy,Int.toNat_natCast]
   unfold enO
   rw [hy]
  ·rw [if_neg e]
   cases hq:ops[q]? with
   | none=>rfl
   | some o =>
    show some _=some _
    unfold aC
    rw [if_neg]
    rintro ⟨e1,e2⟩
    exact e (h.one k q y o hk hq hen e1 (hy.trans (hE2 o e2).symm))
 refine ⟨k,y,hk,by rw [hb,if_neg (by decide),List.append_nil];exact hset,?_,?_⟩
 ·refine JK (rJ.2 ⟨k,y,hk,hen,by rw [hy,Nat.zero_add]⟩) fun p hp e=>?_
  obtain ⟨q,o,h1,h2,rfl⟩:=rJ.1 hp
  have:=h.one q k o y h1 hk h2 hen (by rw [hy];exact e)
  subst this
  show ((0+q:Nat):Int)=q
  rw [Nat.zero_add]
 ·rw [← hset,Tj]
  congr 1
  refine Fu (fun o=>eX u r i l o) fun o ho=>?_
  unfold aC
  split
  ·next e =>
   constructor
   ·intro hx;exact absurd hx (by show ¬ ((i:Int) = -1);omega)
   ·rintro ⟨-,hx⟩;exact absurd (hE2 o e.2) hx
  ·next e=>exact ⟨fun hx=>⟨hx,fun ht=>e ⟨hx,hE o ho ht⟩⟩,(·.1)⟩
end
end
section
open Go.ChangeShapes Go.WideShapes Go.ChangeAt Go.RowKit
section
variable {raw:List (List Int)} {j i:Nat} {s u:St} {E:Int} {x:Exit} {S:Sg}
variable (hi:i<raw.length) (hm:raw.length≤900) (hx:AC Tryz.prog 28 [stT s,l5 raw[i]] (.tuple #[stT u,.int .i64 E]))
include hi hm hx
section
variable (hg:AC Tryz.prog 55 [stT s,l5 raw[i]] (.bool true)) (h4:raw[i].length=4)
include hg h4
end
end
section
variable {c:Cf} {raw:List (List Int)} {i:Nat} {x:Exit} {S:Sg} {o:List Op} (hi:i<raw.length) (hm:raw.length≤900)
include hi hm
section
variable {y:Ca} (hb:AC Tryz.prog 31 [cfT c,eG raw,.int .i64 i] (.bool true)) (hd:AC Tryz.prog 32 [l5 raw[i]] (.tuple #[caT y,.int .i64 0])) (hn:o.length≤1000)
include hb hd hn
end
end
theorem qz:∀ (raw:List (List Int)) (s:St) (i:Nat),(lX s i raw).length≤raw.length
 | [],_,_=>Nat.le_refl _
 | l::raw,s,i=>by
  have:=qz raw (D5 s l).1 (i+1)
  unfold lX
  rw [List.length_append,List.length_cons]
  split <;> simp <;> omega
end
section
open Go.ChangeShapes Go.WideShapes Go.ChangeAt Go.RowKit
def atN (T:List (Nat×En)):List Int:=T.map fun x=>(x.1:Int)
end
abbrev qL4:=j4 Tryz.prog (j3 Tryz.prog 40 0)
section
open Go.RowKit
section
variable {s a:St} {raw:List (List Int)} {o:List No} {x:No} {i:Nat} {E:Int} {e:Exit} {S:Sg}
theorem XP (hi:i<raw.length) (hr:raw.length≤100000) (e0:(deE raw[i] != 0)=true) (hL:qL4 (Cg s raw (i+1)) e S):qL4 (Cg s raw i) e S :=
 j5 mixed (fuel:=9) (n:=6) (keep:=[2,6,8,22,23,24]) (ext:=plX) (im:=[0,1]) (orc:=[.bool true,l5 raw[i],.tuple #[caT (deC raw[i]),.int .i64 (deE raw[i])],.bool true]) (an (K8 hi)<|an (ixR hi)<|an (K9 raw[i])<|an e0<|an (M9 hi (by omega)) trivial) (by kernel_rfl) hL
theorem UR (hi:i<raw.length) (hr:raw.length≤100000) (e0:(deE raw[i] != 0)=true) (hL:qL4 (Ch s raw (i+1)) e S):qL4 (Ch s raw i) e S :=
 j5 mixed (fuel:=9) (n:=6) (keep:=[2,6,8,22,23,24]) (ext:=plX) (im:=[0,1,2]) (orc:=[.bool true,l5 raw[i],.tuple #[caT (deC raw[i]),.int .i64 (deE raw[i])],.bool true]) (an (K8 hi)<|an (ixR hi)<|an (K9 raw[i])<|an e0<|an (M9 hi (by omega)) trivial) (by kernel_rfl) hL
theorem Xt (hi:i<raw.length) (hr:raw.length≤100000) (e0:(deE raw[i] != 0)=false) (hx:AC Tryz.prog 77 [stT (s.toLg []),caT (deC raw[i])] (.tuple #[stT a,.int .i64 E])) (ha:a.lg.length=0) (hL:qL4 (Cg (a.toLg []) raw (i+1)) e S):qL4 (Cg s raw i) e S :=
 j5 mixed (fuel:=9) (n:=6) (keep:=[2,6,8,22,23,24]) (ext:=plX) (im:=[0,1]) (orc:=[.bool true,l5 raw[i],.tuple #[caT (deC raw[i]),.int .i64 (deE raw[i])],.bool false,.tuple #[stT a,.int .i64 E],.slice none 0 0]) (an (K8 hi)<|an (ixR hi)<|an (K9 raw[i])<|an e0<|an hx<|an (X5 a.lg)<|an ha<|an (M9 hi (by omega)) trivial) (by kernel_rfl) hL
theorem Vi (hi:i<raw.length) (hr:raw.length≤100000) (e0:(deE raw[i] != 0)=false) (hx:AC Tryz.prog 77 [stT (s.toLg []),caT (deC raw[i])] (.tuple #[stT a,.int .i64 E])) (ha:a.lg≠[]) (hm:a.lg.length≤1000000) (hL:qL4 (Ch a raw (i+1)) e S):qL4 (Cg s raw i) e S :=
 j5 mixed (fuel:=9) (n:=6) (keep:=[2,6,8,22,23,24]) (ext:=plX) (im:=[0,1,3]) (orc:=[.bool true,l5 raw[i],.tuple #[caT (deC raw[i]),.int .i64 (deE raw[i])],.bool false,.tuple #[stT a,.int .i64 E],K5 a.lg]) (an (K8 hi)<|an (ixR hi)<|an (K9 raw[i])<|an e0<|an hx<|an (X5 a.lg)<|an (P6 (f:=enT) ha hm)<|an (M9 hi (by omega)) trivial) (by kernel_rfl) hL
theorem Vm (hi:i<raw.length) (hr:raw.length≤100000) (e0:(deE raw[i] != 0)=false) (hx:AC Tryz.prog 77 [stT (s.toLg []),caT (deC raw[i])] (.tuple #[stT a,.int .i64 E])) (hm:s.lg.length+a.lg.length≤1000000) (hL:qL4 (Ch (a.toLg (s.lg++a.lg)) raw (i+1)) e S):qL4 (Ch s raw i) e S :=
 j5 mixed (fuel:=9) (n:=6) (keep:=[2,6,8,22,23,24]) (ext:=plX) (im:=[0,1,4]) (orc:=[.bool true,l5 raw[i],.tuple #[caT (deC raw[i]),.int .i64 (deE raw[i])],.bool false,.tuple #[stT a,.int .i64 E],K5 (s.lg++a.lg)]) (an (K8 hi)<|an (ixR hi)<|an (K9 raw[i])<|an e0<|an hx<|an (X5 a.lg)<|an (ND s.lg)<|an (Ej (f:=enT) s.lg a.lg hm)<|an (M9 hi (by omega)) trivial) (by kernel_rfl) hL
theorem MI:qL4 (Cg s raw raw.length) (.exit 0) (Cg s raw raw.length) :=
 o5 mixed (fuel:=9) (n:=6) (keep:=[2,6,8,22,23,24]) (ext:=plX) (im:=[0,1]) (orc:=[.bool false]) (an (aG raw.length) trivial) (by intro e;cases e) (by kernel_rfl)
theorem NK:qL4 (Ch s raw raw.length) (.exit 0) (Ch s raw raw.length) :=
 o5 mixed (fuel:=9) (n:=6) (keep:=[2,6,8,22,23,24]) (ext:=plX) (im:=[0,1,2]) (orc:=[.bool false]) (an (aG raw.length) trivial) (by intro e;cases e) (by kernel_rfl)
end
end
end Go.Proofs.YtfogkllejkmpdaaGreat
