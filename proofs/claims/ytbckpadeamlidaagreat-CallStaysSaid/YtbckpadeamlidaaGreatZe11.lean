/- Texts merged: CloseAT, CcBT, CcCT, CcDT, SlET, AcOT, AcTT, ThET, ThIT, ThMT, AcPT, AcQT, CcET, AcRT. -/
import Derived.Test.YtbckpadeamlidaaGreatZe10
import Derived.Test.YtbckpadeamlidaaGreatZe8
import Derived.Test.YtbckpadeamlidaaGreatZe4
import Derived.Test.YtbckpadeamlidaaGreatZe1
import Derived.Laws.StructEq
import Derived.Test.YtbckpadeamlidaaGreatZe6
import Derived.Test.YtbckpadeamlidaaGreatZe7
import Derived.Test.YtbckpadeamlidaaGreatZe9
namespace Go.Proofs.YtbckpadeamlidaaGreat
set_option linter.unusedVariables false
set_option linter.unusedSimpArgs false
set_option maxRecDepth 100000
section
theorem closeS_is {s:St} {i:Int} (h:runsB s i 3=true):closeS s i=closeN s i.toNat:=by unfold closeS;rw [if_pos h]
theorem closeN_0 {s:St} {n:Nat} (h:(gth s.th n).pc=0):closeN s n=shutC s n:=by unfold closeN;rw [if_pos h]
theorem closeN_1 {s:St} {n:Nat} (h:(gth s.th n).pc=1):closeN s n=fullC s n:=by unfold closeN;rw [if_neg (by omega),if_pos h]
theorem closeN_2 {s:St} {n:Nat} (h0:(gth s.th n).pc≠0) (h1:(gth s.th n).pc≠1):closeN s n=emptyC s n:=by unfold closeN;rw [if_neg h0,if_neg h1]
theorem wkT_not {t:Th} (h:t.st≠2):wakeT t=t:=by unfold wakeT;rw [if_neg h]
section
variable {s:St} (h:stB s=true) {n:Nat} (hn:n<s.th.length) (h1:(gth s.th n).st=1)
include h hn
theorem gth_shut (j:Nat):gth (shutC s n).th j=if j=n then pcT (tellT (gth s.th n) (gth s.th n).ki 1 0) 1 else gth s.th j:=by
 have hw:=shut_word h (modeI (gth s.th n).ki)
 unfold shutC toldS
 rw [tell_th (n:=n) hw hn]
 show gth ((s.th.set n (tellT (gth s.th n) (gth s.th n).ki 1 0)).set n (pcT (gth (s.th.set n (tellT (gth s.th n) (gth s.th n).ki 1 0)) n) 1)) j=_
 rw [List.set_set,gth_set hn,gth_set hn,if_pos rfl]
 by_cases e:n=j
 ·rw [if_pos e,if_pos e.symm]
 ·rw [if_neg e,if_neg (fun x=>e x.symm)]
include h1
theorem gth_full {j:Nat} (hj:j<s.th.length):gth (fullC s n).th j=if j=n then pcT (gth s.th n) 2 else if (j:Int)∈s.fl then wakeT (gth s.th j) else gth s.th j:=by
 have hb:=full_on h hn (by omega)
 have e3:=(nt_all (full_lines h).2.2.2.2.1).2.2
 unfold fullC
 rw [wakes_th _ hb (by show j<(s.th.set n _).length;simpa using hj),e3]
 have e:gth ((s.toFull (ntE s.fe s.fl) (ntL s.fl.length s.fe s.fl)).onTh n (pcT · 2)).th j=if n=j then pcT (gth s.th n) 2 else gth s.th j:=gth_set hn
 rw [e]
 by_cases c:j=n
 ·subst c
  rw [if_pos rfl,if_pos rfl,wkT_not (show (pcT (gth s.th j) 2).st≠2 by show (gth s.th j).st≠2;omega)]
  simp
 ·have c' : ¬ n=j:=fun x=>c x.symm
  simp only [if_neg c,if_neg c']
theorem gth_empty {j:Nat} (hj:j<s.th.length):gth (emptyC s n).th j=if j=n then doneT (gth s.th n) else if (j:Int)∈s.el then wakeT (gth s.th j) else gth s.th j:=by
 have hb:=empty_on h hn (by omega)
 have e3:=(nt_all (full_lines h).2.2.2.2.2).2.2
 unfold emptyC
 rw [wakes_th _ hb (by show j<(s.th.set n _).length;simpa using hj),e3]
 have e:gth ((s.toEmpty (ntE s.ee s.el) (ntL s.el.length s.ee s.el)).onTh n doneT).th j=if n=j then doneT (gth s.th n) else gth s.th j:=gth_set hn
 rw [e]
 by_cases c:j=n
 ·subst c
  rw [if_pos rfl,if_pos rfl,wkT_not (show (doneT (gth s.th j)).st≠2 by show (0:Int)≠2;decide)]
  simp
 ·have c' : ¬ n=j:=fun x=>c x.symm
  simp only [if_neg c,if_neg c']
end
theorem shr_shut (s:St) (n:Nat):shr (shutC s n)=shr (s.toWord s.hd s.tl (clM s.md (modeI (gth s.th n).ki))):=shr_told _ _ _ _ _ _
theorem shr_full (s:St) (n:Nat):shr (fullC s n)=shr (s.toFull (ntE s.fe s.fl) (ntL s.fl.length s.fe s.fl)):=shr_wakes _ _
theorem shr_empty (s:St) (n:Nat):shr (emptyC s n)=shr (s.toEmpty (ntE s.ee s.el) (ntL s.el.length s.ee s.el)):=shr_wakes _ _
theorem runs_of {s:St} (h:stB s=true) {n:Nat} (hn:n<s.th.length) (h1:(gth s.th n).st=1) (h2:opSide (gth s.th n).ki=3):runsB s n 3=true:=by
 refine runs_iff.2 ⟨has_of h hn,?_,?_⟩ <;> rw [Int.toNat_natCast] <;> assumption
theorem runs_no {s:St} {n:Nat} (h1:(gth s.th n).st≠1):runsB s n 3=false:=by
 cases h:runsB s n 3
 ·rfl
 ·have:=(runs_iff.1 h).2.1;rw [Int.toNat_natCast] at this;exact absurd this h1
theorem three {s:St} (h:stB s=true) {n:Nat} (hn:n<s.th.length) (h1:(gth s.th n).st=1) (hk:opSide (gth s.th n).ki=3) (hp:(gth s.th n).pc=0) (m:Nat) :
  ∃ u:St,closeK s n (m+3)=(u,3)∧stB u=true∧u.md=clM s.md (modeI (gth s.th n).ki)∧u.hd=s.hd∧u.tl=s.tl∧u.fl=[]∧u.el=[]∧u.fe=nxE s.fe∧u.ee=nxE s.ee∧u.cf=s.cf∧u.nw=s.nw∧u.sl=s.sl∧u.sn=s.sn∧u.rc=s.rc ∧
   u.lg=s.lg++[⟨n,(gth s.th n).ki,(gth s.th n).va,1,0⟩]∧u.th.length=s.th.length∧gth u.th n=doneT (tellT (gth s.th n) (gth s.th n).ki 1 0) ∧
   ∀ j:Nat,j<s.th.length→j≠n→(gth u.th j=gth s.th j∨gth u.th j=wakeT (gth s.th j))∧((j:Int)∈s.fl∨(j:Int)∈s.el→gth u.th j=wakeT (gth s.th j)):=by
 have ki9:(gth s.th n).ki≠9:=fun e=>by rw [e] at hk;exact absurd hk (by decide)
 have e9:∀ t:Th,tellT t (gth s.th n).ki 1 0=⟨t.st,t.ki,t.va,t.un,t.pc,t.re,t.se,t.tr,t.la,1,0⟩:=fun t=>by unfold tellT;rw [if_neg ki9]
 have r0:=runs_of h hn h1 hk
 have b1:=closeN_stB h hn (by omega)
 have l1:=(closeN_oth h hn (by omega)).len
 have q1:=shr_shut s n
 have g1:=gth_shut h hn
 have o1:=closeN_lgOk (s:=s) (n:=n)
 have lg1:(shutC s n).lg=s.lg++[⟨n,(gth s.th n).ki,(gth s.th n).va,1,0⟩]:=lg_is (shut_word h (modeI (gth s.th n).ki)) (n:=n) hn (gth s.th n).ki 1 0 1
 rw [closeN_0 hp] at b1 l1 o1
 simp only [shr,Prod.mk.injEq] at q1
 have s0:closeS s n=shutC s n:=by rw [closeS_is r0,Int.toNat_natCast,closeN_0 hp]
 obtain ⟨⟨w1,w2,w3⟩,w4,w5,w6,⟨w7,w8⟩,w9,w10⟩:=q1
 generalize shutC s n=a at *
 have ga:=g1 n
 rw [if_pos rfl,e9] at ga
 have na:n<a.th.length:=by omega
 have a1:(gth a.th n).st=1:=by rw [ga];exact h1
 have ak:opSide (gth a.th n).ki=3:=by rw [ga];exact hk
 have ap:(gth a.th n).pc=1:=by rw [ga];rfl
 have r1:=runs_of b1 na a1 ak
 have b2:=closeN_stB b1 na (by omega)
 have l2:=(closeN_oth b1 na (by omega)).len
 have q2:=shr_full a n
 have g2:=fun (j:Nat) (hj:j<a.th.length)=>gth_full b1 na a1 hj
 have o2:=closeN_lgOk (s:=a) (n:=n)
 have lg2:(fullC a n).lg=a.lg:=(wakes_rest _ _).1
 rw [closeN_1 ap] at b2 l2 o2
 obtain ⟨f1,f2,-⟩:=nt_all (full_lines b1).2.2.2.2.1
 simp only [shr,Prod.mk.injEq,f1,f2] at q2
 have s1:closeS a n=fullC a n:=by rw [closeS_is r1,Int.toNat_natCast,closeN_1 ap]
 obtain ⟨⟨x1,x2,x3⟩,x4,x5,x6,⟨x7,x8⟩,x9,x10⟩:=q2
 generalize fullC a n=b at *
 have gb:=g2 n na
 rw [if_pos rfl,ga] at gb
 have nb:n<b.th.length:=by omega
 have b1' : (gth b.th n).st=1:=by rw [gb];exact h1
 have bk:opSide (gth b.th n).ki=3:=by rw [gb];exact hk
 have bp:(gth b.th n).pc=2:=by rw [gb];rfl
 have r2:=runs_of b2 nb b1' bk
 have b3:=closeN_stB b2 nb (by omega)
 have l3:=(closeN_oth b2 nb (by omega)).len
 have q3:=shr_empty b n
 have g3:=fun (j:Nat) (hj:j<b.th.length)=>gth_empty b2 nb b1' hj
 have o3:=closeN_lgOk (s:=b) (n:=n)
 have lg3:(emptyC b n).lg=b.lg:=(wakes_rest _ _).1
 rw [closeN_2 (by omega) (by omega)] at b3 l3 o3
 obtain ⟨f3,f4,-⟩:=nt_all (full_lines b2).2.2.2.2.2
 simp only [shr,Prod.mk.injEq,f3,f4] at q3
 have s2:closeS b n=emptyC b n:=by rw [closeS_is r2,Int.toNat_natCast,closeN_2 (by omega) (by omega)]
 obtain ⟨⟨y1,y2,y3⟩,y4,y5,y6,⟨y7,y8⟩,y9,y10⟩:=q3
 generalize emptyC b n=u at *
 have gu:=g3 n nb
 rw [if_pos rfl,gb] at gu
 have r3:runsB u n 3=false:=runs_no (by rw [gu];show (0:Int)≠1;decide)
 refine ⟨u,?_,b3,?_,?_,?_,?_,?_,?_,?_,?_,?_,?_,?_,?_,?_,?_,?_,?_⟩
 ·rw [closeK_on r0,s0,closeK_on r1,s1,closeK_on r2,s2,closeK_off r3]
 ·rw [y3];exact x3.trans w3
 ·rw [y1];exact x1.trans w1
 ·rw [y2];exact x2.trans w2
 ·rw [y8];exact x8
 ·exact y10
 ·rw [y7];show b.fe=_;rw [x7];show nxE a.fe=_;rw [w7];rfl
 ·rw [y9];show nxE b.ee=_;rw [x9];show nxE a.ee=_;rw [w9];rfl
 ·exact o3.2.1.trans (o2.2.1.trans o1.2.1)
 ·exact o3.2.2.trans (o2.2.2.trans o1.2.2)
 ·rw [y4];exact x4.trans w4
 ·rw [y5];exact x5.trans w5
 ·rw [y6];exact x6.trans w6
 ·rw [lg3,lg2,lg1]
 ·omega
 ·rw [gu,e9];rfl
 ·intro j hj hne
  have e1:=g1 j
  have e2:=g2 j (by omega)
  have e3:=g3 j (by omega)
  rw [if_neg hne] at e1 e2 e3
  have hfl:a.fl=s.fl:=w8
  have hel:b.el=s.el:=x10.trans w10
  rw [hfl,e1] at e2
  rw [hel,e2] at e3
  rw [e3]
  by_cases c1:(j:Int)∈s.fl
  ·rw [if_pos c1,wake_wake]
   refine ⟨?_,fun _=>?_⟩
   ·right;split <;> rfl
   ·split <;> rfl
  ·rw [if_neg c1]
   by_cases c2:(j:Int)∈s.el
   ·rw [if_pos c2];exact ⟨.inr rfl,fun _=>rfl⟩
   ·rw [if_neg c2];exact ⟨.inl rfl,fun x=>absurd x (by simp [c1,c2])⟩
theorem closeK_three {s:St} {n:Nat} (m:Nat):(closeK s n m).2≤3:=by
 cases h0:runsB s n 3
 ·rw [closeK_off h0];omega
 obtain ⟨hh,h1,hk⟩:=runs_iff.1 h0
 obtain ⟨h,-,hi⟩:=has_iff.1 hh
 rw [Int.toNat_natCast] at h1 hk
 have hn:n<s.th.length:=by omega
 have two:∀ {b:St},stB b=true→n<b.th.length→(gth b.th n).st=1→(gth b.th n).pc≠0→(gth b.th n).pc≠1→∀ k,(closeK b n k).2≤1:=fun {b} hb nb h1 p0 p1 k=>by
  cases k with
  | zero=>simp [closeK]
  | succ k =>
   cases hr:runsB b n 3
   ·rw [closeK_off hr];omega
   ·rw [closeK_on hr,closeS_is hr,Int.toNat_natCast,closeN_2 p0 p1]
    have:=gth_empty hb nb h1 nb
    rw [if_pos rfl] at this
    rw [closeK_off (runs_no (by rw [this];show (0:Int)≠1;decide))]
    show 0+1≤1;omega
 have one:∀ {b:St},stB b=true→n<b.th.length→(gth b.th n).st=1→(gth b.th n).pc≠0→∀ k,(closeK b n k).2≤2:=fun {b} hb nb h1 p0 k=>by
  by_cases p1:(gth b.th n).pc=1
  ·cases k with
   | zero=>simp [closeK]
   | succ k =>
    cases hr:runsB b n 3
    ·rw [closeK_off hr];omega
    ·rw [closeK_on hr,closeS_is hr,Int.toNat_natCast,closeN_1 p1]
     have hg:=gth_full hb nb h1 nb
     rw [if_pos rfl] at hg
     have hb' := closeN_stB hb nb (by omega)
     have hl:=(closeN_oth hb nb (by omega)).len
     rw [closeN_1 p1] at hb' hl
     have:=two hb' (by omega) (by rw [hg];exact h1) (by rw [hg];show (2:Int)≠0;decide) (by rw [hg];show (2:Int)≠1;decide) k
     show _+1≤2;omega
  ·have:=two hb nb h1 p0 p1 k;omega
 by_cases p0:(gth s.th n).pc=0
 ·cases m with
  | zero=>simp [closeK]
  | succ k =>
   rw [closeK_on h0,closeS_is h0,Int.toNat_natCast,closeN_0 p0]
   have hg:=gth_shut h hn n
   rw [if_pos rfl] at hg
   have hb' := closeN_stB h hn (by omega)
   have hl:=(closeN_oth h hn (by omega)).len
   rw [closeN_0 p0] at hb' hl
   have hst:(tellT (gth s.th n) (gth s.th n).ki 1 0).st=1:=by rw [tellT_st];exact h1
   have:=one hb' (by omega) (by rw [hg];exact hst) (by rw [hg];show (1:Int)≠0;decide) k
   show _+1≤3;omega
 ·have:=one h hn h1 p0 m;omega
end
section
open Go.RowKit
theorem ac_rnotifyAll {ep:Int} {l:List Int} (hok:okE ep l=true):AC Tryz.prog 111 [evT ep l] (.tuple #[evT (nxE ep) [],rowI l]) :=
 ac_path mixed (ext:=[84,151]) (fuel:=9) (n:=5) (orc:=[vD true,.int .i64 (nxE ep)]) (an (ac_recheck hok)<|an (ac_renext (okE_iff.1 hok).1) trivial) (by kernel_rfl)
theorem ac_rwakeA {s:St} {i:Int} (ho:s.ok) (hw:s.few):AC Tryz.prog 95 [stT s,.int .i64 i] (stT (wakeS s i)):=by
 cases hA:hasB s i
 ·rw [show wakeS s i=s by simp [wakeS,hA]]
  exact ac_path mixed (ext:=[142]) (fuel:=9) (n:=3) (orc:=[vD false]) (an (ac_ris hA ho hw) trivial) (by kernel_rfl)
 ·obtain ⟨-,h0,h1⟩:=has_iff.1 hA
  obtain ⟨n,rfl⟩:∃ n:Nat,i=n:=⟨i.toNat,by omega⟩
  rw [show wakeS s n=s.onTh n wakeT by simp [wakeS,hA]]
  exact ac_rwake hA ho hw
structure Wk (s:St) (N:Nat):Prop where
 b:stB s=true
 v:Vk s
 l:s.lg.length≤N
theorem Wk.ok {s:St} {N:Nat} (h:Wk s N) (hN:N≤1000000):s.ok:=ok_of h.b h.v (by have:=h.l;omega)
theorem Wk.few {s:St} {N:Nat} (h:Wk s N) (hN:N≤1000):s.few:=few_of h.b (by have:=h.l;omega)
theorem Wk.fit {s:St} {N:Nat} (h:Wk s N) (hN:N≤1000000):s.fit:=fit_of h.b (by have:=h.l;omega)
theorem Wk.wake {s:St} {N:Nat} (h:Wk s N) (i:Int):Wk (wakeS s i) N:=⟨wake_stB h.b i,h.v.wake i,by rw [(wake_rest s i).1];exact h.l⟩
theorem Wk.wakes {N:Nat}:∀ (l:List Int) {s:St},Wk s N→Wk (wakesS l s) N
 | [],_,h=>h
 | i::l,_,h=>Wk.wakes l (h.wake i)
def hdWk (s:St) (l:List Int) (i:Int):Sg:=⟨mkT 19 [(1,rowI l),(2,pt 0),(4,pt 1),(5,.int .i64 i)],[bS s,bZ]⟩
theorem ixIl {l:List Int} {i:Nat} (h:i<l.length):IxP ((l.map (Value.int .i64 ·)).toArray) (i:Int) (.int .i64 l[i]):=⟨by omega,by simp [h]⟩
theorem woken_lp {l:List Int} (hm:l.length≤1000000):∀ (k i:Nat) {s:St},l.length - i=k→i≤l.length→Wk s 1000→LoopP Tryz.prog (loopOf Tryz.prog 112 0) (hdWk s l i) (.exit 0) (hdWk (wakesS (l.drop i) s) l l.length)
 | 0,i,s,hk,hi,_=>by
  have:i=l.length:=by omega
  subst this
  rw [List.drop_length]
  exact loop_end mixed (ext:=[95]) (fuel:=9) (n:=3) (im:=[0,1]) (keep:=[1,2,4,5]) (orc:=[.bool false]) (an (show decide ((l.length:Int)<l.length)=false by simp) trivial) (by intro e;cases e) (by kernel_rfl)
 | k+1,i,s,hk,hi,h=>by
  have h1:i<l.length:=by omega
  have ih:=woken_lp hm k (i+1) (s:=wakeS s l[i]) (by omega) (by omega) (h.wake _)
  rw [show ((i+1:Nat):Int)=(i:Int)+1 by omega] at ih
  rw [List.drop_eq_getElem_cons h1]
  exact loop_more mixed (ext:=[95]) (fuel:=9) (n:=3) (im:=[0,1]) (keep:=[1,2,4,5]) (orc:=[.bool true,.int .i64 l[i],stT (wakeS s l[i])])
   (an (show decide ((i:Int)<l.length)=true by simp;omega)<|an (ixIl h1)<|an (ac_rwakeA (i:=l[i]) (h.ok (by omega)) (h.few (by omega)))<|an (show In64 ((i:Int)+1) by constructor <;> omega) trivial) (by kernel_rfl) ih
theorem ac_rwoken {s:St} {l:List Int} (hm:l.length≤1000000) (h:Wk s 1000):AC Tryz.prog 112 [stT s,rowI l] (stT (wakesS l s)):=by
 have hL:=woken_lp hm l.length 0 rfl (by omega) h
 rw [List.drop_zero] at hL
 exact ac_path mixed (ext:=[]) (fuel:=9) (n:=3) (orc:=[oL [0,1] [1,2,4,5] 0 [(1,rowI l),(2,pt 0),(4,pt 1),(5,.int .i64 l.length)] [bS (wakesS l s),bZ]]) (an hL trivial) (by kernel_rfl)
structure Dc (s:St) (n:Nat) (c:Int):Prop where
 w:Wk s 999
 hn:n<s.th.length
 st:(gth s.th n).st=1
 sd:opSide (gth s.th n).ki=3
 pc:(gth s.th n).pc=c
section
variable {s:St} {n:Nat} {c:Int}
theorem Dc.ok (h:Dc s n c):s.ok:=h.w.ok (by omega)
theorem Dc.few (h:Dc s n c):s.few:=h.w.few (by omega)
theorem Dc.ht (h:Dc s n c):gth s.th n=pcT (gth s.th n) c:=by rw [← h.pc];rfl
theorem Dc.ix (h:Dc s n c):IxP ((s.th.map thT).toArray) (n:Int) (thT (pcT (gth s.th n) c)):=by
 have:=ixT h.hn
 rw [h.ht] at this
 exact this
theorem Dc.has (h:Dc s n c):hasB s n=true:=has_of h.w.b h.hn
theorem Dc.ru (h:Dc s n c):runsB s n 3=true:=runs_iff.2 ⟨h.has,by simpa using h.st,by simpa using h.sd⟩
theorem Dc.rs (h:Dc s n c):thRuns (gth s.th n).st=0:=by rw [h.st];rfl
theorem Dc.ful (h:Dc s n c):okE s.fe s.fl=true:=(full_lines h.w.b).2.2.2.2.1
theorem Dc.emp (h:Dc s n c):okE s.ee s.el=true:=(full_lines h.w.b).2.2.2.2.2
theorem wk_full {s:St} {N n:Nat} (h:Wk s N) (hn:n<s.th.length) (h1:(gth s.th n).st≠0):Wk ((s.toFull (nxE s.fe) []).onTh n (pcT · 2)) N:=by
 obtain ⟨e1,e2,-⟩:=nt_all (full_lines h.b).2.2.2.2.1
 refine ⟨?_,Vk.on (s:=s.toFull (nxE s.fe) []) (f:=(pcT · 2)) ⟨h.v.cf,h.v.sl,h.v.th⟩ hn fun _=>⟨rfl,rfl⟩,h.l⟩
 have:=full_on h.b hn h1
 rwa [e1,e2] at this
theorem wk_empty {s:St} {N n:Nat} (h:Wk s N) (hn:n<s.th.length) (h1:(gth s.th n).st≠0):Wk ((s.toEmpty (nxE s.ee) []).onTh n doneT) N:=by
 obtain ⟨e1,e2,-⟩:=nt_all (full_lines h.b).2.2.2.2.2
 refine ⟨?_,Vk.on (s:=s.toEmpty (nxE s.ee) []) (f:=doneT) ⟨h.v.cf,h.v.sl,h.v.th⟩ hn fun _=>⟨rfl,rfl⟩,h.l⟩
 have:=empty_on h.b hn h1
 rwa [e1,e2] at this
theorem fullC_is {s:St} (h:stB s=true) (n:Nat):fullC s n=wakesS s.fl ((s.toFull (nxE s.fe) []).onTh n (pcT · 2)):=by
 obtain ⟨e1,e2,e3⟩:=nt_all (full_lines h).2.2.2.2.1
 unfold fullC;rw [e1,e2,e3]
theorem emptyC_is {s:St} (h:stB s=true) (n:Nat):emptyC s n=wakesS s.el ((s.toEmpty (nxE s.ee) []).onTh n doneT):=by
 obtain ⟨e1,e2,e3⟩:=nt_all (full_lines h).2.2.2.2.2
 unfold emptyC;rw [e1,e2,e3]
theorem Wk.shut {s:St} {N:Nat} (h:Wk s N) (d:Int):Wk (s.toWord s.hd s.tl (clM s.md d)) N:=⟨shut_word h.b d,⟨h.v.cf,h.v.sl,h.v.th⟩,h.l⟩
theorem closeN_wk {s:St} {N n:Nat} (h:Wk s N) (hn:n<s.th.length) (h1:(gth s.th n).st≠0):Wk (closeN s n) (N+1):=by
 have up:∀ {u:St},Wk u N→Wk u (N+1):=fun w=>⟨w.b,w.v,by have:=w.l;omega⟩
 refine closeN_ind (P:=fun u=>Wk u (N+1)) ?_ ?_ ?_
 ·have hw:=h.shut (modeI (gth s.th n).ki)
  refine ⟨told_stB hw.b hn h1 (by decide) (by decide),hw.v.told hw.b hn (.inr (by constructor <;> omega)),?_⟩
  have:=told_lg hw.b (n:=n) hn (k:=(gth s.th n).ki) (r:=1) (g:=0) (p:=1)
  have hl:(s.toWord s.hd s.tl (clM s.md (modeI (gth s.th n).ki))).lg.length=s.lg.length:=rfl
  have:=h.l
  show (toldS _ n _ 1 0 1).lg.length≤_
  omega
 ·rw [fullC_is h.b];exact up (Wk.wakes _ (wk_full h hn h1))
 ·rw [emptyC_is h.b];exact up (Wk.wakes _ (wk_empty h hn h1))
def CCX:List FuncId:=[86,109,108,157,88,111,99,56,112]
theorem dc_shut (h:Dc s n 0):AC Tryz.prog 51 [stT s,.int .i64 n] (stT (shutC s n)) :=
 have hw:=h.w.shut (modeI (gth s.th n).ki)
 have hA:hasB (s.toWord s.hd s.tl (clM s.md (modeI (gth s.th n).ki))) n=true:=has_of hw.b h.hn
 ac_path mixed (ext:=CCX) (fuel:=9) (n:=6) (orc:=[vD true,thT (pcT (gth s.th n) 0),.nilFunc,.int .i64 (modeI (gth s.th n).ki),wdT s.hd s.tl (clM s.md (modeI (gth s.th n).ki)),thT (pcT (gth s.th n) 0),stT (tellS (s.toWord s.hd s.tl (clM s.md (modeI (gth s.th n).ki))) n (gth s.th n).ki 1 0),stT (shutC s n)])
  (an (ac_rruns h.ru h.ok h.few)<|an h.ix<|an (ac_rmode (gth s.th n).ki)<|an (ac_rclose (h:=s.hd) (t:=s.tl) (m:=s.md) (mode_is (gth s.th n).ki))<|an h.ix<|an (ac_rtell (k:=(gth s.th n).ki) (r:=1) (g:=0) hA (hw.ok (by omega)) (hw.few (by omega))) <|
   an (ac_rat (tellS (s.toWord s.hd s.tl (clM s.md (modeI (gth s.th n).ki))) n (gth s.th n).ki 1 0) n 1 (by rw [tell_len];exact h.hn) (by rw [tell_len];exact h.few.th)) trivial) (by kernel_rfl)
theorem line_le {m:Int} {l:List Int} (h:stnB m l=true):l.length≤16:=ok_len (stn_iff.1 h).1
theorem dc_full (h:Dc s n 1):AC Tryz.prog 51 [stT s,.int .i64 n] (stT (fullC s n)):=by
 rw [fullC_is h.w.b]
 have hw:=wk_full (h.w) h.hn (by have:=h.st;omega)
 have hl:=line_le (full_lines h.w.b).2.2.1
 exact ac_path mixed (ext:=CCX) (fuel:=9) (n:=6) (orc:=[vD true,thT (pcT (gth s.th n) 1),.nilFunc,.nilFunc,.tuple #[evT (nxE s.fe) [],rowI s.fl],stT ((s.toFull (nxE s.fe) []).onTh n (pcT · 2)),stT (wakesS s.fl ((s.toFull (nxE s.fe) []).onTh n (pcT · 2)))])
  (an (ac_rruns h.ru h.ok h.few)<|an h.ix<|an (ac_rnotifyAll h.ful)<|an (ac_rat (s.toFull (nxE s.fe) []) n 2 h.hn h.few.th)<|an (ac_rwoken (l:=s.fl) (by omega) ⟨hw.b,hw.v,by have:=hw.l;omega⟩) trivial) (by kernel_rfl)
theorem dc_empty (h:Dc s n c) (h0:c≠0) (h1:c≠1):AC Tryz.prog 51 [stT s,.int .i64 n] (stT (emptyC s n)):=by
 rw [emptyC_is h.w.b]
 have hw:=wk_empty (h.w) h.hn (by have:=h.st;omega)
 have hl:=line_le (full_lines h.w.b).2.2.2.1
 exact ac_path mixed (ext:=CCX) (fuel:=9) (n:=6) (orc:=[vD true,thT (pcT (gth s.th n) c),.bool false,.bool false,.tuple #[evT (nxE s.ee) [],rowI s.el],.tuple #[thT (doneT (gth s.th n)),.int .i64 0],stT ((s.toEmpty (nxE s.ee) []).onTh n doneT),stT (wakesS s.el ((s.toEmpty (nxE s.ee) []).onTh n doneT))])
  (an (ac_rruns h.ru h.ok h.few)<|an h.ix<|an (bne_of h0)<|an (bne_of h1)<|an (ac_rnotifyAll h.emp)<|an (ac_rdone (done_of (c:=c) h.rs))<|an (ac_rwith (s.toEmpty (nxE s.ee) []) n (doneT (gth s.th n)) h.hn h.few.th)<|an (ac_rwoken (l:=s.el) (by omega) ⟨hw.b,hw.v,by have:=hw.l;omega⟩) trivial) (by kernel_rfl)
theorem rstepC (h:Wk s 999) (hn:n<s.th.length) (h1:(gth s.th n).st=1) (h2:opSide (gth s.th n).ki=3):AC Tryz.prog 51 [stT s,.int .i64 n] (stT (closeN s n)):=by
 have hd:Dc s n (gth s.th n).pc:=⟨h,hn,h1,h2,rfl⟩
 by_cases p0:(gth s.th n).pc=0
 ·rw [closeN_0 p0];exact dc_shut (p0 ▸ hd)
 ·by_cases p1:(gth s.th n).pc=1
  ·rw [closeN_1 p1];exact dc_full (p1 ▸ hd)
  ·rw [closeN_2 p0 p1];exact dc_empty hd p0 p1
end
theorem ac_rcstep {s:St} {i:Int} (ho:s.ok) (hw:s.few) (hl:s.lg.length≤999):AC Tryz.prog 51 [stT s,.int .i64 i] (stT (closeS s i)):=by
 cases hr:runsB s i 3
 ·rw [show closeS s i=s by simp [closeS,hr]]
  exact ac_path mixed (ext:=[86]) (fuel:=9) (n:=3) (orc:=[vD false]) (an (ac_rruns hr ho hw) trivial) (by kernel_rfl)
 ·obtain ⟨hh,h1,h2⟩:=runs_iff.1 hr
  obtain ⟨hB,h0,h3⟩:=has_iff.1 hh
  rw [closeS_is hr]
  obtain ⟨n,rfl⟩:∃ n:Nat,i=n:=⟨i.toNat,by omega⟩
  rw [Int.toNat_natCast] at h1 h2 ⊢
  exact rstepC ⟨hB,.of ho,hl⟩ (by omega) h1 h2
section
variable {s:St} {i m o:Int} {b:Bool}
end
end
section
open Go.RowKit
def tkT (n:Nat) (v:Value):List (Nat×Value):=[(0,.func (.func 303) #[pt 0] #[]),(1,.func (.func 304) #[] #[vFz [.int .i64 n]]),(5,v)]
def tkB (l:List Int):Option Blk:=some ⟨true,false,1,1,[rowI l]⟩
def tkA (l:List Int):Option Blk:=some ⟨true,true,1,l.length,l.map (.int .i64 ·)⟩
def tk0 (l:List Int):Sg:=⟨mkT 24 (tkT l.length (.slice none 0 0)),[tkB l]⟩
def tkS (l:List Int) (i:Nat):Sg:=⟨mkT 24 (tkT l.length (.slice (some ⟨1,0,some 0⟩) (l.take i).length 0)),[tkB (l.drop i),tkA (l.take i)]⟩
section
variable {l:List Int} {ep:Int}
theorem nx_at (h:okLn l=true) {i:Nat} (hi:i<l.length):AC Tryz.prog 307 [rowI (l.drop i)] (.tuple #[.int .i64 l[i],rowI (l.drop (i+1)),.bool true]):=by
 have hl:=ok_len h
 have hd:=ok_drop' h i
 have:=ac_plnext (l.drop i) (by simp;omega)
 rw [List.drop_eq_getElem_cons hi] at this hd ⊢
 generalize l[i]=x at this hd ⊢
 generalize l.drop (i+1)=r at this hd ⊢
 have h1:nxB (x::r)=true:=by simp [nxB,hd]
 rwa [show nxI (x::r)=x by simp [nxI,h1],show nxL (x::r)=r by simp [nxL,h1],h1] at this
theorem len_I (l:List Int):l.length=(l.map (Value.int .i64 ·)).length:=by simp
theorem tk_lp (h:okLn l=true):∀ (k i:Nat),l.length - i=k→i≤l.length→LoopK Tryz.prog 1 (loopOf Tryz.prog 302 0) (tkS l i) (.exit 0) (tkS l l.length)
 | 0,i,hk,hi=>by
  have:i=l.length:=by omega
  subst this
  exact loopK_end mixed (fuel:=9) (n:=5) (keep:=[0,1,5]) (ext:=[307]) (im:=[0,1]) (orc:=[.bool false]) (an (show decide (((l.take l.length).length:Int)<l.length)=false by simp) trivial) (by intro e;cases e) (by kernel_rfl) (by rfl)
 | k+1,i,hk,hi=>by
  have h1:i<l.length:=by omega
  have hl:=ok_len h
  have ht:(l.take i).length=i:=by simp;omega
  have ht1:(l.take (i+1)).length=i+1:=by simp;omega
  have hs:l.take (i+1)=l.take i++[l[i]]:=by simp
  exact loopK_more mixed (fuel:=9) (n:=5) (keep:=[0,1,5]) (ext:=[307]) (im:=[0,3]) (orc:=[.bool true,.tuple #[.int .i64 l[i],rowI (l.drop (i+1)),vD true],rowI (l.take (i+1))])
   (an (show decide (((l.take i).length:Int)<l.length)=true by rw [ht];simp;omega)<|an (nx_at h h1)<|an (rfl:(1:Nat)=1)<|an (allK_I [l[i]])<|an (len_I (l.take i)) <|
    an (show AppP (l.take (i+1)).length ((l.take (i+1)).map (Value.int .i64 ·)) (l.take i).length ((l.take i).map (Value.int .i64 ·)) 1 [.int .i64 l[i]] from ⟨by omega,by rw [hs,List.map_append];rfl,by omega⟩) trivial) (by kernel_rfl) (by rfl) (tk_lp h k (i+1) (by omega) (by omega))
theorem tk_all (h:okLn l=true) (h0:0<l.length):LoopK Tryz.prog 1 (loopOf Tryz.prog 302 0) (tk0 l) (.exit 0) (tkS l l.length):=by
 have hn:=nx_at h h0
 rw [List.drop_zero] at hn
 have ht:(l.take (0+1))=[l[0]]:=by
  match l,h0 with
  | x::r,_=>rfl
 have ih:=tk_lp h (l.length - 1) (0+1) rfl h0
 unfold tkS at ih
 rw [ht] at ih
 exact loopK_more mixed (fuel:=9) (n:=5) (keep:=[0,1,5]) (ext:=[307]) (im:=[0,2]) (orc:=[.bool true,.tuple #[.int .i64 l[0],rowI (l.drop (0+1)),vD true],rowI [l[0]]])
  (an (show decide (((0:Nat):Int)<l.length)=true by simp;omega)<|an hn<|an (rfl:(1:Nat)=1)<|an (allK_I [l[0]])<|an (show 0<1∧AppP [l[0]].length ([l[0]].map (Value.int .i64 ·)) 0 [] 1 [.int .i64 l[0]] from ⟨by omega,by simp,by simp,by omega⟩) trivial) (by kernel_rfl) (by rfl) ih
def evN:List FuncId:=[37,201,307]
theorem ac_pnotifyAll (h:okE ep l=true):AC Tryz.prog 279 [evT ep l] (.tuple #[evT (nxE ep) [],rowI l]):=by
 have ho:=okE_ln h
 have he:=(okE_iff.1 h).1
 have hl:=ok_len ho
 rw [nxE_min]
 by_cases h0:l=[]
 ·subst h0
  exact ac_path mixed (ext:=evN) (fuel:=9) (n:=9) (orc:=[vD true,evT ep [],.nilFunc]) (an (ac_pecheck h)<|an (ac_pekept ep [] (by simp))<|an (show In64 (ep+1) by constructor <;> omega) trivial) (by kernel_rfl)
 ·have hp:0<l.length:=List.length_pos_iff.2 h0
  have hL:=tk_all ho hp
  unfold tkS at hL
  rw [List.take_length,List.drop_length] at hL
  exact ac_path mixed (ext:=evN) (fuel:=9) (n:=9) (orc:=[vD true,evT ep l,oK 1 [14] [0,1,5] 0 (tkT l.length (.slice (some ⟨1,0,some 0⟩) l.length 0)) [tkB [],tkA l]])
   (an (ac_pecheck h)<|an (ac_pekept ep l (by omega))<|an hL<|an (show In64 (ep+1) by constructor <;> omega)<|an (len_map (f:=(Value.int .i64 ·)) l) trivial) (by kernel_rfl)
end
end
section
open Go.RowKit
theorem wake_on {u:St} {n:Nat} {f:Th→Th} (hB:stB u=true) (hB' : stB (u.onTh n f)=true) (hn:n<u.th.length) (h1:(gth u.th n).st≠2) (h2:(f (gth u.th n)).st≠2) (i:Int):wakeS (u.onTh n f) i=(wakeS u i).onTh n f:=by
 have hl:(u.onTh n f).th.length=u.th.length:=by show (u.th.set n _).length=_;simp
 have hb:hasB (u.onTh n f) i=hasB u i:=by unfold hasB;rw [hB,hB',hl]
 unfold wakeS
 rw [hb]
 split
 ·next hh =>
  obtain ⟨-,h3,h4⟩:=has_iff.1 hh
  obtain ⟨k,rfl⟩:∃ k:Nat,i=k:=⟨i.toNat,by omega⟩
  have hk:k<u.th.length:=by omega
  rw [Int.toNat_natCast]
  show St.mk _ _ _ _ _ _ _ _ _ _ _ _ ((u.th.set n (f (gth u.th n))).set k (wakeT (gth (u.th.set n (f (gth u.th n))) k))) _=St.mk _ _ _ _ _ _ _ _ _ _ _ _ ((u.th.set k (wakeT (gth u.th k))).set n (f (gth (u.th.set k (wakeT (gth u.th k))) n))) _
  by_cases e:n=k
  ·subst e
   rw [gth_set hn,if_pos rfl,gth_set hn,if_pos rfl,List.set_set,List.set_set,wkT_not h1,wkT_not h2];rfl
  ·rw [gth_set hn,if_neg e,gth_set hk,if_neg (fun x=>e x.symm),List.set_comm _ _ e];rfl
 ·rfl
theorem wakes_on {n:Nat} {f:Th→Th}:∀ (l:List Int) {u:St},stB u=true→stB (u.onTh n f)=true→n<u.th.length→(gth u.th n).st≠2→(f (gth u.th n)).st≠2→wakesS l (u.onTh n f)=(wakesS l u).onTh n f
 | [],_,_,_,_,_,_=>rfl
 | i::l,u,hB,hB',hn,h1,h2=>by
  have e:=wake_on hB hB' hn h1 h2 i
  have hg:gth (wakeS u i).th n=gth u.th n:=by
   rw [wake_th hB i hn];split
   ·exact wkT_not h1
   ·rfl
  show wakesS l (wakeS (u.onTh n f) i)=(wakesS l (wakeS u i)).onTh n f
  rw [e]
  exact wakes_on l (wake_stB hB i) (e ▸ wake_stB hB' i) (by rw [(wake_rest u i).2.2.2];exact hn) (by rw [hg];exact h1) (by rw [hg];exact h2)
theorem wakes_same {n:Nat} (l:List Int) {u:St} (hB:stB u=true) (hn:n<u.th.length) (h1:(gth u.th n).st≠2):gth (wakesS l u).th n=gth u.th n:=by
 rw [wakes_th l hB hn];split
 ·exact wkT_not h1
 ·rfl
theorem ao_wakeS {s:St} {i:Int} (ho:s.ok) (hf:s.fit) (ht:s.th≠[]):AO Tryz.prog 42 [stT s,.int .i64 i] (stL (wakeS s i)) 18 11:=by
 cases hA:hasB s i
 ·rw [show wakeS s i=s by simp [wakeS,hA]];exact ao_keep hA ho hf ht
 ·obtain ⟨-,h0,h1⟩:=has_iff.1 hA
  obtain ⟨n,rfl⟩:∃ n:Nat,i=n:=⟨i.toNat,by omega⟩
  rw [show wakeS s n=s.onTh n wakeT by simp [wakeS,hA]]
  exact ao_wake hA ho hf
def hdWT (l:List Int) (i:Int):List (Nat×Value):=[(0,pt 0),(6,rowI l),(7,.int .i64 l.length),(8,.int .i64 i)]
def hdW (v:St) (n:Int) (l:List Int) (i:Int) (N:Nat):Sg:=⟨mkT 22 (hdWT l i),[bX v n N,bT v.th N]⟩
theorem th_ne {s:St} {N:Nat} (h:Wk s N):s.th≠[]:=by
 rintro e
 have:=(th_len h.b).2.1
 rw [e] at this;simp at this
theorem ixW {l:List Int} {i:Nat} (h:i<l.length):IxP ((l.map (Value.int .i64 ·)).toArray) (i:Int) (.int .i64 l[i]):=⟨by omega,by simp [h]⟩
theorem wkc_lp {l:List Int} (hm:l.length≤1000000) (n:Int):∀ (k i:Nat) {v:St},l.length - i=k→i≤l.length→Wk v 1000000→LoopK Tryz.prog 1 (loopOf Tryz.prog 280 0) (hdW v n l i v.th.length) (.exit 0) (hdW (wakesS (l.drop i) v) n l l.length (wakesS (l.drop i) v).th.length)
 | 0,i,v,hk,hi,_=>by
  have:i=l.length:=by omega
  subst this
  rw [List.drop_length]
  exact loopK_end mixed (fuel:=9) (n:=9) (keep:=[0,6,7,8]) (ext:=[42]) (im:=[0,1]) (orc:=[.bool false]) (an (show decide ((l.length:Int)<l.length)=false by simp) trivial) (by intro e;cases e) (by kernel_rfl) (by rfl)
 | k+1,i,v,hk,hi,h=>by
  have h1:i<l.length:=by omega
  have ih:=wkc_lp hm n k (i+1) (v:=wakeS v l[i]) (by omega) (by omega) (h.wake _)
  rw [show ((i+1:Nat):Int)=(i:Int)+1 by omega] at ih
  rw [List.drop_eq_getElem_cons h1]
  exact loopK_more mixed (fuel:=9) (n:=9) (keep:=[0,6,7,8]) (ext:=[42]) (im:=[0,2]) (orc:=[.bool true,.int .i64 l[i],.iface 1000004 (.func (.yield 18) #[.agg (stL (wakeS v l[i])),.int .i64 11] #[])])
   (an (show decide ((i:Int)<l.length)=true by simp;omega)<|an (ixW h1)<|an (len_map (f:=thT) v.th)<|an (ao_wakeS (i:=l[i]) (h.ok (by omega)) (h.fit (by omega)) (th_ne h))<|an (show In64 ((i:Int)+1) by constructor <;> omega) trivial) (by kernel_rfl) (by rfl) ih
theorem wkc_all {l:List Int} (hm:l.length≤1000000) (n:Int) {v:St} (h:Wk v 1000000):LoopK Tryz.prog 1 (loopOf Tryz.prog 280 0) (hdW v n l 0 v.th.length) (.exit 0) (hdW (wakesS l v) n l l.length (wakesS l v).th.length):=by
 have:=wkc_lp hm n l.length 0 rfl (by omega) h
 rwa [List.drop_zero] at this
def bBc (x:Nat):Option Blk:=some ⟨true,false,1,1,[pt x]⟩
def hdC (s:St) (i m o:Int) (N:Nat):Sg:=⟨mkT 35 [(2,.int .i64 m),(6,pt 2),(8,pt 0),(9,.func (.func 247) #[] #[pt 3]),(10,.int .i64 o)],[bX s i N,bT s.th N,bZ,bBc 0]⟩
def bEc (s:St) (N:Nat):Option Blk:=some ⟨true,false,20,1,[.agg (stO s 1 N).toArray]⟩
def enC (s:St) (o:Int) (N:Nat):Sg:=⟨mkT 35 [(6,pt 0),(7,.int .i64 o)],[bEc s N,bT s.th N]⟩
def cPX:List FuncId:=[19,181,58,278,277,268,279,42,266]
def cPO (t:Th) (c:Int):List Value:=[.bool false,vD true,.bool false,.bool false,thT (pcT t c),.int .i64 0,.nilFunc,thT (pcT t c),.int .i64 3,.nilFunc,thT (pcT t c)]
section
variable {s:St} {i m o:Int}
theorem ce_many (h:decide (m≤o)=true):GotoP Tryz.prog 0 (gotoOf Tryz.prog 196) (hdC s i m o s.th.length) .ret (enC s o s.th.length):=goto_end mixed (fuel:=9) (n:=9) (im:=[2,1]) (keep:=[6,7]) (ext:=cPX) (orc:=[.bool true]) (an h trivial) (by intro l e;cases e) (by kernel_rfl)
theorem ce_check (h:decide (m≤o)=false) (hB:stB s=false) (ho:s.ok):GotoP Tryz.prog 0 (gotoOf Tryz.prog 196) (hdC s i m o s.th.length) .ret (enC s o s.th.length):=goto_end mixed (fuel:=9) (n:=9) (im:=[2,1]) (keep:=[6,7]) (ext:=cPX) (orc:=[.bool false,vD false]) (an h<|an (len_map (f:=thT) s.th)<|an (ac_pcheck hB ho) trivial) (by intro l e;cases e) (by kernel_rfl)
theorem ce_low (h:decide (m≤o)=false) (hB:stB s=true) (ho:s.ok) (hi:decide (i<0)=true):GotoP Tryz.prog 0 (gotoOf Tryz.prog 196) (hdC s i m o s.th.length) .ret (enC s o s.th.length):=goto_end mixed (fuel:=9) (n:=9) (im:=[2,1]) (keep:=[6,7]) (ext:=cPX) (orc:=[.bool false,vD true,.bool true]) (an h<|an (len_map (f:=thT) s.th)<|an (ac_pcheck hB ho)<|an hi trivial) (by intro l e;cases e) (by kernel_rfl)
theorem ce_high (h:decide (m≤o)=false) (hB:stB s=true) (ho:s.ok) (hi:decide (i<0)=false) (hj:decide ((s.th.length:Int)≤i)=true):GotoP Tryz.prog 0 (gotoOf Tryz.prog 196) (hdC s i m o s.th.length) .ret (enC s o s.th.length):=goto_end mixed (fuel:=9) (n:=9) (im:=[2,1]) (keep:=[6,7]) (ext:=cPX) (orc:=[.bool false,vD true,.bool false,.bool true]) (an h<|an (len_map (f:=thT) s.th)<|an (ac_pcheck hB ho)<|an hi<|an hj trivial) (by intro l e;cases e) (by kernel_rfl)
variable {n:Nat}
theorem ce_runs (h:decide (m≤o)=false) (hB:stB s=true) (ho:s.ok) (hn:n<s.th.length) (hr:(thRuns (gth s.th n).st==0)=false):GotoP Tryz.prog 0 (gotoOf Tryz.prog 196) (hdC s n m o s.th.length) .ret (enC s o s.th.length):=goto_end mixed (fuel:=9) (n:=9) (im:=[2,1]) (keep:=[6,7]) (ext:=cPX) (orc:=[.bool false,vD true,.bool false,.bool false,thT (gth s.th n),.int .i64 (thRuns (gth s.th n).st),.bool false])
 (an h<|an (len_map (f:=thT) s.th)<|an (ac_pcheck hB ho)<|an (show decide ((n:Int)<0)=false by simp)<|an (show decide ((s.th.length:Int)≤n)=false by simp;omega)<|an (idT hn)<|an (elT hn)<|an (ac_pruns (t:=gth s.th n) rfl)<|an hr trivial) (by intro l e;cases e) (by kernel_rfl)
theorem ce_side (h:decide (m≤o)=false) (hB:stB s=true) (ho:s.ok) (hn:n<s.th.length) (hr:thRuns (gth s.th n).st=0) (hs:(opSide (gth s.th n).ki==3)=false):GotoP Tryz.prog 0 (gotoOf Tryz.prog 196) (hdC s n m o s.th.length) .ret (enC s o s.th.length):=goto_end mixed (fuel:=9) (n:=9) (im:=[2,1]) (keep:=[6,7]) (ext:=cPX) (orc:=[.bool false,vD true,.bool false,.bool false,thT (gth s.th n),.int .i64 0,.nilFunc,thT (gth s.th n),.int .i64 (opSide (gth s.th n).ki),.bool true])
 (an h<|an (len_map (f:=thT) s.th)<|an (ac_pcheck hB ho)<|an (show decide ((n:Int)<0)=false by simp)<|an (show decide ((s.th.length:Int)≤n)=false by simp;omega)<|an (idT hn)<|an (elT hn)<|an (ac_pruns (t:=gth s.th n) hr)<|an (idT hn)<|an (elT hn)<|an (ac_pside (gth s.th n).ki)<|an (show (!(opSide (gth s.th n).ki==3))=true by rw [hs];rfl) trivial) (by intro l e;cases e) (by kernel_rfl)
theorem ce_not (ho:s.ok) (hr:runsB s i 3=false):GotoP Tryz.prog 0 (gotoOf Tryz.prog 196) (hdC s i m o s.th.length) .ret (enC s o s.th.length):=by
 cases h:decide (m≤o)
 ·cases hB:stB s
  ·exact ce_check h hB ho
  ·by_cases h0:i<0
   ·exact ce_low h hB ho (by simp [h0])
   ·by_cases h1:(s.th.length:Int)≤i
    ·exact ce_high h hB ho (by simp;omega) (by simp [h1])
    ·obtain ⟨n,rfl⟩:∃ n:Nat,i=n:=⟨i.toNat,by omega⟩
     have hn:n<s.th.length:=by omega
     have hr' : ¬ ((gth s.th n).st=1∧opSide (gth s.th n).ki=3):=fun e=>by
      have:runsB s n 3=true:=runs_iff.2 ⟨has_of hB hn,by simpa using e⟩
      rw [hr] at this;cases this
     by_cases hs:thRuns (gth s.th n).st=0
     ·refine ce_side h hB ho hn hs (bne_of fun e=>hr' ⟨?_,e⟩)
      have h2:=runs_not hs
      have h3:=gth_ok hB hn
      generalize gth s.th n=t at h2 h3
      obtain ⟨st,ki,va,un,pc,re,se,tr,la,rs,go⟩:=t
      rw [thB_iff] at h3
      simp only at h2 ⊢
      omega
     ·exact ce_runs h hB ho hn (bne_of hs)
 ·exact ce_many h
end
structure Cv (s:St) (n:Nat) (t:Th) (c m o:Int):Prop where
 lt:decide (m≤o)=false
 w:Wk s 999999
 hn:n<s.th.length
 ht:gth s.th n=pcT t c
 st:t.st=1
 sd:opSide t.ki=3
 o1:In64 (o+1)
section
variable {s:St} {n:Nat} {t:Th} {c m o:Int} {x:Exit} {S:Sg}
theorem Cv.ok (h:Cv s n t c m o):s.ok:=h.w.ok (by omega)
theorem Cv.fit (h:Cv s n t c m o):s.fit:=h.w.fit (by omega)
theorem Cv.rs (h:Cv s n t c m o):thRuns t.st=0:=by rw [h.st];rfl
theorem Cv.el (h:Cv s n t c m o):ElP (s.th.map thT) (0+(n:Int).toNat) (thT (pcT t c)):=h.ht ▸ elT h.hn
theorem Cv.id (h:Cv s n t c m o):0≤(n:Int)∧(n:Int).toNat<s.th.length:=idT h.hn
theorem Cv.nk (h:Cv s n t c m o):(t.ki != 9)=true:=by
 have:=h.sd
 by_cases e:t.ki=9
 ·rw [e] at this;exact absurd this (by decide)
 ·simp [e]
theorem Cv.pa {B:Prop} (h:Cv s n t c m o) (k:B):decide (m≤o)=false∧LenP s.th.length s.th.length (s.th.map thT)∧AC Tryz.prog 19 [stT s] (.bool true)∧decide ((n:Int)<0)=false∧decide ((s.th.length:Int)≤n)=false∧(0≤(n:Int)∧(n:Int).toNat<s.th.length)∧ElP (s.th.map thT) (0+(n:Int).toNat) (thT (pcT t c))∧AC Tryz.prog 181 [thT (pcT t c)] (.int .i64 0)∧(0≤(n:Int)∧(n:Int).toNat<s.th.length)∧ElP (s.th.map thT) (0+(n:Int).toNat) (thT (pcT t c))∧AC Tryz.prog 58 [.int .i64 (pcT t c).ki] (.int .i64 3)∧(0≤(n:Int)∧(n:Int).toNat<s.th.length)∧ElP (s.th.map thT) (0+(n:Int).toNat) (thT (pcT t c))∧B :=
 ⟨h.lt,len_map s.th,ac_pcheck h.w.b h.ok,by simp,by have:=h.hn;simp;omega,h.id,h.el,ac_pruns (t:=pcT t c) h.rs,h.id,h.el,by have:=ac_pside (pcT t c).ki;exact h.sd ▸ this,h.id,h.el,k⟩
def S0 (s:St) (n:Nat) (t:Th) (d:Int):St:=((s.toWord s.hd s.tl d).setTh n (rgT (pcT t 0) 1 0)).addLg (tlE (s.toWord s.hd s.tl d) n t.ki 1 0)
theorem cv_shut (h:Cv s n t 0 m o) (hL:GotoP Tryz.prog 0 (gotoOf Tryz.prog 196) (hdC ((S0 s n t (clM s.md (modeI t.ki))).setTh n (pcT (rgT t 1 0) 1)) n m (o+1) (s.th.set n (rgT (pcT t 0) 1 0)).length) x S):GotoP Tryz.prog 0 (gotoOf Tryz.prog 196) (hdC s n m o s.th.length) x S :=
 have hw:=h.w.shut (modeI t.ki)
 goto_more mixed (fuel:=9) (n:=9) (keep:=[2,6,8,9,10]) (ext:=cPX) (im:=[0,4,2,3]) (orc:=cPO t 0++[.nilFunc,thT (pcT t 0),.int .i64 (modeI t.ki),wdT s.hd s.tl (clM s.md (modeI t.ki)),.iface 1000004 (.func (.yield 18) #[.agg (stL (S0 s n t (clM s.md (modeI t.ki)))),.int .i64 11] #[]),thT (rgT (pcT t 0) 1 0),vRow (s.th.set n (rgT (pcT t 0) 1 0)).length (((s.th.set n (rgT (pcT t 0) 1 0)).set n (pcT (rgT t 1 0) 1)).map thT)])
  (h.pa<|an h.id<|an h.el<|an (ac_pmode t.ki)<|an (ac_pclose (h:=s.hd) (t:=s.tl) (m:=s.md) (mode_is t.ki))<|an (len_map (f:=thT) s.th)<|an (tell_c (s:=s.toWord s.hd s.tl (clM s.md (modeI t.ki))) (c:=0) (r:=1) (has_of hw.b h.hn) h.ht h.nk (hw.ok (by omega)) (hw.fit (by omega))) <|
   an (idT (l:=s.th.set n (rgT (pcT t 0) 1 0)) (by rw [List.length_set];exact h.hn))<|an (el2 h.hn (rgT (pcT t 0) 1 0))<|an (setT (s.th.set n (rgT (pcT t 0) 1 0)) n (pcT (rgT t 1 0) 1))<|an h.o1 trivial) (by kernel_rfl) hL
theorem cv_full {u:St} (h:Cv s n t 1 m o) (he:AC Tryz.prog 279 [evT s.fe s.fl] (.tuple #[evT (nxE s.fe) [],rowI s.fl])) (hk:LoopK Tryz.prog 1 (loopOf Tryz.prog 280 0) (hdW (s.toFull (nxE s.fe) []) n s.fl 0 s.th.length) (.exit 0) (hdW u n s.fl s.fl.length u.th.length)) (hu:n<u.th.length) (hg:gth u.th n=pcT t 1)
  (hL:GotoP Tryz.prog 0 (gotoOf Tryz.prog 196) (hdC (u.setTh n (pcT t 2)) n m (o+1) u.th.length) x S):GotoP Tryz.prog 0 (gotoOf Tryz.prog 196) (hdC s n m o s.th.length) x S :=
 goto_more mixed (fuel:=9) (n:=9) (keep:=[2,6,8,9,10]) (ext:=cPX) (im:=[0,6,2,3]) (orc:=cPO t 1++[.nilFunc,.nilFunc,.tuple #[evT (nxE s.fe) [],rowI s.fl],oK 1 [0,1] [0,6,7,8] 0 (hdWT s.fl s.fl.length) [bX u n u.th.length,bT u.th u.th.length],thT (pcT t 1),vRow u.th.length ((u.th.set n (pcT t 2)).map thT)])
  (h.pa<|an he<|an hk<|an (idT hu)<|an (hg ▸ elT hu)<|an (setT u.th n (pcT t 2))<|an h.o1 trivial) (by kernel_rfl) hL
theorem cv_empty {u:St} (h:Cv s n t c m o) (h0:(c==0)=false) (h1:(c==1)=false) (he:AC Tryz.prog 279 [evT s.ee s.el] (.tuple #[evT (nxE s.ee) [],rowI s.el])) (hk:LoopK Tryz.prog 1 (loopOf Tryz.prog 280 0) (hdW (s.toEmpty (nxE s.ee) []) n s.el 0 s.th.length) (.exit 0) (hdW u n s.el s.el.length u.th.length)) (hu:n<u.th.length) (hg:gth u.th n=pcT t c)
  (hL:GotoP Tryz.prog 0 (gotoOf Tryz.prog 196) (hdC (u.setTh n (doneT t)) n m (o+1) u.th.length) x S):GotoP Tryz.prog 0 (gotoOf Tryz.prog 196) (hdC s n m o s.th.length) x S :=
 goto_more mixed (fuel:=9) (n:=9) (keep:=[2,6,8,9,10]) (ext:=cPX) (im:=[0,6,2,3]) (orc:=cPO t c++[.bool false,.bool false,.tuple #[evT (nxE s.ee) [],rowI s.el],oK 1 [0,1] [0,6,7,8] 0 (hdWT s.el s.el.length) [bX u n u.th.length,bT u.th u.th.length],thT (pcT t c),.tuple #[thT (doneT t),.int .i64 0],thT (pcT t c),vRow u.th.length ((u.th.set n (doneT t)).map thT)])
  (h.pa<|an h0<|an h1<|an he<|an hk<|an (idT hu)<|an (idT hu)<|an (hg ▸ elT hu)<|an (ac_pdone (done_of (c:=c) h.rs))<|an (hg ▸ elT hu)<|an (setT u.th n (doneT t))<|an h.o1 trivial) (by kernel_rfl) hL
end
end
section
open Go.ChangeShapes Go.WideShapes Go.ChangeAt Go.RowKit
theorem slo_equal (a b:Slo) (w:World):(Op.equal 76 (.agg #[.int .i64 a.st,.int .i64 a.vl]) (.agg #[.int .i64 b.st,.int .i64 b.vl])).run Tryz.prog w = .ok (decide (a=b)) w:=by
 have hu:=Tryz.underlying76
 have h3:=Tryz.underlying3
 have hp:Tryz.prog.stoodInHeld 76=false:=by kernel_rfl
 have hc:Tryz.prog.info? 3=_:=rfl
 have e:decide (a=b)=(a.st==b.st&&a.vl==b.vl):=by
  rw [Bool.eq_iff_iff];cases a;cases b;simp
 rw [e]
 unfold Op.equal Op.maxDepth
 rw [run_equalIn_struct w 9999 _ _ _ (by unfold Program.fieldsOf;rw [hu]) hp]
 unfold Program.fieldsOf
 rw [hu]
 cases h:(a.st==b.st) <;> cases h2:(a.vl==b.vl)
 all_goals simp [Op.eqFields,part,isAgg,run_underlying h3,run_equalIn_int _ _ _ _ _ _ _ h3,h,h2]
theorem slo_neq (a b:Slo) (w:World):(binOp .neq 76 (.agg #[.int .i64 a.st,.int .i64 a.vl]) (.agg #[.int .i64 b.st,.int .i64 b.vl])).run Tryz.prog w = .ok (.bool (!decide (a=b))) w:=by
 have h:=slo_equal a b w
 have hu:=Tryz.underlying76
 simp [binOp,h,run_underlying hu,Result.andThen]
end
section
open Go.RowKit
theorem ask_th (t:Th) (x y:Operand):AskP Tryz.prog (.binOp .neq 52 x y 52) [thT t,thT t] (.bool false) :=
 ask_bin (fun x y W=>(guard_agg (by kernel_rfl) x y _ _ W).1) (fun W=>by simpa using th_neq t t W) x y
theorem ask_en (t:En) (x y:Operand):AskP Tryz.prog (.binOp .neq 78 x y 78) [enT t,enT t] (.bool false) :=
 ask_bin (fun x y W=>(guard_agg (by kernel_rfl) x y _ _ W).1) (fun W=>by simpa using en_neq t t W) x y
theorem ask_cf (c:Cf) (x y:Operand):AskP Tryz.prog (.binOp .eql 23 x y 23) [cfT c,cfT c] (.bool true) :=
 ask_bin (fun x y W=>(guard_agg (by kernel_rfl) x y _ _ W).2) (fun W=>by simpa using cf_eql c c W) x y
theorem ask_wd (h t m:Int) (x y:Operand):AskP Tryz.prog (.binOp .eql 25 x y 25) [wdT h t m,wdT h t m] (.bool true) :=
 ask_bin (fun x y W=>(guard_agg (by kernel_rfl) x y _ _ W).2) (fun W=>by simpa using wo_eql ⟨h,t,m⟩ ⟨h,t,m⟩ W) x y
def hdTh (l:List Th) (i:Int):Sg:=⟨mkT 26 [(0,rowT l),(1,rowT l),(5,.int .i64 i)],[]⟩
def hdEn (l:List En) (i:Int):Sg:=⟨mkT 26 [(0,rowE l),(1,rowE l),(5,.int .i64 i)],[]⟩
def gle (l:List En) (i:Nat):En:=l.getD i ⟨0,0,0,0,0⟩
theorem ixEn {l:List En} {i:Nat} (h:i<l.length):IxP ((l.map enT).toArray) (i:Int) (enT (gle l i)):=⟨by omega,by simp [gle,h]⟩
theorem th_lp (l:List Th) (hm:l.length≤1000000):∀ (k i:Nat),l.length - i=k→i≤l.length→LoopP Tryz.prog (loopOf Tryz.prog 33 0) (hdTh l i) (.exit 0) (hdTh l l.length)
 | 0,i,hk,hi=>by
  have:i=l.length:=by omega
  subst this
  exact loop_end mixed (fuel:=9) (n:=3) (im:=[]) (keep:=[0,1,5]) (ext:=[]) (orc:=[.bool false]) (an (show decide ((l.length:Int)<l.length)=false by simp) trivial) (by intro e;cases e) (by kernel_rfl)
 | k+1,i,hk,hi=>by
  have ih:=th_lp l hm k (i+1) (by omega) (by omega)
  rw [show ((i+1:Nat):Int)=(i:Int)+1 by omega] at ih
  exact loop_more mixed (fuel:=9) (n:=3) (im:=[]) (keep:=[0,1,5]) (ext:=[]) (orc:=[.bool true,thT (gth l i),thT (gth l i),.bool false,.bool false])
   (an (show decide ((i:Int)<l.length)=true by simp;omega)<|an (ixT (l:=l) (n:=i) (by omega))<|an (ixT (l:=l) (n:=i) (by omega))<|an (ask_th (gth l i) (.tmp 20) (.tmp 24))<|an (rfl:false=false)<|an (show In64 ((i:Int)+1) by constructor <;> omega) trivial) (by kernel_rfl) ih
theorem en_lp (l:List En) (hm:l.length≤1000000):∀ (k i:Nat),l.length - i=k→i≤l.length→LoopP Tryz.prog (loopOf Tryz.prog 21 0) (hdEn l i) (.exit 0) (hdEn l l.length)
 | 0,i,hk,hi=>by
  have:i=l.length:=by omega
  subst this
  exact loop_end mixed (fuel:=9) (n:=3) (im:=[]) (keep:=[0,1,5]) (ext:=[]) (orc:=[.bool false]) (an (show decide ((l.length:Int)<l.length)=false by simp) trivial) (by intro e;cases e) (by kernel_rfl)
 | k+1,i,hk,hi=>by
  have ih:=en_lp l hm k (i+1) (by omega) (by omega)
  rw [show ((i+1:Nat):Int)=(i:Int)+1 by omega] at ih
  exact loop_more mixed (fuel:=9) (n:=3) (im:=[]) (keep:=[0,1,5]) (ext:=[]) (orc:=[.bool true,enT (gle l i),enT (gle l i),.bool false,.bool false])
   (an (show decide ((i:Int)<l.length)=true by simp;omega)<|an (ixEn (l:=l) (i:=i) (by omega))<|an (ixEn (l:=l) (i:=i) (by omega))<|an (ask_en (gle l i) (.tmp 20) (.tmp 24))<|an (rfl:false=false)<|an (show In64 ((i:Int)+1) by constructor <;> omega) trivial) (by kernel_rfl) ih
theorem ac_rthreads (l:List Th) (hm:l.length≤1000000):AC Tryz.prog 33 [rowT l,rowT l] (.bool true) :=
 ac_path mixed (ext:=[]) (fuel:=9) (n:=3) (orc:=[.bool false,oL [] [0,1,5] 0 [(0,rowT l),(1,rowT l),(5,.int .i64 l.length)] []])
  (an (show ((l.length:Int) != l.length)=false by simp)<|an (th_lp l hm l.length 0 rfl (by omega)) trivial) (by kernel_rfl)
theorem ac_rlogs (l:List En) (hm:l.length≤1000000):AC Tryz.prog 21 [rowE l,rowE l] (.bool true) :=
 ac_path mixed (ext:=[]) (fuel:=9) (n:=3) (orc:=[.bool false,oL [] [0,1,5] 0 [(0,rowE l),(1,rowE l),(5,.int .i64 l.length)] []])
  (an (show ((l.length:Int) != l.length)=false by simp)<|an (en_lp l hm l.length 0 rfl (by omega)) trivial) (by kernel_rfl)
theorem ask_slv (t:Slo) (x y:Operand):AskP Tryz.prog (.binOp .neq 76 x y 76) [slT t,slT t] (.bool false) :=
 ask_bin (fun x y W=>(guard_agg (by kernel_rfl) x y _ _ W).1) (fun W=>by simpa using slo_neq t t W) x y
def hdRw (r:Value) (n i:Int):Sg:=⟨mkT 26 [(0,r),(1,r),(5,.int .i64 i)],[]⟩
theorem rin_lp (l:List Int) (hm:l.length≤1000000):∀ (k i:Nat),l.length - i=k→i≤l.length→LoopP Tryz.prog (loopOf Tryz.prog 17 0) (hdRw (rowI l) 0 i) (.exit 0) (hdRw (rowI l) 0 l.length)
 | 0,i,hk,hi=>by
  have:i=l.length:=by omega
  subst this
  exact loop_end mixed (fuel:=9) (n:=3) (im:=[]) (keep:=[0,1,5]) (ext:=[]) (orc:=[.bool false]) (an (lt_noV l.length) trivial) (by intro e;cases e) (by kernel_rfl)
 | k+1,i,hk,hi=>by
  have hi' : i<l.length:=by omega
  exact loop_more mixed (fuel:=9) (n:=3) (im:=[]) (keep:=[0,1,5]) (ext:=[]) (orc:=[.bool true,.int .i64 l[i],.int .i64 l[i],.bool false]) (an (lt_yesV hi')<|an (ixV hi')<|an (ixV hi')<|an (show (l[i] != l[i])=false by simp)<|an (show In64 ((i:Int)+1) by constructor <;> omega) trivial) (by kernel_rfl) (rin_lp l hm k (i+1) (by omega) (by omega))
theorem rsl_lp (l:List Slo) (hm:l.length≤1000):∀ (k i:Nat),l.length - i=k→i≤l.length→LoopP Tryz.prog (loopOf Tryz.prog 31 0) (hdRw (rowS l) 0 i) (.exit 0) (hdRw (rowS l) 0 l.length)
 | 0,i,hk,hi=>by
  have:i=l.length:=by omega
  subst this
  exact loop_end mixed (fuel:=9) (n:=3) (im:=[]) (keep:=[0,1,5]) (ext:=[]) (orc:=[.bool false]) (an (lt_noV l.length) trivial) (by intro e;cases e) (by kernel_rfl)
 | k+1,i,hk,hi=>by
  have hi' : i<l.length:=by omega
  exact loop_more mixed (fuel:=9) (n:=3) (im:=[]) (keep:=[0,1,5]) (ext:=[]) (orc:=[.bool true,slT (gs l i),slT (gs l i),.bool false,.bool false]) (an (lt_yesV hi')<|an (ixSv hi')<|an (ixSv hi')<|an (ask_slv (gs l i) (.tmp 20) (.tmp 24))<|an (rfl:false=false)<|an (show In64 ((i:Int)+1) by constructor <;> omega) trivial) (by kernel_rfl) (rsl_lp l hm k (i+1) (by omega) (by omega))
theorem ac_rints (l:List Int) (hm:l.length≤1000000):AC Tryz.prog 17 [rowI l,rowI l] (.bool true) :=
 ac_path mixed (ext:=[]) (fuel:=9) (n:=3) (orc:=[.bool false,oL [] [0,1,5] 0 [(0,rowI l),(1,rowI l),(5,.int .i64 l.length)] []]) (an (show ((l.length:Int) != l.length)=false by simp)<|an (rin_lp l hm l.length 0 rfl (by omega)) trivial) (by kernel_rfl)
theorem ac_rssame (l:List Slo) (hm:l.length≤1000):AC Tryz.prog 31 [rowS l,rowS l] (.bool true) :=
 ac_path mixed (ext:=[]) (fuel:=9) (n:=3) (orc:=[.bool false,oL [] [0,1,5] 0 [(0,rowS l),(1,rowS l),(5,.int .i64 l.length)] []]) (an (show ((l.length:Int) != l.length)=false by simp)<|an (rsl_lp l hm l.length 0 rfl (by omega)) trivial) (by kernel_rfl)
theorem ac_resame (ep:Int) (l:List Int) (hm:l.length≤1000000):AC Tryz.prog 32 [evT ep l,evT ep l] (.bool true):=by
 rw [show (true:Bool)=(ep==ep) by simp]
 exact ac_path mixed (ext:=[17]) (fuel:=9) (n:=3) (orc:=[vD true]) (an (ac_rints l hm) trivial) (by kernel_rfl)
theorem ac_rsame {s:St} (hw:s.few) (hl:s.lg.length≤1000000):AC Tryz.prog 16 [stT s,stT s] (.bool true) :=
 ac_path mixed (ext:=[31,17,32,33,21]) (fuel:=9) (n:=3)
  (orc:=[.bool true,.nilFunc,.bool true,.nilFunc,vD true,vD true,vD true,vD true,vD true,vD true,vD true,.bool true])
  (an (ask_cf s.cf (.tmp 10) (.tmp 12))<|an (ask_wd s.hd s.tl s.md (.tmp 16) (.tmp 18))<|an (ac_rssame s.sl hw.sl)<|an (ac_rints s.sn (by have:=hw.sn;omega))<|an (ac_rints s.rc (by have:=hw.rc;omega))<|an (ac_resame s.fe s.fl (by have:=hw.fl;omega))<|an (ac_resame s.ee s.el (by have:=hw.el;omega)) <|
   an (ac_rthreads s.th (by have:=hw.th;omega))<|an (ac_rlogs s.lg hl)<|an (show (s.nw==s.nw)=true by simp) trivial) (by kernel_rfl)
end
section
open Go.RowKit
theorem ac_croom (c:Cf):AC Tryz.prog 41 [cfT c] (.int .i64 (cfR c)):=by
 intro O W vs hl hat ;obtain ⟨ys,rfl,_,_,rfl,h0,rfl⟩:=args_of hat
 rw [rp_cfT] at h0
 subst h0
 refine (croom_any c.lg c.th c.po c.wt c.sp c.yi c.si W).mono ?_
 rintro e W' ⟨rfl,hk⟩
 exact ⟨_,rfl,rp_int.2 rfl,hk⟩
theorem make_th {n:Int} (h0:0≤n) (h1:n≤1000):MakeP n n (List.replicate n.toNat th0).length ((List.replicate n.toNat th0).map thT) (thT th0):=⟨by simp;omega,by omega,by omega,by simp⟩
theorem ac_pnew {c:Cf} (hc:cfB c=true):AC Tryz.prog 22 [cfT c] (.tuple #[stT (newSt c),.int .i64 0]) :=
 ac_path mixed (ext:=[34,41,40]) (fuel:=9) (n:=4) (orc:=[.int .i64 0,.nilFunc,.int .i64 (cfR c),rowS (newL (cfR c)),rowT (List.replicate c.th.toNat th0)])
  (an (ac_ccheck (c:=c) (r:=0) (by simp [hc]))<|an (ac_croom c)<|an (ac_snew (cfR c) (room_in c))<|an (make_th (n:=c.th) (by have:=cf_th hc;omega) (by have:=cf_th hc;omega))<|an (len_map (f:=thT) (List.replicate c.th.toNat th0)) trivial) (by kernel_rfl)
theorem ac_pinv_1 {s:St} {i k v u:Int} (hA:stB s=false) (ho:s.ok) (hf:s.fit):AC Tryz.prog 77 [stT s,.int .i64 i,.int .i64 k,.int .i64 v,.int .i64 u] (.tuple #[stT s,.int .i64 20]) :=
 ac_path mixed (ext:=[19,129,128,131,130]) (fuel:=9) (n:=5) (orc:=[vD false,rowS s.sl,rowI s.sn,rowI s.rc,rowI s.fl,rowI s.el,rowT s.th,rowE s.lg])
  (an (ac_pcheck hA ho)<|an (ac_copS s.sl hf.sl)<|an (ac_copI s.sn hf.sn)<|an (ac_copI s.rc hf.rc)<|an (ac_copI s.fl hf.fl)<|an (ac_copI s.el hf.el)<|an (ac_copT s.th hf.th)<|an (ac_copE s.lg hf.lg) trivial) (by kernel_rfl)
theorem ac_pinv_2 {s:St} {i k v u E:Int} (hA:stB s=true) (hE:opMay s.cf.th s.cf.si i k=E) (hE0:E≠0) (ho:s.ok) (hf:s.fit):AC Tryz.prog 77 [stT s,.int .i64 i,.int .i64 k,.int .i64 v,.int .i64 u] (.tuple #[stT s,.int .i64 E]) :=
 ac_path mixed (ext:=[19,129,128,131,130,132]) (fuel:=9) (n:=5) (orc:=[vD true,.int .i64 E,.bool true,rowS s.sl,rowI s.sn,rowI s.rc,rowI s.fl,rowI s.el,rowT s.th,rowE s.lg])
  (an (ac_pcheck hA ho)<|an (ac_omay hE)<|an (show (E != 0)=true by simpa using hE0)<|an (ac_copS s.sl hf.sl)<|an (ac_copI s.sn hf.sn)<|an (ac_copI s.rc hf.rc)<|an (ac_copI s.fl hf.fl)<|an (ac_copI s.el hf.el)<|an (ac_copT s.th hf.th)<|an (ac_copE s.lg hf.lg) trivial) (by kernel_rfl)
theorem ac_pinv_3 {s:St} {n:Nat} {k v u E:Int} {t:Th} (hA:stB s=true) (hM:opMay s.cf.th s.cf.si n k=0) (hT:thBeg (gth s.th n) k v u E t) (hn:n<s.th.length) (ho:s.ok) (hf:s.fit) :
  AC Tryz.prog 77 [stT s,.int .i64 n,.int .i64 k,.int .i64 v,.int .i64 u] (.tuple #[stT (s.setTh n t),.int .i64 E]) :=
 ac_path mixed (ext:=[19,129,128,131,132,133]) (fuel:=9) (n:=5)
  (orc:=[vD true,.int .i64 0,.nilFunc,thT (gth s.th n),.tuple #[thT t,.int .i64 E],rowS s.sl,rowI s.sn,rowI s.rc,rowI s.fl,rowI s.el,rowT s.th,rowE s.lg,thT (gth s.th n),rowT (s.th.set n t)])
  (an (ac_pcheck hA ho)<|an (ac_omay hM)<|an (ixT hn)<|an (ac_tbeg hT)<|an (ac_copS s.sl hf.sl)<|an (ac_copI s.sn hf.sn)<|an (ac_copI s.rc hf.rc)<|an (ac_copI s.fl hf.fl)<|an (ac_copI s.el hf.el)<|an (allK_T s.th)<|an (app_nil (f:=thT) (lt_ne hn) hf.th) <|
   an (ac_copE s.lg hf.lg)<|an (idT hn)<|an (elT hn)<|an (setT s.th n t)<|an (show LenP s.th.length (s.th.set n t).length ((s.th.set n t).map thT) from ⟨by simp,by simp⟩) trivial) (by kernel_rfl)
theorem ac_pinvoke {s:St} {i k v u E:Int} {r:St} (h:stBeg s i k v u E r) (ho:s.ok) (hf:s.fit):AC Tryz.prog 77 [stT s,.int .i64 i,.int .i64 k,.int .i64 v,.int .i64 u] (.tuple #[stT r,.int .i64 E]):=by
 rcases h with ⟨hA,rfl,rfl⟩ | ⟨hA,h0,rfl,rfl⟩ | ⟨hA,h0,n,t,rfl,hn,hT,rfl⟩
 ·exact ac_pinv_1 hA ho hf
 ·exact ac_pinv_2 hA rfl h0 ho hf
 ·exact ac_pinv_3 hA h0 hT hn ho hf
section
variable {s:St} {r:Int} {n:Nat}
end
end
section
open Go.ChangeShapes Go.WideShapes Go.ChangeAt Go.RowKit
theorem runs1 {st:Int} (h0:st≠0) (h2:st≠2):thRuns st=0:=by unfold thRuns;rw [if_neg h0,if_neg h2]
end
section
open Go.ChangeShapes Go.WideShapes Go.ChangeAt Go.RowKit
end
section
open Go.ChangeShapes Go.WideShapes Go.ChangeAt Go.RowKit
theorem beg_ok_t {t:Th} {k v u:Int} (h:t.st=0) (h1:opB k=true) (h2:opTimed k=true) (h3:0≤u∧u≤1099511627776):thBeg t k v u 0 ⟨1,k,v,u,0,0,0,0,false,0,0⟩:=.inr (.inr (.inr (.inr ⟨h,h1,h2,h3,rfl,rfl⟩)))
end
section
open Go.RowKit
end
section
open Go.RowKit
theorem nil_no {s:St} (h:s.th=[]):stB s=false:=by
 cases hB:stB s
 ·rfl
 ·have:=(th_len hB).2.1;rw [h] at this;simp at this
theorem sendK_no {s:St} {i:Int} (h:stB s=false) (k:Nat):sendK s i k=(s,0):=by
 cases k with
 | zero=>rfl
 | succ k=>simp [sendK,runsB,hasB,h]
theorem ac_psteps_nil {s:St} {i m:Int} (h:s.th=[]) (ho:s.ok) (hf:s.fit):AC Tryz.prog 194 [stT s,.int .i64 i,.int .i64 m] (.tuple #[stT s,.int .i64 0]):=by
 cases hm:decide ((0:Int)<min m 1000)
 ·exact ac_path mixed (ext:=[42,19]) (fuel:=9) (n:=5) (orc:=[stT s,.bool false]) (an (ac_keep (neg_no s) ho hf)<|an hm trivial) (by kernel_rfl)
 ·exact ac_path mixed (ext:=[42,19]) (fuel:=9) (n:=5) (orc:=[stT s,.bool true,vD false]) (an (ac_keep (neg_no s) ho hf)<|an hm<|an (ac_pcheck (nil_no h) ho) trivial) (by kernel_rfl)
theorem ac_pst {s:St} {i m:Int} (ho:s.ok) (hf:s.fit) (hl:s.lg.length≤800000):AC Tryz.prog 194 [stT s,.int .i64 i,.int .i64 m] (.tuple #[stT (sendK s i (min m 1000).toNat).1,.int .i64 (sendK s i (min m 1000).toNat).2]):=by
 by_cases h:s.th=[]
 ·rw [sendK_no (nil_no h)];exact ac_psteps_nil h ho hf
 ·exact ac_psteps ho hf h hl
theorem sendK_1 (s:St) (i:Int):(sendK s i 1).1=sendS s i:=by
 cases h:runsB s i 1 <;> simp [sendK,h,sendS]
theorem ac_pstep {s:St} {i:Int} (ho:s.ok) (hf:s.fit) (hl:s.lg.length≤800000):AC Tryz.prog 182 [stT s,.int .i64 i] (stT (sendS s i)):=by
 rw [← sendK_1]
 exact ac_path mixed (ext:=[194]) (fuel:=9) (n:=3) (orc:=[.tuple #[stT (sendK s i 1).1,.int .i64 (sendK s i 1).2]]) (an (ac_pst (i:=i) (m:=1) ho hf hl) trivial) (by kernel_rfl)
def fewB (s:St):Bool:=decide ((s.sl.length:Int)≤100)&&(decide ((s.th.length:Int)≤100)&&(decide ((s.sn.length:Int)≤100)&&(decide ((s.rc.length:Int)≤100)&&(decide ((s.fl.length:Int)≤100)&&(decide ((s.el.length:Int)≤100)&&decide ((s.lg.length:Int)≤200))))))
theorem ac_rfew (s:St):AC Tryz.prog 9 [stT s] (.bool (fewB s)):=by
 unfold fewB
 cases h1:decide ((s.sl.length:Int)≤100)
 ·exact ac_path mixed (ext:=[]) (fuel:=9) (n:=3) (orc:=[.bool false]) (an h1 trivial) (by kernel_rfl)
 cases h2:decide ((s.th.length:Int)≤100)
 ·exact ac_path mixed (ext:=[]) (fuel:=9) (n:=3) (orc:=[.bool true,.bool false]) (an h1<|an h2 trivial) (by kernel_rfl)
 cases h3:decide ((s.sn.length:Int)≤100)
 ·exact ac_path mixed (ext:=[]) (fuel:=9) (n:=3) (orc:=[.bool true,.bool true,.bool false]) (an h1<|an h2<|an h3 trivial) (by kernel_rfl)
 cases h4:decide ((s.rc.length:Int)≤100)
 ·exact ac_path mixed (ext:=[]) (fuel:=9) (n:=3) (orc:=[.bool true,.bool true,.bool true,.bool false]) (an h1<|an h2<|an h3<|an h4 trivial) (by kernel_rfl)
 cases h5:decide ((s.fl.length:Int)≤100)
 ·exact ac_path mixed (ext:=[]) (fuel:=9) (n:=3) (orc:=[.bool true,.bool true,.bool true,.bool true,.bool false]) (an h1<|an h2<|an h3<|an h4<|an h5 trivial) (by kernel_rfl)
 cases h6:decide ((s.el.length:Int)≤100)
 ·exact ac_path mixed (ext:=[]) (fuel:=9) (n:=3) (orc:=[.bool true,.bool true,.bool true,.bool true,.bool true,.bool false]) (an h1<|an h2<|an h3<|an h4<|an h5<|an h6 trivial) (by kernel_rfl)
 exact ac_path mixed (ext:=[]) (fuel:=9) (n:=3) (orc:=[.bool true,.bool true,.bool true,.bool true,.bool true,.bool true]) (an h1<|an h2<|an h3<|an h4<|an h5<|an h6 trivial) (by kernel_rfl)
theorem few_is {s:St} (h:fewB s=true):s.few∧s.fit∧s.lg.length≤200:=by
 simp only [fewB,Bool.and_eq_true,decide_eq_true_eq] at h
 obtain ⟨h1,h2,h3,h4,h5,h6,h7⟩:=h
 exact ⟨⟨by omega,by omega,by omega,by omega,by omega,by omega,by omega⟩,⟨by omega,by omega,by omega,by omega,by omega,by omega,by omega⟩,by omega⟩
theorem law_of {g:FuncId} {args:List Value} {vs:Array Value} {W:World} (h:AC Tryz.prog g args (.bool true)) (hv:AtAll (Rp nowhere (fun _=>False) W) args.toArray vs):Calls Tryz.prog g vs W fun e W' => e = .returned (.bool true)∧Kept W W' := calls_of h hv
end
section
open Go.RowKit
theorem closeK_le3 (s:St) (i:Int) (k:Nat):(closeK s i k).2≤3:=by
 cases hr:runsB s i 3
 ·rw [closeK_off hr];show 0≤3;omega
 ·obtain ⟨hh,-⟩:=runs_iff.1 hr
  obtain ⟨-,h0,-⟩:=has_iff.1 hh
  obtain ⟨n,rfl⟩:∃ n:Nat,i=n:=⟨i.toNat,by omega⟩
  exact closeK_three k
theorem closeK_no {s:St} {i:Int} (h:stB s=false) (k:Nat):closeK s i k=(s,0):=closeK_off (by simp [runsB,hasB,h]) k
theorem closeK_1 (s:St) (i:Int):(closeK s i 1).1=closeS s i:=by
 cases h:runsB s i 3
 ·rw [closeK_off h];simp [closeS,h]
 ·rw [closeK_on h];rfl
theorem closeK_wk {N:Nat} (i:Int):∀ (k:Nat) {s:St},Wk s N→Wk (closeK s i k).1 (N+k)
 | 0,s,h=>h
 | k+1,s,h=>by
  cases hr:runsB s i 3
  ·rw [closeK_off hr];exact ⟨h.b,h.v,by have:=h.l;show s.lg.length≤_;omega⟩
  ·obtain ⟨hh,h1,-⟩:=runs_iff.1 hr
   obtain ⟨-,h0,h3⟩:=has_iff.1 hh
   rw [closeK_on hr,closeS_is hr]
   have:=closeK_wk i k (closeN_wk h (n:=i.toNat) (by omega) (by omega))
   exact ⟨this.b,this.v,by have:=this.l;show (closeK (closeN s i.toNat) i k).1.lg.length≤_;omega⟩
theorem closeS_wk {N:Nat} {s:St} (h:Wk s N) (i:Int):Wk (closeS s i) (N+1):=closeK_1 s i ▸ closeK_wk i 1 h
section
variable {s:St} {n:Nat} {m o:Int} {x:Exit} {S:Sg}
theorem cgp_to {u v:St} {N:Nat} (h:GotoP Tryz.prog 0 (gotoOf Tryz.prog 196) (hdC u n m o u.th.length) x S) (e:v=u) (hN:N=u.th.length):GotoP Tryz.prog 0 (gotoOf Tryz.prog 196) (hdC v n m o N) x S:=by subst e hN;exact h
theorem cl_step (lt:decide (m≤o)=false) (w:Wk s 999999) (hn:n<s.th.length) (h1:(gth s.th n).st=1) (h2:opSide (gth s.th n).ki=3) (o1:In64 (o+1)) (hL:GotoP Tryz.prog 0 (gotoOf Tryz.prog 196) (hdC (closeN s n) n m (o+1) (closeN s n).th.length) x S):GotoP Tryz.prog 0 (gotoOf Tryz.prog 196) (hdC s n m o s.th.length) x S:=by
 have hv:∀ {c:Int},(gth s.th n).pc=c→Cv s n (gth s.th n) c m o:=fun hc=>⟨lt,w,hn,by rw [← hc];rfl,h1,h2,o1⟩
 have hk9:(gth s.th n).ki≠9:=fun e=>by rw [e] at h2;exact absurd h2 (by decide)
 have ne2:(gth s.th n).st≠2:=by omega
 by_cases p0:(gth s.th n).pc=0
 ·rw [closeN_0 p0] at hL
  have e:shutC s n=(S0 s n (gth s.th n) (clM s.md (modeI (gth s.th n).ki))).setTh n (pcT (rgT (gth s.th n) 1 0) 1):=told_is (s:=s.toWord s.hd s.tl (clM s.md (modeI (gth s.th n).ki))) (c:=0) (shut_word w.b _) hn hk9
  refine cv_shut (hv p0) (cgp_to hL e.symm ?_)
  rw [e];exact len_set
 ·by_cases p1:(gth s.th n).pc=1
  ·rw [closeN_1 p1,fullC_is w.b] at hL
   have hw:=wk_full w hn (by omega)
   have hw0:Wk (s.toFull (nxE s.fe) []) 1000000:=by
    obtain ⟨e1,e2,-⟩:=nt_all (full_lines w.b).2.2.2.2.1
    have:=full_off w.b
    rw [e1,e2] at this
    exact ⟨this,⟨w.v.cf,w.v.sl,w.v.th⟩,by have:=w.l;show s.lg.length≤_;omega⟩
   have hl:=line_le (full_lines w.b).2.2.1
   have eo:=wakes_on (f:=(pcT · 2)) s.fl (u:=s.toFull (nxE s.fe) []) hw0.b hw.b hn ne2 ne2
   have hg:=wakes_same s.fl (u:=s.toFull (nxE s.fe) []) hw0.b hn ne2
   have hg' : gth (s.toFull (nxE s.fe) []).th n=gth s.th n:=rfl
   rw [hg'] at hg
   have hlen:(wakesS s.fl (s.toFull (nxE s.fe) [])).th.length=s.th.length:=(wakes_rest _ _).2.2.2
   refine cv_full (u:=wakesS s.fl (s.toFull (nxE s.fe) [])) (hv p1) (ac_pnotifyAll (full_lines w.b).2.2.2.2.1) (wkc_all (by omega) n hw0) (by rw [hlen];exact hn) (by rw [hg,← p1];rfl) (cgp_to hL ?_ ?_)
   ·rw [eo];unfold St.onTh;rw [hg]
   ·rw [eo];exact len1
  ·rw [closeN_2 p0 p1,emptyC_is w.b] at hL
   have hw:=wk_empty w hn (by omega)
   have hw0:Wk (s.toEmpty (nxE s.ee) []) 1000000:=by
    obtain ⟨e1,e2,-⟩:=nt_all (full_lines w.b).2.2.2.2.2
    have:=empty_off w.b
    rw [e1,e2] at this
    exact ⟨this,⟨w.v.cf,w.v.sl,w.v.th⟩,by have:=w.l;show s.lg.length≤_;omega⟩
   have hl:=line_le (full_lines w.b).2.2.2.1
   have eo:=wakes_on (f:=doneT) s.el (u:=s.toEmpty (nxE s.ee) []) hw0.b hw.b hn ne2 (show (0:Int)≠2 by decide)
   have hg:=wakes_same s.el (u:=s.toEmpty (nxE s.ee) []) hw0.b hn ne2
   have hg' : gth (s.toEmpty (nxE s.ee) []).th n=gth s.th n:=rfl
   rw [hg'] at hg
   have hlen:(wakesS s.el (s.toEmpty (nxE s.ee) [])).th.length=s.th.length:=(wakes_rest _ _).2.2.2
   refine cv_empty (u:=wakesS s.el (s.toEmpty (nxE s.ee) [])) (hv rfl) (bne_of p0) (bne_of p1) (ac_pnotifyAll (full_lines w.b).2.2.2.2.2) (wkc_all (by omega) n hw0) (by rw [hlen];exact hn) hg (cgp_to hL ?_ ?_)
   ·rw [eo];unfold St.onTh;rw [hg]
   ·rw [eo];exact len1
end
theorem cl_lp {i m:Int}:∀ (j:Nat) {s:St} {o:Int},s.ok→s.lg.length+j≤900000→0≤o→o+j≤1000000→(closeK s i (m - o).toNat).2≤j→GotoP Tryz.prog 0 (gotoOf Tryz.prog 196) (hdC s i m o s.th.length) .ret (enC (closeK s i (m - o).toNat).1 (o+(closeK s i (m - o).toNat).2) (closeK s i (m - o).toNat).1.th.length):=by
 have stop:∀ {s:St} {o:Int},GotoP Tryz.prog 0 (gotoOf Tryz.prog 196) (hdC s i m o s.th.length) .ret (enC s o s.th.length)→GotoP Tryz.prog 0 (gotoOf Tryz.prog 196) (hdC s i m o s.th.length) .ret (enC s (o+((0:Nat):Int)) s.th.length):=fun h=>by simpa using h
 intro j
 induction j with
 | zero =>
  intro s o ho hl h0 h2 hk
  cases hr:runsB s i 3
  ·rw [closeK_off hr];exact stop (ce_not ho hr)
  ·by_cases hm:m≤o
   ·rw [show (m - o).toNat=0 by omega];exact stop (ce_many (by simp [hm]))
   ·rw [show (m - o).toNat=(m - o - 1).toNat+1 by omega,closeK_on hr] at hk
    exact absurd hk (by show ¬ _+1≤0;omega)
 | succ j ih =>
  intro s o ho hl h0 h2 hk
  cases hr:runsB s i 3
  ·rw [closeK_off hr];exact stop (ce_not ho hr)
  ·by_cases hm:m≤o
   ·rw [show (m - o).toNat=0 by omega];exact stop (ce_many (by simp [hm]))
   ·have ek:(m - o).toNat=(m - (o+1)).toNat+1:=by omega
    rw [ek,closeK_on hr] at hk
    rw [ek,closeK_on hr]
    obtain ⟨hh,h3,h4⟩:=runs_iff.1 hr
    obtain ⟨hB,h5,h6⟩:=has_iff.1 hh
    rw [closeS_is hr] at hk ⊢
    obtain ⟨n,rfl⟩:∃ n:Nat,i=n:=⟨i.toNat,by omega⟩
    rw [Int.toNat_natCast] at h3 h4 hk ⊢
    have hn:n<s.th.length:=by omega
    have w:Wk s s.lg.length:=⟨hB,.of ho,Nat.le_refl _⟩
    have w1:=closeN_wk w hn (by omega)
    have hk' : (closeK (closeN s n) n (m - (o+1)).toNat).2+1≤j+1:=hk
    have:=ih (s:=closeN s n) (o:=o+1) (w1.ok (by omega)) (by have:=w1.l;omega) (by omega) (by omega) (by omega)
    refine cl_step (by simp;omega) ⟨hB,.of ho,by omega⟩ hn h3 h4 (by constructor <;> omega) ?_
    show GotoP _ _ _ _ _ (enC (closeK (closeN s n) n (m - (o+1)).toNat).1 (o+(((closeK (closeN s n) n (m - (o+1)).toNat).2+1:Nat):Int)) _)
    rw [show o+(((closeK (closeN s n) n (m - (o+1)).toNat).2+1:Nat):Int)=o+1+((closeK (closeN s n) n (m - (o+1)).toNat).2:Int) by omega]
    exact this
section
variable {s u:St} {i m o:Int}
theorem ac_csteps0 (hL:GotoP Tryz.prog 0 (gotoOf Tryz.prog 196) (hdC s i m 0 s.th.length) .ret (enC u o u.th.length)) (ho:s.ok) (hf:s.fit) (ht:s.th≠[]):AC Tryz.prog 196 [stT s,.int .i64 i,.int .i64 m] (.tuple #[stT u,.int .i64 o]) :=
 ac_path mixed (ext:=[42]) (fuel:=9) (n:=9) (orc:=[.iface 1000004 (.func (.yield 18) #[.agg (stL s),.int .i64 11] #[]),oL [5,4,1,6] [2,6,8,9,10] (-1) [(6,pt 0),(7,.int .i64 o)] [bEc u u.th.length,bT u.th u.th.length]])
  (an (ao_keep (neg_no s) ho hf ht)<|an hL<|an (len_map (f:=thT) u.th) trivial) (by kernel_rfl)
def hdCn (s:St) (i m:Int):Sg:=⟨mkT 35 [(2,.int .i64 m),(6,pt 1),(8,pt 0),(9,.func (.func 247) #[] #[pt 2]),(10,.int .i64 0)],[some ⟨true,false,21,1,[.agg ((stL s).toList++[Value.int .i64 i]).toArray]⟩,bZ,bBc 0]⟩
def enCn (s:St):Sg:=⟨mkT 35 [(6,pt 0),(7,.int .i64 0)],[bS s]⟩
theorem ac_csteps_nil (h:s.th=[]) (ho:s.ok) (hf:s.fit):AC Tryz.prog 196 [stT s,.int .i64 i,.int .i64 m] (.tuple #[stT s,.int .i64 0]):=by
 have hL:GotoP Tryz.prog 0 (gotoOf Tryz.prog 196) (hdCn s i m) .ret (enCn s):=by
  cases hm:decide (m≤0)
  ·exact goto_end mixed (fuel:=9) (n:=9) (im:=[1]) (keep:=[6,7]) (ext:=cPX) (orc:=[.bool false,vD false]) (an hm<|an (ac_pcheck (nil_no h) ho) trivial) (by intro l e;cases e) (by kernel_rfl)
  ·exact goto_end mixed (fuel:=9) (n:=9) (im:=[1]) (keep:=[6,7]) (ext:=cPX) (orc:=[.bool true]) (an hm trivial) (by intro l e;cases e) (by kernel_rfl)
 exact ac_path mixed (ext:=[42]) (fuel:=9) (n:=9) (orc:=[stT s,oL [4,1,5] [2,6,8,9,10] (-1) [(6,pt 0),(7,.int .i64 0)] [bS s]]) (an (ac_keep (neg_no s) ho hf)<|an hL trivial) (by kernel_rfl)
theorem ac_cst (ho:s.ok) (hf:s.fit) (hl:s.lg.length≤800000):AC Tryz.prog 196 [stT s,.int .i64 i,.int .i64 m] (.tuple #[stT (closeK s i m.toNat).1,.int .i64 (closeK s i m.toNat).2]):=by
 by_cases h:s.th=[]
 ·rw [closeK_no (nil_no h)];exact ac_csteps_nil h ho hf
 ·have:=cl_lp (i:=i) (m:=m) 3 (s:=s) (o:=0) ho (by omega) (by omega) (by omega) (closeK_le3 _ _ _)
  rw [show m - 0=m by omega,Int.zero_add] at this
  exact ac_csteps0 this ho hf h
theorem ac_cstep (ho:s.ok) (hf:s.fit) (hl:s.lg.length≤800000):AC Tryz.prog 184 [stT s,.int .i64 i] (stT (closeS s i)):=by
 rw [← closeK_1]
 exact ac_path mixed (ext:=[196]) (fuel:=9) (n:=3) (orc:=[.tuple #[stT (closeK s i 1).1,.int .i64 (closeK s i 1).2]]) (an (ac_cst (i:=i) (m:=1) ho hf hl) trivial) (by kernel_rfl)
end
end
section
open Go.RowKit
theorem ask_bb {a b:Bool} (h:a=b) (x y:Operand):AskP Tryz.prog (.binOp .eql 4 x y 4) [.bool a,.bool b] (.bool true):=by
 intro W o f ho hm
 obtain ⟨h1,h2⟩:=two_is hm
 subst h
 have hu:Tryz.prog.underlying 4=some .bool:=by kernel_rfl
 have:(binOp .eql 4 (.bool a) (.bool a)).run Tryz.prog W = .ok (.bool true) W:=by
  have h:=run_equalIn_bool' (P:=Tryz.prog) W 9999 4 a a hu
  have h' : (Op.equal 4 (.bool a) (.bool a)).run Tryz.prog W = .ok true W:=by
   unfold Op.equal Op.maxDepth
   rw [h];simp
  simp [binOp,h']
 simp [execOp,ho,h1,h2,eqGuard,this]
section
variable {s u v:St} {i m pc:Int} {k:Nat}
end
end
end Go.Proofs.YtbckpadeamlidaaGreat
