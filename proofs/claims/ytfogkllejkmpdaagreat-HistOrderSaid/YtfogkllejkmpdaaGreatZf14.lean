/- Texts merged: HiFT, HiPT, HiQT, HyFT, HyAT, DueGT, DueHT, DueIT, DueJT, DueKT, DueNT, DueMT, DuePT. -/
import Derived.Test.YtfogkllejkmpdaaGreatZf13
import Derived.Test.YtfogkllejkmpdaaGreatZf12
import Derived.Test.YtfogkllejkmpdaaGreatZf6
import Derived.Test.YtfogkllejkmpdaaGreatZf4
import Derived.Deep.RegionHeld3
import Derived.MapKept
import Derived.Lib.Hide
import Derived.BigRegion
import Derived.Deep.RegionLaw
import Derived.Maps.RangeRun
import Derived.ChangeMaps4
namespace Go.Proofs.YtfogkllejkmpdaaGreat
set_option linter.unusedVariables false
set_option linter.unusedSimpArgs false
set_option maxRecDepth 100000
section
structure Op where
 th:Int
 ki:Int
 va:Int
 be:Int
 en:Int
 re:Int
 go:Int
def V9 (s:St) (l:List Int):Bool:=(D5 s l).2==0&&(decide (1≤l.getD 0 0)&&decide (l.getD 0 0≤8))
def Y8 (s:St) (j:Int) (l:List Int):Bool:=(D5 s l).2==0&&(l.getD 0 0==10&&(l.getD 1 0==j&&(gth (D5 s l).1.th j.toNat).st==0))
def jd (j:Int):St→Nat→List (List Int)→Option (Nat×Th)
 | _,_,[]=>none
 | s,k,l::r=>if Y8 s j l=true then some (k,gth (D5 s l).1.th j.toNat) else jd j (D5 s l).1 (k+1) r
def bA (x:Ca) (i:Nat):Option (Nat×Th)→Op
 | none=>⟨x.th,x.ki,x.va,i,-1,0,0⟩
 | some (e,t)=>⟨x.th,x.ki,x.va,i,e,t.rs,t.go⟩
def lX:St→Nat→List (List Int)→List Op
 | _,_,[]=>[]
 | s,i,l::r=>(if V9 s l=true then [bA (D6 l) i (jd (D6 l).th (D5 s l).1 (i+1) r)] else [])++lX (D5 s l).1 (i+1) r
def Z6:St→Nat→List (List Int)→List (Nat×En)
 | _,_,[]=>[]
 | s,i,l::r=>((D5 s l).1.lg.drop s.lg.length).map (fun e=>(i,e))++Z6 (D5 s l).1 (i+1) r
def a2D (s r:St) (j:Nat) (l:List Int):Prop :=
 -- not its own
 (((gth r.th j).st=0↔(gth s.th j).st=0)∧(gth r.th j).ki=(gth s.th j).ki∧(gth r.th j).va=(gth s.th j).va∧(gth r.th j).pc=(gth s.th j).pc∧(gth r.th j).rs=(gth s.th j).rs∧(gth r.th j).go=(gth s.th j).go ∧
  (∀ e∈r.lg.drop s.lg.length,e.th≠(j:Int))∧(V9 s l=true→(D6 l).th≠(j:Int))∧Y8 s j l=false) ∨
 -- something is begun
 ((gth s.th j).st=0∧(gth r.th j).st≠0∧(gth r.th j).ki=(D6 l).ki∧(gth r.th j).va=(D6 l).va∧O5 (gth r.th j)=false∧r.lg=s.lg∧V9 s l=true∧(D6 l).th=(j:Int)∧Y8 s j l=false) ∨
 -- it steps
 (StT j s.lg r.lg (gth s.th j) (gth r.th j)∧V9 s l=false∧(Y8 s j l=true↔(gth r.th j).st=0))
theorem Bt {s:St} {l:List Int} (h:(D5 s l).2=0):deE l=0∧(D5 s l)=doF s (D6 l)∧l.getD 0 0=(D6 l).ki∧l.getD 1 0=(D6 l).th:=by
 unfold D5 at h ⊢
 split
 ·next e =>
  have:=(uN e).2.1
  exact ⟨e,by rw [this],rfl,rfl⟩
 ·next e=>rw [if_neg e] at h;exact absurd h e
theorem bJ {α:Type} (l:List α):l.drop l.length=[]:=by simp
theorem Mw {s:St} {j:Nat} {l:List Int} (h:(D5 s l).2≠0):a2D s (D5 s l).1 j l:=by
 have e:=Ho h
 refine .inl ⟨by rw [e],by rw [e],by rw [e],by rw [e],by rw [e],by rw [e],?_,?_,?_⟩
 ·rw [e,bJ];intro x hx;cases hx
 ·intro hb;simp only [V9,Bool.and_eq_true,beq_iff_eq] at hb;exact absurd hb.1 h
 ·unfold Y8;rw [beq_false_of_ne h];rfl
theorem wP {s:St} (h:Inv s) {j:Nat} (hj:j<s.th.length) (l:List Int):a2D s (D5 s l).1 j l:=by
 by_cases h0:(D5 s l).2=0
 ·obtain ⟨hd,he,k0,k1⟩:=Bt h0
  have hdo:=bB s (D6 l)
  rw [← he,h0] at hdo
  have hb:V9 s l=(decide (1≤(D6 l).ki)&&decide ((D6 l).ki≤8)):=by unfold V9;rw [h0,k0];rfl
  have hE:Y8 s j l=((D6 l).ki==10&&((D6 l).th==(j:Int)&&(gth (D5 s l).1.th j).st==0)):=by unfold Y8;rw [h0,k0,k1,Int.toNat_natCast];rfl
  generalize hr:(D5 s l).1=r at hdo hE ⊢
  have hca:caE (D6 l)=0:=by rw [← (uN hd).2.1];exact (uN hd).2.2.2
  have hki:=yw.1 hca
  rcases hdo with ⟨hne,-,-⟩ | ⟨-,ki,hp,rfl⟩ | ⟨-,ki,hp,rfl⟩ | ⟨-,k10,k11,hbg⟩
  ·exact absurd hca hne
  ·obtain ⟨n,en,-,hn,hst⟩:=jE.1 hp.symm
   rw [xh hp.symm,en] at hE ⊢
   have hb0:V9 s l=false:=by rw [hb];simp;omega
   by_cases e:j=n
   ·subst e
    refine .inr (.inr ⟨BV hn hst h,hb0,?_⟩)
    rw [hE,ki];simp
   ·have o:OthM s.th (aQ s n).th n:=SC s n
    have stt:=BV hn hst h
    have hg:((gth (aQ s n).th j).st=0↔(gth s.th j).st=0)∧(gth (aQ s n).th j).ki=(gth s.th j).ki∧(gth (aQ s n).th j).va=(gth s.th j).va∧(gth (aQ s n).th j).pc=(gth s.th j).pc∧(gth (aQ s n).th j).rs=(gth s.th j).rs∧(gth (aQ s n).th j).go=(gth s.th j).go:=by
     rcases mG o hj e with k | ⟨k2,k⟩
     ·rw [k];exact ⟨Iff.rfl,rfl,rfl,rfl,rfl,rfl⟩
     ·rw [k,fV k2];exact ⟨⟨fun x=>absurd x (by show (1:Int)≠0;decide),fun x=>by omega⟩,rfl,rfl,rfl,rfl,rfl⟩
    obtain ⟨g1,g2,g3,g4,g5,g6⟩:=hg
    refine .inl ⟨g1,g2,g3,g4,g5,g6,?_,fun x=>absurd (hb0.symm.trans x) (by decide),?_⟩
    ·rcases stt.2.2 with ⟨k,-⟩ | ⟨k,-⟩ | ⟨⟨g,k⟩,-⟩ | ⟨k,-⟩
     ·rw [k,bJ];intro x hx;cases hx
     ·rw [k,bJ];intro x hx;cases hx
     ·rw [k,List.drop_left];intro x hx;rw [List.mem_singleton] at hx;subst hx;show (n:Int)≠j;omega
     ·rw [k,List.drop_left];intro x hx;rw [List.mem_singleton] at hx;subst hx;show (n:Int)≠j;omega
    ·rw [hE,beq_false_of_ne (show (n:Int)≠(j:Int) by omega)];simp
  ·obtain ⟨e1,e2,e3,e4,e5,e6,e7,e8,e9,e10,e11⟩:=bF hp.symm
   have hg:=yO hp.symm j
   have hb0:V9 s l=false:=by rw [hb];simp;omega
   have hlt:((gth (M0 s (D6 l).va).th j).st=0↔(gth s.th j).st=0)∧(gth (M0 s (D6 l).va).th j).ki=(gth s.th j).ki∧(gth (M0 s (D6 l).va).th j).va=(gth s.th j).va∧(gth (M0 s (D6 l).va).th j).pc=(gth s.th j).pc∧(gth (M0 s (D6 l).va).th j).rs=(gth s.th j).rs∧(gth (M0 s (D6 l).va).th j).go=(gth s.th j).go:=by
    rw [hg];split
    ·refine ⟨?_,rfl,rfl,rfl,rfl,rfl⟩
     unfold M4;simp only;split <;> omega
    ·exact ⟨Iff.rfl,rfl,rfl,rfl,rfl,rfl⟩
   obtain ⟨g1,g2,g3,g4,g5,g6⟩:=hlt
   refine .inl ⟨g1,g2,g3,g4,g5,g6,?_,fun x=>absurd (hb0.symm.trans x) (by decide),?_⟩
   ·rw [e9,bJ];intro x hx;cases hx
   ·rw [hE];simp;omega
  ·obtain ⟨-,n,t,en,hn,ht,rfl⟩:=kI hbg
   have hb1:V9 s l=true:=by rw [hb];simp;omega
   have hlg:(s.setTh n t).lg=s.lg:=rfl
   have hend:Y8 s j l=false:=by rw [hE];simp;omega
   by_cases e:n=j
   ·subst e
    have hg:gth (s.setTh n t).th n=t:=by rw [fG hn,if_pos rfl]
    have key:(gth s.th n).st=0∧t.st=1∧t.ki=(D6 l).ki∧t.va=(D6 l).va∧t.pc=0:=by
     rcases ht with ⟨_,h0,_⟩ | ⟨_,_,h0,_⟩ | ⟨a,b,_,_,rfl⟩ | ⟨_,_,_,_,h0,_⟩ | ⟨a,b,_,_,_,rfl⟩
     ·cases h0
     ·cases h0
     ·exact ⟨a,rfl,rfl,rfl,rfl⟩
     ·cases h0
     ·exact ⟨a,rfl,rfl,rfl,rfl⟩
    obtain ⟨a,b,c,d,f⟩:=key
    refine .inr (.inl ⟨a,by rw [hg];omega,by rw [hg];exact c,by rw [hg];exact d,?_,rfl,hb1,en,hend⟩)
    rw [hg];unfold O5;rw [f];simp
   ·have hg:gth (s.setTh n t).th j=gth s.th j:=by rw [fG hn,if_neg e]
    refine .inl ⟨by rw [hg],by rw [hg],by rw [hg],by rw [hg],by rw [hg],by rw [hg],?_,fun _=>by rw [en];omega,hend⟩
    rw [hlg,bJ];intro x hx;cases hx
 ·exact Mw h0
def ownB (j:Nat) (x:Nat×En):Bool:=x.2.th==(j:Int)&&x.2.ki != 9
theorem a1q {i j:Nat} {m:List En} (h:∀ e∈m,e.th≠(j:Int)):(m.map fun e=>(i,e)).filter (ownB j)=[]:=by
 refine List.filter_eq_nil_iff.2 fun x hx=>?_
 obtain ⟨e,he,rfl⟩:=List.mem_map.1 hx
 unfold ownB;rw [beq_false_of_ne (h e he)];simp
theorem kL {s:St} (h:Inv s) (l:List Int):(D5 s l).1.th.length=s.th.length:=by
 have h2:Inv (D5 s l).1:=by
  unfold D5;split
  ·exact yx h (bB _ _)
  ·exact h
 have hcf:(D5 s l).1.cf=s.cf:=by
  unfold D5;split
  ·have:=bB s (deC l)
   generalize doF s (deC l)=p at this
   rcases this with ⟨-,-,e⟩ | ⟨-,-,-,e⟩ | ⟨-,-,-,e⟩ | ⟨-,-,-,hb⟩
   ·rw [e]
   ·rw [e];exact (XJ _ _).1
   ·rw [e]
    by_cases ht:M8 s (deC l).va=0
    ·exact (bF ht).1
    ·rw [(aM ht).1]
   ·rcases hb with ⟨-,-,e⟩ | ⟨-,-,-,e⟩ | ⟨-,-,n,t,-,-,-,e⟩ <;> rw [e] <;> rfl
  ·rfl
 have a:=(Y3 h.b).1
 have b:=(Y3 h2.b).1
 rw [hcf] at b
 omega
def Wj (s:St) (i j:Nat) (raw:List (List Int)):Prop :=
  (jd j s i raw=none∧(gth (A7 s raw).th j).st≠0∧(gth (A7 s raw).th j).ki=(gth s.th j).ki∧(gth (A7 s raw).th j).va=(gth s.th j).va∧(O5 (gth s.th j)=true→O5 (gth (A7 s raw).th j)=true) ∧
   (O5 (gth s.th j)=O5 (gth (A7 s raw).th j)∧(Z6 s i raw).filter (ownB j)=[]∧(gth (A7 s raw).th j).rs=(gth s.th j).rs∧(gth (A7 s raw).th j).go=(gth s.th j).go ∨
    O5 (gth s.th j)=false∧O5 (gth (A7 s raw).th j)=true∧∃ a,i≤a∧(Z6 s i raw).filter (ownB j)=[(a,⟨j,(gth s.th j).ki,(gth s.th j).va,(gth (A7 s raw).th j).rs,(gth (A7 s raw).th j).go⟩)])) ∨
  (∃ (e:Nat) (u:Th) (pre post:List (List Int)),jd j s i raw=some (e,u)∧raw=pre++post∧e+1=i+pre.length∧u=gth (A7 s pre).th j∧u.st=0 ∧
   (O5 (gth s.th j)=true∧(Z6 s i pre).filter (ownB j)=[]∧u.rs=(gth s.th j).rs∧u.go=(gth s.th j).go ∨
    O5 (gth s.th j)=false∧∃ a,i≤a∧a≤e∧(Z6 s i pre).filter (ownB j)=[(a,⟨j,(gth s.th j).ki,(gth s.th j).va,u.rs,u.go⟩)]∧1≤u.rs))
theorem Cy:∀ (raw:List (List Int)) {s:St} {N:Nat} (i:Nat) {j:Nat},Scr N s→N+raw.length<1099511627776→j<s.th.length→(gth s.th j).st≠0→Wj s i j raw
 | [],s,N,i,j,_,_,_,h0=>.inl ⟨rfl,h0,rfl,rfl,id,.inl ⟨rfl,rfl,rfl,rfl⟩⟩
 | l::raw,s,N,i,j,h,hN,hj,h0=>by
  have hN' : N+(raw.length+1)<1099511627776:=hN
  have h1:=fT (by omega) h l
  have hl:=kL h.i l
  have hS:=wP h.i hj l
  have ih:=Cy raw (i+1) (j:=j) h1 (by omega) (by rw [hl];exact hj)
  generalize hr:(D5 s l).1=r at hS ih hl
  have eL:∀ raw,A7 s (l::raw)=A7 r raw:=fun raw=>by rw [← hr];rfl
  have eT:∀ raw,Z6 s i (l::raw)=(r.lg.drop s.lg.length).map (fun e=>(i,e))++Z6 r (i+1) raw:=fun raw=>by rw [← hr];rfl
  have eE:jd j s i (l::raw)=if Y8 s j l=true then some (i,gth r.th j) else jd j r (i+1) raw:=by rw [← hr];show (if _ then _ else _)=_;rw [Int.toNat_natCast]
  -- the rest,once the first call tells nothing of j,and j goes on the same
  have cont:(gth r.th j).st≠0→(gth r.th j).ki=(gth s.th j).ki→(gth r.th j).va=(gth s.th j).va→(gth r.th j).rs=(gth s.th j).rs→(gth r.th j).go=(gth s.th j).go→O5 (gth r.th j)=O5 (gth s.th j)→Y8 s j l=false→((r.lg.drop s.lg.length).map (fun e=>(i,e))).filter (ownB j)=[]→Wj s i j (l::raw):=fun a1 a2 a3 a4 a5 a6 a7 a8=>by
   have q:=ih a1
   unfold Wj at q ⊢
   rw [a2,a3,a4,a5,a6] at q
   rw [eE,if_neg (by rw [a7];decide),eL,eT,List.filter_append,a8,List.nil_append]
   rcases q with ⟨q1,q2,q3,q4,q5,q6⟩ | ⟨e,u,pre,post,q1,q2,q3,q4,q5,q6⟩
   ·refine .inl ⟨q1,q2,q3,q4,q5,?_⟩
    rcases q6 with q6 | ⟨q6,q7,a,q8,q9⟩
    ·exact .inl q6
    ·exact .inr ⟨q6,q7,a,by omega,q9⟩
   ·refine .inr ⟨e,u,l::pre,post,q1,by rw [q2];rfl,by rw [List.length_cons];omega,by rw [eL];exact q4,q5,?_⟩
    rw [eT,List.filter_append,a8,List.nil_append]
    rcases q6 with q6 | ⟨q6,a,q7,q8,q9⟩
    ·exact .inl q6
    ·exact .inr ⟨q6,a,by omega,q8,q9⟩
  rcases hS with ⟨g1,g2,g3,g4,g5,g6,g7,-,g9⟩ | ⟨g,-⟩ | ⟨⟨⟨sk,sv⟩,-,st⟩,-,g9⟩
  ·refine cont (fun x=>h0 (g1.1 x)) g2 g3 g5 g6 ?_ g9 (a1q g7)
   unfold O5;rw [g2,g4]
  ·exact absurd g h0
  ·have nE:(gth r.th j).st≠0→Y8 s j l=false:=fun x=>by
    cases hb:Y8 s j l
    ·rfl
    ·exact absurd (g9.1 hb) x
   rcases st with ⟨b1,b2,b3,b4,b5⟩ | ⟨b1,b2,b3,b4,b5⟩ | ⟨⟨g,b1⟩,b2,b3,b3',b4,b5⟩ | ⟨b1,b2,b3,b4,b5⟩
   ·exact cont b2 sk sv b4 b5 b3 (nE b2) (by rw [b1,bJ];rfl)
   ·-- it is done
    refine .inr ⟨i,gth r.th j,[l],raw,by rw [eE,if_pos (g9.2 b2)],rfl,rfl,by rw [eL];rfl,b2,.inl ⟨b3,?_,b4,b5⟩⟩
    rw [eT,b1,bJ];rfl
   ·refine cont b2 sk sv b4 b5 (b3'.trans b3.symm) (nE b2) ?_
    rw [b1,List.drop_left]
    simp [ownB]
   ·-- it is told
    have q:=ih b2
    unfold Wj at q ⊢
    rw [sk,sv] at q
    have hki:((gth s.th j).ki != 9)=true:=by
     have hs:=U3 (l9 h.i.b hj) h0
     have:=X0 (gth s.th j).ki
     simp;omega
    have hf:((r.lg.drop s.lg.length).map (fun e=>(i,e))).filter (ownB j)=[(i,⟨j,(gth s.th j).ki,(gth s.th j).va,(gth r.th j).rs,(gth r.th j).go⟩)]:=by
     rw [b1,List.drop_left]
     simp only [List.map_cons,List.map_nil]
     rw [List.filter_cons_of_pos]
     ·rfl
     ·unfold ownB;simp only [beq_self_eq_true,Bool.true_and];exact hki
    rw [eE,if_neg (by rw [nE b2];decide),eL,eT,List.filter_append,hf]
    rcases q with ⟨q1,q2,q3,q4,q5,q6⟩ | ⟨e,u,pre,post,q1,q2,q3,q4,q5,q6⟩
    ·refine .inl ⟨q1,q2,q3,q4,fun x=>absurd (b3.symm.trans x) (by decide),.inr ⟨b3,q5 b4,i,by omega,?_⟩⟩
     rcases q6 with ⟨q6,q7,q8,q9⟩ | ⟨q6,-⟩
     ·rw [q7,q8,q9];rfl
     ·rw [b4] at q6;cases q6
    ·refine .inr ⟨e,u,l::pre,post,q1,by rw [q2];rfl,by rw [List.length_cons];omega,by rw [eL];exact q4,q5,.inr ⟨b3,i,by omega,by omega,?_,?_⟩⟩
     ·rw [eT,List.filter_append,hf]
      rcases q6 with ⟨q6,q7,q8,q9⟩ | ⟨q6,-⟩
      ·rw [q7,q8,q9];rfl
      ·rw [b4] at q6;cases q6
     ·rcases q6 with ⟨q6,q7,q8,q9⟩ | ⟨q6,-⟩
      ·rw [q8];exact b5
      ·rw [b4] at q6;cases q6
end
section
theorem vE:∀ (a b:List (List Int)) (s:St) (i:Nat),Z6 s i (a++b)=Z6 s i a++Z6 (A7 s a) (i+a.length) b
 | [],_,_,_=>rfl
 | l::a,b,s,i=>by
  show _++Z6 (D5 s l).1 (i+1) (a++b)=(_++_)++Z6 (A7 (D5 s l).1 a) (i+(a.length+1)) b
  rw [vE a b,List.append_assoc,show i+1+a.length=i+(a.length+1) by omega]
theorem uF:∀ (a:List (List Int)) (s:St) (i:Nat),∀ x∈Z6 s i a,i≤x.1∧x.1<i+a.length
 | [],_,_,x,hx=>by cases hx
 | l::a,s,i,x,hx=>by
  rcases List.mem_append.1 hx with hx | hx
  ·obtain ⟨e,-,rfl⟩:=List.mem_map.1 hx
   rw [List.length_cons]
   exact ⟨Nat.le_refl _,by show i<_;omega⟩
  ·have:=uF a _ _ x hx
   rw [List.length_cons];omega
theorem Js {s:St} (h:Inv s) (l:List Int):fA s.lg (D5 s l).1.lg:=by
 unfold D5;split
 ·have:=bB s (deC l)
  generalize doF s (deC l)=p at this
  rcases this with ⟨-,-,e⟩ | ⟨-,-,-,e⟩ | ⟨-,-,-,e⟩ | ⟨-,-,-,hb⟩
  ·rw [e];exact .inl rfl
  ·rw [e]
   unfold ay;split
   ·rw [mh]
    unfold stepD;repeat' split
    ·exact (yE _ _).1
    ·exact (pE _ _).1
    ·exact (uR _ _).1
   ·exact .inl rfl
  ·rw [e]
   by_cases ht:M8 s (deC l).va=0
   ·exact .inl (bF ht).2.2.2.2.2.2.2.2.1
   ·rw [(aM ht).1];exact .inl rfl
  ·rcases hb with ⟨-,-,e⟩ | ⟨-,-,-,e⟩ | ⟨-,-,n,t,-,-,-,e⟩ <;> rw [e] <;> exact .inl rfl
 ·exact .inl rfl
theorem Ci {a b:List En} (h:fA a b):b=a++b.drop a.length∧(b.drop a.length).length≤1:=by
 rcases h with rfl | ⟨x,rfl⟩
 ·simp
 ·rw [List.drop_left];exact ⟨rfl,by simp⟩
theorem Rb:∀ (raw:List (List Int)) {s:St} {N:Nat} (i:Nat),Scr N s→N+raw.length<1099511627776→(A7 s raw).lg=s.lg++(Z6 s i raw).map Prod.snd
 | [],s,_,_,_,_=>by show s.lg=s.lg++[];rw [List.append_nil]
 | l::raw,s,N,i,h,hN=>by
  have hN' : N+(raw.length+1)<1099511627776:=hN
  show (A7 (D5 s l).1 raw).lg=s.lg++(((D5 s l).1.lg.drop s.lg.length).map (fun e=>(i,e))++Z6 (D5 s l).1 (i+1) raw).map Prod.snd
  rw [Rb raw (i+1) (fT (by omega) h l) (by omega),List.map_append,List.map_map,← List.append_assoc]
  congr 1
  have e:List.map (Prod.snd∘fun (e:En)=>(i,e)) ((D5 s l).1.lg.drop s.lg.length)=(D5 s l).1.lg.drop s.lg.length:=List.map_id' _
  rw [e]
  exact (Ci (Js h.i l)).1
theorem Iq:∀ (raw:List (List Int)) {s:St} {N:Nat} (i:Nat),Scr N s→N+raw.length<1099511627776→(Z6 s i raw).Pairwise fun x y=>x.1<y.1
 | [],_,_,_,_,_=>.nil
 | l::raw,s,N,i,h,hN=>by
  have hN' : N+(raw.length+1)<1099511627776:=hN
  refine List.pairwise_append.2 ⟨?_,Iq raw (i+1) (fT (by omega) h l) (by omega),?_⟩
  ·have hl:=(Ci (Js h.i l)).2
   match hm:(D5 s l).1.lg.drop s.lg.length,hl with
   | [],_=>exact .nil
   | [x],_=>exact List.pairwise_singleton _ _
  ·intro x hx y hy
   obtain ⟨e,-,rfl⟩:=List.mem_map.1 hx
   have:=(uF raw _ _ y hy).1
   show i<y.1;omega
theorem KV:∀ (a b:List (List Int)) {s:St} {k:Nat} {j:Int} {x:Nat×Th},jd j s k a=some x→jd j s k (a++b)=some x
 | [],_,_,_,_,_,h=>by cases h
 | l::a,b,s,k,j,x,h=>by
  have h:(if Y8 s j l=true then some (k,gth (D5 s l).1.th j.toNat) else jd j (D5 s l).1 (k+1) a)=some x:=h
  show (if Y8 s j l=true then some (k,gth (D5 s l).1.th j.toNat) else jd j (D5 s l).1 (k+1) (a++b))=some x
  split at h
  ·next e=>rw [if_pos e];exact h
  ·next e=>rw [if_neg e];exact KV a b h
theorem Dk:∀ (raw:List (List Int)) {s:St} {i:Nat} {o:Op},o∈lX s i raw→∃ a l r,raw=a++l::r∧V9 (A7 s a) l=true∧o=bA (D6 l) (i+a.length) (jd (D6 l).th (D5 (A7 s a) l).1 (i+a.length+1) r)
 | [],_,_,_,h=>by cases h
 | l::raw,s,i,o,h=>by
  rcases List.mem_append.1 h with h | h
  ·split at h
   ·next e =>
    rw [List.mem_singleton] at h
    exact ⟨[],l,raw,rfl,e,h⟩
   ·cases h
  ·obtain ⟨a,l',r,e1,e2,e3⟩:=Dk raw h
   refine ⟨l::a,l',r,by rw [e1];rfl,e2,?_⟩
   rw [e3,List.length_cons,show i+1+a.length=i+(a.length+1) by omega]
   rfl
theorem rF {s:St} (h:Inv s) {l:List Int} (hb:V9 s l=true):∃ j:Nat,(D6 l).th=j∧j<s.th.length∧(gth s.th j).st=0∧(gth (D5 s l).1.th j).st≠0∧(gth (D5 s l).1.th j).ki=(D6 l).ki∧(gth (D5 s l).1.th j).va=(D6 l).va∧O5 (gth (D5 s l).1.th j)=false∧(D5 s l).1.lg=s.lg:=by
 have hb' := hb
 simp only [V9,Bool.and_eq_true,beq_iff_eq,decide_eq_true_eq] at hb'
 obtain ⟨h0,k1,k2⟩:=hb'
 obtain ⟨hd,he,k0,-⟩:=Bt h0
 have hdo:=bB s (D6 l)
 rw [← he,h0] at hdo
 rcases hdo with ⟨hne,e,-⟩ | ⟨-,ki,-⟩ | ⟨-,ki,-⟩ | ⟨-,-,-,hbg⟩
 ·exact absurd e.symm hne
 ·omega
 ·omega
 ·obtain ⟨-,n,t,en,hn,ht,hr⟩:=kI hbg
  have hS:=wP h hn l
  rcases hS with ⟨-,-,-,-,-,-,-,g8,-⟩ | ⟨g1,g2,g3,g4,g5,g6,-,-,-⟩ | ⟨-,g,-⟩
  ·exact absurd en (g8 hb)
  ·exact ⟨n,en,hn,g1,g2,g3,g4,g5,g6⟩
  ·rw [hb] at g;cases g
def au (o:Op) (x:Nat×En):Bool:=x.2.th==o.th&&(x.2.ki != 9&&(decide (o.be<x.1)&&(decide (o.en<0)||decide ((x.1:Int)≤o.en))))
def a0V (o:Op) (x:Nat×En):Bool:=x.2.ki==o.ki&&(x.2.va==o.va&&(x.2.re==o.re&&x.2.go==o.go))
def pG (o:Op) (T:List (Nat×En)):Bool:=(decide (o.en<0)||(T.filter (au o)).all (a0V o))&&((T.filter (au o)).length==1||((T.filter (au o)).length==0&&decide (o.en<0)))
theorem Hl {s0:St} (h0:Scr 0 s0) {raw:List (List Int)} (hN:raw.length<1099511627776) {o:Op} (ho:o∈lX s0 0 raw) :
  ∃ j:Nat,o.th=j∧j<s0.th.length∧0≤o.be∧o.be<raw.length ∧
  (o.en<0∧o.re=0∧o.go=0∧o.en = -1∧(gth (A7 s0 raw).th j).st≠0∧(gth (A7 s0 raw).th j).ki=o.ki∧(gth (A7 s0 raw).th j).va=o.va ∧
    ((Z6 s0 0 raw).filter (au o)=[]∧O5 (gth (A7 s0 raw).th j)=false∨∃ a,(Z6 s0 0 raw).filter (au o)=[(a,⟨j,o.ki,o.va,(gth (A7 s0 raw).th j).rs,(gth (A7 s0 raw).th j).go⟩)]∧O5 (gth (A7 s0 raw).th j)=true) ∨
   o.be<o.en∧o.en<raw.length∧1≤o.re∧∃ a:Nat,o.be<a∧(a:Int)≤o.en∧(Z6 s0 0 raw).filter (au o)=[(a,⟨j,o.ki,o.va,o.re,o.go⟩)]):=by
 obtain ⟨a,l,r,rfl,hb,rfl⟩:=Dk raw ho
 rw [Nat.zero_add] at *
 rw [List.length_append,List.length_cons] at hN
 have ha:Scr (0+a.length) (A7 s0 a):=xC a (by omega) h0
 rw [Nat.zero_add] at ha
 obtain ⟨j,ej,hj,i0,i1,i2,i3,i4,i5⟩:=rF ha.i hb
 have hlen:∀ (b:List (List Int)) {s:St} {N:Nat},Scr N s→N+b.length<1099511627776→(A7 s b).th.length=s.th.length:=fun b=>by
  induction b with
  | nil=>intros;rfl
  | cons l b ih =>
   intro s N h hN
   have hN' : N+(b.length+1)<1099511627776:=hN
   show (A7 (D5 s l).1 b).th.length=_
   rw [ih (fT (by omega) h l) (by omega),kL h.i]
 have hj0:j<s0.th.length:=by rw [hlen a h0 (by omega)] at hj;exact hj
 have h1:=fT (by omega) ha l
 have act:=Cy r (a.length+1) (j:=j) h1 (by omega) (by rw [kL ha.i];exact hj) i1
 have eL:A7 s0 (a++l::r)=A7 (D5 (A7 s0 a) l).1 r:=by rw [xZ];rfl
 have eT:Z6 s0 0 (a++l::r)=Z6 s0 0 a++Z6 (D5 (A7 s0 a) l).1 (a.length+1) r:=by
  rw [vE,Nat.zero_add]
  congr 1
  show ((D5 (A7 s0 a) l).1.lg.drop (A7 s0 a).lg.length).map _++_=_
  rw [i5,bJ];rfl
 rw [ej]
 -- ahead nothing is its own
 have hpre:∀ (o:Op),o.be=a.length→(Z6 s0 0 a).filter (au o)=[]:=fun o e=>List.filter_eq_nil_iff.2 fun x hx=>by
  have:=(uF a _ _ x hx).2
  unfold au
  rw [show decide (o.be<x.1)=false by simp;omega];simp
 have hmine:∀ (o:Op) (T:List (Nat×En)),o.th=j→(∀ x∈T,o.be<x.1∧(o.en<0∨(x.1:Int)≤o.en))→T.filter (au o)=T.filter (ownB j):=fun o T e hT=>List.filter_congr fun x hx=>by
  obtain ⟨p,q⟩:=hT x hx
  unfold au ownB
  rw [e,show decide (o.be<x.1)=true by simpa using p,show (decide (o.en<0)||decide ((x.1:Int)≤o.en))=true by simpa using q];simp
 refine ⟨j,?_,hj0,?_⟩
 ·rcases jd _ _ _ _ with _ | ⟨e,t⟩ <;> exact ej
 rw [eL,eT,List.length_append,List.length_cons]
 rcases act with ⟨q1,q2,q3,q4,q5,q6⟩ | ⟨e,u,pre,post,q1,q2,q3,q4,q5,q6⟩
 ·rw [q1]
  have hx:∀ x∈Z6 (D5 (A7 s0 a) l).1 (a.length+1) r,(bA (D6 l) a.length none).be<x.1∧((bA (D6 l) a.length none).en<0∨(x.1:Int)≤(bA (D6 l) a.length none).en):=fun x hx=>by
   have:=(uF r _ _ x hx).1
   exact ⟨by show (a.length:Int)<x.1;omega,.inl (show (-1:Int)<0 by decide)⟩
  refine ⟨by show (0:Int)≤(a.length:Int);omega,by show (a.length:Int)<_;omega,.inl ⟨show (-1:Int)<0 by decide,rfl,rfl,rfl,q2,by rw [q3,i2];rfl,by rw [q4,i3];rfl,?_⟩⟩
  rw [List.filter_append,hpre _ rfl,List.nil_append,hmine _ _ ej hx]
  rw [i2,i3,i4] at q6
  rcases q6 with ⟨q6,q7,-,-⟩ | ⟨-,q7,b,-,q8⟩
  ·exact .inl ⟨q7,q6.symm⟩
  ·exact .inr ⟨b,q8,q7⟩
 ·rw [q1]
  have hpl:1≤pre.length:=by
   cases pre with
   | nil=>rw [q4] at q5;exact absurd q5 i1
   | cons _ _=>simp
  have hrl:pre.length≤r.length:=by rw [q2,List.length_append];omega
  have hpost:(Z6 (A7 (D5 (A7 s0 a) l).1 pre) (a.length+1+pre.length) post).filter (au (bA (D6 l) a.length (some (e,u))))=[]:=List.filter_eq_nil_iff.2 fun x hx=>by
   have:=(uF post _ _ x hx).1
   unfold au
   have h1:decide ((bA (D6 l) a.length (some (e,u))).en<0)=false:=by show decide ((e:Int)<0)=false;simp
   have h2:decide ((x.1:Int)≤(bA (D6 l) a.length (some (e,u))).en)=false:=by show decide ((x.1:Int)≤(e:Int))=false;simp;omega
   rw [h1,h2];simp
  have hx:∀ x∈Z6 (D5 (A7 s0 a) l).1 (a.length+1) pre,(bA (D6 l) a.length (some (e,u))).be<x.1∧((bA (D6 l) a.length (some (e,u))).en<0∨(x.1:Int)≤(bA (D6 l) a.length (some (e,u))).en):=fun x hx=>by
   have:=uF pre _ _ x hx
   exact ⟨by show (a.length:Int)<x.1;omega,.inr (by show (x.1:Int)≤(e:Int);omega)⟩
  rw [i4] at q6
  rcases q6 with ⟨q6,-⟩ | ⟨-,b,q7,q8,q9,q10⟩
  ·cases q6
  refine ⟨by show (0:Int)≤(a.length:Int);omega,by show (a.length:Int)<_;omega,.inr ⟨by show (a.length:Int)<(e:Int);omega,by show (e:Int)<_;omega,q10,b,by show (a.length:Int)<(b:Int);omega,by show (b:Int)≤(e:Int);omega,?_⟩⟩
  rw [List.filter_append,hpre _ rfl,List.nil_append]
  rw [show Z6 (D5 (A7 s0 a) l).1 (a.length+1) r=Z6 (D5 (A7 s0 a) l).1 (a.length+1) pre++Z6 (A7 (D5 (A7 s0 a) l).1 pre) (a.length+1+pre.length) post by rw [q2,vE]]
  rw [List.filter_append,hpost,List.append_nil,hmine _ _ ej hx,q9,i2,i3]
  rfl
theorem Ah {s0:St} (h0:Scr 0 s0) {raw:List (List Int)} (hN:raw.length<1099511627776) {o:Op} (ho:o∈lX s0 0 raw):pG o (Z6 s0 0 raw)=true:=by
 obtain ⟨j,ej,-,-,-,h⟩:=Hl h0 hN ho
 unfold pG
 rcases h with ⟨h,-,-,-,-,-,-,k⟩ | ⟨h1,-,-,a,-,-,k⟩
 ·rcases k with ⟨k,-⟩ | ⟨a,k,-⟩ <;> rw [k] <;> simp [h]
 ·rw [k];simp [a0V]
end
section
theorem Qw:∀ (b:List (List Int)) {s:St} {N:Nat},Scr N s→N+b.length<1099511627776→(A7 s b).th.length=s.th.length:=fun b=>by
 induction b with
 | nil=>intros;rfl
 | cons l b ih =>
  intro s N h hN
  have hN' : N+(b.length+1)<1099511627776:=hN
  show (A7 (D5 s l).1 b).th.length=_
  rw [ih (fT (by omega) h l) (by omega),kL h.i]
theorem UA:∀ (raw:List (List Int)) {s:St} {N:Nat} (i:Nat),Scr N s→N+raw.length<1099511627776→(lX s i raw).Pairwise fun o p=>o.be<p.be∧(p.th=o.th→0≤o.en∧o.en<p.be)
 | [],_,_,_,_,_=>.nil
 | l::raw,s,N,i,h,hN=>by
  have hN' : N+(raw.length+1)<1099511627776:=hN
  have h1:=fT (by omega) h l
  refine List.pairwise_append.2 ⟨?_,UA raw (i+1) h1 (by omega),?_⟩
  ·split
   ·exact List.pairwise_singleton _ _
   ·exact .nil
  ·intro o ho p hp
   split at ho
   ·next hb =>
    rw [List.mem_singleton] at ho
    subst ho
    obtain ⟨a,l',r,e1,e2,e3⟩:=Dk raw hp
    obtain ⟨j,ej,hj,i0,i1,i2,i3,i4,i5⟩:=rF h.i hb
    have hlen:raw.length=a.length+(r.length+1):=by rw [e1,List.length_append,List.length_cons]
    have hbe:∀ x,(bA (D6 l) i x).be=(i:Int):=fun x=>by rcases x with _ | ⟨_,_⟩ <;> rfl
    have hbp:p.be=((i+1+a.length:Nat):Int):=by rw [e3];rcases jd _ _ _ _ with _ | ⟨_,_⟩ <;> rfl
    refine ⟨by rw [hbe,hbp];omega,fun et=>?_⟩
    have htp:p.th=(D6 l').th:=by rw [e3];rcases jd _ _ _ _ with _ | ⟨_,_⟩ <;> rfl
    have hto:∀ x,(bA (D6 l) i x).th=j:=fun x=>by rcases x with _ | ⟨_,_⟩ <;> exact ej
    rw [hto,htp] at et
    have ha:Scr (N+1+a.length) (A7 (D5 s l).1 a):=xC a (by omega) h1
    obtain ⟨j',ej',-,k0,-⟩:=rF ha.i e2
    have ejj:j' = j:=by omega
    subst ejj
    rcases Cy a (i+1) (j:=j') h1 (by omega) (by rw [kL h.i];exact hj) i1 with ⟨-,q,-⟩ | ⟨e,u,pre,post,q1,q2,q3,-⟩
    ·exact absurd k0 q
    ·rw [ej,e1,KV a (l' :: r) q1,hbp]
     have hpl:pre.length≤a.length:=by rw [q2,List.length_append];omega
     show (0:Int)≤(e:Int)∧(e:Int)<_
     omega
   ·cases ho
def iF (o:Op) (x:Nat×En):Bool:=x.2.th==o.th&&(x.2.ki != 9&&decide (o.be<x.1))
def xL (o:Op) (T:List (Nat×En)):Nat:=T.findIdx (iF o)
theorem Ry {o:Op} {x:Nat×En} (h:au o x=true):iF o x=true∧(o.en<0∨(x.1:Int)≤o.en):=by
 unfold au at h;unfold iF
 simp only [Bool.and_eq_true,Bool.or_eq_true,decide_eq_true_eq] at h ⊢
 exact ⟨⟨h.1,h.2.1,h.2.2.1⟩,h.2.2.2⟩
theorem a0P {T:List (Nat×En)} (hT:T.Pairwise fun x y=>x.1<y.1) {o p:Op} (ho:0≤o.en) (hm:T.filter (au o)≠[]) (hb:o.en<p.be):xL o T<xL p T:=by
 obtain ⟨x,hx⟩:=List.exists_mem_of_ne_nil _ hm
 obtain ⟨hx1,hx2⟩:=List.mem_filter.1 hx
 obtain ⟨f1,f2⟩:=Ry hx2
 obtain ⟨k,hk,rfl⟩:=List.mem_iff_getElem.1 hx1
 have h1:xL o T≤k:=by
  refine Nat.le_of_not_lt fun h=>?_
  have:=List.not_of_lt_findIdx h
  rw [f1] at this;cases this
 refine Nat.lt_of_le_of_lt h1 ?_
 refine Nat.lt_of_not_le fun h=>?_
 by_cases hl:xL p T<T.length
 ·have h2:iF p (T[xL p T]'hl)=true:=List.findIdx_getElem (w:=hl)
  simp only [iF,Bool.and_eq_true,decide_eq_true_eq] at h2
  have h3:(T[xL p T]'hl).1≤(T[k]'hk).1:=by
   rcases Nat.lt_or_eq_of_le h with h | h
   ·exact Nat.le_of_lt (List.pairwise_iff_getElem.1 hT _ _ hl hk h)
   ·simp only [h];exact Nat.le_refl _
  omega
 ·omega
def bQ (e:En):Bool:=e.re==1&&(I5 e.ki||e.ki==9)
def Q4 (e:En):Bool:=e.re==1&&F5 e.ki
def P9:Nat→List (Nat×Int)→List En→Option (List (Nat×Nat))
 | _,_,[]=>some []
 | i,pend,e::l =>
  if bQ e=true then
   match pend with
   | []=>none
   | (n,v)::p=>if v=e.go then (P9 (i+1) p l).map ((n,i)::·) else none
  else if Q4 e=true then P9 (i+1) (pend++[(i,e.va)]) l
  else P9 (i+1) pend l
def lF:Nat→List En→List Nat
 | _,[]=>[]
 | i,e::l=>(if Q4 e=true then [i] else [])++lF (i+1) l
theorem EE:∀ (l:List En) (i:Nat),(lF i l).Pairwise (·<·)∧∀ x∈lF i l,i≤x
 | [],_=>⟨.nil,fun x h=>by cases h⟩
 | e::l,i=>by
  obtain ⟨a,b⟩:=EE l (i+1)
  unfold lF
  split
  ·refine ⟨List.pairwise_append.2 ⟨List.pairwise_singleton _ _,a,fun x hx y hy=>?_⟩,fun x hx=>?_⟩
   ·rw [List.mem_singleton] at hx;have:=b y hy;omega
   ·rcases List.mem_append.1 hx with hx | hx
    ·rw [List.mem_singleton] at hx;omega
    ·have:=b x hx;omega
  ·exact ⟨a,fun x hx=>by have:=b x hx;omega⟩
theorem a0D (e:En):inL [e]=(if Q4 e=true then [e.va] else [])∧LH [e]=(if bQ e=true then [e.go] else []):=by
 rw [gp,eD]
 constructor
 ·unfold Q4
  cases h1:e.re==1 <;> cases h2:F5 e.ki <;> simp_all
 ·unfold bQ
  cases h1:e.re==1 <;> cases h2:I5 e.ki <;> cases h3:e.ki==9 <;> simp_all
theorem Fh {e:En} (h:bQ e=true):Q4 e=false:=by
 unfold bQ at h;unfold Q4 F5
 simp only [Bool.and_eq_true,Bool.or_eq_true,beq_iff_eq,I5,decide_eq_true_eq] at h
 rw [h.1]
 simp only [beq_self_eq_true,Bool.true_and,Bool.and_eq_false_iff,decide_eq_false_iff_not]
 omega
theorem DU:∀ (l:List En) (L done:List En) (pend:List (Nat×Int)) (q q' : Qu),L=done++l→q.all l=(q',l.length)→q.vals=pend.map Prod.snd →
  (∀ x∈pend,x.1<done.length∧∃ e,L[x.1]? = some e∧Q4 e=true∧e.va=x.2) →
  ∃ ps,P9 done.length pend l=some ps∧ps.map Prod.fst=(pend.map Prod.fst++lF done.length l).take ps.length ∧
   (∀ x∈ps,x.1<x.2∧done.length≤x.2∧x.2<L.length∧∃ e f,L[x.1]? = some e∧L[x.2]? = some f∧Q4 e=true∧bQ f=true∧e.va=f.go) ∧
   ps.Pairwise (fun x y=>x.2<y.2)∧ps.length≤(pend.map Prod.snd++inL l).length∧q'.vals=(pend.map Prod.snd++inL l).drop ps.length
 | [],L,done,pend,q,q',hL,hq,hv,hp=>by
  simp only [Qu.all,Prod.mk.injEq] at hq
  refine ⟨[],rfl,rfl,fun x hx=>(by cases hx),.nil,by simp,?_⟩
  rw [← hq.1,hv];simp [inL]
 | e::l,L,done,pend,q,q',hL,hq,hv,hp=>by
  cases ht:(q.tell e).2
  ·rw [uQ ht] at hq;simp at hq
  ·rw [fP ht] at hq
   simp only [Prod.mk.injEq,List.length_cons,Nat.add_right_cancel_iff] at hq
   have ho:=(Jb ht).1
   obtain ⟨hi,hout⟩:=a0D e
   rw [hi,hout,hv] at ho
   have hL' : L=(done++[e])++l:=by rw [hL,List.append_assoc];rfl
   have hlen:(done++[e]).length=done.length+1:=by simp
   have hat:L[done.length]? = some e:=by rw [hL];simp
   have hdl:done.length<L.length:=by rw [hL];simp
   have ih:=DU l L (done++[e])
   rw [hlen] at ih
   by_cases hk:bQ e=true
   ·have hn:=Fh hk
    rw [if_pos hk,hn,if_neg (by decide),List.append_nil] at ho
    match pend,hp,hv,ho with
    | [],_,_,ho=>simp at ho
    | (n,v)::p,hp,hv,ho =>
     simp only [List.map_cons,List.cons_append,List.nil_append,List.cons.injEq] at ho
     obtain ⟨ps,r1,r2,r3,r4,r5,r6⟩:=ih p (q.tell e).1 q' hL' (Prod.ext hq.1 hq.2) ho.2 (fun x hx=>by
      obtain ⟨a,b⟩:=hp x (List.mem_cons_of_mem _ hx)
      exact ⟨by omega,b⟩)
     obtain ⟨n1,e',n2,n3,n4⟩:=hp (n,v) List.mem_cons_self
     have hpos:lF done.length (e::l)=lF (done.length+1) l:=by
      show (if Q4 e=true then [done.length] else [])++_=_
      rw [hn];rfl
     refine ⟨(n,done.length)::ps,?_,?_,fun x hx=>?_,?_,?_,?_⟩
     ·show (if bQ e=true then (if v=e.go then (P9 (done.length+1) p l).map ((n,done.length)::·) else none) else _)=_
      rw [if_pos hk,if_pos ho.1.symm,r1];rfl
     ·rw [hpos]
      simp only [List.map_cons,List.length_cons,List.cons_append,List.take_succ_cons]
      rw [r2]
     ·rcases List.mem_cons.1 hx with rfl | hx
      ·exact ⟨n1,Nat.le_refl _,hdl,e',e,n2,hat,n3,hk,n4.trans ho.1.symm⟩
      ·obtain ⟨a,b,c,d⟩:=r3 x hx
       exact ⟨a,by omega,c,d⟩
     ·refine List.pairwise_cons.2 ⟨fun y hy=>?_,r4⟩
      have:=(r3 y hy).2.1
      show done.length<y.2;omega
     ·rw [jI,hi,hn]
      simp only [List.map_cons,List.length_cons,List.cons_append] at r5 ⊢
      simpa using r5
     ·rw [jI,hi,hn,r6]
      simp
   ·rw [if_neg hk,List.nil_append] at ho
    by_cases hi' : Q4 e=true
    ·rw [if_pos hi'] at ho hi
     obtain ⟨ps,r1,r2,r3,r4,r5,r6⟩:=ih (pend++[(done.length,e.va)]) (q.tell e).1 q' hL' (Prod.ext hq.1 hq.2) (by rw [ho];simp) (fun x hx=>by
      rcases List.mem_append.1 hx with hx | hx
      ·obtain ⟨a,b⟩:=hp x hx
       exact ⟨by omega,b⟩
      ·rw [List.mem_singleton] at hx;subst hx
       exact ⟨by show done.length<done.length+1;omega,e,hat,hi',rfl⟩)
     have hpos:lF done.length (e::l)=done.length::lF (done.length+1) l:=by
      show (if Q4 e=true then [done.length] else [])++_=_
      rw [if_pos hi'];rfl
     refine ⟨ps,?_,?_,fun x hx=>?_,r4,?_,?_⟩
     ·show (if bQ e=true then _ else if Q4 e=true then P9 (done.length+1) (pend++[(done.length,e.va)]) l else _)=_
      rw [if_neg hk,if_pos hi',r1]
     ·rw [hpos,r2];simp
     ·obtain ⟨a,b,c,d⟩:=r3 x hx
      exact ⟨a,by omega,c,d⟩
     ·rw [jI,hi];simpa using r5
     ·rw [jI,hi,r6];simp
    ·rw [if_neg hi',List.append_nil] at ho
     rw [if_neg hi'] at hi
     obtain ⟨ps,r1,r2,r3,r4,r5,r6⟩:=ih pend (q.tell e).1 q' hL' (Prod.ext hq.1 hq.2) ho (fun x hx=>by
      obtain ⟨a,b⟩:=hp x hx
      exact ⟨by omega,b⟩)
     have hpos:lF done.length (e::l)=lF (done.length+1) l:=by
      show (if Q4 e=true then [done.length] else [])++_=_
      rw [if_neg hi'];rfl
     refine ⟨ps,?_,?_,fun x hx=>?_,r4,?_,?_⟩
     ·show (if bQ e=true then _ else if Q4 e=true then _ else P9 (done.length+1) pend l)=_
      rw [if_neg hk,if_neg hi',r1]
     ·rw [hpos];exact r2
     ·obtain ⟨a,b,c,d⟩:=r3 x hx
      exact ⟨a,by omega,c,d⟩
     ·rw [jI,hi];simpa using r5
     ·rw [jI,hi];simpa using r6
theorem MQ {c:Cf} (hc:cfB c=true) {raw:List (List Int)} (h:raw.length<1099511627776) :
  ∃ ps,P9 0 [] (A7 (E5 c) raw).lg=some ps∧ps.map Prod.fst=(lF 0 (A7 (E5 c) raw).lg).take ps.length ∧
   (∀ x∈ps,x.1<x.2∧x.2<(A7 (E5 c) raw).lg.length∧∃ e f,(A7 (E5 c) raw).lg[x.1]? = some e∧(A7 (E5 c) raw).lg[x.2]? = some f∧Q4 e=true∧bQ f=true∧e.va=f.go) ∧
   ps.Pairwise (fun x y=>x.1<y.1∧x.2<y.2)∧ps.length≤(inL (A7 (E5 c) raw).lg).length∧(quV (A7 (E5 c) raw)).vals=(inL (A7 (E5 c) raw).lg).drop ps.length:=by
 have hl:=UO hc h
 unfold LinI at hl
 generalize (A7 (E5 c) raw).lg=L at hl ⊢
 have hq:(quV (E5 c)).vals=[]:=by
  rw [ae (Co hc)]
  simp [E5]
 obtain ⟨ps,r1,r2,r3,r4,r5,r6⟩:=DU L L [] [] (quV (E5 c)) _ rfl hl (by rw [hq];rfl) (fun x hx=>by cases hx)
 simp only [List.map_nil,List.nil_append,List.length_nil] at r2 r5 r6 r1
 refine ⟨ps,r1,r2,fun x hx=>?_,?_,r5,r6⟩
 ·obtain ⟨a,-,c,d⟩:=r3 x hx
  exact ⟨a,c,d⟩
 ·have h1:(ps.map Prod.fst).Pairwise (·<·):=by rw [r2];exact (EE L 0).1.sublist (List.take_sublist _ _)
  exact (List.pairwise_map.1 h1).and r4
end
section
def opsOf (c:Cf) (raw:List (List Int)):List Op:=if cfB c=true then lX (E5 c) 0 raw else []
def O3 (c:Cf) (raw:List (List Int)):List (Nat×En):=if cfB c=true then Z6 (E5 c) 0 raw else []
def U9 (c:Cf) (raw:List (List Int)):List En:=(O3 c raw).map Prod.snd
def a2P (c:Cf) (raw:List (List Int)):List Int:=(O3 c raw).map fun x=>(x.1:Int)
def oD (c:Cf) (raw:List (List Int)):Bool:=((quV (if cfB c=true then E5 c else st0)).all (U9 c raw)).2==(U9 c raw).length&&(opsOf c raw).all fun o=>pG o (O3 c raw)
theorem Uv {raw:List (List Int)} {k:Nat} (h:k<raw.length) (s:St):Z6 s 0 (raw.take (k+1))=Z6 s 0 (raw.take k)++((D5 (A7 s (raw.take k)) raw[k]).1.lg.drop (A7 s (raw.take k)).lg.length).map fun e=>(k,e):=by
 rw [List.take_succ_eq_append_getElem h,vE]
 have:(raw.take k).length=k:=by rw [List.length_take];omega
 rw [this]
 show _++(((D5 _ _).1.lg.drop _).map (fun e=>(0+k,e))++[])=_
 rw [List.append_nil,Nat.zero_add]
theorem sW {c:Cf} {raw:List (List Int)} (h:raw.length<1099511627776):U9 c raw=(dO c raw).lg:=by
 unfold U9 O3 dO
 cases hc:cfB c
 ·rfl
 ·rw [if_pos rfl,if_pos rfl,Rb raw 0 (dU hc) (by omega)]
  rfl
theorem wJ {c:Cf} {raw:List (List Int)} (h:raw.length<1099511627776):oD c raw=true:=by
 unfold oD
 rw [sW h]
 cases hc:cfB c
 ·rw [show opsOf c raw=[] by unfold opsOf;rw [if_neg (by simp [hc])],show (dO c raw).lg=[] by unfold dO;rw [if_neg (by simp [hc])];rfl]
  rfl
 ·have h1:=UO hc h
  unfold LinI at h1
  rw [show dO c raw=A7 (E5 c) raw by unfold dO;rw [if_pos hc],if_pos rfl,h1]
  simp only [beq_self_eq_true,Bool.true_and,List.all_eq_true]
  intro o ho
  rw [show opsOf c raw=lX (E5 c) 0 raw by unfold opsOf;rw [if_pos hc]] at ho
  rw [show O3 c raw=Z6 (E5 c) 0 raw by unfold O3;rw [if_pos hc]]
  exact Ah (dU hc) h ho
def Uo (o:Op) (T:List (Nat×En)):Nat:=(T.filter (au o)).length
def a2B (o:Op) (T:List (Nat×En)):Bool:=decide (o.en<0)||(T.filter (au o)).all (a0V o)
theorem SY (o:Op) (T:List (Nat×En)):pG o T=(a2B o T&&(Uo o T==1||(Uo o T==0&&decide (o.en<0)))):=rfl
end
section
open Go.ChangeShapes Go.WideShapes Go.ChangeAt Go.RowKit
def opT (o:Op):Value:=.agg #[.int .i64 o.th,.int .i64 o.ki,.int .i64 o.va,.int .i64 o.be,.int .i64 o.en,.int .i64 o.re,.int .i64 o.go]
def jR (l:List Op):Value:=F4 l.length (l.map opT)
theorem GD (l:List Op):uD 7 (l.map opT):=jS (f:=opT) (fun _=>⟨rfl,rfl⟩) l
def bIx (l:List Int):Option Blk:=some ⟨true,true,1,l.length,l.map (.int .i64 ·)⟩
def a3j (k:Nat) (l:List Int):Value:=match l with
 | []=>.slice none 0 0
 | a::l=>.slice (some ⟨k,0,some 0⟩) (a::l).length 0
def a1Z (l:List Int):List (Option Blk):=match l with
 | []=>[]
 | a::l=>[bIx (a::l)]
theorem Ki {c:Cf} (h:cfB c=true) (raw:List (List Int)):dO c raw=A7 (E5 c) raw:=by unfold dO;rw [if_pos h]
theorem qE {c:Cf} {raw:List (List Int)} (hc:c.ok) (h:cfB c=true) (hr:∀ l∈raw,∀ n∈l,In64 n) (hm:raw.length≤900):Kp raw.length (A7 (E5 c) raw):=by
 have key:∀ (raw:List (List Int)) {s:St} {N:Nat},(∀ l∈raw,∀ n∈l,In64 n)→N+raw.length≤900→Kp N s→Kp (N+raw.length) (A7 s raw):=by
  intro raw
  induction raw with
  | nil=>intro s N _ _ h;exact h
  | cons l r ih =>
   intro s N hr hN h
   have hN' : N+(r.length+1)≤900:=hN
   have:=ih (fun x hx=>hr x (by simp [hx])) (N:=N+1) (by omega) (Li h (hr l (by simp)) (by omega))
   show Kp (N+(r.length+1)) _
   rwa [show N+(r.length+1)=N+1+r.length by omega]
 have:=key raw (N:=0) hr (by omega) (Cq hc h)
 rwa [Nat.zero_add] at this
end
section
def gt (l:List Du) (i:Nat):Du:=l.getD i ⟨0,0⟩
theorem wm {l:List Du} {i:Nat} (h:i<l.length):l[i]? = some (gt l i):=by simp [gt,List.getD,h]
def sw (l:List Du) (i j:Nat):List Du:=(l.set i (gt l j)).set j (gt l i)
theorem mP (l:List Du) (i j:Nat):(sw l i j).length=l.length:=by simp [sw]
theorem KT {l:List Du} {i j:Nat} (hi:i<l.length) (hj:j<l.length) (k:Nat):gt (sw l i j) k=if k=j then gt l i else if k=i then gt l j else gt l k:=by
 unfold sw gt
 simp only [List.getD_eq_getElem?_getD,List.getElem?_set,List.length_set]
 by_cases h1:j=k
 ·subst h1;simp [hj]
 ·by_cases h2:i=k
  ·subst h2;simp [h1,hi,Ne.symm h1]
  ·simp [h1,h2,Ne.symm h1,Ne.symm h2]
theorem a0c {l:List Du} {i j:Nat} (hi:i<l.length) (hj:j<l.length):gt (sw l i j) j=gt l i:=by rw [KT hi hj,if_pos rfl]
theorem a2t {l:List Du} {i j:Nat} (hi:i<l.length) (hj:j<l.length):gt (sw l i j) i=gt l j:=by
 rw [KT hi hj]
 split
 ·rename_i h;rw [h]
 ·rw [if_pos rfl]
theorem ut {l:List Du} {i j k:Nat} (hi:i<l.length) (hj:j<l.length) (h1:k≠i) (h2:k≠j):gt (sw l i j) k=gt l k:=by rw [KT hi hj,if_neg h2,if_neg h1]
theorem Rt {l m:List Du} (hl:l.length=m.length) (h:∀ k,k<l.length→gt l k=gt m k):l=m:=by
 apply List.ext_getElem?
 intro k
 by_cases hk:k<l.length
 ·rw [wm hk,wm (hl ▸ hk),h k hk]
 ·simp [Nat.not_lt.1 hk,hl ▸ Nat.not_lt.1 hk]
theorem a0Q {l:List Du} {i j:Nat} (hi:i<l.length) (hj:j<l.length):sw l i j=(l.toArray.swap i j (by simpa using hi) (by simpa using hj)).toList:=by
 refine Rt (by simp [mP]) fun k hk=>?_
 rw [KT hi hj]
 have hk' : k<l.length:=by rw [mP] at hk;exact hk
 simp only [gt,List.getD_eq_getElem?_getD,Array.getElem?_toList,Array.getElem?_swap,List.getElem_toArray,List.getElem?_toArray]
 by_cases h1:k=j
 ·subst h1;simp [hi]
 ·by_cases h2:k=i
  ·subst h2;simp [h1,hj,Ne.symm h1]
  ·simp [h1,h2,Ne.symm h1,Ne.symm h2]
theorem rq {l:List Du} {i j:Nat} (hi:i<l.length) (hj:j<l.length):(sw l i j).Perm l:=by
 rw [a0Q hi hj]
 have:=Array.swap_perm (xs:=l.toArray) (i:=i) (j:=j) (by simpa using hi) (by simpa using hj)
 simpa using Array.perm_iff_toList_perm.1 this
def oI (l:List Du) (n:Nat):Prop:=∀ k,0<k→k<n→R3 (gt l k) (gt l ((k - 1) / 2))=false
def yf (l:List Du) (j n:Nat):Prop:=(∀ k,0<k→k<n→k≠j→R3 (gt l k) (gt l ((k - 1) / 2))=false)∧∀ c,0<c→c<n→(c - 1) / 2=j→0<j→R3 (gt l c) (gt l ((j - 1) / 2))=false
theorem XO {l:List Du} {n:Nat} (h:yf l 0 n):oI l n:=fun k h0 hk=>h.1 k h0 hk (by omega)
theorem WJ {l:List Du} {j n:Nat} (h:yf l j n) (hj:R3 (gt l j) (gt l ((j - 1) / 2))=false):oI l n:=fun k h0 hk=>by
 by_cases hkj:k=j
 ·rw [hkj];exact hj
 ·exact h.1 k h0 hk hkj
theorem Xc {l:List Du} {j n:Nat} (h:yf l j n) (hn:n≤l.length) (h0:0<j) (hj:j<n) (ha:R3 (gt l j) (gt l ((j - 1) / 2))=true):yf (sw l ((j - 1) / 2) j) ((j - 1) / 2) n:=by
 obtain ⟨i,hi⟩:∃ i,(j - 1) / 2=i:=⟨_,rfl⟩
 rw [hi] at ha ⊢
 have hij:i<j:=by omega
 have hil:i<l.length:=by omega
 have hjl:j<l.length:=by omega
 have ej:=a0c hil hjl
 have ei:=a2t hil hjl
 refine ⟨fun k hk0 hkn hki=>?_,fun c hc0 hcn hcp hi0=>?_⟩
 ·by_cases hkj:k=j
  ·subst hkj
   rw [hi,ej,ei]
   exact iK ha
  ·rw [ut hil hjl hki hkj]
   by_cases hpj:(k - 1) / 2=j
   ·rw [hpj,ej]
    have:=h.2 k hk0 hkn hpj h0
    rwa [hi] at this
   ·by_cases hpi:(k - 1) / 2=i
    ·rw [hpi,ei]
     have:=h.1 k hk0 hkn hkj
     rw [hpi] at this
     exact LG this ha
    ·rw [ut hil hjl hpi hpj]
     exact h.1 k hk0 hkn hkj
 ·have hpi:(i - 1) / 2<i:=by omega
  rw [ut (k:=(i - 1) / 2) hil hjl (by omega) (by omega)]
  have h1:=h.1 i hi0 (by omega) (by omega)
  by_cases hcj:c=j
  ·subst hcj
   rw [ej];exact h1
  ·rw [ut hil hjl (by omega) hcj]
   have h2:=h.1 c hc0 hcn hcj
   rw [hcp] at h2
   exact kU h2 h1
def kY (l:List Du) (i n:Nat):Prop:=(∀ k,0<k→k<n→(k - 1) / 2≠i→R3 (gt l k) (gt l ((k - 1) / 2))=false)∧∀ c,0<c→c<n→(c - 1) / 2=i→0<i→R3 (gt l c) (gt l ((i - 1) / 2))=false
theorem OC {l:List Du} {i n:Nat} (h:kY l i n) (hi:n≤2 * i+1):oI l n:=fun k h0 hk=>h.1 k h0 hk (by omega)
def kid (l:List Du) (i n:Nat):Nat:=if 2 * i+2<n∧R3 (gt l (2 * i+2)) (gt l (2 * i+1))=true then 2 * i+2 else 2 * i+1
theorem zY {l:List Du} {i n k:Nat} (h0:0<k) (hk:k<n) (hp:(k - 1) / 2=i):R3 (gt l k) (gt l (kid l i n))=false:=by
 unfold kid
 split
 ·rename_i h
  by_cases hk2:k=2 * i+2
  ·rw [hk2];exact kz _
  ·obtain rfl:k=2 * i+1:=by omega
   exact iK h.2
 ·rename_i h
  by_cases hk1:k=2 * i+1
  ·rw [hk1];exact kz _
  ·obtain rfl:k=2 * i+2:=by omega
   cases hc:R3 (gt l (2 * i+2)) (gt l (2 * i+1))
   ·rfl
   ·exact absurd ⟨hk,hc⟩ h
theorem QG {l:List Du} {i n:Nat} (h:2 * i+1<n):i<kid l i n∧kid l i n<n∧(kid l i n - 1) / 2=i∧(kid l i n=2 * i+1∨kid l i n=2 * i+2):=by
 unfold kid;split <;> omega
theorem tY {l:List Du} {i n:Nat} (h:kY l i n) (hk:R3 (gt l (kid l i n)) (gt l i)=false):oI l n:=fun k h0 hkn=>by
 by_cases hp:(k - 1) / 2=i
 ·rw [hp];exact kU (zY h0 hkn hp) hk
 ·exact h.1 k h0 hkn hp
theorem uH {l:List Du} {i n:Nat} (h:kY l i n) (hn:n≤l.length) (hin:2 * i+1<n) (ha:R3 (gt l (kid l i n)) (gt l i)=true):kY (sw l i (kid l i n)) (kid l i n) n:=by
 have hleast:∀ k,0<k→k<n→(k - 1) / 2=i→R3 (gt l k) (gt l (kid l i n))=false:=fun k h0 hk hp=>zY h0 hk hp
 obtain ⟨h1,h2,h3,-⟩:=QG (l:=l) hin
 generalize kid l i n=j at *
 have hil:i<l.length:=by omega
 have hjl:j<l.length:=by omega
 have ej:=a0c hil hjl
 have ei:=a2t hil hjl
 refine ⟨fun k hk0 hkn hkp=>?_,fun c hc0 hcn hcp hj0=>?_⟩
 ·by_cases hki:k=i
  ·subst hki
   rw [ei,ut (k:=(k - 1) / 2) hil hjl (by omega) (by omega)]
   exact h.2 j (by omega) h2 h3 hk0
  ·by_cases hkj:k=j
   ·subst hkj
    rw [h3,ej,ei]
    exact iK ha
   ·rw [ut hil hjl hki hkj]
    by_cases hpi:(k - 1) / 2=i
    ·rw [hpi,ei]
     exact hleast k hk0 hkn hpi
    ·rw [ut hil hjl hpi hkp]
     exact h.1 k hk0 hkn hpi
 ·rw [h3,ei,ut (k:=c) hil hjl (by omega) (by omega)]
  have:=h.1 c hc0 hcn (by omega)
  rwa [hcp] at this
theorem yL {l:List Du} {n:Nat} (h:oI l n):∀ k,k<n→R3 (gt l k) (gt l 0)=false:=fun k=>by
 induction k using Nat.strongRecOn with
 | _ k ih =>
  intro hk
  by_cases h0:k=0
  ·rw [h0];exact kz _
  ·exact kU (h k (by omega) hk) (ih _ (by omega) (by omega))
abbrev Heap (l:List Du):Prop:=oI l l.length
theorem Ua:Heap []:=fun k _ h=>absurd h (Nat.not_lt_zero k)
theorem uI {l:List Du} {d:Du} {k:Nat} (h:k<l.length):gt (l++[d]) k=gt l k:=by simp [gt,List.getD,List.getElem?_append_left h]
theorem Qz {l:List Du} {d:Du} (h:Heap l):yf (l++[d]) l.length (l.length+1):=by
 refine ⟨fun k h0 hk hne=>?_,fun c h0 hc hp=>by omega⟩
 rw [uI (by omega),uI (by omega)]
 exact h k h0 (by omega)
theorem DV {l:List Du} {n:Nat} (h:oI l n) (hn:l.length=n):Heap l:=by subst hn;exact h
theorem Xr {l:List Du} {n:Nat} (h:Heap l) (hn:l.length=n+1):kY (sw l 0 n) 0 n:=by
 refine ⟨fun k h0 hk hp=>?_,fun c _ _ _ h=>by omega⟩
 rw [ut (by omega) (by omega) (by omega) (by omega),ut (by omega) (by omega) hp (by omega)]
 exact h k h0 (by omega)
theorem Og {l:List Du} {n:Nat} (h:oI l n) (hn:l.length=n+1):Heap (l.take n):=by
 have hl:(l.take n).length=n:=by simp;omega
 intro k h0 hk
 rw [hl] at hk
 have e:∀ j,j<n→gt (l.take n) j=gt l j:=fun j hj=>by simp [gt,List.getD,List.getElem?_take,hj]
 rw [e k hk,e _ (by omega)]
 exact h k h0 hk
theorem NT {l:List Du} {n:Nat} (hn:l.length=n+1):l.take n++[gt l n]=l:=by
 refine Rt (by simp;omega) fun k hk=>?_
 by_cases h:k<n
 ·rw [uI (by simp;omega)]
  simp [gt,List.getD,List.getElem?_take,h]
 ·have:k=n:=by simp at hk;omega
  subst this
  have:(l.take k).length=k:=by simp;omega
  simp [gt,List.getD,List.getElem?_append_right,this]
theorem MN {l m:List Du} {n:Nat} {d:Du} (h:m.Perm l) (hn:m.length=n+1) (hd:gt m n=d):l.Perm (d::m.take n):=by
 refine h.symm.trans ?_
 have:=NT hn
 rw [hd] at this
 have h2:=List.perm_append_comm (l₁:=m.take n) (l₂:=[d])
 rw [this] at h2
 exact h2
theorem yM {l t r:List Du} {d d0:Du} (hp:l.Perm (d0::t)) (hs:Sorted (d0::t)) (hl:l.Perm (d::r)) (hm:∀ e∈l,R3 e d=false):d=d0∧r.Perm t:=by
 have h1:R3 d0 d=false:=hm d0 (hp.mem_iff.2 (by simp))
 have hd:d=d0:=by
  rcases List.mem_cons.1 (hp.mem_iff.1 (hl.mem_iff.2 (List.mem_cons_self ..))) with e | h
  ·exact e
  ·have:=(List.pairwise_cons.1 hs).1 d h
   rw [h1] at this;cases this
 subst hd
 exact ⟨rfl,(List.perm_cons _).1 (hl.symm.trans hp)⟩
theorem Un {l:List Du} {e:Du} (h:e∈l):∃ k,k<l.length∧gt l k=e:=by
 obtain ⟨k,hk,rfl⟩:=List.getElem_of_mem h
 exact ⟨k,hk,by simp [gt,List.getD,hk]⟩
end
section
open Go.ChangeShapes Go.WideShapes Go.ChangeAt Go.RowKit
theorem Dj (a b:Du) (w:World):Calls Tryz.prog 270 #[.agg #[.int .i64 a.tm,.int .i64 a.id],.agg #[.int .i64 b.tm,.int .i64 b.id]] w fun e w' => e = .returned (.bool (R3 a b))∧Kept w w' := by
 go_enter Tryz.func270,Tryz.ntmps270
 go_wp2
 all_goals (go_ret;exact ⟨M7 (by first | (rw [Bool.eq_iff_iff];simp [R3];omega) | (simp [R3, *];done) | (simp [R3, *];omega) | (simp [R3, *];intros;omega)),by exact F6⟩)
theorem dH (a:Du) (w:World):Calls Tryz.prog 266 #[.agg #[.int .i64 a.tm,.int .i64 a.id]] w fun e w' => e = .returned (.bool (mO a))∧Kept w w' := by
 go_enter Tryz.func266,Tryz.ntmps266
 go_wp2
 all_goals (go_ret;exact ⟨M7 (by first | (rw [Bool.eq_iff_iff];simp [mO];omega) | (simp [mO, *];done) | (simp [mO, *];omega) | (simp [mO, *];intros;omega)),by exact F6⟩)
theorem dx (a:Du) (w:World):Calls Tryz.prog 267 #[.agg #[.int .i64 a.tm,.int .i64 a.id]] w fun e w' => e = .returned (.bool (lQ a))∧Kept w w' := by
 go_enter Tryz.func267,Tryz.ntmps267
 go_wp2
 all_goals (go_ret;exact ⟨M7 (by first | (rw [Bool.eq_iff_iff];simp [lQ];omega) | (simp [lQ, *];done) | (simp [lQ, *];omega) | (simp [lQ, *];intros;omega)),by exact F6⟩)
end
section
open Go.ChangeShapes Go.WideShapes Go.ChangeAt Go.RowKit
theorem EI:∀ (l:List Du) (i:Nat) (d:Du),i<l.length→((l.flatMap Du.cells).set (i * 2) (.int .i64 d.tm)).set (i * 2+1) (.int .i64 d.id)=(l.set i d).flatMap Du.cells
 | [],_,_,h=>by simp at h
 | e::l,0,d,_=>rfl
 | e::l,i+1,d,h=>by
  have ih:=EI l i d (by simpa using h)
  rw [show (i+1) * 2+1=i * 2+1+1+1 by omega,show (i+1) * 2=i * 2+1+1 by omega]
  simp only [List.flatMap_cons,Du.cells,List.cons_append,List.nil_append,List.set_cons_succ]
  rw [ih]
structure Pile (w:World) (pb g cap:Nat) (l:List Du):Prop where
 ne:g≠pb
 obj:w.heap[pb]? = some (.cells #[.slice (some ⟨g,0,none⟩) l.length cap] 254 (0,0))
 own:Ow w 0 150 2 Du.cells l (.slice (some ⟨g,0,none⟩) l.length cap)
theorem Pile.lt {w:World} {pb g cap:Nat} {l:List Du} (h:Pile w pb g cap l):pb<w.heap.size∧g<w.heap.size:=⟨(Array.getElem?_eq_some_iff.1 h.obj).1,(Ow.lt h.own g rfl).2⟩
theorem Pile.of_block {w w' : World} {pb g cap:Nat} {l:List Du} (h:Pile w pb g cap l) (h1:w'.heap[pb]? = w.heap[pb]?) (h2:w'.heap[g]? = w.heap[g]?):Pile w' pb g cap l :=
 ⟨h.ne,h1.trans h.obj,h.own.of_block (fun x hx=>by cases hx;exact h2)⟩
theorem Pile.kept {w w' : World} {pb g cap:Nat} {l:List Du} (h:Pile w pb g cap l) (hk:Below w.heap.size w w'):Pile w' pb g cap l:=h.of_block (hk.block _ h.lt.1) (hk.block _ h.lt.2)
theorem Pile.out {w w' : World} {pb g cap:Nat} {l:List Du} {S:List Nat} (h:Pile w pb g cap l) (hk:Out S w w') (h1:pb∉S) (h2:g∉S):Pile w' pb g cap l:=h.of_block (hk.block _ h.lt.1 h1) (hk.block _ h.lt.2 h2)
theorem Pile.slice {w:World} {pb g cap:Nat} {l:List Du} (h:Pile w pb g cap l):w.cell? ⟨pb,0,none⟩=some (.slice (some ⟨g,0,none⟩) l.length cap)∧w.frozen? ⟨pb,0,none⟩=false:=by
 simp [World.cell?,World.frozen?,h.obj]
theorem Pile.bd {w:World} {pb g cap:Nat} {l:List Du} (h:Pile w pb g cap l):l.length≤cap∧cap≤maxLen:=by
 obtain ⟨_,⟨h1,_⟩ | ⟨_,_,cur,h1,_,_,h2,h3,_⟩⟩:=h.own
 ·cases h1
 ·cases h1;exact ⟨h2,h3⟩
theorem Pile.cells {w:World} {pb g cap:Nat} {l:List Du} (h:Pile w pb g cap l) {i:Nat} (hi:i<l.length) :
  w.cell? ⟨g,i * 2,none⟩=some (.int .i64 (gt l i).tm)∧w.cell? ⟨g,i * 2+1,none⟩=some (.int .i64 (gt l i).id)∧w.frozen? ⟨g,i * 2,none⟩=false∧w.frozen? ⟨g,i * 2+1,none⟩=false:=by
 obtain ⟨p,c,e,_,_,_,h4⟩:=(Ow.sl Du.enc h.own).is
 cases e
 obtain ⟨b,o,e,_,h5⟩:=h4 (by intro h;subst h;simp at hi)
 cases e
 have h6:=h5 i (gt l i) (wm hi)
 have h7:=h6 0 (by omega)
 have h8:=h6 1 (by omega)
 obtain ⟨_,⟨e,_⟩ | ⟨_,_,cur,e,_,hg,_⟩⟩:=h.own
 ·cases e
 cases e
 refine ⟨by simpa [Du.cells] using h7,by simpa [Du.cells] using h8,?_,?_⟩ <;> simp [World.frozen?,hg]
theorem Ow.setAt {w:World} {base:Nat} {g cap:Nat} {l:List Du} (h:Ow w base 150 2 Du.cells l (.slice (some ⟨g,0,none⟩) l.length cap)) {i:Nat} (hi:i<l.length) (d:Du) :
  Ow ((w.setCell ⟨g,i * 2,none⟩ (.int .i64 d.tm)).setCell ⟨g,i * 2+1,none⟩ (.int .i64 d.id)) base 150 2 Du.cells (l.set i d) (.slice (some ⟨g,0,none⟩) (l.set i d).length cap):=by
 obtain ⟨h0,⟨h1,_⟩ | ⟨_,_,cur,h1,hb,hg,hl,hm,hs,ht⟩⟩:=h
 ·cases h1
 cases h1
 refine ⟨X4 Du.enc _,.inr ⟨g,cap,(cur.setIfInBounds (i * 2) (.int .i64 d.tm)).setIfInBounds (i * 2+1) (.int .i64 d.id),rfl,hb,?_,by simpa using hl,hm,by simpa using hs,?_⟩⟩
 ·simp [World.setCell,Array.getElem?_modify,hg]
 ·rw [← EI l i d hi,← ht,List.length_set]
  simp [List.take_set]
theorem Pile.setAt {w:World} {pb g cap:Nat} {l:List Du} (h:Pile w pb g cap l) {i:Nat} (hi:i<l.length) (d:Du) :
  Pile ((w.setCell ⟨g,i * 2,none⟩ (.int .i64 d.tm)).setCell ⟨g,i * 2+1,none⟩ (.int .i64 d.id)) pb g cap (l.set i d):=by
 refine ⟨h.ne,?_,Ow.setAt h.own hi d⟩
 rw [Below.heap_setCell _ _ _ _ (Ne.symm h.ne),Below.heap_setCell _ _ _ _ (Ne.symm h.ne),h.obj,List.length_set]
theorem Pile.with {w:World} {pb g n c cap:Nat} {p:Option Addr} {l:List Du} (hp:w.heap[pb]? = some (.cells #[.slice p n c] 254 (0,0))) (ho:Ow w 0 150 2 Du.cells l (.slice (some ⟨g,0,none⟩) l.length cap)) (hne:g≠pb) :
  Pile (w.setCell ⟨pb,0,none⟩ (.slice (some ⟨g,0,none⟩) l.length cap)) pb g cap l :=
 ⟨hne,by simp [World.setCell,Array.getElem?_modify,hp],ho.of_block (fun x hx=>by cases hx;exact Below.heap_setCell _ _ _ _ hne)⟩
theorem Ow.take {w:World} {base g cap n:Nat} {l:List Du} (h:Ow w base 150 2 Du.cells l (.slice (some ⟨g,0,none⟩) l.length cap)) (hn:n≤l.length):Ow w base 150 2 Du.cells (l.take n) (.slice (some ⟨g,0,none⟩) (l.take n).length cap):=by
 obtain ⟨h0,⟨h1,_⟩ | ⟨_,_,cur,h1,hb,hg,hl,hm,hs,ht⟩⟩:=h
 ·cases h1
 cases h1
 have hln:(l.take n).length=n:=by simp;omega
 have hf:(l.take n).flatMap Du.cells=(l.flatMap Du.cells).take (n * 2):=by
  have:l.flatMap Du.cells=(l.take n).flatMap Du.cells++(l.drop n).flatMap Du.cells:=by rw [← List.flatMap_append,List.take_append_drop]
  rw [this,List.take_left' (by rw [X4 Du.enc,hln])]
 refine ⟨X4 Du.enc _,.inr ⟨g,cap,cur,rfl,hb,hg,by omega,hm,hs,?_⟩⟩
 rw [hln,hf,← ht,List.take_take]
 congr 1
 omega
end
section
open Go.ChangeShapes Go.WideShapes Go.ChangeAt Go.RowKit
theorem jl (w:World) (pb g cap:Nat) (l:List Du) (h:Pile w pb g cap l):Calls Tryz.prog 394 #[.pointer (some ⟨pb,0,none⟩)] w fun e w' => e = .returned (.int .i64 l.length)∧Kept w w' := by
 have hq:=h.slice.1
 go_enter Tryz.func394,Tryz.ntmps394
 go_wp2
 all_goals (go_ret;exact ⟨rfl,by exact F6⟩)
theorem xV (a b:Int) (w:World):(Instr.typeAssert (.iface 150 (.agg #[.int .i64 a,.int .i64 b])) 20 150 true).run Tryz.prog w = .ok (.tuple #[.agg #[.int .i64 a,.int .i64 b],.bool true]) w:=by kernel_rfl
set_option maxHeartbeats 1000000 in
theorem dG (w:World) (pb g cap:Nat) (l:List Du) (i j:Nat) (h:Pile w pb g cap l) (hi:i<l.length) (hj:j<l.length) :
  Calls Tryz.prog 395 #[.pointer (some ⟨pb,0,none⟩),.int .i64 i,.int .i64 j] w fun e w' => e = .returned (.bool (R3 (gt l i) (gt l j)))∧Kept w w' := by
 have hbd:=h.bd
 have hq:=h.slice.1
 obtain ⟨c1,c2,-,-⟩:=h.cells hi
 obtain ⟨c3,c4,-,-⟩:=h.cells hj
 have b1:(0:Int)≤(i:Int):=by omega
 have b2:(i:Int)<(l.length:Int):=by omega
 have b3:(0:Int)≤(j:Int):=by omega
 have b4:(j:Int)<(l.length:Int):=by omega
 have hz1:=h.lt.1
 have hz2:=h.lt.2
 clear h hbd
 go_enter Tryz.func395,Tryz.ntmps395
 go_wp2
 (refine R7 (w:=w) [(pb,0,.slice (some ⟨g,0,none⟩) l.length cap),(g,i * 2,.int .i64 (gt l i).tm),(g,i * 2+1,.int .i64 (gt l i).id),(g,j * 2,.int .i64 (gt l j).tm),(g,j * 2+1,.int .i64 (gt l j).id)] (by kernel_rfl) (by kernel_rfl) (by exact F6) (by first | (simp [E8, *,World.cell?_alloc_past,World.cell?_alloc_at];done) | (simp [E8, *,World.cell?_alloc_past,World.cell?_alloc_at];omega)) (fun hne=>?_);(have hq0:∀ xwd:Wd w [(pb,0,.slice (some ⟨g,0,none⟩) l.length cap),(g,i * 2,.int .i64 (gt l i).tm),(g,i * 2+1,.int .i64 (gt l i).id),(g,j * 2,.int .i64 (gt l j).tm),(g,j * 2+1,.int .i64 (gt l j).id)],xwd.at.cell? ⟨pb,0,none⟩=some (.slice (some ⟨g,0,none⟩) l.length cap):=fun xwd=>xwd.cells.1.2;have hq1:∀ xwd:Wd w [(pb,0,.slice (some ⟨g,0,none⟩) l.length cap),(g,i * 2,.int .i64 (gt l i).tm),(g,i * 2+1,.int .i64 (gt l i).id),(g,j * 2,.int .i64 (gt l j).tm),(g,j * 2+1,.int .i64 (gt l j).id)],xwd.at.cell? ⟨g,i * 2,none⟩=some (.int .i64 (gt l i).tm):=fun xwd=>xwd.cells.2.1.2;have hq2:∀ xwd:Wd w [(pb,0,.slice (some ⟨g,0,none⟩) l.length cap),(g,i * 2,.int .i64 (gt l i).tm),(g,i * 2+1,.int .i64 (gt l i).id),(g,j * 2,.int .i64 (gt l j).tm),(g,j * 2+1,.int .i64 (gt l j).id)],xwd.at.cell? ⟨g,i * 2+1,none⟩=some (.int .i64 (gt l i).id):=fun xwd=>xwd.cells.2.2.1.2;have hq3:∀ xwd:Wd w [(pb,0,.slice (some ⟨g,0,none⟩) l.length cap),(g,i * 2,.int .i64 (gt l i).tm),(g,i * 2+1,.int .i64 (gt l i).id),(g,j * 2,.int .i64 (gt l j).tm),(g,j * 2+1,.int .i64 (gt l j).id)],xwd.at.cell? ⟨g,j * 2,none⟩=some (.int .i64 (gt l j).tm):=fun xwd=>xwd.cells.2.2.2.1.2;have hq4:∀ xwd:Wd w [(pb,0,.slice (some ⟨g,0,none⟩) l.length cap),(g,i * 2,.int .i64 (gt l i).tm),(g,i * 2+1,.int .i64 (gt l i).id),(g,j * 2,.int .i64 (gt l j).tm),(g,j * 2+1,.int .i64 (gt l j).id)],xwd.at.cell? ⟨g,j * 2+1,none⟩=some (.int .i64 (gt l j).id):=fun xwd=>xwd.cells.2.2.2.2.1.2);(try simp only [List.append_eq,List.cons_append,List.nil_append]);(repeat (go_big_quiet_step ((first | (go_at_call 270;exact Q0 (Dj _ _ _))))));(refine wpQuiet_nil ?_);intro wq hwq;obtain ⟨xwd,hxwd⟩:=hwq;have hgx:Below w.heap.size w wq:=(by rw [hxwd];exact xwd.kept);have hcs:=(show E8 wq [(pb,0,.slice (some ⟨g,0,none⟩) l.length cap),(g,i * 2,.int .i64 (gt l i).tm),(g,i * 2+1,.int .i64 (gt l i).id),(g,j * 2,.int .i64 (gt l j).tm),(g,j * 2+1,.int .i64 (gt l j).id)] by rw [hxwd];exact xwd.cells);clear hxwd xwd hne)
 go_wp2
 all_goals (go_ret;exact ⟨rfl,by exact F6⟩)
set_option maxHeartbeats 1000000 in
theorem jr (w:World) (pb g cap:Nat) (l:List Du) (i j:Nat) (h:Pile w pb g cap l) (hi:i<l.length) (hj:j<l.length) :
  Calls Tryz.prog 398 #[.pointer (some ⟨pb,0,none⟩),.int .i64 i,.int .i64 j] w fun e w' => e = .returned (.tuple #[])∧Pile w' pb g cap (sw l i j)∧Out [g] w w' := by
 have hbd:=h.bd
 have hq:=h.slice.1
 obtain ⟨c1,c2,f1,f2⟩:=h.cells hi
 obtain ⟨c3,c4,f3,f4⟩:=h.cells hj
 have b1:(0:Int)≤(i:Int):=by omega
 have b2:(i:Int)<(l.length:Int):=by omega
 have b3:(0:Int)≤(j:Int):=by omega
 have b4:(j:Int)<(l.length:Int):=by omega
 obtain ⟨u1,g1⟩:=cell?_setCell_some (w:=w) (p:=⟨g,i * 2,none⟩) (x:=.int .i64 (gt l j).tm) (q:=⟨g,j * 2,none⟩) c3
 obtain ⟨u2,g2⟩:=cell?_setCell_some (w:=w) (p:=⟨g,i * 2,none⟩) (x:=.int .i64 (gt l j).tm) (q:=⟨g,j * 2+1,none⟩) c4
 obtain ⟨u3,g3⟩:=cell?_setCell_some (w:=w.setCell ⟨g,i * 2,none⟩ (.int .i64 (gt l j).tm)) (p:=⟨g,i * 2+1,none⟩) (x:=.int .i64 (gt l j).id) (q:=⟨g,j * 2+1,none⟩) g2
 have H:=Lib.hid h
 clear h hbd
 go_enter Tryz.func398,Tryz.ntmps398
 go_wp2
 go_region
 go_end0
 have hP:Pile _ pb g cap (sw l i j):=(H.out.setAt hi (gt l j)).setAt (i:=j) (by simpa using hj) (gt l i)
 exact ⟨rfl,hP.kept (Below.drew (Below.refl _ _)),(((((Out.refl [g] w).set (x:=⟨g,_,none⟩) (.inl (by simp)) _).set (x:=⟨g,_,none⟩) (.inl (by simp)) _).set (x:=⟨g,_,none⟩) (.inl (by simp)) _).set (x:=⟨g,_,none⟩) (.inl (by simp)) _).then (Below.drew (Below.refl _ _))⟩
set_option maxHeartbeats 1000000 in
theorem Po (w:World) (pb g cap n:Nat) (l:List Du) (h:Pile w pb g cap l) (hn:l.length=n+1) (hm:n≤1000) :
  Calls Tryz.prog 396 #[.pointer (some ⟨pb,0,none⟩)] w fun e w' => e = .returned (.iface 150 (.agg #[.int .i64 (gt l n).tm,.int .i64 (gt l n).id]))∧Pile w' pb g cap (l.take n)∧Out [pb] w w' := by
 have hbd:=h.bd
 have hq:=h.slice.1
 have hf:=h.slice.2
 obtain ⟨c1,c2,-,-⟩:=h.cells (i:=n) (by omega)
 rw [hn] at hq hbd
 have b1:(n:Int)+1≤(cap:Int):=by omega
 have b2:(n:Int)≤(cap:Int):=by omega
 have hz1:=h.lt.1
 have hz2:=h.lt.2
 have H:=Lib.hid h
 have HN:=Lib.hid hn
 clear h hbd hn
 go_enter Tryz.func396,Tryz.ntmps396
 go_wp2
 go_ret
 have hl:(l.take n).length=n:=by have:=HN.out;simp;omega
 have hP:=Pile.with (pb:=pb) (g:=g) H.out.obj (Ow.take H.out.own (n:=n) (by have:=HN.out;omega)) H.out.ne
 rw [hl] at hP
 exact ⟨rfl,hP.kept ((Below.refl _ _).alloc (Nat.le_refl _) _),((Out.refl [pb] w).set (x:=⟨pb,_,none⟩) (.inl (by simp)) _).alloc _⟩
theorem Df {α:Type} {W:World} {base k:Nat} {e:TypeId} {enc:α→List Value} {xs:List α} {v:Value} (h:Ow W base e k enc xs v) (hne:xs≠[]):∃ g cap,v = .slice (some ⟨g,0,none⟩) xs.length cap:=by
 obtain ⟨_,⟨_,h1⟩ | ⟨g,cap,_,h1,_⟩⟩:=h
 ·exact absurd (List.length_eq_zero_iff.1 h1) hne
 ·exact ⟨g,cap,h1⟩
theorem GU {g g1 n n1 c c1 s:Nat} (h:∀ x,(Value.slice (some ⟨g1,0,none⟩) n1 c1).ownBlock=some x→(Value.slice (some ⟨g,0,none⟩) n c).ownBlock=some x∨x=s):g1=g∨g1=s:=by
 rcases h g1 rfl with h | h
 ·exact .inl (by cases h;rfl)
 ·exact .inr h
theorem yU {V X w1:World} {pb g cap n:Nat} {l:List Du} (h:Pile V pb g cap l) (hB:Below V.heap.size V X) (hg:X.grownBy w1 (Value.slice (some ⟨g,0,none⟩) n cap).ownBlock):w1.heap[pb]? = some (.cells #[.slice (some ⟨g,0,none⟩) l.length cap] 254 (0,0)) :=
 (hg.block pb (Nat.lt_of_lt_of_le h.lt.1 hB.size) (by intro e;cases e;exact h.ne rfl)).trans ((hB.block _ h.lt.1).trans h.obj)
theorem LA {V X w1:World} {pb g cap n:Nat} {l:List Du} (h:Pile V pb g cap l) (hB:Below V.heap.size V X) (hg:X.grownBy w1 (Value.slice (some ⟨g,0,none⟩) n cap).ownBlock):w1.cell? ⟨pb,0,none⟩=some (.slice (some ⟨g,0,none⟩) l.length cap):=by
 simp [World.cell?,yU h hB hg]
theorem Gq {V X w1:World} {pb g cap n:Nat} {l:List Du} (h:Pile V pb g cap l) (hB:Below V.heap.size V X) (hg:X.grownBy w1 (Value.slice (some ⟨g,0,none⟩) n cap).ownBlock):w1.frozen? ⟨pb,0,none⟩=false:=by
 simp [World.frozen?,yU h hB hg]
theorem Ty {w V X w1:World} {pb g cap g1 k1 n:Nat} {l:List Du} {d:Du} (h:Pile V pb g cap l) (hB:Below w.heap.size w V) (hX:Below V.heap.size V X) (hg:X.grownBy w1 (Value.slice (some ⟨g,0,none⟩) l.length cap).ownBlock)
  (ho:Ow w1 0 150 2 Du.cells (l++[d]) (.slice (some ⟨g1,0,none⟩) (l++[d]).length k1)) (hob:g1=g∨g1=X.heap.size) (hn:(l++[d]).length=n) :
  ∃ g' cap',Pile (w1.setCell ⟨pb,0,none⟩ (.slice (some ⟨g1,0,none⟩) n k1)) pb g' cap' (l++[d])∧Out [pb,g] w (w1.setCell ⟨pb,0,none⟩ (.slice (some ⟨g1,0,none⟩) n k1))∧(g' = g∨w.heap.size≤g'):=by
 subst hn
 have h1:=h.lt
 have h2:=hX.size
 have h3:=hB.size
 refine ⟨g1,k1,Pile.with (yU h hX hg) ho ?_,?_,?_⟩
 ·rcases hob with rfl | rfl
  ·exact h.ne
  ·omega
 ·refine Out.set (Out.grown (((Out.refl [pb,g] w).then hB).then hX) hg (fun x hx=>?_)) (.inl (by simp)) _
  cases hx;exact .inl (by simp)
 ·rcases hob with rfl | rfl
  ·exact .inl rfl
  ·exact .inr (by omega)
theorem yh:(Tryz.prog.info? 150).map (fun i=>(i.zero,i.size,i.bytes))=some (some (.agg #[.int .i64 0,.int .i64 0]),2,16):=by kernel_rfl
set_option maxHeartbeats 1000000 in
theorem LJ (w:World) (pb g cap:Nat) (l:List Du) (d:Du) (h:Pile w pb g cap l) (hm:l.length≤1000) :
  Calls Tryz.prog 397 #[.pointer (some ⟨pb,0,none⟩),.iface 150 (.agg #[.int .i64 d.tm,.int .i64 d.id])] w fun e w' => e = .returned (.tuple #[])∧∃ g' cap',Pile w' pb g' cap' (l++[d])∧Out [pb,g] w w' ∧ (g' = g∨w.heap.size≤g'):=by
 have hbd:=h.bd
 have hq:=h.slice.1
 have hf:=h.slice.2
 have hz1:=h.lt.1
 have hz2:=h.lt.2
 have H:=Lib.hid h
 have ht:=xV d.tm d.id
 clear h hbd
 go_enter Tryz.func397,Tryz.ntmps397
 go_wp2
 clear ht
 obtain ⟨V,hV⟩:∃ V,w.alloc (.cells #[.int .i64 d.tm,.int .i64 d.id] 150)=V:=⟨_,rfl⟩
 have hB:Below w.heap.size w V:=by rw [← hV];exact F6
 have q1:V.cell? ⟨pb,0,none⟩=some (.slice (some ⟨g,0,none⟩) l.length cap):=((aY hB).1 _ _ hz1).trans hq
 have q2:V.cell? ⟨w.heap.size,0,none⟩=some (.int .i64 d.tm):=by rw [← hV];exact World.cell?_alloc_at _ _ _ _ (by simp)
 have q3:V.cell? ⟨w.heap.size,1,none⟩=some (.int .i64 d.id):=by rw [← hV];exact World.cell?_alloc_at _ _ _ _ (by simp)
 have hzV:w.heap.size<V.heap.size:=by rw [← hV];simp
 have hzP:pb<V.heap.size:=by have:=hB.size;omega
 have HP:=Lib.hid (H.out.kept hB)
 rw [hV]
 clear hV hq hf
 go_region_law (refine OA (by rfl) (.tmp 15) (.tmp 17) 254 (by rfl) (.agg #[.int .i64 0,.int .i64 0]) 16 Tryz.underlying254 yh (by rfl) (by decide) Du.enc (by rfl) (by rfl) (xs:=l) (ys:=[d]) (base:=0) (HP.out.own.kept (by exact F6)) ((Ow.sl Du.enc (Ow.made (base:=0) (e:=150) (W:=V) Du.enc [d] #[.int .i64 d.tm,.int .i64 d.id] rfl (Nat.zero_le _) (by show 1≤maxLen;decide) rfl rfl)).kept (Below.drew (Below.refl _ _))) (by simp) (Nat.zero_le _) (by simp;unfold maxLen;omega) (by simp;omega) ?_;intro v1 w1 how1 hgr hob;obtain ⟨g1,k1,rfl⟩:=Df how1 (by simp);have hob1:=GU hob;have q4:=LA HP.out (by exact F6) hgr;have f4:=Gq HP.out (by exact F6) hgr)
 all_goals (go_end0;exact ⟨rfl,Ty HP.out hB (by exact F6) hgr how1 hob1 (by simp)⟩)
end
section
open Go.ChangeShapes Go.WideShapes Go.ChangeAt Go.RowKit
set_option maxHeartbeats 1000000 in
theorem WI (w:World) (pb g cap j n:Nat) (l:List Du) (h:Pile w pb g cap l) (hn:l.length=n) (hm:n≤1000) (hj:j<n) (hu:yf l j n) :
  Calls Tryz.prog 287 #[.iface 253 (.pointer (some ⟨pb,0,none⟩)),.int .i64 j] w fun e w' => e = .returned (.tuple #[])∧∃ l',Pile w' pb g cap l' ∧ l'.Perm l∧oI l' n∧Out [g] w w' := by
 have H:=Lib.hid h
 have HN:=Lib.hid hn
 have HU:=Lib.hid hu
 clear h hn hu
 go_enter Tryz.func287,Tryz.ntmps287
 go_wp2
 go_loopw [1] (fun s1 wr=>∃ (k:Nat) (l' : List Du),s1 = .int .i64 k∧k<n∧Pile wr pb g cap l' ∧ l'.length=n∧yf l' k n∧l'.Perm l∧Out [g] w wr) (fun s1 _=>(intOf s1).toNat)
 case atStart=>exact ⟨j,l,rfl,hj,H.out,HN.out,HU.out,List.Perm.refl _,Out.refl _ _⟩
 case round =>
  obtain ⟨k,l',rfl,hk,hP,hl,hU,hp,hO⟩:=hrel
  clear H HN HU hj
  by_cases hk0:k=0
  ·subst hk0
   have hE:=Lib.hid (And.intro hP (And.intro hp (And.intro (XO hU) hO)))
   clear hP hp hU hO hl
   go_wp2
   go_end0
   exact ⟨rfl,l',hE.out.1,hE.out.2.1,hE.out.2.2.1,hE.out.2.2.2⟩
  ·obtain ⟨i,hi⟩:∃ i,(k - 1) / 2=i:=⟨_,rfl⟩
   have b1:(1:Int)≤(k:Int):=by omega
   have b2:(k:Int)≤1000:=by omega
   have b3:((k:Int) - 1) / 2=(i:Int):=by omega
   have b4:((i:Int)==(k:Int))=false:=by simp;omega
   have hik:i<k:=by omega
   have hP' := Lib.hid hP
   have HI:=Lib.hid hi
   have hl' := Lib.hid hl
   have hE:=Lib.hid (And.intro hp (And.intro hU hO))
   clear hP hl hp hU hO hi
   cases hd:R3 (gt l' k) (gt l' i)
   ·have hE2:=Lib.hid (WJ hE.out.2.1 (by rw [HI.out];exact hd))
    go_wp2_with fail
    refine (dG wr pb g cap l' k i hP'.out (by rw [hl'.out];omega) (by rw [hl'.out];omega)).mono ?_
    rintro e wx ⟨rfl,hgx⟩
    rw [hd]
    go_wp2
    go_end0
    exact ⟨rfl,l',hP'.out.kept hgx,hE.out.1,hE2.out,hE.out.2.2.then hgx⟩
   ·have hE2:=Lib.hid (Xc hE.out.2.1 (by rw [hl'.out];omega) (by omega) hk (by rw [HI.out];exact hd))
    go_wp2_with fail
    refine (dG wr pb g cap l' k i hP'.out (by rw [hl'.out];omega) (by rw [hl'.out];omega)).mono ?_
    rintro e wx ⟨rfl,hgx⟩
    rw [hd]
    go_wp2_with fail
    refine (jr wx pb g cap l' i k (hP'.out.kept hgx) (by rw [hl'.out];omega) (by rw [hl'.out];omega)).mono ?_
    rintro e wy ⟨rfl,hPy,hOy⟩
    have hPy' := Lib.hid hPy
    have hOy' := Lib.hid hOy
    clear hPy hOy hd
    go_wp2
    go_roundw
    case rel=>exact ⟨i,sw l' i k,rfl,by omega,hPy'.out,by rw [mP];exact hl'.out,by rw [← HI.out];exact hE2.out,(rq (by rw [hl'.out];omega) (by rw [hl'.out];omega)).trans hE.out.1,(hE.out.2.2.then hgx).trans hOy'.out (fun _ h=>.inl h)⟩
    case measure=>simp [intOf];omega
def TS (pb g cap n:Nat) (l:List Du) (w:World) (e:Ending) (w' : World):Prop :=
 ∃ (b:Bool) (l' : List Du),e = .returned (.bool b)∧Pile w' pb g cap l' ∧ l'.Perm l∧oI l' n∧(∀ k,n≤k→gt l' k=gt l k)∧Out [g] w w'
set_option maxHeartbeats 2000000 in
theorem LU (w:World) (pb g cap n N:Nat) (l:List Du) (h:Pile w pb g cap l) (hN:l.length=N) (hn:n≤N) (hm:N≤1000) (hu:kY l 0 n) :
  Calls Tryz.prog 288 #[.iface 253 (.pointer (some ⟨pb,0,none⟩)),.int .i64 0,.int .i64 n] w (TS pb g cap n l w):=by
 have H:=Lib.hid h
 have HN:=Lib.hid hN
 have HU:=Lib.hid hu
 clear h hN hu
 go_enter Tryz.func288,Tryz.ntmps288
 go_wp2
 go_loopw [7] (fun s7 wr=>∃ (k:Nat) (l' : List Du),s7 = .int .i64 k∧k≤N∧Pile wr pb g cap l' ∧ l'.length=N∧kY l' k n∧l'.Perm l∧(∀ x,n≤x→gt l' x=gt l x)∧Out [g] w wr) (fun s7 _=>N - (intOf s7).toNat)
 case atStart=>exact ⟨0,l,rfl,by omega,H.out,HN.out,HU.out,List.Perm.refl _,fun _ _=>rfl,Out.refl _ _⟩
 case round =>
  obtain ⟨k,l',rfl,hk,hP,hl,hU,hp,hg,hO⟩:=hrel
  clear H HN HU
  have b0:(0:Int)≤(k:Int):=by omega
  have b1:(k:Int)≤1000:=by omega
  obtain ⟨J1,hJ1⟩:∃ J1,2 * k+1=J1:=⟨_,rfl⟩
  have e1:(2:Int) * (k:Int)+1=(J1:Int):=by omega
  have b2:(0:Int)≤(J1:Int):=by omega
  have b5:(J1:Int)≤2001:=by omega
  have HJ1:=Lib.hid hJ1
  by_cases h1:n≤J1
  ·have b3:(n:Int)≤(J1:Int):=by omega
   have hE:=Lib.hid (And.intro hP (And.intro hp (And.intro (OC hU (by omega)) (And.intro hg hO))))
   clear hP hl hU hp hg hO hJ1
   go_wp2
   go_ret
   exact ⟨_,l',rfl,hE.out.1,hE.out.2.1,hE.out.2.2.1,hE.out.2.2.2.1,hE.out.2.2.2.2⟩
  ·have b3:(J1:Int)<(n:Int):=by omega
   obtain ⟨J2,hJ2⟩:∃ J2,J1+1=J2:=⟨_,rfl⟩
   have e2:(J1:Int)+1=(J2:Int):=by omega
   have hP' := Lib.hid hP
   have hl' := Lib.hid hl
   have hKb:=QG (l:=l') (i:=k) (n:=n) (by omega)
   have hE:=Lib.hid (And.intro hp (And.intro hU (And.intro hg hO)))
   clear hP hl hU hp hg hO
   have hJ1' := hJ1
   have HJ2:=Lib.hid hJ2
   by_cases h2:J2<n
   ·have b4:(J2:Int)<(n:Int):=by omega
    cases hc:R3 (gt l' J2) (gt l' J1)
    ·have hK:Hid (kid l' k n=J1):=by
      show kid l' k n=J1
      unfold kid
      rw [if_neg (by rintro ⟨_,hx⟩;rw [show 2 * k+2=J2 by omega,hJ1,hc] at hx;cases hx)];omega
     clear hJ1 hJ2 hJ1' hKb
     go_wp2_with fail
     refine (dG wr pb g cap l' J2 J1 hP'.out (by rw [hl'.out];omega) (by rw [hl'.out];omega)).mono ?_
     rintro e wx ⟨rfl,hgx⟩
     rw [hc]
     clear hc
     go_wp2_with fail;refine (dG _ pb g cap l' J1 k (hP'.out.kept hgx) (by rw [hl'.out];omega) (by rw [hl'.out];omega)).mono ?_;rintro e wy ⟨rfl,hgy⟩;have hgz:Below wr.heap.size wr wy:=kept_trans hgx hgy;have hPy:=Lib.hid (hP'.out.kept hgz);cases hd:R3 (gt l' J1) (gt l' k)
     ·have hE2:=Lib.hid (tY hE.out.2.1 (by rw [hK.out];exact hd));clear hd;go_wp2;go_ret;exact ⟨_,l',rfl,hPy.out,hE.out.1,hE2.out,hE.out.2.2.1,hE.out.2.2.2.then hgz⟩
     ·have q1:=HJ1.out
      have hE2:=Lib.hid (uH hE.out.2.1 (by rw [hl'.out];omega) (by omega) (by rw [hK.out];exact hd));clear hd;go_wp2_with fail;refine (jr wy pb g cap l' k J1 hPy.out (by rw [hl'.out];omega) (by rw [hl'.out];omega)).mono ?_;rintro e wz ⟨rfl,hPz,hOz⟩;have hPz' := Lib.hid hPz;have hOz' := Lib.hid hOz;clear hPz hOz;go_wp2;go_roundw
      case rel=>exact ⟨J1,sw l' k J1,rfl,by omega,hPz'.out,by rw [mP];exact hl'.out,by rw [← hK.out];exact hE2.out,(rq (by rw [hl'.out];omega) (by rw [hl'.out];omega)).trans hE.out.1,(fun x hx=>(ut (by rw [hl'.out];omega) (by rw [hl'.out];omega) (by omega) (by omega)).trans (hE.out.2.2.1 x hx)),(hE.out.2.2.2.then hgz).trans hOz'.out (fun _ h=>.inl h)⟩
      case measure=>simp [intOf];omega
    ·have hK:Hid (kid l' k n=J2):=by
      show kid l' k n=J2
      unfold kid
      rw [if_pos ⟨by omega,by rw [show 2 * k+2=J2 by omega,hJ1];exact hc⟩];omega
     clear hJ1 hJ2 hJ1' hKb
     go_wp2_with fail
     refine (dG wr pb g cap l' J2 J1 hP'.out (by rw [hl'.out];omega) (by rw [hl'.out];omega)).mono ?_
     rintro e wx ⟨rfl,hgx⟩
     rw [hc]
     clear hc
     go_wp2_with fail;refine (dG _ pb g cap l' J2 k (hP'.out.kept hgx) (by rw [hl'.out];omega) (by rw [hl'.out];omega)).mono ?_;rintro e wy ⟨rfl,hgy⟩;have hgz:Below wr.heap.size wr wy:=kept_trans hgx hgy;have hPy:=Lib.hid (hP'.out.kept hgz);cases hd:R3 (gt l' J2) (gt l' k)
     ·have hE2:=Lib.hid (tY hE.out.2.1 (by rw [hK.out];exact hd));clear hd;go_wp2;go_ret;exact ⟨_,l',rfl,hPy.out,hE.out.1,hE2.out,hE.out.2.2.1,hE.out.2.2.2.then hgz⟩
     ·have q1:=HJ1.out
      have q2:=HJ2.out
      have hE2:=Lib.hid (uH hE.out.2.1 (by rw [hl'.out];omega) (by omega) (by rw [hK.out];exact hd));clear hd;go_wp2_with fail;refine (jr wy pb g cap l' k J2 hPy.out (by rw [hl'.out];omega) (by rw [hl'.out];omega)).mono ?_;rintro e wz ⟨rfl,hPz,hOz⟩;have hPz' := Lib.hid hPz;have hOz' := Lib.hid hOz;clear hPz hOz;go_wp2;go_roundw
      case rel=>exact ⟨J2,sw l' k J2,rfl,by omega,hPz'.out,by rw [mP];exact hl'.out,by rw [← hK.out];exact hE2.out,(rq (by rw [hl'.out];omega) (by rw [hl'.out];omega)).trans hE.out.1,(fun x hx=>(ut (by rw [hl'.out];omega) (by rw [hl'.out];omega) (by omega) (by omega)).trans (hE.out.2.2.1 x hx)),(hE.out.2.2.2.then hgz).trans hOz'.out (fun _ h=>.inl h)⟩
      case measure=>simp [intOf];omega
   ·have b4:(n:Int)≤(J2:Int):=by omega
    have hK:Hid (kid l' k n=J1):=by
     show kid l' k n=J1
     unfold kid
     rw [if_neg (by omega)];omega
    clear hJ1 hJ2 hJ1' hKb
    have hgx:Below wr.heap.size wr wr:=Below.refl _ _
    go_wp2_with fail;refine (dG _ pb g cap l' J1 k (hP'.out.kept hgx) (by rw [hl'.out];omega) (by rw [hl'.out];omega)).mono ?_;rintro e wy ⟨rfl,hgy⟩;have hgz:Below wr.heap.size wr wy:=kept_trans hgx hgy;have hPy:=Lib.hid (hP'.out.kept hgz);cases hd:R3 (gt l' J1) (gt l' k)
    ·have hE2:=Lib.hid (tY hE.out.2.1 (by rw [hK.out];exact hd));clear hd;go_wp2;go_ret;exact ⟨_,l',rfl,hPy.out,hE.out.1,hE2.out,hE.out.2.2.1,hE.out.2.2.2.then hgz⟩
    ·have q1:=HJ1.out
     have hE2:=Lib.hid (uH hE.out.2.1 (by rw [hl'.out];omega) (by omega) (by rw [hK.out];exact hd));clear hd;go_wp2_with fail;refine (jr wy pb g cap l' k J1 hPy.out (by rw [hl'.out];omega) (by rw [hl'.out];omega)).mono ?_;rintro e wz ⟨rfl,hPz,hOz⟩;have hPz' := Lib.hid hPz;have hOz' := Lib.hid hOz;clear hPz hOz;go_wp2;go_roundw
     case rel=>exact ⟨J1,sw l' k J1,rfl,by omega,hPz'.out,by rw [mP];exact hl'.out,by rw [← hK.out];exact hE2.out,(rq (by rw [hl'.out];omega) (by rw [hl'.out];omega)).trans hE.out.1,(fun x hx=>(ut (by rw [hl'.out];omega) (by rw [hl'.out];omega) (by omega) (by omega)).trans (hE.out.2.2.1 x hx)),(hE.out.2.2.2.then hgz).trans hOz'.out (fun _ h=>.inl h)⟩
     case measure=>simp [intOf];omega
end
section
open Go.ChangeShapes Go.WideShapes Go.ChangeAt Go.RowKit
def Sb (pb g:Nat) (l:List Du) (d:Du) (w:World) (e:Ending) (w' : World):Prop :=
 e = .returned (.tuple #[])∧∃ (g' cap' : Nat) (l' : List Du),Pile w' pb g' cap' l' ∧ l'.Perm (l++[d])∧Heap l' ∧ Out [pb,g] w w' ∧ (g' = g∨w.heap.size≤g')
def Ld (pb g cap:Nat) (l:List Du) (v:Value) (w:World) (e:Ending) (w' : World):Prop :=
 e = .returned v∧∃ (l' : List Du),Pile w' pb g cap l' ∧ l.Perm (gt l 0::l')∧Heap l' ∧ Out [pb,g] w w'
set_option maxHeartbeats 1000000 in
theorem Np (w:World) (pb g cap:Nat) (l:List Du) (d:Du) (h:Pile w pb g cap l) (hh:Heap l) (hm:l.length≤900) :
  Calls Tryz.prog 271 #[.iface 253 (.pointer (some ⟨pb,0,none⟩)),.iface 150 (.agg #[.int .i64 d.tm,.int .i64 d.id])] w (Sb pb g l d w):=by
 have H:=Lib.hid h
 have HH:=Lib.hid hh
 clear h hh
 go_enter Tryz.func271,Tryz.ntmps271
 go_wp2_with fail
 refine (LJ w pb g cap l d H.out (by omega)).mono ?_
 rintro e w1 ⟨rfl,g1,k1,hP,hO,hg⟩
 have hP' := Lib.hid hP
 have hE:=Lib.hid (And.intro hO hg)
 clear hP hO hg
 go_wp2_with fail
 refine (jl w1 pb g1 k1 _ hP'.out).mono ?_
 rintro e w2 ⟨rfl,hg2⟩
 rw [List.length_append,List.length_singleton]
 have b1:(0:Int)≤(l.length:Int):=by omega
 have b2:(l.length:Int)≤900:=by omega
 go_wp2_with fail
 refine (WI w2 pb g1 k1 l.length (l.length+1) (l++[d]) (hP'.out.kept hg2) (by simp) (by omega) (by omega) (Qz HH.out)).mono ?_
 rintro e w3 ⟨rfl,l3,hP3,hp3,hh3,hO3⟩
 have hP3' := Lib.hid hP3
 have hE3:=Lib.hid (And.intro hp3 (And.intro hh3 hO3))
 clear hP3 hp3 hh3 hO3
 go_wp2
 go_end0
 refine ⟨rfl,g1,k1,l3,hP3'.out,hE3.out.1,DV hE3.out.2.1 (by have:=hE3.out.1.length_eq;simpa using this),?_,hE.out.2⟩
 refine (hE.out.1.then hg2).trans hE3.out.2.2 (fun j hj=>?_)
 rw [List.mem_singleton] at hj;subst hj
 rcases hE.out.2 with rfl | h
 ·exact .inl (by simp)
 ·exact .inr h
set_option maxHeartbeats 1000000 in
theorem OP (w:World) (pb g cap n:Nat) (l:List Du) (h:Pile w pb g cap l) (hh:Heap l) (hn:l.length=n+1) (hm:n≤900) :
  Calls Tryz.prog 272 #[.iface 253 (.pointer (some ⟨pb,0,none⟩))] w (Ld pb g cap l (.iface 150 (.agg #[.int .i64 (gt l 0).tm,.int .i64 (gt l 0).id])) w):=by
 have H:=Lib.hid h
 have HH:=Lib.hid hh
 have HN:=Lib.hid hn
 clear h hh hn
 have b1:(0:Int)≤(n:Int):=by omega
 have b2:(n:Int)≤900:=by omega
 go_enter Tryz.func272,Tryz.ntmps272
 go_wp2_with fail
 refine (jl w pb g cap _ H.out).mono ?_
 rintro e w1 ⟨rfl,hg1⟩
 rw [HN.out]
 have hP1:=Lib.hid (H.out.kept hg1)
 go_wp2_with fail
 refine (jr w1 pb g cap l 0 n hP1.out (by rw [HN.out];omega) (by rw [HN.out];omega)).mono ?_
 rintro e w2 ⟨rfl,hP2,hO2⟩
 have hP2' := Lib.hid hP2
 have hO2' := Lib.hid hO2
 clear hP2 hO2
 go_wp2_with fail
 refine (LU w2 pb g cap n (n+1) (sw l 0 n) hP2'.out (by rw [mP,HN.out]) (by omega) (by omega) (Xr HH.out HN.out)).mono ?_
 rintro e w3 ⟨b,l3,rfl,hP3,hp3,hh3,hg3,hO3⟩
 have hl3:l3.length=n+1:=by rw [hp3.length_eq,mP,HN.out]
 have hl3' := Lib.hid hl3
 have hlast:gt l3 n=gt l 0:=by
  rw [hg3 n (Nat.le_refl _),a0c (by rw [HN.out];omega) (by rw [HN.out];omega)]
 have hE3:=Lib.hid (And.intro (And.intro hp3 (And.intro hh3 hO3)) hlast)
 have hP3' := Lib.hid hP3
 clear hP3 hp3 hh3 hO3 hg3 hlast hl3
 go_wp2_with fail
 refine (Po w3 pb g cap n l3 hP3'.out hl3'.out (by omega)).mono ?_
 rw [hE3.out.2]
 rintro e w4 ⟨rfl,hP4,hO4⟩
 have hE4:=Lib.hid (And.intro hP4 hO4)
 clear hP4 hO4
 go_wp2
 go_ret
 refine ⟨rfl,l3.take n,hE4.out.1,?_,Og hE3.out.1.2.1 hl3'.out,?_⟩
 ·exact MN (hE3.out.1.1.trans (rq (by rw [HN.out];omega) (by rw [HN.out];omega))) hl3'.out hE3.out.2
 ·refine ((((Out.of_kept hg1).trans hO2'.out ?_).trans hE3.out.1.2.2 ?_).trans hE4.out.2 ?_) <;> (intro j hj;rw [List.mem_singleton] at hj;subst hj;exact .inl (by simp))
set_option maxHeartbeats 1000000 in
theorem zF (w:World) (pb g cap n:Nat) (l:List Du) (h:Pile w pb g cap l) (hh:Heap l) (hn:l.length=n+1) (hm:n≤900) :
  Calls Tryz.prog 259 #[.iface 253 (.pointer (some ⟨pb,0,none⟩))] w (Ld pb g cap l (.agg #[.int .i64 (gt l 0).tm,.int .i64 (gt l 0).id]) w):=by
 have H:=Lib.hid h
 have HE:=Lib.hid (And.intro hh hn)
 have ht:=xV (gt l 0).tm (gt l 0).id
 clear h hh hn
 go_enter Tryz.func259,Tryz.ntmps259
 go_wp2_with fail
 refine (OP _ pb g cap n l (H.out.kept (by exact F6)) HE.out.1 HE.out.2 hm).mono ?_
 rintro e w1 ⟨rfl,l1,hP,hp,hh1,hO⟩
 have hz:w.heap.size<w1.heap.size:=by have:=hO.size;simp at this;omega
 have hr:w.heap.size≠pb∧w.heap.size≠g:=by have:=H.out.lt;omega
 have hb:w1.heap[w.heap.size]? = _:=(hO.block w.heap.size (by simp) (by simp [hr])).trans (heap_alloc_new w _)
 have q1:w1.cell? ⟨w.heap.size,0,none⟩=some (.int .i64 0):=by simp [World.cell?,hb]
 have q2:w1.cell? ⟨w.heap.size,1,none⟩=some (.int .i64 0):=by simp [World.cell?,hb]
 have f1:∀ j,w1.frozen? ⟨w.heap.size,j,none⟩=false:=fun j=>by simp [World.frozen?,hb]
 have hE:=Lib.hid (And.intro hP (And.intro hp (And.intro hh1 hO)))
 have hz1:=Lib.hid hr
 clear hP hp hh1 hO hb hr
 go_wp2
 have hO2:Out [w.heap.size] w1 (((w1.setCell ⟨w.heap.size,0,none⟩ (.int .i64 (gt l 0).tm)).setCell ⟨w.heap.size,1,none⟩ (.int .i64 (gt l 0).id)).alloc (.cells #[.int .i64 (gt l 0).tm,.int .i64 (gt l 0).id] 150)) :=
  (((Out.refl _ w1).set (x:=⟨w.heap.size,_,none⟩) (.inl (by simp)) _).set (x:=⟨w.heap.size,_,none⟩) (.inl (by simp)) _).alloc _
 refine bodyPost_ret (v:=.agg #[.int .i64 (gt l 0).tm,.int .i64 (gt l 0).id]) (by simp [results,Tryz.results259,go_sem,hz,q1,q2]) rfl ⟨rfl,l1,hE.out.1.out hO2 (by have:=hz1.out;simp;omega) (by have:=hz1.out;simp;omega),hE.out.2.1,hE.out.2.2.1,?_⟩
 refine (Out.after ((Below.refl _ _).alloc (Nat.le_refl _) _) hE.out.2.2.2).trans hO2 (fun j hj=>?_)
 rw [List.mem_singleton] at hj;subst hj;exact .inr (Nat.le_refl _)
end
section
open Go.ChangeShapes Go.WideShapes Go.ChangeAt Go.RowKit
structure MapAt (w:World) (mb:Nat) (l:List Du) (es:Array MapEntry) (ck:Nat):Prop where
 obj:w.heap[mb]? = some (.map es ck)
 ents:es.toList.map (fun e=>(e.key,e.val))=l.map (fun d=>(Value.int .i64 d.id,.agg #[.int .i64 d.tm,.int .i64 d.id]))
 born:∀ x∈es.toList,x.born<ck
 nodup:(es.toList.map (·.born)).Nodup
def MapD (w:World) (mb:Nat) (l:List Du):Prop:=∃ es ck,MapAt w mb l es ck
theorem MapD.of_block {w w' : World} {mb:Nat} {l:List Du} (h:MapD w mb l) (hk:w'.heap[mb]? = w.heap[mb]?):MapD w' mb l:=by
 obtain ⟨es,ck,h1,h2,h3,h4⟩:=h
 exact ⟨es,ck,hk.trans h1,h2,h3,h4⟩
theorem MapD.lt {w:World} {mb:Nat} {l:List Du} (h:MapD w mb l):mb<w.heap.size:=by
 obtain ⟨es,ck,h1,_⟩:=h
 exact (Array.getElem?_eq_some_iff.1 h1).1
theorem MapD.kept {w w' : World} {mb:Nat} {l:List Du} (h:MapD w mb l) (hk:Below w.heap.size w w'):MapD w' mb l:=h.of_block (hk.block _ h.lt)
theorem MapD.out {w w' : World} {mb:Nat} {l:List Du} {S:List Nat} (h:MapD w mb l) (hk:Out S w w') (hn:mb∉S):MapD w' mb l:=h.of_block (hk.block _ h.lt hn)
theorem MapAt.at {w:World} {mb:Nat} {l:List Du} {es:Array MapEntry} {ck:Nat} (h:MapAt w mb l es ck) {j:Nat} {e:MapEntry} (he:es.toList[j]? = some e):∃ d,l[j]? = some d∧e.key = .int .i64 d.id∧e.val = .agg #[.int .i64 d.tm,.int .i64 d.id]:=by
 have h1:=congrArg (·[j]?) h.ents
 simp only [List.getElem?_map,he,Option.map_some] at h1
 obtain ⟨d,hd,h2⟩:=Option.map_eq_some_iff.1 h1.symm
 simp only [Prod.mk.injEq] at h2
 exact ⟨d,hd,h2.1.symm,h2.2.symm⟩
theorem MapAt.mem {w:World} {mb:Nat} {l:List Du} {es:Array MapEntry} {ck:Nat} (h:MapAt w mb l es ck) {e:MapEntry} (he:e∈es.toList):∃ d∈l,e.key = .int .i64 d.id∧e.val = .agg #[.int .i64 d.tm,.int .i64 d.id]:=by
 obtain ⟨j,hj⟩:=List.getElem?_of_mem he
 obtain ⟨d,hd,h1⟩:=h.at hj
 exact ⟨d,List.mem_of_getElem? hd,h1⟩
theorem MapAt.size {w:World} {mb:Nat} {l:List Du} {es:Array MapEntry} {ck:Nat} (h:MapAt w mb l es ck):es.size=l.length:=by
 have:=congrArg List.length h.ents
 simpa using this
theorem MapAt.find {w:World} {mb:Nat} {l:List Du} {es:Array MapEntry} {ck:Nat} (h:MapAt w mb l es ck) (i:Int) :
  (Instr.findNow (.int .i64) (.int .i64 i) es.toList 0=some none∧fM l i=false) ∨
  ∃ j d,Instr.findNow (.int .i64) (.int .i64 i) es.toList 0=some (some (j,.agg #[.int .i64 d.tm,.int .i64 d.id]))∧l[j]? = some d∧d.id=i∧j<es.size∧fM l i=true:=by
 have hks:∀ x∈es.toList,MapKept.IsKey (.int .i64) x.key:=fun x hx=>by
  obtain ⟨d,_,hk,_⟩:=h.mem hx
  rw [hk];rfl
 rcases MapKept.findNow_spec (d:=.int .i64) (k:=.int .i64 i) rfl es.toList 0 hks with ⟨h1,h2⟩ | ⟨j,e,h1,h2,h3⟩
 ·left
  refine ⟨h1,iB.2 fun d hd hdi=>?_⟩
  obtain ⟨j,hj⟩:=List.getElem?_of_mem hd
  have h4:=congrArg (·[j]?) h.ents
  simp only [List.getElem?_map,hj,Option.map_some] at h4
  obtain ⟨x,hx,h5⟩:=Option.map_eq_some_iff.1 h4
  simp only [Prod.mk.injEq] at h5
  exact h2 x (List.mem_of_getElem? hx) (by rw [h5.1,hdi])
 ·right
  obtain ⟨d,hd,h4,h5⟩:=h.at h2
  refine ⟨j,d,by rw [h1,h5,Nat.zero_add],hd,?_,by simpa using (List.getElem?_eq_some_iff.1 h2).1,FR.2 ⟨d,List.mem_of_getElem? hd,?_⟩⟩
  ·rw [h4] at h3;cases h3;rfl
  ·rw [h4] at h3;cases h3;rfl
theorem SF (w:World):(zeroValue 150).run Tryz.prog w = .ok (.agg #[.int .i64 0,.int .i64 0]) w:=by kernel_rfl
theorem Gj {w:World} {mb:Nat} {l:List Du} (h:MapD w mb l) (i:Int):∃ x:Du,(Instr.lookup 238 (.map (some mb)) (.int .i64 i) true).run Tryz.prog w = .ok (.tuple #[.agg #[.int .i64 x.tm,.int .i64 x.id],.bool (fM l i)]) w:=by
 obtain ⟨es,ck,h⟩:=h
 have hu:=Tryz.underlying238
 have hd:=Tryz.underlying3
 have hg:=MapKept.run_getObj_map (P:=Tryz.prog) h.obj
 have hc:=MapKept.run_checkKey (P:=Tryz.prog) (w:=w) (k:=.int .i64 i) hd rfl es.isEmpty 9999
 have hz:=SF w
 rcases h.find i with ⟨h1,h2⟩ | ⟨j,d,h1,h2,h3,h4,h5⟩
 ·have hf:=MapKept.run_findKey (P:=Tryz.prog) (w:=w) hd h1
  exact ⟨⟨0,0⟩,by simp [Instr.lookup,run_underlying hu,hg,hc,hf,hz,h2,Result.andThen]⟩
 ·have hf:=MapKept.run_findKey (P:=Tryz.prog) (w:=w) hd h1
  exact ⟨d,by simp [Instr.lookup,run_underlying hu,hg,hc,hf,h5,Result.andThen]⟩
theorem Dt {w:World} {mb:Nat} {o o' : Obj} (h:w.heap[mb]? = some o):Out [mb] w { w with heap:=w.heap.setIfInBounds mb o' }∧({ w with heap:=w.heap.setIfInBounds mb o' }:World).heap.size=w.heap.size∧({ w with heap:=w.heap.setIfInBounds mb o' }:World).heap[mb]? = some o' := by
 have hs:=MapKept.heap_set (o' := o') h
 exact ⟨⟨rfl,rfl,rfl,by simp,fun j _ hn=>hs.2 j (by simpa using hn)⟩,by simp,hs.1⟩
theorem BI {w:World} {mb:Nat} {l:List Du} (h:MapD w mb l) (d:Du) (hn:fM l d.id=false) :
  ∃ w',(Instr.mapUpdate 238 (.map (some mb)) (.int .i64 d.id) (.agg #[.int .i64 d.tm,.int .i64 d.id])).run Tryz.prog w = .ok () w' ∧ MapD w' mb (l++[d])∧Out [mb] w w' ∧ w'.heap.size=w.heap.size:=by
 obtain ⟨es,ck,h⟩:=h
 have hu:=Tryz.underlying238
 have hd:=Tryz.underlying3
 have hg:=MapKept.run_getObj_map (P:=Tryz.prog) h.obj
 have hc:=MapKept.run_checkKey (P:=Tryz.prog) (w:=w) (k:=.int .i64 d.id) hd rfl false 9999
 rcases h.find d.id with ⟨h1,h2⟩ | ⟨j,x,h1,h2,h3,h4,h5⟩
 ·have hf:=MapKept.run_findKey (P:=Tryz.prog) (w:=w) hd h1
  obtain ⟨o1,o2,o3⟩:=Dt (o' := .map (es.push { key:=.int .i64 d.id,val:=.agg #[.int .i64 d.tm,.int .i64 d.id],born:=ck }) (ck+1)) h.obj
  refine ⟨_,by simp [Instr.mapUpdate,run_underlying hu,hg,hc,hf,MapKept.run_setObj_map _ h.obj,Result.andThen],⟨_,_,o3,?_,?_,?_⟩,o1,o2⟩
  ·simp [h.ents]
  ·intro x hx
   simp only [Array.toList_push,List.mem_append,List.mem_singleton] at hx
   rcases hx with hx | rfl
   ·exact Nat.lt_succ_of_lt (h.born x hx)
   ·exact Nat.lt_succ_self _
  ·simp only [Array.toList_push,List.map_append,List.map_cons,List.map_nil]
   refine List.nodup_append.2 ⟨h.nodup,by simp,?_⟩
   intro a ha b hb
   simp only [List.mem_singleton] at hb
   subst hb
   obtain ⟨x,hx,rfl⟩:=List.mem_map.1 ha
   exact Nat.ne_of_lt (h.born x hx)
 ·rw [hn] at h5;cases h5
theorem oF:∀ {l:List Du} {j:Nat} {d:Du},Apart l→l[j]? = some d→l.eraseIdx j=without l d.id
 | [],_,_,_,h=>by simp at h
 | e::l,0,d,ha,h=>by
  simp only [List.getElem?_cons_zero,Option.some.injEq] at h
  subst h
  have hp:=(List.pairwise_cons.1 ha).1
  unfold without
  rw [List.eraseIdx_cons_zero,List.filter_cons_of_neg (by simp),List.filter_eq_self.2 (fun x hx=>by simpa using Ne.symm (hp x hx))]
 | e::l,j+1,d,ha,h=>by
  simp only [List.getElem?_cons_succ] at h
  have hp:=List.pairwise_cons.1 ha
  have ih:=oF hp.2 h
  have hne:e.id≠d.id:=hp.1 d (List.mem_of_getElem? h)
  unfold without at *
  rw [List.eraseIdx_cons_succ,ih,List.filter_cons_of_pos (by simpa using hne)]
theorem BN {l:List Du} {i:Int} (h:fM l i=false):without l i=l:=List.filter_eq_self.2 (fun x hx=>by simpa using iB.1 h x hx)
theorem Bu (es:Array MapEntry) {j:Nat} (hj:j<es.size):(es.eraseIdxIfInBounds j).toList=es.toList.eraseIdx j:=by
 unfold Array.eraseIdxIfInBounds
 rw [dif_pos hj]
 simp
theorem map_drop {w:World} {mb:Nat} {l:List Du} (h:MapD w mb l) (i:Int) (ha:Apart l) (ty:TypeId) :
  ∃ w',(Builtin.delete_ #[238,3] ty #[.map (some mb),.int .i64 i]).run Tryz.prog w = .ok (.tuple #[]) w' ∧ MapD w' mb (without l i)∧Out [mb] w w' ∧ w'.heap.size=w.heap.size:=by
 obtain ⟨es,ck,h⟩:=h
 have hu:=Tryz.underlying238
 have hd:=Tryz.underlying3
 have hg:=MapKept.run_getObj_map (P:=Tryz.prog) h.obj
 have hc:=MapKept.run_checkKey (P:=Tryz.prog) (w:=w) (k:=.int .i64 i) hd rfl es.isEmpty 9999
 rcases h.find i with ⟨h1,h2⟩ | ⟨j,x,h1,h2,h3,h4,h5⟩
 ·have hf:=MapKept.run_findKey (P:=Tryz.prog) (w:=w) hd h1
  obtain ⟨o1,o2,o3⟩:=Dt (o' := .map es ck) h.obj
  refine ⟨_,by simp [Builtin.delete_,run_underlying hu,hg,hc,hf,MapKept.run_setObj_map _ h.obj,Result.andThen],⟨_,_,o3,?_,h.born,h.nodup⟩,o1,o2⟩
  rw [BN h2];exact h.ents
 ·have hf:=MapKept.run_findKey (P:=Tryz.prog) (w:=w) hd h1
  obtain ⟨o1,o2,o3⟩:=Dt (o' := .map (es.eraseIdxIfInBounds j) ck) h.obj
  have ht:=Bu es h4
  refine ⟨_,by simp [Builtin.delete_,run_underlying hu,hg,hc,hf,MapKept.run_setObj_map _ h.obj,Result.andThen],⟨_,_,o3,?_,?_,?_⟩,o1,o2⟩
  ·rw [ht,← h3,← oF ha h2,Go.ChangeMaps.map_eraseIdx,Go.ChangeMaps.map_eraseIdx,h.ents]
  ·intro x hx
   rw [ht] at hx
   exact h.born x ((List.eraseIdx_sublist _ _).subset hx)
  ·rw [ht]
   exact ((List.eraseIdx_sublist _ _).map _).nodup h.nodup
end
section
open Go.ChangeShapes Go.WideShapes Go.ChangeAt Go.RowKit
def MJ (w:World) (l:List Du) (e:Ending) (w' : World):Prop :=
 Kept w w' ∧ ((okB l=true∧∃ mb,e = .returned (.tuple #[.map (some mb),.bool true])∧MapD w' mb l∧w.heap.size≤mb)∨(okB l=false∧e = .returned (.tuple #[.map none,.bool false])))
theorem nY {l:List Du} {j:Nat} (h:j<l.length):l.take (j+1)=l.take j++[gt l j]:=by
 rw [List.take_succ_eq_append_getElem h]
 simp [gt,List.getD,h]
theorem fU {l:List Du} {j:Nat} (h:j<l.length):l=l.take j++gt l j::l.drop (j+1):=by
 have h1:=List.take_append_drop (j+1) l
 rw [nY h,List.append_assoc] at h1
 exact h1.symm
theorem Lr {l:List Du} {j:Nat} (h:j<l.length) (h0:0<j):(l.take j).getLast? = some (gt l (j - 1)):=by
 obtain ⟨i,rfl⟩:∃ i,j=i+1:=⟨j - 1,by omega⟩
 rw [nY (by omega)]
 simp
theorem Yt {W:World} {l:List Du} {b o n c:Nat} (h:Sl W 2 Du.cells l (.slice (some ⟨b,o,none⟩) n c)) {j:Nat} (hj:j<l.length):W.cell? ⟨b,o+j * 2,none⟩=some (.int .i64 (gt l j).tm)∧W.cell? ⟨b,o+j * 2+1,none⟩=some (.int .i64 (gt l j).id):=by
 obtain ⟨p,k,e,_,_,_,h4⟩:=h.is
 cases e
 obtain ⟨b',o',e,_,h5⟩:=h4 (by intro h;subst h;simp at hj)
 cases e
 have h6:=h5 j (gt l j) (wm hj)
 have h7:=h6 0 (by omega)
 have h8:=h6 1 (by omega)
 exact ⟨by simpa [Du.cells] using h7,by simpa [Du.cells] using h8⟩
set_option maxHeartbeats 4000000 in
theorem OH (l:List Du) (p:Option Addr) (k:Nat) (w:World) (hl:Sl w 2 Du.cells l (.slice p l.length k)) (hm:l.length≤1000):Calls Tryz.prog 256 #[.slice p l.length k] w (MJ w l):=by
 have H:=Lib.hid hl
 have hmm:=@run_makeMap Tryz.prog
 obtain ⟨N,hN⟩:∃ N,l.length=N:=⟨_,rfl⟩
 rw [hN] at hl hm ⊢
 have HN:=Lib.hid hN
 clear hN hl
 go_enter Tryz.func256,Tryz.ntmps256
 go_wp2
 clear hmm
 have hM0:MapD (w.alloc (.map #[] 0)) w.heap.size []:=⟨#[],0,heap_alloc_new w _,rfl,by simp,by simp⟩
 go_loopw [12] (fun s12 wr=>∃ j:Nat,s12 = .int .i64 j∧j≤N∧MapD wr w.heap.size (l.take j)∧okB (l.take j)=true∧Below w.heap.size w wr) (fun s12 _=>N - (intOf s12).toNat)
 case atStart=>exact ⟨0,rfl,by omega,hM0,by show okB []=true;decide,by exact F6⟩
 case round =>
  obtain ⟨j,rfl,hj,hM,hok,hB⟩:=hrel
  clear hM0
  by_cases hlt:j<N
  ·have hlt' : j<l.length:=by rw [HN.out];exact hlt
   obtain ⟨p',k',e1,_,_,_,hne⟩:=H.out.is
   cases e1
   obtain ⟨b,o,rfl,hb,-⟩:=hne (by intro h;subst h;simp at hlt')
   obtain ⟨c1,c2⟩:=Yt (H.out.kept hB) hlt'
   have hbs:b<wr.heap.size:=by have:=hB.size;omega
   have b1:(0:Int)≤(j:Int):=by omega
   have b2:(j:Int)<(N:Int):=by omega
   obtain ⟨x,hx⟩:=Gj (hM.kept (w' := wr.alloc (.cells #[.int .i64 (gt l j).tm,.int .i64 (gt l j).id] 150)) (by exact F6)) (gt l j).id
   obtain ⟨T,hT⟩:∃ T,fM (l.take j) (gt l j).id=T:=⟨_,rfl⟩
   rw [hT] at hx
   have HT:=Lib.hid hT
   have HM:=Lib.hid hM
   have Hok:=Lib.hid hok
   have HB:=Lib.hid hB
   obtain ⟨I,hI⟩:∃ I,mO (gt l j)=I:=⟨_,rfl⟩
   obtain ⟨F,hF⟩:∃ F,lQ (gt l j)=F:=⟨_,rfl⟩
   have HI:=Lib.hid hI
   have HF:=Lib.hid hF
   clear hM hok hT hB hne
   cases T
   ·cases I
    ·go_wp2;obtain ⟨V,hV⟩:∃ V,(wr.alloc (.cells #[.int .i64 (gt l j).tm,.int .i64 (gt l j).id] 150)).alloc (.cells #[.int .i64 x.tm,.int .i64 x.id] 150)=V:=⟨_,rfl⟩;have hBV:Below wr.heap.size wr V:=(by rw [← hV];exact F6);have hcs:E8 V [(wr.heap.size,0,.int .i64 (gt l j).tm),(wr.heap.size,1,.int .i64 (gt l j).id)]:=(by rw [← hV];(exact xP));rw [hV];clear hV hx
     (refine R7 (w:=V) [(wr.heap.size,0,.int .i64 (gt l j).tm),(wr.heap.size,1,.int .i64 (gt l j).id)] (by kernel_rfl) (by kernel_rfl) (Below.refl _ _) (by first | exact hcs | (simp [E8, *];done) | (simp [E8, *];omega)) (fun hne=>?_);(have hq0:∀ xwd:Wd V [(wr.heap.size,0,.int .i64 (gt l j).tm),(wr.heap.size,1,.int .i64 (gt l j).id)],xwd.at.cell? ⟨wr.heap.size,0,none⟩=some (.int .i64 (gt l j).tm):=fun xwd=>xwd.cells.1.2;have hq1:∀ xwd:Wd V [(wr.heap.size,0,.int .i64 (gt l j).tm),(wr.heap.size,1,.int .i64 (gt l j).id)],xwd.at.cell? ⟨wr.heap.size,1,none⟩=some (.int .i64 (gt l j).id):=fun xwd=>xwd.cells.2.1.2);(try simp only [List.append_eq,List.cons_append,List.nil_append]);(repeat (go_big_quiet_step ((first | (go_at_call 266;exact Q0 (dH _ _))))));(refine wpQuiet_nil ?_);intro wq hwq;obtain ⟨xwd,hxwd⟩:=hwq;have hgx:Below V.heap.size V wq:=(by rw [hxwd];exact xwd.kept);have hcs:=(show E8 wq [(wr.heap.size,0,.int .i64 (gt l j).tm),(wr.heap.size,1,.int .i64 (gt l j).id)] by rw [hxwd];exact xwd.cells);clear hxwd xwd hne)
     go_wp2;go_ret2;exact ⟨HB.out.trans (((hBV.trans (hgx.mono hBV.size))).mono HB.out.size),.inr ⟨by rw [fU hlt'];exact iJ (.inr (.inl HI.out)),rfl⟩⟩
    ·cases F
     ·go_wp2;obtain ⟨V,hV⟩:∃ V,(wr.alloc (.cells #[.int .i64 (gt l j).tm,.int .i64 (gt l j).id] 150)).alloc (.cells #[.int .i64 x.tm,.int .i64 x.id] 150)=V:=⟨_,rfl⟩;have hBV:Below wr.heap.size wr V:=(by rw [← hV];exact F6);have hcs:E8 V [(wr.heap.size,0,.int .i64 (gt l j).tm),(wr.heap.size,1,.int .i64 (gt l j).id)]:=(by rw [← hV];(exact xP));rw [hV];clear hV hx
      (refine R7 (w:=V) [(wr.heap.size,0,.int .i64 (gt l j).tm),(wr.heap.size,1,.int .i64 (gt l j).id)] (by kernel_rfl) (by kernel_rfl) (Below.refl _ _) (by first | exact hcs | (simp [E8, *];done) | (simp [E8, *];omega)) (fun hne=>?_);(have hq0:∀ xwd:Wd V [(wr.heap.size,0,.int .i64 (gt l j).tm),(wr.heap.size,1,.int .i64 (gt l j).id)],xwd.at.cell? ⟨wr.heap.size,0,none⟩=some (.int .i64 (gt l j).tm):=fun xwd=>xwd.cells.1.2;have hq1:∀ xwd:Wd V [(wr.heap.size,0,.int .i64 (gt l j).tm),(wr.heap.size,1,.int .i64 (gt l j).id)],xwd.at.cell? ⟨wr.heap.size,1,none⟩=some (.int .i64 (gt l j).id):=fun xwd=>xwd.cells.2.1.2);(try simp only [List.append_eq,List.cons_append,List.nil_append]);(repeat (go_big_quiet_step ((first | (go_at_call 266;exact Q0 (dH _ _)) | (go_at_call 267;exact Q0 (dx _ _))))));(refine wpQuiet_nil ?_);intro wq hwq;obtain ⟨xwd,hxwd⟩:=hwq;have hgx:Below V.heap.size V wq:=(by rw [hxwd];exact xwd.kept);have hcs:=(show E8 wq [(wr.heap.size,0,.int .i64 (gt l j).tm),(wr.heap.size,1,.int .i64 (gt l j).id)] by rw [hxwd];exact xwd.cells);clear hxwd xwd hne)
      go_wp2;go_ret2;exact ⟨HB.out.trans (((hBV.trans (hgx.mono hBV.size))).mono HB.out.size),.inr ⟨by rw [fU hlt'];exact iJ (.inr (.inr (.inl HF.out))),rfl⟩⟩
     ·by_cases hj0:j=0
      ·have b4:decide (0<j)=false:=by simp;omega
       have HJ:=Lib.hid hj0
       clear hj0
       go_wp2;obtain ⟨V,hV⟩:∃ V,(wr.alloc (.cells #[.int .i64 (gt l j).tm,.int .i64 (gt l j).id] 150)).alloc (.cells #[.int .i64 x.tm,.int .i64 x.id] 150)=V:=⟨_,rfl⟩;have hBV:Below wr.heap.size wr V:=(by rw [← hV];exact F6);have hcs:E8 V [(wr.heap.size,0,.int .i64 (gt l j).tm),(wr.heap.size,1,.int .i64 (gt l j).id)]:=(by rw [← hV];(exact xP));rw [hV];clear hV hx
       (refine R7 (w:=V) [(wr.heap.size,0,.int .i64 (gt l j).tm),(wr.heap.size,1,.int .i64 (gt l j).id)] (by kernel_rfl) (by kernel_rfl) (Below.refl _ _) (by first | exact hcs | (simp [E8, *];done) | (simp [E8, *];omega)) (fun hne=>?_);(have hq0:∀ xwd:Wd V [(wr.heap.size,0,.int .i64 (gt l j).tm),(wr.heap.size,1,.int .i64 (gt l j).id)],xwd.at.cell? ⟨wr.heap.size,0,none⟩=some (.int .i64 (gt l j).tm):=fun xwd=>xwd.cells.1.2;have hq1:∀ xwd:Wd V [(wr.heap.size,0,.int .i64 (gt l j).tm),(wr.heap.size,1,.int .i64 (gt l j).id)],xwd.at.cell? ⟨wr.heap.size,1,none⟩=some (.int .i64 (gt l j).id):=fun xwd=>xwd.cells.2.1.2);(try simp only [List.append_eq,List.cons_append,List.nil_append]);(repeat (go_big_quiet_step ((first | (go_at_call 266;exact Q0 (dH _ _)) | (go_at_call 267;exact Q0 (dx _ _))))));(refine wpQuiet_nil ?_);intro wq hwq;obtain ⟨xwd,hxwd⟩:=hwq;have hgx:Below V.heap.size V wq:=(by rw [hxwd];exact xwd.kept);have hcs:=(show E8 wq [(wr.heap.size,0,.int .i64 (gt l j).tm),(wr.heap.size,1,.int .i64 (gt l j).id)] by rw [hxwd];exact xwd.cells);clear hxwd xwd hne)
       clear b4
       have hrx:Below wr.heap.size wr wq:=hBV.trans (hgx.mono hBV.size);obtain ⟨w3,hu,hM3,hO3,hs3⟩:=BI (HM.out.kept hrx) (gt l j) HT.out;have hq0:=hcs.1.2;have hq1:=hcs.2.1.2;have hz0:=hcs.1.1;have HE:=Lib.hid (And.intro hM3 (And.intro hO3 hs3));clear hM3 hO3 hs3;go_wp2;go_roundw;(case rel=>exact ⟨j+1,by go_num,by omega,by rw [nY hlt'];exact HE.out.1,by rw [nY hlt'];exact FW Hok.out HT.out HI.out HF.out (fun e he=>by rw [HJ.out] at he;simp at he),Out.below (HB.out.trans (hrx.mono HB.out.size)) HE.out.2.1 (fun x hx=>by rw [List.mem_singleton] at hx;subst hx;exact Nat.le_refl _) (by have:=hrx.size;have:=HB.out.size;omega)⟩);(case measure=>simp [intOf];omega)
      ·have b4:(0:Int)<(j:Int):=by omega
       obtain ⟨i,hi⟩:∃ i,j - 1=i:=⟨_,rfl⟩
       have b5:(j:Int) - 1=(i:Int):=by omega
       have b6:(0:Int)≤(i:Int):=by omega
       have b7:(i:Int)<(N:Int):=by omega
       have hjp:0<j:=by omega
       have HJ:=Lib.hid hi
       obtain ⟨c3,c4⟩:=Yt (H.out.kept HB.out) (j:=i) (by omega)
       obtain ⟨A,hA⟩:∃ A,R3 (gt l i) (gt l j)=A:=⟨_,rfl⟩
       have HA:=Lib.hid hA
       clear hi hj0
       cases A
       ·go_wp2;obtain ⟨V,hV⟩:∃ V,(wr.alloc (.cells #[.int .i64 (gt l j).tm,.int .i64 (gt l j).id] 150)).alloc (.cells #[.int .i64 x.tm,.int .i64 x.id] 150)=V:=⟨_,rfl⟩;have hBV:Below wr.heap.size wr V:=(by rw [← hV];exact F6);have hcs:E8 V [(wr.heap.size,0,.int .i64 (gt l j).tm),(wr.heap.size,1,.int .i64 (gt l j).id)]:=(by rw [← hV];(exact xP));rw [hV];clear hV hx
        have c5:=((aY hBV).1 _ (o+i * 2) hbs).trans c3
        have c6:=((aY hBV).1 _ (o+i * 2+1) hbs).trans c4
        have hcs:=And.intro (And.intro (Nat.lt_of_lt_of_le hbs hBV.size) c5) (And.intro (And.intro (Nat.lt_of_lt_of_le hbs hBV.size) c6) hcs)
        (refine R7 (w:=V) [(b,o+i * 2,.int .i64 (gt l i).tm),(b,o+i * 2+1,.int .i64 (gt l i).id),(wr.heap.size,0,.int .i64 (gt l j).tm),(wr.heap.size,1,.int .i64 (gt l j).id)] (by kernel_rfl) (by kernel_rfl) (Below.refl _ _) (by first | exact hcs | (simp [E8, *];done) | (simp [E8, *];omega)) (fun hne=>?_);(have hq0:∀ xwd:Wd V [(b,o+i * 2,.int .i64 (gt l i).tm),(b,o+i * 2+1,.int .i64 (gt l i).id),(wr.heap.size,0,.int .i64 (gt l j).tm),(wr.heap.size,1,.int .i64 (gt l j).id)],xwd.at.cell? ⟨b,o+i * 2,none⟩=some (.int .i64 (gt l i).tm):=fun xwd=>xwd.cells.1.2;have hq1:∀ xwd:Wd V [(b,o+i * 2,.int .i64 (gt l i).tm),(b,o+i * 2+1,.int .i64 (gt l i).id),(wr.heap.size,0,.int .i64 (gt l j).tm),(wr.heap.size,1,.int .i64 (gt l j).id)],xwd.at.cell? ⟨b,o+i * 2+1,none⟩=some (.int .i64 (gt l i).id):=fun xwd=>xwd.cells.2.1.2;have hq2:∀ xwd:Wd V [(b,o+i * 2,.int .i64 (gt l i).tm),(b,o+i * 2+1,.int .i64 (gt l i).id),(wr.heap.size,0,.int .i64 (gt l j).tm),(wr.heap.size,1,.int .i64 (gt l j).id)],xwd.at.cell? ⟨wr.heap.size,0,none⟩=some (.int .i64 (gt l j).tm):=fun xwd=>xwd.cells.2.2.1.2;have hq3:∀ xwd:Wd V [(b,o+i * 2,.int .i64 (gt l i).tm),(b,o+i * 2+1,.int .i64 (gt l i).id),(wr.heap.size,0,.int .i64 (gt l j).tm),(wr.heap.size,1,.int .i64 (gt l j).id)],xwd.at.cell? ⟨wr.heap.size,1,none⟩=some (.int .i64 (gt l j).id):=fun xwd=>xwd.cells.2.2.2.1.2);(try simp only [List.append_eq,List.cons_append,List.nil_append]);(repeat (go_big_quiet_step ((first | (go_at_call 266;exact Q0 (dH _ _)) | (go_at_call 267;exact Q0 (dx _ _)) | (go_at_call 270;exact Q0 (Dj _ _ _))))));(refine wpQuiet_nil ?_);intro wq hwq;obtain ⟨xwd,hxwd⟩:=hwq;have hgx:Below V.heap.size V wq:=(by rw [hxwd];exact xwd.kept);have hcs:=(show E8 wq [(b,o+i * 2,.int .i64 (gt l i).tm),(b,o+i * 2+1,.int .i64 (gt l i).id),(wr.heap.size,0,.int .i64 (gt l j).tm),(wr.heap.size,1,.int .i64 (gt l j).id)] by rw [hxwd];exact xwd.cells);clear hxwd xwd hne)
        go_wp2;go_ret2;exact ⟨HB.out.trans (((hBV.trans (hgx.mono hBV.size))).mono HB.out.size),.inr ⟨by rw [fU hlt'];exact iJ (.inr (.inr (.inr ⟨_,(Lr hlt' hjp).trans (by rw [HJ.out]),HA.out⟩))),rfl⟩⟩
       ·go_wp2;obtain ⟨V,hV⟩:∃ V,(wr.alloc (.cells #[.int .i64 (gt l j).tm,.int .i64 (gt l j).id] 150)).alloc (.cells #[.int .i64 x.tm,.int .i64 x.id] 150)=V:=⟨_,rfl⟩;have hBV:Below wr.heap.size wr V:=(by rw [← hV];exact F6);have hcs:E8 V [(wr.heap.size,0,.int .i64 (gt l j).tm),(wr.heap.size,1,.int .i64 (gt l j).id)]:=(by rw [← hV];(exact xP));rw [hV];clear hV hx
        have c5:=((aY hBV).1 _ (o+i * 2) hbs).trans c3
        have c6:=((aY hBV).1 _ (o+i * 2+1) hbs).trans c4
        have hcs:=And.intro (And.intro (Nat.lt_of_lt_of_le hbs hBV.size) c5) (And.intro (And.intro (Nat.lt_of_lt_of_le hbs hBV.size) c6) hcs)
        (refine R7 (w:=V) [(b,o+i * 2,.int .i64 (gt l i).tm),(b,o+i * 2+1,.int .i64 (gt l i).id),(wr.heap.size,0,.int .i64 (gt l j).tm),(wr.heap.size,1,.int .i64 (gt l j).id)] (by kernel_rfl) (by kernel_rfl) (Below.refl _ _) (by first | exact hcs | (simp [E8, *];done) | (simp [E8, *];omega)) (fun hne=>?_);(have hq0:∀ xwd:Wd V [(b,o+i * 2,.int .i64 (gt l i).tm),(b,o+i * 2+1,.int .i64 (gt l i).id),(wr.heap.size,0,.int .i64 (gt l j).tm),(wr.heap.size,1,.int .i64 (gt l j).id)],xwd.at.cell? ⟨b,o+i * 2,none⟩=some (.int .i64 (gt l i).tm):=fun xwd=>xwd.cells.1.2;have hq1:∀ xwd:Wd V [(b,o+i * 2,.int .i64 (gt l i).tm),(b,o+i * 2+1,.int .i64 (gt l i).id),(wr.heap.size,0,.int .i64 (gt l j).tm),(wr.heap.size,1,.int .i64 (gt l j).id)],xwd.at.cell? ⟨b,o+i * 2+1,none⟩=some (.int .i64 (gt l i).id):=fun xwd=>xwd.cells.2.1.2;have hq2:∀ xwd:Wd V [(b,o+i * 2,.int .i64 (gt l i).tm),(b,o+i * 2+1,.int .i64 (gt l i).id),(wr.heap.size,0,.int .i64 (gt l j).tm),(wr.heap.size,1,.int .i64 (gt l j).id)],xwd.at.cell? ⟨wr.heap.size,0,none⟩=some (.int .i64 (gt l j).tm):=fun xwd=>xwd.cells.2.2.1.2;have hq3:∀ xwd:Wd V [(b,o+i * 2,.int .i64 (gt l i).tm),(b,o+i * 2+1,.int .i64 (gt l i).id),(wr.heap.size,0,.int .i64 (gt l j).tm),(wr.heap.size,1,.int .i64 (gt l j).id)],xwd.at.cell? ⟨wr.heap.size,1,none⟩=some (.int .i64 (gt l j).id):=fun xwd=>xwd.cells.2.2.2.1.2);(try simp only [List.append_eq,List.cons_append,List.nil_append]);(repeat (go_big_quiet_step ((first | (go_at_call 266;exact Q0 (dH _ _)) | (go_at_call 267;exact Q0 (dx _ _)) | (go_at_call 270;exact Q0 (Dj _ _ _))))));(refine wpQuiet_nil ?_);intro wq hwq;obtain ⟨xwd,hxwd⟩:=hwq;have hgx:Below V.heap.size V wq:=(by rw [hxwd];exact xwd.kept);have hcs:=(show E8 wq [(b,o+i * 2,.int .i64 (gt l i).tm),(b,o+i * 2+1,.int .i64 (gt l i).id),(wr.heap.size,0,.int .i64 (gt l j).tm),(wr.heap.size,1,.int .i64 (gt l j).id)] by rw [hxwd];exact xwd.cells);clear hxwd xwd hne)
        have hcs:=hcs.2.2
        clear b5
        have hrx:Below wr.heap.size wr wq:=hBV.trans (hgx.mono hBV.size);obtain ⟨w3,hu,hM3,hO3,hs3⟩:=BI (HM.out.kept hrx) (gt l j) HT.out;have hq0:=hcs.1.2;have hq1:=hcs.2.1.2;have hz0:=hcs.1.1;have HE:=Lib.hid (And.intro hM3 (And.intro hO3 hs3));clear hM3 hO3 hs3;go_wp2;go_roundw;(case rel=>exact ⟨j+1,by go_num,by omega,by rw [nY hlt'];exact HE.out.1,by rw [nY hlt'];exact FW Hok.out HT.out HI.out HF.out (fun e he=>by rw [Lr hlt' hjp,HJ.out] at he;cases he;exact HA.out),Out.below (HB.out.trans (hrx.mono HB.out.size)) HE.out.2.1 (fun x hx=>by rw [List.mem_singleton] at hx;subst hx;exact Nat.le_refl _) (by have:=hrx.size;have:=HB.out.size;omega)⟩);(case measure=>simp [intOf];omega)
   ·go_wp2;obtain ⟨V,hV⟩:∃ V,(wr.alloc (.cells #[.int .i64 (gt l j).tm,.int .i64 (gt l j).id] 150)).alloc (.cells #[.int .i64 x.tm,.int .i64 x.id] 150)=V:=⟨_,rfl⟩;have hBV:Below wr.heap.size wr V:=(by rw [← hV];exact F6);have hcs:E8 V [(wr.heap.size,0,.int .i64 (gt l j).tm),(wr.heap.size,1,.int .i64 (gt l j).id)]:=(by rw [← hV];(exact xP));rw [hV];clear hV hx
    (refine R7 (w:=V) [(wr.heap.size,0,.int .i64 (gt l j).tm),(wr.heap.size,1,.int .i64 (gt l j).id)] (by kernel_rfl) (by kernel_rfl) (Below.refl _ _) (by first | exact hcs | (simp [E8, *];done) | (simp [E8, *];omega)) (fun hne=>?_);(have hq0:∀ xwd:Wd V [(wr.heap.size,0,.int .i64 (gt l j).tm),(wr.heap.size,1,.int .i64 (gt l j).id)],xwd.at.cell? ⟨wr.heap.size,0,none⟩=some (.int .i64 (gt l j).tm):=fun xwd=>xwd.cells.1.2;have hq1:∀ xwd:Wd V [(wr.heap.size,0,.int .i64 (gt l j).tm),(wr.heap.size,1,.int .i64 (gt l j).id)],xwd.at.cell? ⟨wr.heap.size,1,none⟩=some (.int .i64 (gt l j).id):=fun xwd=>xwd.cells.2.1.2);(try simp only [List.append_eq,List.cons_append,List.nil_append]);(repeat (go_big_quiet_step ((first | fail))));(refine wpQuiet_nil ?_);intro wq hwq;obtain ⟨xwd,hxwd⟩:=hwq;have hgx:Below V.heap.size V wq:=(by rw [hxwd];exact xwd.kept);have hcs:=(show E8 wq [(wr.heap.size,0,.int .i64 (gt l j).tm),(wr.heap.size,1,.int .i64 (gt l j).id)] by rw [hxwd];exact xwd.cells);clear hxwd xwd hne)
    go_wp2;go_ret2;exact ⟨HB.out.trans (((hBV.trans (hgx.mono hBV.size))).mono HB.out.size),.inr ⟨by rw [fU hlt'];exact iJ (.inl HT.out),rfl⟩⟩
  ·have:j=N:=by omega
   subst this
   have HE:=Lib.hid (And.intro hM (And.intro hok hB))
   clear hM hok hB hlt hj
   go_wp2
   go_ret2
   have e1:l.take j=l:=by rw [← HN.out];exact List.take_length
   have h2:=HE.out
   rw [e1] at h2
   exact ⟨h2.2.2,.inl ⟨h2.2.1,_,rfl,h2.1,Nat.le_refl _⟩⟩
end
end Go.Proofs.YtfogkllejkmpdaaGreat
