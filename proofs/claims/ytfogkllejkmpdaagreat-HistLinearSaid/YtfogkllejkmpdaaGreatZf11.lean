/- Texts merged: CcDT, SlET, AcOT, AcTT, ThET, ThIT, ThMT, AcPT, AcQT, CcET, AcRT, SdKT, StepFT, StepLT. -/
import Derived.Test.YtfogkllejkmpdaaGreatZf10
import Derived.Test.YtfogkllejkmpdaaGreatZf5
import Derived.Test.YtfogkllejkmpdaaGreatZf1
import Derived.Laws.StructEq
import Derived.Test.YtfogkllejkmpdaaGreatZf8
import Derived.Test.YtfogkllejkmpdaaGreatZf6
import Derived.Test.YtfogkllejkmpdaaGreatZf9
namespace Go.Proofs.YtfogkllejkmpdaaGreat
set_option linter.unusedVariables false
set_option linter.unusedSimpArgs false
set_option maxRecDepth 100000
section
open Go.RowKit
theorem Vt {u:St} {n:Nat} {f:Th→Th} (hB:stB u=true) (hB' : stB (u.onTh n f)=true) (hn:n<u.th.length) (h1:(gth u.th n).st≠2) (h2:(f (gth u.th n)).st≠2) (i:Int):G9 (u.onTh n f) i=(G9 u i).onTh n f:=by
 have hl:(u.onTh n f).th.length=u.th.length:=by show (u.th.set n _).length=_;simp
 have hb:hasB (u.onTh n f) i=hasB u i:=by unfold hasB;rw [hB,hB',hl]
 unfold G9
 rw [hb]
 split
 ·next hh =>
  obtain ⟨-,h3,h4⟩:=J5.1 hh
  obtain ⟨k,rfl⟩:∃ k:Nat,i=k:=⟨i.toNat,by omega⟩
  have hk:k<u.th.length:=by omega
  rw [Int.toNat_natCast]
  show St.mk _ _ _ _ _ _ _ _ _ _ _ _ ((u.th.set n (f (gth u.th n))).set k (D8 (gth (u.th.set n (f (gth u.th n))) k))) _=St.mk _ _ _ _ _ _ _ _ _ _ _ _ ((u.th.set k (D8 (gth u.th k))).set n (f (gth (u.th.set k (D8 (gth u.th k))) n))) _
  by_cases e:n=k
  ·subst e
   rw [H9 hn,if_pos rfl,H9 hn,if_pos rfl,List.set_set,List.set_set,nM h1,nM h2];rfl
  ·rw [H9 hn,if_neg e,H9 hk,if_neg (fun x=>e x.symm),List.set_comm _ _ e];rfl
 ·rfl
theorem xH {n:Nat} {f:Th→Th}:∀ (l:List Int) {u:St},stB u=true→stB (u.onTh n f)=true→n<u.th.length→(gth u.th n).st≠2→(f (gth u.th n)).st≠2→J9 l (u.onTh n f)=(J9 l u).onTh n f
 | [],_,_,_,_,_,_=>rfl
 | i::l,u,hB,hB',hn,h1,h2=>by
  have e:=Vt hB hB' hn h1 h2 i
  have hg:gth (G9 u i).th n=gth u.th n:=by
   rw [Bw hB i hn];split
   ·exact nM h1
   ·rfl
  show J9 l (G9 (u.onTh n f) i)=(J9 l (G9 u i)).onTh n f
  rw [e]
  exact xH l (eU hB i) (e ▸ eU hB' i) (by rw [(bE u i).2.2.2];exact hn) (by rw [hg];exact h1) (by rw [hg];exact h2)
theorem yl {n:Nat} (l:List Int) {u:St} (hB:stB u=true) (hn:n<u.th.length) (h1:(gth u.th n).st≠2):gth (J9 l u).th n=gth u.th n:=by
 rw [mW l hB hn];split
 ·exact nM h1
 ·rfl
theorem SG {s:St} {i:Int} (ho:s.ok) (hf:s.fit) (ht:s.th≠[]):AO Tryz.prog 154 [stT s,.int .i64 i] (stL (G9 s i)) 18 11:=by
 cases hA:hasB s i
 ·rw [show G9 s i=s by simp [G9,hA]];exact kN hA ho hf ht
 ·obtain ⟨-,h0,h1⟩:=J5.1 hA
  obtain ⟨n,rfl⟩:∃ n:Nat,i=n:=⟨i.toNat,by omega⟩
  rw [show G9 s n=s.onTh n D8 by simp [G9,hA]]
  exact CE hA ho hf
def ZX (l:List Int) (i:Int):List (Nat×Value):=[(0,pt 0),(6,l5 l),(7,.int .i64 l.length),(8,.int .i64 i)]
def hdW (v:St) (n:Int) (l:List Int) (i:Int) (N:Nat):Sg:=⟨mkT 22 (ZX l i),[bX v n N,bT v.th N]⟩
theorem a2M {s:St} {N:Nat} (h:Wk s N):s.th≠[]:=by
 rintro e
 have:=(Y3 h.b).2.1
 rw [e] at this;simp at this
theorem ixW {l:List Int} {i:Nat} (h:i<l.length):IxP ((l.map (Value.int .i64 ·)).toArray) (i:Int) (.int .i64 l[i]):=⟨by omega,by simp [h]⟩
theorem Pn {l:List Int} (hm:l.length≤1000000) (n:Int):∀ (k i:Nat) {v:St},l.length - i=k→i≤l.length→Wk v 1000000→eY Tryz.prog 1 (j3 Tryz.prog 347 0) (hdW v n l i v.th.length) (.exit 0) (hdW (J9 (l.drop i) v) n l l.length (J9 (l.drop i) v).th.length)
 | 0,i,v,hk,hi,_=>by
  have:i=l.length:=by omega
  subst this
  rw [List.drop_length]
  exact jo mixed (fuel:=9) (n:=9) (keep:=[0,6,7,8]) (ext:=[154]) (im:=[0,1]) (orc:=[.bool false]) (an (show decide ((l.length:Int)<l.length)=false by simp) trivial) (by intro e;cases e) (by kernel_rfl) (by rfl)
 | k+1,i,v,hk,hi,h=>by
  have h1:i<l.length:=by omega
  have ih:=Pn hm n k (i+1) (v:=G9 v l[i]) (by omega) (by omega) (h.wake _)
  rw [show ((i+1:Nat):Int)=(i:Int)+1 by omega] at ih
  rw [List.drop_eq_getElem_cons h1]
  exact bC mixed (fuel:=9) (n:=9) (keep:=[0,6,7,8]) (ext:=[154]) (im:=[0,2]) (orc:=[.bool true,.int .i64 l[i],.iface 1000004 (.func (.yield 18) #[.agg (stL (G9 v l[i])),.int .i64 11] #[])])
   (an (show decide ((i:Int)<l.length)=true by simp;omega)<|an (ixW h1)<|an (l7 (f:=thT) v.th)<|an (SG (i:=l[i]) (h.ok (by omega)) (h.fit (by omega)) (a2M h))<|an (show In64 ((i:Int)+1) by constructor <;> omega) trivial) (by kernel_rfl) (by rfl) ih
theorem JX {l:List Int} (hm:l.length≤1000000) (n:Int) {v:St} (h:Wk v 1000000):eY Tryz.prog 1 (j3 Tryz.prog 347 0) (hdW v n l 0 v.th.length) (.exit 0) (hdW (J9 l v) n l l.length (J9 l v).th.length):=by
 have:=Pn hm n l.length 0 rfl (by omega) h
 rwa [List.drop_zero] at this
def bBc (x:Nat):Option Blk:=some ⟨true,false,1,1,[pt x]⟩
def hdC (s:St) (i m o:Int) (N:Nat):Sg:=⟨mkT 35 [(2,.int .i64 m),(6,pt 2),(8,pt 0),(9,.func (.func 314) #[] #[pt 3]),(10,.int .i64 o)],[bX s i N,bT s.th N,bZ,bBc 0]⟩
def bEc (s:St) (N:Nat):Option Blk:=some ⟨true,false,20,1,[.agg (stO s 1 N).toArray]⟩
def enC (s:St) (o:Int) (N:Nat):Sg:=⟨mkT 35 [(6,pt 0),(7,.int .i64 o)],[bEc s N,bT s.th N]⟩
def cPX:List FuncId:=[42,248,109,345,344,335,346,154,333]
def cPO (t:Th) (c:Int):List Value:=[.bool false,vD true,.bool false,.bool false,thT (pcT t c),.int .i64 0,.nilFunc,thT (pcT t c),.int .i64 3,.nilFunc,thT (pcT t c)]
section
variable {s:St} {i m o:Int}
theorem BC (h:decide (m≤o)=true):X3 Tryz.prog 0 (U2 Tryz.prog 263) (hdC s i m o s.th.length) .ret (enC s o s.th.length):=fw mixed (fuel:=9) (n:=9) (im:=[2,1]) (keep:=[6,7]) (ext:=cPX) (orc:=[.bool true]) (an h trivial) (by intro l e;cases e) (by kernel_rfl)
theorem QR (h:decide (m≤o)=false) (hB:stB s=false) (ho:s.ok):X3 Tryz.prog 0 (U2 Tryz.prog 263) (hdC s i m o s.th.length) .ret (enC s o s.th.length):=fw mixed (fuel:=9) (n:=9) (im:=[2,1]) (keep:=[6,7]) (ext:=cPX) (orc:=[.bool false,vD false]) (an h<|an (l7 (f:=thT) s.th)<|an (o7 hB ho) trivial) (by intro l e;cases e) (by kernel_rfl)
theorem a1F (h:decide (m≤o)=false) (hB:stB s=true) (ho:s.ok) (hi:decide (i<0)=true):X3 Tryz.prog 0 (U2 Tryz.prog 263) (hdC s i m o s.th.length) .ret (enC s o s.th.length):=fw mixed (fuel:=9) (n:=9) (im:=[2,1]) (keep:=[6,7]) (ext:=cPX) (orc:=[.bool false,vD true,.bool true]) (an h<|an (l7 (f:=thT) s.th)<|an (o7 hB ho)<|an hi trivial) (by intro l e;cases e) (by kernel_rfl)
theorem UY (h:decide (m≤o)=false) (hB:stB s=true) (ho:s.ok) (hi:decide (i<0)=false) (hj:decide ((s.th.length:Int)≤i)=true):X3 Tryz.prog 0 (U2 Tryz.prog 263) (hdC s i m o s.th.length) .ret (enC s o s.th.length):=fw mixed (fuel:=9) (n:=9) (im:=[2,1]) (keep:=[6,7]) (ext:=cPX) (orc:=[.bool false,vD true,.bool false,.bool true]) (an h<|an (l7 (f:=thT) s.th)<|an (o7 hB ho)<|an hi<|an hj trivial) (by intro l e;cases e) (by kernel_rfl)
variable {n:Nat}
theorem WU (h:decide (m≤o)=false) (hB:stB s=true) (ho:s.ok) (hn:n<s.th.length) (hr:(H7 (gth s.th n).st==0)=false):X3 Tryz.prog 0 (U2 Tryz.prog 263) (hdC s n m o s.th.length) .ret (enC s o s.th.length):=fw mixed (fuel:=9) (n:=9) (im:=[2,1]) (keep:=[6,7]) (ext:=cPX) (orc:=[.bool false,vD true,.bool false,.bool false,thT (gth s.th n),.int .i64 (H7 (gth s.th n).st),.bool false])
 (an h<|an (l7 (f:=thT) s.th)<|an (o7 hB ho)<|an (show decide ((n:Int)<0)=false by simp)<|an (show decide ((s.th.length:Int)≤n)=false by simp;omega)<|an (idT hn)<|an (elT hn)<|an (V6 (t:=gth s.th n) rfl)<|an hr trivial) (by intro l e;cases e) (by kernel_rfl)
theorem Xm (h:decide (m≤o)=false) (hB:stB s=true) (ho:s.ok) (hn:n<s.th.length) (hr:H7 (gth s.th n).st=0) (hs:(j6 (gth s.th n).ki==3)=false):X3 Tryz.prog 0 (U2 Tryz.prog 263) (hdC s n m o s.th.length) .ret (enC s o s.th.length):=fw mixed (fuel:=9) (n:=9) (im:=[2,1]) (keep:=[6,7]) (ext:=cPX) (orc:=[.bool false,vD true,.bool false,.bool false,thT (gth s.th n),.int .i64 0,.nilFunc,thT (gth s.th n),.int .i64 (j6 (gth s.th n).ki),.bool true])
 (an h<|an (l7 (f:=thT) s.th)<|an (o7 hB ho)<|an (show decide ((n:Int)<0)=false by simp)<|an (show decide ((s.th.length:Int)≤n)=false by simp;omega)<|an (idT hn)<|an (elT hn)<|an (V6 (t:=gth s.th n) hr)<|an (idT hn)<|an (elT hn)<|an (O8 (gth s.th n).ki)<|an (show (!(j6 (gth s.th n).ki==3))=true by rw [hs];rfl) trivial) (by intro l e;cases e) (by kernel_rfl)
theorem Qm (ho:s.ok) (hr:J8 s i 3=false):X3 Tryz.prog 0 (U2 Tryz.prog 263) (hdC s i m o s.th.length) .ret (enC s o s.th.length):=by
 cases h:decide (m≤o)
 ·cases hB:stB s
  ·exact QR h hB ho
  ·by_cases h0:i<0
   ·exact a1F h hB ho (by simp [h0])
   ·by_cases h1:(s.th.length:Int)≤i
    ·exact UY h hB ho (by simp;omega) (by simp [h1])
    ·obtain ⟨n,rfl⟩:∃ n:Nat,i=n:=⟨i.toNat,by omega⟩
     have hn:n<s.th.length:=by omega
     have hr' : ¬ ((gth s.th n).st=1∧j6 (gth s.th n).ki=3):=fun e=>by
      have:J8 s n 3=true:=I6.2 ⟨aa hB hn,by simpa using e⟩
      rw [hr] at this;cases this
     by_cases hs:H7 (gth s.th n).st=0
     ·refine Xm h hB ho hn hs (J4 fun e=>hr' ⟨?_,e⟩)
      have h2:=cB hs
      have h3:=l9 hB hn
      generalize gth s.th n=t at h2 h3
      obtain ⟨st,ki,va,un,pc,re,se,tr,la,rs,go⟩:=t
      rw [K6] at h3
      simp only at h2 ⊢
      omega
     ·exact WU h hB ho hn (J4 hs)
 ·exact BC h
end
structure Cv (s:St) (n:Nat) (t:Th) (c m o:Int):Prop where
 lt:decide (m≤o)=false
 w:Wk s 999999
 hn:n<s.th.length
 ht:gth s.th n=pcT t c
 st:t.st=1
 sd:j6 t.ki=3
 o1:In64 (o+1)
section
variable {s:St} {n:Nat} {t:Th} {c m o:Int} {x:Exit} {S:Sg}
theorem Cv.ok (h:Cv s n t c m o):s.ok:=h.w.ok (by omega)
theorem Cv.rs (h:Cv s n t c m o):H7 t.st=0:=by rw [h.st];rfl
theorem Cv.el (h:Cv s n t c m o):ElP (s.th.map thT) (0+(n:Int).toNat) (thT (pcT t c)):=h.ht ▸ elT h.hn
theorem Cv.id (h:Cv s n t c m o):0≤(n:Int)∧(n:Int).toNat<s.th.length:=idT h.hn
theorem Cv.nk (h:Cv s n t c m o):(t.ki != 9)=true:=by
 have:=h.sd
 by_cases e:t.ki=9
 ·rw [e] at this;exact absurd this (by decide)
 ·simp [e]
theorem Cv.pa {B:Prop} (h:Cv s n t c m o) (k:B):decide (m≤o)=false∧pu s.th.length s.th.length (s.th.map thT)∧AC Tryz.prog 42 [stT s] (.bool true)∧decide ((n:Int)<0)=false∧decide ((s.th.length:Int)≤n)=false∧(0≤(n:Int)∧(n:Int).toNat<s.th.length)∧ElP (s.th.map thT) (0+(n:Int).toNat) (thT (pcT t c))∧AC Tryz.prog 248 [thT (pcT t c)] (.int .i64 0)∧(0≤(n:Int)∧(n:Int).toNat<s.th.length)∧ElP (s.th.map thT) (0+(n:Int).toNat) (thT (pcT t c))∧AC Tryz.prog 109 [.int .i64 (pcT t c).ki] (.int .i64 3)∧(0≤(n:Int)∧(n:Int).toNat<s.th.length)∧ElP (s.th.map thT) (0+(n:Int).toNat) (thT (pcT t c))∧B :=
 ⟨h.lt,l7 s.th,o7 h.w.b h.ok,by simp,by have:=h.hn;simp;omega,h.id,h.el,V6 (t:=pcT t c) h.rs,h.id,h.el,by have:=O8 (pcT t c).ki;exact h.sd ▸ this,h.id,h.el,k⟩
def S0 (s:St) (n:Nat) (t:Th) (d:Int):St:=((s.toWord s.hd s.tl d).setTh n (rgT (pcT t 0) 1 0)).addLg (tlE (s.toWord s.hd s.tl d) n t.ki 1 0)
theorem WM (h:Cv s n t 0 m o) (hL:X3 Tryz.prog 0 (U2 Tryz.prog 263) (hdC ((S0 s n t (clM s.md (Q3 t.ki))).setTh n (pcT (rgT t 1 0) 1)) n m (o+1) (s.th.set n (rgT (pcT t 0) 1 0)).length) x S):X3 Tryz.prog 0 (U2 Tryz.prog 263) (hdC s n m o s.th.length) x S :=
 have hw:=h.w.shut (Q3 t.ki)
 tQ mixed (fuel:=9) (n:=9) (keep:=[2,6,8,9,10]) (ext:=cPX) (im:=[0,4,2,3]) (orc:=cPO t 0++[.nilFunc,thT (pcT t 0),.int .i64 (Q3 t.ki),wdT s.hd s.tl (clM s.md (Q3 t.ki)),.iface 1000004 (.func (.yield 18) #[.agg (stL (S0 s n t (clM s.md (Q3 t.ki)))),.int .i64 11] #[]),thT (rgT (pcT t 0) 1 0),F4 (s.th.set n (rgT (pcT t 0) 1 0)).length (((s.th.set n (rgT (pcT t 0) 1 0)).set n (pcT (rgT t 1 0) 1)).map thT)])
  (h.pa<|an h.id<|an h.el<|an (OZ t.ki)<|an (Nr (h:=s.hd) (t:=s.tl) (m:=s.md) (UT t.ki))<|an (l7 (f:=thT) s.th)<|an (BR (s:=s.toWord s.hd s.tl (clM s.md (Q3 t.ki))) (c:=0) (r:=1) (aa hw.b h.hn) h.ht h.nk (hw.ok (by omega)) (hw.fit (by omega))) <|
   an (idT (l:=s.th.set n (rgT (pcT t 0) 1 0)) (by rw [List.length_set];exact h.hn))<|an (el2 h.hn (rgT (pcT t 0) 1 0))<|an (K4 (s.th.set n (rgT (pcT t 0) 1 0)) n (pcT (rgT t 1 0) 1))<|an h.o1 trivial) (by kernel_rfl) hL
theorem VF {u:St} (h:Cv s n t 1 m o) (he:AC Tryz.prog 346 [evT s.fe s.fl] (.tuple #[evT (nxE s.fe) [],l5 s.fl])) (hk:eY Tryz.prog 1 (j3 Tryz.prog 347 0) (hdW (s.toFull (nxE s.fe) []) n s.fl 0 s.th.length) (.exit 0) (hdW u n s.fl s.fl.length u.th.length)) (hu:n<u.th.length) (hg:gth u.th n=pcT t 1)
  (hL:X3 Tryz.prog 0 (U2 Tryz.prog 263) (hdC (u.setTh n (pcT t 2)) n m (o+1) u.th.length) x S):X3 Tryz.prog 0 (U2 Tryz.prog 263) (hdC s n m o s.th.length) x S :=
 tQ mixed (fuel:=9) (n:=9) (keep:=[2,6,8,9,10]) (ext:=cPX) (im:=[0,6,2,3]) (orc:=cPO t 1++[.nilFunc,.nilFunc,.tuple #[evT (nxE s.fe) [],l5 s.fl],oK 1 [0,1] [0,6,7,8] 0 (ZX s.fl s.fl.length) [bX u n u.th.length,bT u.th u.th.length],thT (pcT t 1),F4 u.th.length ((u.th.set n (pcT t 2)).map thT)])
  (h.pa<|an he<|an hk<|an (idT hu)<|an (hg ▸ elT hu)<|an (K4 u.th n (pcT t 2))<|an h.o1 trivial) (by kernel_rfl) hL
theorem SV {u:St} (h:Cv s n t c m o) (h0:(c==0)=false) (h1:(c==1)=false) (he:AC Tryz.prog 346 [evT s.ee s.el] (.tuple #[evT (nxE s.ee) [],l5 s.el])) (hk:eY Tryz.prog 1 (j3 Tryz.prog 347 0) (hdW (s.toEmpty (nxE s.ee) []) n s.el 0 s.th.length) (.exit 0) (hdW u n s.el s.el.length u.th.length)) (hu:n<u.th.length) (hg:gth u.th n=pcT t c)
  (hL:X3 Tryz.prog 0 (U2 Tryz.prog 263) (hdC (u.setTh n (E9 t)) n m (o+1) u.th.length) x S):X3 Tryz.prog 0 (U2 Tryz.prog 263) (hdC s n m o s.th.length) x S :=
 tQ mixed (fuel:=9) (n:=9) (keep:=[2,6,8,9,10]) (ext:=cPX) (im:=[0,6,2,3]) (orc:=cPO t c++[.bool false,.bool false,.tuple #[evT (nxE s.ee) [],l5 s.el],oK 1 [0,1] [0,6,7,8] 0 (ZX s.el s.el.length) [bX u n u.th.length,bT u.th u.th.length],thT (pcT t c),.tuple #[thT (E9 t),.int .i64 0],thT (pcT t c),F4 u.th.length ((u.th.set n (E9 t)).map thT)])
  (h.pa<|an h0<|an h1<|an he<|an hk<|an (idT hu)<|an (idT hu)<|an (hg ▸ elT hu)<|an (mf (qJ (c:=c) h.rs))<|an (hg ▸ elT hu)<|an (K4 u.th n (E9 t))<|an h.o1 trivial) (by kernel_rfl) hL
end
end
section
open Go.ChangeShapes Go.WideShapes Go.ChangeAt Go.RowKit
end
section
open Go.RowKit
theorem Pm (t:En) (x y:Operand):uj Tryz.prog (.binOp .neq 60 x y 60) [enT t,enT t] (.bool false) :=
 nQ (fun x y W=>(gF (by kernel_rfl) x y _ _ W).1) (fun W=>by simpa using a1R t t W) x y
def a2S (l:List En) (i:Int):Sg:=⟨mkT 26 [(0,K5 l),(1,K5 l),(5,.int .i64 i)],[]⟩
def gle (l:List En) (i:Nat):En:=l.getD i ⟨0,0,0,0,0⟩
theorem a2j {l:List En} {i:Nat} (h:i<l.length):IxP ((l.map enT).toArray) (i:Int) (enT (gle l i)):=⟨by omega,by simp [gle,h]⟩
theorem Zg (l:List En) (hm:l.length≤1000000):∀ (k i:Nat),l.length - i=k→i≤l.length→j4 Tryz.prog (j3 Tryz.prog 17 0) (a2S l i) (.exit 0) (a2S l l.length)
 | 0,i,hk,hi=>by
  have:i=l.length:=by omega
  subst this
  exact o5 mixed (fuel:=9) (n:=3) (im:=[]) (keep:=[0,1,5]) (ext:=[]) (orc:=[.bool false]) (an (show decide ((l.length:Int)<l.length)=false by simp) trivial) (by intro e;cases e) (by kernel_rfl)
 | k+1,i,hk,hi=>by
  have ih:=Zg l hm k (i+1) (by omega) (by omega)
  rw [show ((i+1:Nat):Int)=(i:Int)+1 by omega] at ih
  exact j5 mixed (fuel:=9) (n:=3) (im:=[]) (keep:=[0,1,5]) (ext:=[]) (orc:=[.bool true,enT (gle l i),enT (gle l i),.bool false,.bool false])
   (an (show decide ((i:Int)<l.length)=true by simp;omega)<|an (a2j (l:=l) (i:=i) (by omega))<|an (a2j (l:=l) (i:=i) (by omega))<|an (Pm (gle l i) (.tmp 20) (.tmp 24))<|an (rfl:false=false)<|an (show In64 ((i:Int)+1) by constructor <;> omega) trivial) (by kernel_rfl) ih
theorem Uj (l:List En) (hm:l.length≤1000000):AC Tryz.prog 17 [K5 l,K5 l] (.bool true) :=
 d9 mixed (ext:=[]) (fuel:=9) (n:=3) (orc:=[.bool false,oL [] [0,1,5] 0 [(0,K5 l),(1,K5 l),(5,.int .i64 l.length)] []])
  (an (show ((l.length:Int) != l.length)=false by simp)<|an (Zg l hm l.length 0 rfl (by omega)) trivial) (by kernel_rfl)
def a2v (r:Value) (n i:Int):Sg:=⟨mkT 26 [(0,r),(1,r),(5,.int .i64 i)],[]⟩
theorem TU (l:List Int) (hm:l.length≤1000000):∀ (k i:Nat),l.length - i=k→i≤l.length→j4 Tryz.prog (j3 Tryz.prog 18 0) (a2v (l5 l) 0 i) (.exit 0) (a2v (l5 l) 0 l.length)
 | 0,i,hk,hi=>by
  have:i=l.length:=by omega
  subst this
  exact o5 mixed (fuel:=9) (n:=3) (im:=[]) (keep:=[0,1,5]) (ext:=[]) (orc:=[.bool false]) (an (Cb l.length) trivial) (by intro e;cases e) (by kernel_rfl)
 | k+1,i,hk,hi=>by
  have hi' : i<l.length:=by omega
  exact j5 mixed (fuel:=9) (n:=3) (im:=[]) (keep:=[0,1,5]) (ext:=[]) (orc:=[.bool true,.int .i64 l[i],.int .i64 l[i],.bool false]) (an (iY hi')<|an (ixV hi')<|an (ixV hi')<|an (show (l[i] != l[i])=false by simp)<|an (show In64 ((i:Int)+1) by constructor <;> omega) trivial) (by kernel_rfl) (TU l hm k (i+1) (by omega) (by omega))
theorem wN (l:List Int) (hm:l.length≤1000000):AC Tryz.prog 18 [l5 l,l5 l] (.bool true) :=
 d9 mixed (ext:=[]) (fuel:=9) (n:=3) (orc:=[.bool false,oL [] [0,1,5] 0 [(0,l5 l),(1,l5 l),(5,.int .i64 l.length)] []]) (an (show ((l.length:Int) != l.length)=false by simp)<|an (TU l hm l.length 0 rfl (by omega)) trivial) (by kernel_rfl)
end
section
open Go.RowKit
def quT (q:Qu):Value:=.agg #[l5 q.vals,.int .i64 q.cap,.int .i64 q.pol,.int .i64 q.mode]
theorem qg (c:Cf):AC Tryz.prog 43 [cfT c] (.int .i64 (cfR c)):=by
 intro O W vs hl hat ;obtain ⟨ys,rfl,_,_,rfl,h0,rfl⟩:=T9 hat
 rw [ng] at h0
 subst h0
 refine (Bg c.lg c.th c.po c.wt c.sp c.yi c.si W).mono ?_
 rintro e W' ⟨rfl,hk⟩
 exact ⟨_,rfl,p8.2 rfl,hk⟩
theorem KM {n:Int} (h0:0≤n) (h1:n≤1000):Lg n n (List.replicate n.toNat th0).length ((List.replicate n.toNat th0).map thT) (thT th0):=⟨by simp;omega,by omega,by omega,by simp⟩
theorem Kt {c:Cf} (hc:cfB c=true):AC Tryz.prog 35 [cfT c] (.tuple #[stT (E5 c),.int .i64 0]) :=
 d9 mixed (ext:=[58,43,59]) (fuel:=9) (n:=4) (orc:=[.int .i64 0,.nilFunc,.int .i64 (cfR c),U0 (iE (cfR c)),aT (List.replicate c.th.toNat th0)])
  (an (dJ (c:=c) (r:=0) (by simp [hc]))<|an (qg c)<|an (Lh (cfR c) (BJ c))<|an (KM (n:=c.th) (by have:=xe hc;omega) (by have:=xe hc;omega))<|an (l7 (f:=thT) (List.replicate c.th.toNat th0)) trivial) (by kernel_rfl)
theorem oU {c:Cf} (hc:cfB c=false):AC Tryz.prog 35 [cfT c] (.tuple #[stT st0,.int .i64 20]) :=
 d9 mixed (ext:=[58,43,59]) (fuel:=9) (n:=4) (orc:=[.int .i64 20,.nilFunc])
  (an (dJ (c:=c) (r:=20) (by simp [hc])) trivial) (by kernel_rfl)
theorem Ob {s:St} {i k v u:Int} (hA:stB s=false) (ho:s.ok) (hf:s.fit):AC Tryz.prog 204 [stT s,.int .i64 i,.int .i64 k,.int .i64 v,.int .i64 u] (.tuple #[stT s,.int .i64 20]) :=
 d9 mixed (ext:=[42,229,228,231,230]) (fuel:=9) (n:=5) (orc:=[vD false,U0 s.sl,l5 s.sn,l5 s.rc,l5 s.fl,l5 s.el,aT s.th,K5 s.lg])
  (an (o7 hA ho)<|an (bi s.sl hf.sl)<|an (C9 s.sn hf.sn)<|an (C9 s.rc hf.rc)<|an (C9 s.fl hf.fl)<|an (C9 s.el hf.el)<|an (rP s.th hf.th)<|an (nJ s.lg hf.lg) trivial) (by kernel_rfl)
theorem Om {s:St} {i k v u E:Int} (hA:stB s=true) (hE:iO s.cf.th s.cf.si i k=E) (hE0:E≠0) (ho:s.ok) (hf:s.fit):AC Tryz.prog 204 [stT s,.int .i64 i,.int .i64 k,.int .i64 v,.int .i64 u] (.tuple #[stT s,.int .i64 E]) :=
 d9 mixed (ext:=[42,229,228,231,230,232]) (fuel:=9) (n:=5) (orc:=[vD true,.int .i64 E,.bool true,U0 s.sl,l5 s.sn,l5 s.rc,l5 s.fl,l5 s.el,aT s.th,K5 s.lg])
  (an (o7 hA ho)<|an (Ka hE)<|an (show (E != 0)=true by simpa using hE0)<|an (bi s.sl hf.sl)<|an (C9 s.sn hf.sn)<|an (C9 s.rc hf.rc)<|an (C9 s.fl hf.fl)<|an (C9 s.el hf.el)<|an (rP s.th hf.th)<|an (nJ s.lg hf.lg) trivial) (by kernel_rfl)
theorem NG {s:St} {n:Nat} {k v u E:Int} {t:Th} (hA:stB s=true) (hM:iO s.cf.th s.cf.si n k=0) (hT:zU (gth s.th n) k v u E t) (hn:n<s.th.length) (ho:s.ok) (hf:s.fit) :
  AC Tryz.prog 204 [stT s,.int .i64 n,.int .i64 k,.int .i64 v,.int .i64 u] (.tuple #[stT (s.setTh n t),.int .i64 E]) :=
 d9 mixed (ext:=[42,229,228,231,232,233]) (fuel:=9) (n:=5)
  (orc:=[vD true,.int .i64 0,.nilFunc,thT (gth s.th n),.tuple #[thT t,.int .i64 E],U0 s.sl,l5 s.sn,l5 s.rc,l5 s.fl,l5 s.el,aT s.th,K5 s.lg,thT (gth s.th n),aT (s.th.set n t)])
  (an (o7 hA ho)<|an (Ka hM)<|an (ixT hn)<|an (Xz hT)<|an (bi s.sl hf.sl)<|an (C9 s.sn hf.sn)<|an (C9 s.rc hf.rc)<|an (C9 s.fl hf.fl)<|an (C9 s.el hf.el)<|an (kD s.th)<|an (P6 (f:=thT) (Ab hn) hf.th) <|
   an (nJ s.lg hf.lg)<|an (idT hn)<|an (elT hn)<|an (K4 s.th n t)<|an (show pu s.th.length (s.th.set n t).length ((s.th.set n t).map thT) from ⟨by simp,by simp⟩) trivial) (by kernel_rfl)
theorem IJ {s:St} {i k v u E:Int} {r:St} (h:mR s i k v u E r) (ho:s.ok) (hf:s.fit):AC Tryz.prog 204 [stT s,.int .i64 i,.int .i64 k,.int .i64 v,.int .i64 u] (.tuple #[stT r,.int .i64 E]):=by
 rcases h with ⟨hA,rfl,rfl⟩ | ⟨hA,h0,rfl,rfl⟩ | ⟨hA,h0,n,t,rfl,hn,hT,rfl⟩
 ·exact Ob hA ho hf
 ·exact Om hA rfl h0 ho hf
 ·exact NG hA h0 hT hn ho hf
def qZ:Value:=.agg #[.slice none 0 0,.int .i64 0,.int .i64 0,.int .i64 0]
def qN (v:Value) (c p m:Int):Value:=.agg #[v,.int .i64 c,.int .i64 p,.int .i64 m]
def a3t (s:St) (r n i:Int):Sg:=⟨mkT 39 [(1,pt 0),(2,pt 1),(3,pt 2),(21,.int .i64 n),(22,.int .i64 i)],[some ⟨true,false,20,1,[stT s]⟩,some ⟨true,false,4,1,[qZ]⟩,some ⟨true,false,4,1,[qN (.slice none 0 0) r s.cf.po s.md]⟩]⟩
def hdQ (s:St) (r n i:Int) (l:List Int):Sg:=⟨mkT 39 [(1,pt 0),(2,pt 1),(3,pt 2),(21,.int .i64 n),(22,.int .i64 i)],[some ⟨true,false,20,1,[stT s]⟩,some ⟨true,false,4,1,[qZ]⟩,some ⟨true,false,4,1,[qN (.slice (some ⟨3,0,some 0⟩) l.length 0) r s.cf.po s.md]⟩,some ⟨true,true,1,l.length,l.map (.int .i64 ·)⟩]⟩
def atL (s:St) (i:Nat):List Int:=(List.range i).map fun (n:Nat)=>atV s (s.hd+n)
theorem a2U (s:St) (i:Nat):atL s (i+1)=atL s i++[atV s (s.hd+i)]:=by simp [atL,List.range_succ]
theorem a2f (l:List Int):l.length=(l.map (Value.int .i64 ·)).length:=by simp
theorem YZ {s:St} (h:stB s=true) {p:Int} (hp:0≤p):IxP ((s.sl.map slT).toArray) (I9 p s.sl.length) (slT (gs s.sl (plc s.sl p))):=by
 have hl:dY s.sl p=true:=eP.2 ⟨hp,(C8 h).2.1⟩
 obtain ⟨h1,h2⟩:=oW hl
 rw [h2]
 exact ⟨by omega,by simp [oG h1,h1]⟩
section
variable {s:St} {r:Int} {n:Nat}
theorem q_0 (h:stB s=true) (hn:s.tl - s.hd=n) (h0:0<n) (hL:j4 Tryz.prog (j3 Tryz.prog 25 0) (hdQ s r n 1 (atL s 1)) (.exit 0) (hdQ s r n n (atL s n))):j4 Tryz.prog (j3 Tryz.prog 25 0) (a3t s r n 0) (.exit 0) (hdQ s r n n (atL s n)):=by
 have hc:=M3 (C8 h).1
 have hs:=C8 h
 have hr:=vC (N7.1 h).1
 refine j5 mixed (ext:=[74]) (fuel:=9) (n:=3) (im:=[0,1,2,4]) (keep:=[1,2,3,21,22]) (orc:=[.bool true,.int .i64 (I9 (s.hd+0) s.sl.length),slT (gs s.sl (plc s.sl (s.hd+0))),l5 (atL s 1)])
  (an (show decide ((0:Int)<n)=true by simp;omega)<|an (show In64 (s.hd+0) by constructor <;> omega)<|an (rZ (p:=s.hd+0) (r:=s.sl.length) (by constructor <;> omega) (by constructor <;> omega))<|an (YZ h (p:=s.hd+0) (by omega))<|an (rfl:(1:Nat)=1)<|an (N8 [atV s (s.hd+0)]) <|
   an (show 0<1∧vo (atL s 1).length ((atL s 1).map (Value.int .i64 ·)) 0 [] 1 [.int .i64 (atV s (s.hd+0))] from ⟨by omega,by simp [atL],by simp [atL],by omega⟩)<|an (show In64 ((0:Int)+1) by constructor <;> omega) trivial) (by kernel_rfl) hL
theorem q_1 (h:stB s=true) (hn:s.tl - s.hd=n):∀ (k i:Nat),n - i=k→i≤n→j4 Tryz.prog (j3 Tryz.prog 25 0) (hdQ s r n i (atL s i)) (.exit 0) (hdQ s r n n (atL s n))
 | 0,i,hk,hi=>by
  have:i=n:=by omega
  subst this
  exact o5 mixed (ext:=[74]) (fuel:=9) (n:=3) (im:=[0,1,2,3]) (keep:=[1,2,3,21,22]) (orc:=[.bool false]) (an (show decide ((i:Int)<i)=false by simp) trivial) (by intro e;cases e) (by kernel_rfl)
 | k+1,i,hk,hi=>by
  have hc:=M3 (C8 h).1
  have hs:=C8 h
  have hr:=vC (N7.1 h).1
  have ih:=q_1 h hn k (i+1) (by omega) (by omega)
  rw [show ((i+1:Nat):Int)=(i:Int)+1 by omega] at ih
  have hl:(atL s i).length=i:=by simp [atL]
  have hl1:(atL s (i+1)).length=i+1:=by simp [atL]
  exact j5 mixed (ext:=[74]) (fuel:=9) (n:=3) (im:=[0,1,2,5]) (keep:=[1,2,3,21,22]) (orc:=[.bool true,.int .i64 (I9 (s.hd+i) s.sl.length),slT (gs s.sl (plc s.sl (s.hd+i))),l5 (atL s (i+1))])
   (an (show decide ((i:Int)<n)=true by simp;omega)<|an (show In64 (s.hd+i) by constructor <;> omega)<|an (rZ (p:=s.hd+i) (r:=s.sl.length) (by constructor <;> omega) (by constructor <;> omega))<|an (YZ h (p:=s.hd+i) (by omega))<|an (rfl:(1:Nat)=1)<|an (N8 [atV s (s.hd+i)]) <|
    an (a2f (atL s i))<|an (show vo (atL s (i+1)).length ((atL s (i+1)).map (Value.int .i64 ·)) (atL s i).length ((atL s i).map (Value.int .i64 ·)) 1 [.int .i64 (atV s (s.hd+i))] from ⟨by omega,by rw [a2U];simp,by omega⟩)<|an (show In64 ((i:Int)+1) by constructor <;> omega) trivial) (by kernel_rfl) ih
theorem tC {q:Qu} (hq:quV s=q) (ho:s.ok):AC Tryz.prog 25 [stT s] (quT q):=by
 subst hq
 cases hB:stB s
 ·rw [show quV s=⟨[],0,0,0⟩ by unfold quV;rw [hB];rfl]
  exact d9 mixed (ext:=[42,43,44]) (fuel:=9) (n:=4) (orc:=[vD false]) (an (o7 hB ho) trivial) (by kernel_rfl)
 ·have hc:=M3 (C8 hB).1
  obtain ⟨n,hn⟩:∃ n:Nat,s.tl - s.hd=n:=⟨(s.tl - s.hd).toNat,by omega⟩
  rw [show quV s=⟨atL s n,cfR s.cf,s.cf.po,s.md⟩ by unfold quV;rw [if_pos hB,hn];rfl]
  have hL:AC Tryz.prog 44 [wdT s.hd s.tl s.md] (.int .i64 n):=by
   have:=gD (h:=s.hd) (t:=s.tl) (m:=s.md) (by constructor <;> omega) (by constructor <;> omega)
   rwa [hc.2.2.2.2.2.1,hn] at this
  by_cases h0:n=0
  ·subst h0
   exact d9 mixed (ext:=[42,43,44]) (fuel:=9) (n:=4) (orc:=[vD true,.int .i64 (cfR s.cf),.int .i64 (0:Nat),.nilFunc]) (an (o7 hB ho)<|an (qg s.cf)<|an hL trivial) (by kernel_rfl)
  ·have h1:=q_1 (r:=cfR s.cf) hB hn (n - 1) 1 rfl (by omega)
   exact d9 mixed (ext:=[42,43,44]) (fuel:=9) (n:=4) (orc:=[vD true,.int .i64 (cfR s.cf),.int .i64 n,oL [0,1,2] [1,2,3,21,22] 0 [(1,pt 0),(2,pt 1),(3,pt 2),(21,.int .i64 n),(22,.int .i64 n)] (hdQ s (cfR s.cf) n n (atL s n)).H])
    (an (o7 hB ho)<|an (qg s.cf)<|an hL<|an (q_0 hB hn (by omega) h1)<|an (l7 (f:=(Value.int .i64 ·)) (atL s n)) trivial) (by kernel_rfl)
end
end
section
open Go.ChangeShapes Go.WideShapes Go.ChangeAt Go.RowKit
end
section
open Go.ChangeShapes Go.WideShapes Go.ChangeAt Go.RowKit
end
section
open Go.ChangeShapes Go.WideShapes Go.ChangeAt Go.RowKit
end
section
open Go.RowKit
end
section
open Go.RowKit
theorem ug {s:St} (h:s.th=[]):stB s=false:=by
 cases hB:stB s
 ·rfl
 ·have:=(Y3 hB).2.1;rw [h] at this;simp at this
theorem RF {s:St} {i:Int} (h:stB s=false) (k:Nat):ah s i k=(s,0):=by
 cases k with
 | zero=>rfl
 | succ k=>simp [ah,J8,hasB,h]
theorem za {s:St} {i m:Int} (h:s.th=[]) (ho:s.ok) (hf:s.fit):AC Tryz.prog 261 [stT s,.int .i64 i,.int .i64 m] (.tuple #[stT s,.int .i64 0]):=by
 cases hm:decide ((0:Int)<min m 1000)
 ·exact d9 mixed (ext:=[154,42]) (fuel:=9) (n:=5) (orc:=[stT s,.bool false]) (an (kQ (Y7 s) ho hf)<|an hm trivial) (by kernel_rfl)
 ·exact d9 mixed (ext:=[154,42]) (fuel:=9) (n:=5) (orc:=[stT s,.bool true,vD false]) (an (kQ (Y7 s) ho hf)<|an hm<|an (o7 (ug h) ho) trivial) (by kernel_rfl)
theorem a0B {s:St} {i m:Int} (ho:s.ok) (hf:s.fit) (hl:s.lg.length≤800000):AC Tryz.prog 261 [stT s,.int .i64 i,.int .i64 m] (.tuple #[stT (ah s i (min m 1000).toNat).1,.int .i64 (ah s i (min m 1000).toNat).2]):=by
 by_cases h:s.th=[]
 ·rw [RF (ug h)];exact za h ho hf
 ·exact LC ho hf h hl
theorem WV (s:St) (i:Int):(ah s i 1).1=aB s i:=by
 cases h:J8 s i 1 <;> simp [ah,h,aB]
theorem Tf {s:St} {i:Int} (ho:s.ok) (hf:s.fit) (hl:s.lg.length≤800000):AC Tryz.prog 249 [stT s,.int .i64 i] (stT (aB s i)):=by
 rw [← WV]
 exact d9 mixed (ext:=[261]) (fuel:=9) (n:=3) (orc:=[.tuple #[stT (ah s i 1).1,.int .i64 (ah s i 1).2]]) (an (a0B (i:=i) (m:=1) ho hf hl) trivial) (by kernel_rfl)
theorem BS {g:FuncId} {args:List Value} {vs:Array Value} {W:World} (h:AC Tryz.prog g args (.bool true)) (hv:AtAll (Rp nowhere (fun _=>False) W) args.toArray vs):Calls Tryz.prog g vs W fun e W' => e = .returned (.bool true)∧Kept W W' := UG h hv
end
section
open Go.RowKit
theorem IM (s:St) (i:Int) (k:Nat):(J6 s i k).2≤3:=by
 cases hr:J8 s i 3
 ·rw [S9 hr];show 0≤3;omega
 ·obtain ⟨hh,-⟩:=I6.1 hr
  obtain ⟨-,h0,-⟩:=J5.1 hh
  obtain ⟨n,rfl⟩:∃ n:Nat,i=n:=⟨i.toNat,by omega⟩
  exact Bz k
theorem NY {s:St} {i:Int} (h:stB s=false) (k:Nat):J6 s i k=(s,0):=S9 (by simp [J8,hasB,h]) k
theorem Fy (s:St) (i:Int):(J6 s i 1).1=P8 s i:=by
 cases h:J8 s i 3
 ·rw [S9 h];simp [P8,h]
 ·rw [X6 h];rfl
theorem Bh {N:Nat} (i:Int):∀ (k:Nat) {s:St},Wk s N→Wk (J6 s i k).1 (N+k)
 | 0,s,h=>h
 | k+1,s,h=>by
  cases hr:J8 s i 3
  ·rw [S9 hr];exact ⟨h.b,h.v,by have:=h.l;show s.lg.length≤_;omega⟩
  ·obtain ⟨hh,h1,-⟩:=I6.1 hr
   obtain ⟨-,h0,h3⟩:=J5.1 hh
   rw [X6 hr,bG hr]
   have:=Bh i k (zJ h (n:=i.toNat) (by omega) (by omega))
   exact ⟨this.b,this.v,by have:=this.l;show (J6 (closeN s i.toNat) i k).1.lg.length≤_;omega⟩
theorem OJ {N:Nat} {s:St} (h:Wk s N) (i:Int):Wk (P8 s i) (N+1):=Fy s i ▸ Bh i 1 h
section
variable {s:St} {n:Nat} {m o:Int} {x:Exit} {S:Sg}
theorem Gy {u v:St} {N:Nat} (h:X3 Tryz.prog 0 (U2 Tryz.prog 263) (hdC u n m o u.th.length) x S) (e:v=u) (hN:N=u.th.length):X3 Tryz.prog 0 (U2 Tryz.prog 263) (hdC v n m o N) x S:=by subst e hN;exact h
theorem Vz (lt:decide (m≤o)=false) (w:Wk s 999999) (hn:n<s.th.length) (h1:(gth s.th n).st=1) (h2:j6 (gth s.th n).ki=3) (o1:In64 (o+1)) (hL:X3 Tryz.prog 0 (U2 Tryz.prog 263) (hdC (closeN s n) n m (o+1) (closeN s n).th.length) x S):X3 Tryz.prog 0 (U2 Tryz.prog 263) (hdC s n m o s.th.length) x S:=by
 have hv:∀ {c:Int},(gth s.th n).pc=c→Cv s n (gth s.th n) c m o:=fun hc=>⟨lt,w,hn,by rw [← hc];rfl,h1,h2,o1⟩
 have hk9:(gth s.th n).ki≠9:=fun e=>by rw [e] at h2;exact absurd h2 (by decide)
 have ne2:(gth s.th n).st≠2:=by omega
 by_cases p0:(gth s.th n).pc=0
 ·rw [gM p0] at hL
  have e:bP s n=(S0 s n (gth s.th n) (clM s.md (Q3 (gth s.th n).ki))).setTh n (pcT (rgT (gth s.th n) 1 0) 1):=aN (s:=s.toWord s.hd s.tl (clM s.md (Q3 (gth s.th n).ki))) (c:=0) (bM w.b _) hn hk9
  refine WM (hv p0) (Gy hL e.symm ?_)
  rw [e];exact aH
 ·by_cases p1:(gth s.th n).pc=1
  ·rw [iC p1,FM w.b] at hL
   have hw:=Le w hn (by omega)
   have hw0:Wk (s.toFull (nxE s.fe) []) 1000000:=by
    obtain ⟨e1,e2,-⟩:=aS (l6 w.b).2.2.2.2.1
    have:=Fv w.b
    rw [e1,e2] at this
    exact ⟨this,⟨w.v.cf,w.v.sl,w.v.th⟩,by have:=w.l;show s.lg.length≤_;omega⟩
   have hl:=Lv (l6 w.b).2.2.1
   have eo:=xH (f:=(pcT · 2)) s.fl (u:=s.toFull (nxE s.fe) []) hw0.b hw.b hn ne2 ne2
   have hg:=yl s.fl (u:=s.toFull (nxE s.fe) []) hw0.b hn ne2
   have hg' : gth (s.toFull (nxE s.fe) []).th n=gth s.th n:=rfl
   rw [hg'] at hg
   have hlen:(J9 s.fl (s.toFull (nxE s.fe) [])).th.length=s.th.length:=(L6 _ _).2.2.2
   refine VF (u:=J9 s.fl (s.toFull (nxE s.fe) [])) (hv p1) (oM (l6 w.b).2.2.2.2.1) (JX (by omega) n hw0) (by rw [hlen];exact hn) (by rw [hg,← p1];rfl) (Gy hL ?_ ?_)
   ·rw [eo];unfold St.onTh;rw [hg]
   ·rw [eo];exact U7
  ·rw [jM p0 p1,AV w.b] at hL
   have hw:=Ei w hn (by omega)
   have hw0:Wk (s.toEmpty (nxE s.ee) []) 1000000:=by
    obtain ⟨e1,e2,-⟩:=aS (l6 w.b).2.2.2.2.2
    have:=Aj w.b
    rw [e1,e2] at this
    exact ⟨this,⟨w.v.cf,w.v.sl,w.v.th⟩,by have:=w.l;show s.lg.length≤_;omega⟩
   have hl:=Lv (l6 w.b).2.2.2.1
   have eo:=xH (f:=E9) s.el (u:=s.toEmpty (nxE s.ee) []) hw0.b hw.b hn ne2 (show (0:Int)≠2 by decide)
   have hg:=yl s.el (u:=s.toEmpty (nxE s.ee) []) hw0.b hn ne2
   have hg' : gth (s.toEmpty (nxE s.ee) []).th n=gth s.th n:=rfl
   rw [hg'] at hg
   have hlen:(J9 s.el (s.toEmpty (nxE s.ee) [])).th.length=s.th.length:=(L6 _ _).2.2.2
   refine SV (u:=J9 s.el (s.toEmpty (nxE s.ee) [])) (hv rfl) (J4 p0) (J4 p1) (oM (l6 w.b).2.2.2.2.2) (JX (by omega) n hw0) (by rw [hlen];exact hn) hg (Gy hL ?_ ?_)
   ·rw [eo];unfold St.onTh;rw [hg]
   ·rw [eo];exact U7
end
theorem a2r {i m:Int}:∀ (j:Nat) {s:St} {o:Int},s.ok→s.lg.length+j≤900000→0≤o→o+j≤1000000→(J6 s i (m - o).toNat).2≤j→X3 Tryz.prog 0 (U2 Tryz.prog 263) (hdC s i m o s.th.length) .ret (enC (J6 s i (m - o).toNat).1 (o+(J6 s i (m - o).toNat).2) (J6 s i (m - o).toNat).1.th.length):=by
 have stop:∀ {s:St} {o:Int},X3 Tryz.prog 0 (U2 Tryz.prog 263) (hdC s i m o s.th.length) .ret (enC s o s.th.length)→X3 Tryz.prog 0 (U2 Tryz.prog 263) (hdC s i m o s.th.length) .ret (enC s (o+((0:Nat):Int)) s.th.length):=fun h=>by simpa using h
 intro j
 induction j with
 | zero =>
  intro s o ho hl h0 h2 hk
  cases hr:J8 s i 3
  ·rw [S9 hr];exact stop (Qm ho hr)
  ·by_cases hm:m≤o
   ·rw [show (m - o).toNat=0 by omega];exact stop (BC (by simp [hm]))
   ·rw [show (m - o).toNat=(m - o - 1).toNat+1 by omega,X6 hr] at hk
    exact absurd hk (by show ¬ _+1≤0;omega)
 | succ j ih =>
  intro s o ho hl h0 h2 hk
  cases hr:J8 s i 3
  ·rw [S9 hr];exact stop (Qm ho hr)
  ·by_cases hm:m≤o
   ·rw [show (m - o).toNat=0 by omega];exact stop (BC (by simp [hm]))
   ·have ek:(m - o).toNat=(m - (o+1)).toNat+1:=by omega
    rw [ek,X6 hr] at hk
    rw [ek,X6 hr]
    obtain ⟨hh,h3,h4⟩:=I6.1 hr
    obtain ⟨hB,h5,h6⟩:=J5.1 hh
    rw [bG hr] at hk ⊢
    obtain ⟨n,rfl⟩:∃ n:Nat,i=n:=⟨i.toNat,by omega⟩
    rw [Int.toNat_natCast] at h3 h4 hk ⊢
    have hn:n<s.th.length:=by omega
    have w:Wk s s.lg.length:=⟨hB,.of ho,Nat.le_refl _⟩
    have w1:=zJ w hn (by omega)
    have hk' : (J6 (closeN s n) n (m - (o+1)).toNat).2+1≤j+1:=hk
    have:=ih (s:=closeN s n) (o:=o+1) (w1.ok (by omega)) (by have:=w1.l;omega) (by omega) (by omega) (by omega)
    refine Vz (by simp;omega) ⟨hB,.of ho,by omega⟩ hn h3 h4 (by constructor <;> omega) ?_
    show X3 _ _ _ _ _ (enC (J6 (closeN s n) n (m - (o+1)).toNat).1 (o+(((J6 (closeN s n) n (m - (o+1)).toNat).2+1:Nat):Int)) _)
    rw [show o+(((J6 (closeN s n) n (m - (o+1)).toNat).2+1:Nat):Int)=o+1+((J6 (closeN s n) n (m - (o+1)).toNat).2:Int) by omega]
    exact this
section
variable {s u:St} {i m o:Int}
theorem JA (hL:X3 Tryz.prog 0 (U2 Tryz.prog 263) (hdC s i m 0 s.th.length) .ret (enC u o u.th.length)) (ho:s.ok) (hf:s.fit) (ht:s.th≠[]):AC Tryz.prog 263 [stT s,.int .i64 i,.int .i64 m] (.tuple #[stT u,.int .i64 o]) :=
 d9 mixed (ext:=[154]) (fuel:=9) (n:=9) (orc:=[.iface 1000004 (.func (.yield 18) #[.agg (stL s),.int .i64 11] #[]),oL [5,4,1,6] [2,6,8,9,10] (-1) [(6,pt 0),(7,.int .i64 o)] [bEc u u.th.length,bT u.th u.th.length]])
  (an (kN (Y7 s) ho hf ht)<|an hL<|an (l7 (f:=thT) u.th) trivial) (by kernel_rfl)
def a3H (s:St) (i m:Int):Sg:=⟨mkT 35 [(2,.int .i64 m),(6,pt 1),(8,pt 0),(9,.func (.func 314) #[] #[pt 2]),(10,.int .i64 0)],[some ⟨true,false,21,1,[.agg ((stL s).toList++[Value.int .i64 i]).toArray]⟩,bZ,bBc 0]⟩
def a3s (s:St):Sg:=⟨mkT 35 [(6,pt 0),(7,.int .i64 0)],[bS s]⟩
theorem zw (h:s.th=[]) (ho:s.ok) (hf:s.fit):AC Tryz.prog 263 [stT s,.int .i64 i,.int .i64 m] (.tuple #[stT s,.int .i64 0]):=by
 have hL:X3 Tryz.prog 0 (U2 Tryz.prog 263) (a3H s i m) .ret (a3s s):=by
  cases hm:decide (m≤0)
  ·exact fw mixed (fuel:=9) (n:=9) (im:=[1]) (keep:=[6,7]) (ext:=cPX) (orc:=[.bool false,vD false]) (an hm<|an (o7 (ug h) ho) trivial) (by intro l e;cases e) (by kernel_rfl)
  ·exact fw mixed (fuel:=9) (n:=9) (im:=[1]) (keep:=[6,7]) (ext:=cPX) (orc:=[.bool true]) (an hm trivial) (by intro l e;cases e) (by kernel_rfl)
 exact d9 mixed (ext:=[154]) (fuel:=9) (n:=9) (orc:=[stT s,oL [4,1,5] [2,6,8,9,10] (-1) [(6,pt 0),(7,.int .i64 0)] [bS s]]) (an (kQ (Y7 s) ho hf)<|an hL trivial) (by kernel_rfl)
theorem Zu (ho:s.ok) (hf:s.fit) (hl:s.lg.length≤800000):AC Tryz.prog 263 [stT s,.int .i64 i,.int .i64 m] (.tuple #[stT (J6 s i m.toNat).1,.int .i64 (J6 s i m.toNat).2]):=by
 by_cases h:s.th=[]
 ·rw [NY (ug h)];exact zw h ho hf
 ·have:=a2r (i:=i) (m:=m) 3 (s:=s) (o:=0) ho (by omega) (by omega) (by omega) (IM _ _ _)
  rw [show m - 0=m by omega,Int.zero_add] at this
  exact JA this ho hf h
theorem Rz (ho:s.ok) (hf:s.fit) (hl:s.lg.length≤800000):AC Tryz.prog 251 [stT s,.int .i64 i] (stT (P8 s i)):=by
 rw [← Fy]
 exact d9 mixed (ext:=[263]) (fuel:=9) (n:=3) (orc:=[.tuple #[stT (J6 s i 1).1,.int .i64 (J6 s i 1).2]]) (an (Zu (i:=i) (m:=1) ho hf hl) trivial) (by kernel_rfl)
end
end
section
open Go.RowKit
section
variable {s u v:St} {i m pc:Int} {k:Nat}
end
end
section
open Go.ChangeShapes Go.WideShapes Go.ChangeAt Go.RowKit
theorem Od {s:St} (hB:stB s=true) (ho:s.ok) (hl:s.lg.length≤900000) (i:Int):(aB s i).ok∧(aB s i).lg.length≤s.lg.length+1:=by
 cases hr:J8 s i 1
 ·have:aB s i=s:=by simp [aB,hr]
  rw [this];exact ⟨ho,by omega⟩
 ·obtain ⟨h1,h2,h3⟩:=I6.1 hr
  obtain ⟨-,hi0,hi1⟩:=J5.1 h1
  obtain ⟨n,rfl⟩:∃ n:Nat,i=n:=⟨i.toNat,by omega⟩
  have hn:n<s.th.length:=by omega
  rw [Int.toNat_natCast] at h2
  rw [FV hr]
  have hg:=Gn hB hn
  exact ⟨Ao (aL hB hn (by omega)) (Gf (.of ho) hB hn (by omega)) (by omega),hg⟩
end
section
def dC (s:St) (i:Int):Int:=if stB s=false then 20 else if i<0∨(s.th.length:Int)≤i then 123 else H7 (gth s.th i.toNat).st
def St.toLg (s:St) (l:List En):St:=⟨s.cf,s.hd,s.tl,s.md,s.sl,s.sn,s.rc,s.fe,s.fl,s.ee,s.el,s.nw,s.th,l⟩
def stepD (s:St) (i:Int):St:=if j6 (gth s.th i.toNat).ki=1 then aB s i else if j6 (gth s.th i.toNat).ki=2 then ai s i else P8 s i
def aQ (s:St) (i:Int):St:=(stepD (s.toLg []) i).toLg (s.lg++(stepD (s.toLg []) i).lg)
def ay (s:St) (i:Int):St:=if dC s i=0 then aQ s i else s
theorem Zl {s:St} (h:stB s=true) {n:Nat} (hn:n<s.th.length):((gth s.th n).st=0∨(gth s.th n).st=1∨(gth s.th n).st=2):=by
 have h3:=l9 h hn
 generalize gth s.th n=t at h3
 obtain ⟨st,ki,va,un,pc,re,se,tr,la,rs,go⟩:=t
 rw [K6] at h3
 simp only
 omega
theorem jE {s:St} {i:Int}:dC s i=0↔∃ n:Nat,i=n∧stB s=true∧n<s.th.length∧(gth s.th n).st=1:=by
 unfold dC
 constructor
 ·intro h
  split at h
  ·cases h
  ·next hB =>
   have hB' : stB s=true:=by simpa using hB
   split at h
   ·cases h
   ·obtain ⟨n,rfl⟩:∃ n:Nat,i=n:=⟨i.toNat,by omega⟩
    have hn:n<s.th.length:=by omega
    rw [Int.toNat_natCast] at h
    have h1:=cB h
    have:=Zl hB' hn
    exact ⟨n,rfl,hB',hn,by omega⟩
 ·rintro ⟨n,rfl,hB,hn,h1⟩
  rw [if_neg (by simp [hB]),if_neg (by omega),Int.toNat_natCast,h1]
  rfl
theorem JD {s:St} {i:Int} (h:dC s i≠0):ay s i=s:=if_neg h
theorem xh {s:St} {i:Int} (h:dC s i=0):ay s i=aQ s i:=if_pos h
theorem Sq (s:St) (i:Int):(stepD s i).cf=s.cf∧(stepD s i).nw=s.nw:=by
 unfold stepD;split
 ·exact (yE s i).2
 ·split
  ·exact (pE s i).2
  ·exact (uR s i).2
theorem XJ (s:St) (i:Int):(ay s i).cf=s.cf∧(ay s i).nw=s.nw:=by
 unfold ay;split
 ·exact Sq (s.toLg []) i
 ·exact ⟨rfl,rfl⟩
theorem OthM.of {l m:List Th} {i:Int} (h:Oth l m i):OthM l m i:=⟨h.len,fun j hj hne=>by
 obtain ⟨w,hw⟩:=h.one
 rcases hw j hj hne with e | ⟨-,e⟩
 ·exact .inl e
 ·exact .inr e⟩
theorem MO (s:St) (i:Int):OthM s.th (stepD s i).th i:=by
 unfold stepD;split
 ·exact OthM.of Mr
 ·split
  ·exact OthM.of OB
  ·exact GL
theorem SC (s:St) (i:Int):OthM s.th (aQ s i).th i:=MO (s.toLg []) i
theorem ET {s:St} {N:Nat} (h:Wk s N) (hN:N≤900000) (i:Int):Wk (stepD s i) (N+1):=by
 have ho:=h.ok (by omega)
 have hl:=h.l
 unfold stepD;split
 ·obtain ⟨a,b⟩:=Od h.b ho (by omega) i
  exact ⟨(LQ s i).trans h.b,.of a,by omega⟩
 ·split
  ·obtain ⟨a,b⟩:=NS h.b ho (by omega) i
   exact ⟨(MG s i).trans h.b,.of a,by omega⟩
  ·exact OJ h i
theorem Yx {s:St} {N:Nat} (h:Wk s N):Wk (s.toLg []) 0:=⟨h.b,⟨h.v.cf,h.v.sl,h.v.th⟩,by show (0:Nat)≤0;omega⟩
theorem VV {s:St} {N:Nat} (h:Wk s N) (i:Int):Wk (aQ s i) (N+1):=by
 have w:=ET (Yx h) (by omega) i
 have:=w.l
 have:=h.l
 exact ⟨w.b,⟨w.v.cf,w.v.sl,w.v.th⟩,by show (s.lg++(stepD (s.toLg []) i).lg).length≤N+1;rw [List.length_append];omega⟩
theorem Vo {s:St} {N:Nat} (h:Wk s N) (i:Int):Wk (ay s i) (N+1):=by
 unfold ay;split
 ·exact VV h i
 ·exact ⟨h.b,h.v,by have:=h.l;omega⟩
end
section
def LF (l:List En) (a b:St):Prop:=a=b.toLg (l++b.lg)
section
variable {l:List En} {a b a' b' : St}
theorem Te (s:St):LF s.lg s (s.toLg []):=by
 show s=(s.toLg []).toLg (s.lg++[])
 rw [List.append_nil];rfl
theorem A9 {c c' : Prop} [Decidable c] [Decidable c'] (h:c' = c) (h1:LF l a b) (h2:LF l a' b'):LF l (if c' then a else a') (if c then b else b'):=by
 subst h
 by_cases hc:c'
 ·rw [if_pos hc,if_pos hc];exact h1
 ·rw [if_neg hc,if_neg hc];exact h2
theorem LF.on (h:LF l a b) (n:Nat) (f:Th→Th):LF l (a.onTh n f) (b.onTh n f):=by obtain rfl:=h;rfl
theorem LF.word (h:LF l a b) (x y z:Int):LF l (a.toWord x y z) (b.toWord x y z):=by obtain rfl:=h;rfl
theorem LF.sl (h:LF l a b) (x:List Slo):LF l (a.toSl x) (b.toSl x):=by obtain rfl:=h;rfl
theorem LF.sn (h:LF l a b) (x:List Int):LF l (a.toSn x) (b.toSn x):=by obtain rfl:=h;rfl
theorem LF.rc (h:LF l a b) (x:List Int):LF l (a.toRc x) (b.toRc x):=by obtain rfl:=h;rfl
theorem LF.full (h:LF l a b) (e:Int) (x:List Int):LF l (a.toFull e x) (b.toFull e x):=by obtain rfl:=h;rfl
theorem LF.empty (h:LF l a b) (e:Int) (x:List Int):LF l (a.toEmpty e x) (b.toEmpty e x):=by obtain rfl:=h;rfl
theorem LF.wake (h:LF l a b) (i:Int):LF l (G9 a i) (G9 b i):=by
 obtain rfl:=h
 exact A9 rfl (LF.on (show LF l (b.toLg (l++b.lg)) b from rfl) _ _) rfl
theorem LF.wakes:∀ (k:List Int) {a b:St},LF l a b→LF l (J9 k a) (J9 k b)
 | [],_,_,h=>h
 | i::k,_,_,h=>LF.wakes k (h.wake i)
theorem LF.told (h:LF l a b) (n:Nat) (k r g p:Int):LF l (D7 a n k r g p) (D7 b n k r g p):=by
 obtain rfl:=h
 refine LF.on ?_ n _
 refine A9 rfl ?_ rfl
 show St.mk _ _ _ _ _ _ _ _ _ _ _ _ _ _=St.mk _ _ _ _ _ _ _ _ _ _ _ _ _ _
 rw [St.mk.injEq]
 exact ⟨rfl,rfl,rfl,rfl,rfl,rfl,rfl,rfl,rfl,rfl,rfl,rfl,rfl,List.append_assoc _ _ _⟩
end
section
variable {l:List En} {a b:St}
theorem LF.first (h:LF l a b) (n:Nat):LF l (Y4 a n) (Y4 b n):=by
 have k:=h
 obtain rfl:=h
 exact A9 rfl (k.on n _) (A9 rfl (k.told n _ _ _ _) (k.on n _))
theorem LF.fulS (h:LF l a b) (n:Nat):LF l (bD a n) (bD b n):=by
 have k:=h
 obtain rfl:=h
 exact A9 rfl (k.told n _ _ _ _) (A9 rfl (k.on n _) (A9 rfl (k.told n _ _ _ _) (A9 rfl (k.told n _ _ _ _) (A9 rfl (k.on n _) (k.on n _)))))
theorem LF.look (h:LF l a b) (n:Nat):LF l (cZ a n) (cZ b n):=by
 have k:=h
 obtain rfl:=h
 exact A9 rfl (k.on n _) (A9 rfl (k.fulS n) (k.told n _ _ _ _))
theorem LF.accept (h:LF l a b) (n:Nat):LF l (Q6 a n) (Q6 b n):=by
 have k:=h
 obtain rfl:=h
 exact A9 rfl ((k.word _ _ _).told n _ _ _ _) (A9 rfl (k.on n _) (k.told n _ _ _ _))
theorem LF.notify (h:LF l a b) (n:Nat):LF l (L9 a n) (L9 b n):=by
 have k:=h
 obtain rfl:=h
 exact A9 rfl (((k.empty _ _).on n _).wake _) ((k.empty _ _).on n _)
theorem LF.commit (h:LF l a b) (n:Nat):LF l (Q8 a n) (Q8 b n):=by
 have k:=h
 obtain rfl:=h
 exact A9 rfl (k.on n _) (A9 rfl ((k.full _ _).on n _) (k.on n _))
theorem LF.evict (h:LF l a b) (n:Nat):LF l (Y6 a n) (Y6 b n):=by
 have k:=h
 obtain rfl:=h
 exact A9 rfl ((k.word _ _ _).told n _ _ _ _) (k.on n _)
theorem LF.sendN (h:LF l a b) (n:Nat):LF l (sendN a n) (sendN b n):=by
 have k:=h
 obtain rfl:=h
 exact A9 rfl ((k.sn _).on n _) (A9 rfl (k.first n) (A9 rfl (k.look n) (A9 rfl (A9 rfl ((k.sl _).on n _) k) (A9 rfl (k.accept n) (A9 rfl (k.on n _) (A9 rfl (k.notify n) (A9 rfl (A9 rfl (k.on n _) (k.on n _)) (A9 rfl (k.commit n) (A9 rfl ((k.sn _).on n _) (A9 rfl (k.evict n) ((k.sl _).on n _)))))))))))
theorem LF.firstR (h:LF l a b) (n:Nat):LF l (firstR a n) (firstR b n):=by
 have k:=h
 obtain rfl:=h
 exact A9 rfl (k.on n _) (A9 rfl (k.told n _ _ _ _) (k.on n _))
theorem LF.lookR (h:LF l a b) (n:Nat):LF l (lookR a n) (lookR b n):=by
 have k:=h
 obtain rfl:=h
 exact A9 rfl (k.on n _) (A9 rfl (k.told n _ _ _ _) (A9 rfl (k.told n _ _ _ _) (A9 rfl (k.told n _ _ _ _) (A9 rfl (k.on n _) (k.on n _)))))
theorem LF.takeR (h:LF l a b) (n:Nat):LF l (takeR a n) (takeR b n):=by
 have k:=h
 obtain rfl:=h
 exact A9 rfl (k.on n _) (A9 rfl (k.told n _ _ _ _) (((k.word _ _ _).on n _).told n _ _ _ _))
theorem LF.readR (h:LF l a b) (n:Nat):LF l (readR a n) (readR b n):=by
 have k:=h
 obtain rfl:=h
 exact (k.sl _).on n _
theorem LF.notifyR (h:LF l a b) (n:Nat):LF l (notifyR a n) (notifyR b n):=by
 have k:=h
 obtain rfl:=h
 exact A9 rfl (((k.full _ _).on n _).wake _) ((k.full _ _).on n _)
theorem LF.commitR (h:LF l a b) (n:Nat):LF l (commitR a n) (commitR b n):=by
 have k:=h
 obtain rfl:=h
 exact A9 rfl (k.on n _) (A9 rfl ((k.empty _ _).on n _) (k.on n _))
theorem LF.recvN (h:LF l a b) (n:Nat):LF l (recvN a n) (recvN b n):=by
 have k:=h
 obtain rfl:=h
 exact A9 rfl ((k.rc _).on n _) (A9 rfl (k.firstR n) (A9 rfl (k.lookR n) (A9 rfl (k.takeR n) (A9 rfl (k.readR n) (A9 rfl (k.on n _) (A9 rfl (k.notifyR n) (A9 rfl (A9 rfl (k.on n _) (k.on n _)) (A9 rfl (k.commitR n) ((k.rc _).on n _)))))))))
theorem LF.closeN (h:LF l a b) (n:Nat):LF l (closeN a n) (closeN b n):=by
 have k:=h
 obtain rfl:=h
 exact A9 rfl ((k.word _ _ _).told n _ _ _ _) (A9 rfl (((k.full _ _).on n _).wakes _) (((k.empty _ _).on n _).wakes _))
theorem LF.stepD (h:LF l a b) (i:Int):LF l (stepD a i) (stepD b i):=by
 have k:=h
 obtain rfl:=h
 exact A9 rfl (A9 rfl (k.sendN _) k) (A9 rfl (A9 rfl (k.recvN _) k) (A9 rfl (k.closeN _) k))
end
theorem mh (s:St) (i:Int):aQ s i=stepD s i:=((Te s).stepD i).symm
end
end Go.Proofs.YtfogkllejkmpdaaGreat
