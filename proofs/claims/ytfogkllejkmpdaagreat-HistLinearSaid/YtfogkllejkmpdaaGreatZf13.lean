/- Texts merged: PiDT, PiET, PiFT, PiWT, PiXT, PlFT, CaWT, PyAT, PyNT, PyBT, PyST, FifoZT, PlQT, PlTT. -/
import Derived.Test.YtfogkllejkmpdaaGreatZf12
import Derived.Test.YtfogkllejkmpdaaGreatZf5
namespace Go.Proofs.YtfogkllejkmpdaaGreat
set_option linter.unusedVariables false
set_option linter.unusedSimpArgs false
set_option maxRecDepth 100000
section
theorem fV {t:Th} (h:t.st=2):D8 t=⟨1,t.ki,t.va,t.un,t.pc,t.re,t.se,t.tr,t.la,t.rs,t.go⟩:=by unfold D8;rw [if_pos h]
theorem MV (t:Th):HolE t (D8 t):=by
 unfold D8
 split
 ·next e =>
  refine ⟨⟨fun ⟨_,b⟩=>⟨by omega,b⟩,fun ⟨_,b⟩=>⟨by show (1:Int)≠0;decide,b⟩⟩,fun _=>rfl⟩
 ·exact .refl _
theorem Inv.wk {s r:St} (h:Inv s) {n:Nat} {t:Th} (W:List Int) (hb:stB r=true) (hlen:r.th.length=s.th.length)
  (e1:r.cf=s.cf) (e2:r.hd=s.hd) (e3:r.tl=s.tl) (e4:r.sl=s.sl) (e5:r.sn=s.sn) (e6:r.rc=s.rc) (e7:s.fe≤r.fe) (e8:s.ee≤r.ee)
  (hF:∀ j:Int,j∈r.fl↔j∈s.fl∧j∉W) (hE:∀ j:Int,j∈r.el↔j∈s.el∧j∉W) (hW:∀ j∈W,j∈s.fl∨j∈s.el)
  (hth:∀ j,j<s.th.length→gth r.th j=if j=n then t else if (j:Int)∈W then D8 (gth s.th j) else gth s.th j)
  (ht:ThI r n t) (hh:HolE (gth s.th n) t):Inv r where
 b:=hb
 t:=fun j hj=>by
  rw [hlen] at hj
  rw [hth j hj]
  by_cases e:j=n
  ·subst e;rw [if_pos rfl];exact ht
  rw [if_neg e]
  have x:=h.t j hj
  by_cases w:(j:Int)∈W
  ·rw [if_pos w]
   have nf:(j:Int)∉r.fl:=fun k=>((hF _).1 k).2 w
   have ne:(j:Int)∉r.el:=fun k=>((hE _).1 k).2 w
   have h0:(gth s.th j).st≠0:=fun k=>(hW _ w).elim (x.oo k).fl (x.oo k).el
   rcases U3 (l9 h.b hj) h0 with k | k | k
   ·have y:=x.ss h0 k
    have h2:(gth s.th j).st=2:=(hW _ w).elim y.fl.1 (fun m=>absurd m y.el)
    have p:=(y.pk h2).1
    rw [fV h2]
    refine .ofS (by show (1:Int)≠0;decide) k ⟨by rw [e6];exact y.rc,ne,by rw [e5];exact y.sn,⟨fun m=>absurd m nf,fun m=>absurd m (by simp)⟩,fun m=>absurd m (by simp),fun a b c=>by rw [e5];exact y.h1 a b c,?_,?_,?_,?_,?_⟩
    all_goals (intro m;simp only at m;omega)
   ·have y:=x.rr h0 k
    have h2:(gth s.th j).st=2:=(hW _ w).elim (fun m=>absurd m y.fl) y.el.1
    have p:=(y.pk h2).1
    rw [fV h2]
    refine .ofR (by show (1:Int)≠0;decide) k ⟨by rw [e5];exact y.sn,nf,by rw [e6];exact y.rc,⟨fun m=>absurd m ne,fun m=>absurd m (by simp)⟩,fun m=>absurd m (by simp),fun a b c=>by rw [e6];exact y.h1 a b c,y.p9,?_,?_⟩
    all_goals (intro m;simp only at m;omega)
   ·have y:=(x.cc h0 k).o
    exact ((hW _ w).elim y.fl y.el).elim
  ·rw [if_neg w]
   exact x.car ⟨by rw [e5],by rw [e6],(hF _).trans ⟨fun k=>k.1,fun k=>⟨k,w⟩⟩,(hE _).trans ⟨fun k=>k.1,fun k=>⟨k,w⟩⟩,by rw [e5];exact id,by rw [e6];exact id,fun _ _=>e3,fun _ _ _=>by rw [e4],by rw [e1],by rw [e2];exact Int.le_refl _,fun _ _ _ _=>by rw [e4],e7,e8⟩
 l:=h.l.keep e2 e3 (by rw [e4]) hlen fun j hj=>by
  rw [hth j hj]
  by_cases e:j=n
  ·subst e;rw [if_pos rfl];exact hh
  ·rw [if_neg e]
   split
   ·exact MV _
   ·exact .refl _
theorem Aa {u:St} (hu:stB u=true) (l:List Int):let r:=if hdB (l.take 1)=true then G9 u (hdI (l.take 1)) else u
  stB r=true∧shr r=shr u∧r.th.length=u.th.length∧r.cf=u.cf∧∀ j,j<u.th.length→gth r.th j=if (j:Int)∈l.take 1 then D8 (gth u.th j) else gth u.th j:=by
 cases l with
 | nil=>exact ⟨hu,rfl,rfl,rfl,fun j _=>by simp [hdB]⟩
 | cons x l =>
  have e:hdB ((x::l).take 1)=true:=rfl
  have e2:hdI ((x::l).take 1)=x:=rfl
  rw [e,if_pos rfl,e2]
  refine ⟨eU hu _,sD _ _,(bE u x).2.2.2,(bE u x).2.1,fun j hj=>?_⟩
  rw [Bw hu x hj]
  simp
theorem Cm {e:Int} (h:e≤1099511627776):e≤nxE e:=by unfold nxE;split <;> omega
theorem zG {l:List Int} {j:Int} (h:P5 l=true):j∈l.drop 1↔j∈l∧j∉l.take 1:=by
 rw [sV h]
 cases l with
 | nil=>simp
 | cons x r=>simp only [List.head?_cons,ne_eq,Option.some.injEq,List.take_succ_cons,List.take_zero,List.mem_singleton];exact ⟨fun k=>⟨k.1,fun e=>k.2 e.symm⟩,fun k=>⟨k.1,fun e=>k.2 e.symm⟩⟩
theorem bq {u r:St} (e:shr r=shr u):r.hd=u.hd∧r.tl=u.tl∧r.md=u.md∧r.sl=u.sl∧r.sn=u.sn∧r.rc=u.rc∧r.fe=u.fe∧r.fl=u.fl∧r.ee=u.ee∧r.el=u.el:=by
 simp only [shr,Prod.mk.injEq] at e
 obtain ⟨⟨a,b,c⟩,d,f,g,⟨i,j⟩,k,l⟩:=e
 exact ⟨a,b,c,d,f,g,i,j,k,l⟩
theorem Car.shr {u r:St} {j:Nat} {t:Th} (e:shr r=shr u) (c:r.cf=u.cf):Car u r j t:=by
 obtain ⟨a1,a2,a3,a4,a5,a6,a7,a8,a9,a10⟩:=bq e
 exact .same c a1 a2 a4 a5 a6 (by rw [a7];exact Int.le_refl _) a8 (by rw [a9];exact Int.le_refl _) a10
theorem uz {ep:Int} {l:List Int} (h:okE ep l=true):ntE ep l=nxE ep∧ntL 1 ep l=l.drop 1∧ntT 1 ep l=l.take 1:=by simp [ntE,ntL,ntT,h]
theorem Ij {s:St} (hB:stB s=true) {l:List Int} (hl:W9 s.cf.th l=true) {j:Int} (hj:j∈l):∃ k:Nat,j=k∧k<s.th.length:=by
 have hE:=H8.1 hl
 have h1:=(aO.1 hE.1).1 j hj
 have h2:=hE.2 j hj
 have h3:=Y3 hB
 exact ⟨j.toNat,by omega,by omega⟩
theorem Inv.apart {s:St} (h:Inv s) {j:Int} (a:j∈s.fl):j∉s.el:=fun b=>by
 obtain ⟨k,rfl,hk⟩:=Ij h.b (l6 h.b).2.2.1 a
 have y:=h.t k hk
 by_cases h0:(gth s.th k).st=0
 ·exact (y.oo h0).el b
 ·rcases U3 (l9 h.b hk) h0 with q | q | q
  ·exact (y.ss h0 q).el b
  ·exact (y.rr h0 q).fl a
  ·exact (y.cc h0 q).o.el b
section
variable {s:St} {n:Nat} (h:Inv s) (hn:n<s.th.length) (hst:(gth s.th n).st=1)
include h hn hst
theorem a1c (hk:j6 (gth s.th n).ki=1) (p:(gth s.th n).pc=6):Inv (L9 s n):=by
 have x:=eF h hn hst hk
 have hh:=x.h1 (by omega) (by omega) (by omega)
 obtain ⟨a,-,-,d,-,e⟩:=l6 h.b
 have he:=O7.1 e
 obtain ⟨n1,n2,n3⟩:=uz e
 have h2:stB (s.toEmpty (nxE s.ee) (s.el.drop 1))=true:=bL h.b (fF e (O6 (R8 e) 1)) (bN d (O6 (R8 e) 1) (fun x hx=>List.mem_of_mem_drop hx))
 have h3:stB ((s.toEmpty (nxE s.ee) (s.el.drop 1)).onTh n (pcT · 9))=true:=r9 h2 (D9 (l9 h.b hn) (by omega) (by decide))
 obtain ⟨w1,w2,w3,w4,w5⟩:=Aa h3 s.el
 have eN:L9 s n=if hdB (s.el.take 1)=true then G9 ((s.toEmpty (nxE s.ee) (s.el.drop 1)).onTh n (pcT · 9)) (hdI (s.el.take 1)) else (s.toEmpty (nxE s.ee) (s.el.drop 1)).onTh n (pcT · 9):=by unfold L9;rw [n1,n2,n3]
 rw [eN]
 have hu:∀ j,gth ((s.toEmpty (nxE s.ee) (s.el.drop 1)).onTh n (pcT · 9)).th j=if n=j then pcT (gth s.th n) 9 else gth s.th j:=fun j=>JV (s:=s.toEmpty (nxE s.ee) (s.el.drop 1)) hn
 generalize (if hdB (s.el.take 1)=true then G9 ((s.toEmpty (nxE s.ee) (s.el.drop 1)).onTh n (pcT · 9)) (hdI (s.el.take 1)) else (s.toEmpty (nxE s.ee) (s.el.drop 1)).onTh n (pcT · 9))=r at w1 w2 w3 w4 w5
 obtain ⟨a1,a2,a3,a4,a5,a6,a7,a8,a9,a10⟩:=bq w2
 have nW:(n:Int)∉s.el.take 1:=fun k=>x.el (List.mem_of_mem_take k)
 refine h.wk (n:=n) (t:=pcT (gth s.th n) 9) (s.el.take 1) w1 (w3.trans (Q5 _ _ _)) w4 a1 a2 a4 a5 a6 (by rw [a7];exact Int.le_refl _) (by rw [a9];exact Cm he.1.2) (fun j=>?_) (fun j=>?_) (fun j k=>.inr (List.mem_of_mem_take k)) (fun j hj=>?_) ?_ (.no (F7 (.inr (.inl ⟨hk,by omega⟩))) (F7 (.inr (.inl ⟨hk,by simp [pcT]⟩))))
 ·rw [a8]
  exact ⟨fun k=>⟨k,fun w=>h.apart k (List.mem_of_mem_take w)⟩,fun k=>k.1⟩
 ·rw [a10];exact zG (Uf h.b)
 ·rw [w5 j (by rw [show ((s.toEmpty (nxE s.ee) (s.el.drop 1)).onTh n (pcT · 9)).th.length=s.th.length from Q5 _ _ _];exact hj),hu]
  by_cases c:j=n
  ·subst c;simp [nW]
  ·have c' : ¬ n=j:=fun q=>c q.symm
   simp only [if_neg c,if_neg c']
 ·refine ThI.car (s:=s.toEmpty (nxE s.ee) (s.el.drop 1)) (.ofS (by show (gth s.th n).st≠0;omega) hk ⟨x.rc,fun k=>x.el (List.mem_of_mem_drop k),⟨fun _=>by simp [pcT],fun _=>x.sn.2 (by omega)⟩,x.fl,fun k=>absurd (k.symm.trans hst) (by decide),fun _ _ k=>absurd rfl k,(fun e=>absurd e (by simp [pcT,l8,o9,z8,G5])),(fun e=>absurd e (by simp [pcT,l8,o9,z8,G5])),(fun e=>absurd e (by simp [pcT,l8,o9,z8,G5])),(fun e=>absurd e (by simp [pcT,l8,o9,z8,G5])),(fun e=>absurd e (by simp [pcT,l8,o9,z8,G5]))⟩) (.shr w2 w4)
end
end
section
section
variable {s:St} {n:Nat}
theorem ThR.mv {t u:Th} (x:ThR s n t) (a:t.st=1) (a' : u.st=1) (hp:t.pc≠0) (hp' : u.pc≠0) (h1:u.pc≠1→u.pc≠9→s.rc.head? = some (n:Int)) (p9:u.pc≤9)
  (ho:u.pc=4→0≤u.re∧u.re<s.hd∧gs s.sl (plc s.sl u.re)=⟨u.re,u.go⟩) (se:u.pc=7∨u.pc=8→u.se≤s.ee):ThR s n u :=
 ⟨x.sn,x.fl,⟨fun _=>hp',fun _=>x.rc.2 hp⟩,⟨fun k=>absurd (x.el.1 k) (by omega),fun k=>absurd k (by omega)⟩,fun k=>absurd k (by omega),fun _ b c=>h1 b c,p9,ho,se⟩
theorem Inv.ownR (h:Inv s) (hn:n<s.th.length) {u:Th} (hb:thB u=true) (hst:(gth s.th n).st=1) (hk:j6 (gth s.th n).ki=2) (hp:(gth s.th n).pc≠4) (a:u.st=1) (k:u.ki=(gth s.th n).ki) (hp' : u.pc≠4) (x:ThR s n u):Inv (s.setTh n u) :=
 h.own hn hb (.ofR (by omega) (by rw [k];exact hk) x) (.no (F7 (.inr (.inr (.inl ⟨hk,hp⟩)))) (F7 (.inr (.inr (.inl ⟨by rw [k];exact hk,hp'⟩)))))
variable (h:Inv s) (hn:n<s.th.length) (hst:(gth s.th n).st=1) (hk:j6 (gth s.th n).ki=2)
include h hn hst hk
theorem bv:ThR s n (gth s.th n):=(h.t n hn).rr (by omega) hk
theorem jU {r p:Int} (hp:(gth s.th n).pc≠0∧(gth s.th n).pc≠4) (hr:0≤r∧r≤7) (h9:p=9):Inv (D7 s n (gth s.th n).ki r 0 p):=by
 subst h9
 rw [cK h.b hn]
 refine Inv.lg ?_ _
 have e:=gY (gth s.th n) (gth s.th n).ki r 0
 exact h.ownR hn (D9 (jW (l9 h.b hn) hr) (by rw [e.1];omega) (by decide)) hst hk hp.2 (e.1.trans hst) e.2.1 (by simp [pcT])
  ((bv h hn hst hk).mv hst (e.1.trans hst) hp.1 (by simp [pcT]) (fun _ k=>absurd rfl k) (by simp [pcT]) (fun e=>absurd e (by simp [pcT,l8,o9,z8,G5])) (fun e=>absurd e (by simp [pcT,l8,o9,z8,G5])))
theorem kJ {p:Int} (hp:(gth s.th n).pc≠0∧(gth s.th n).pc≠4) (hh:s.rc.head? = some (n:Int)) (h9:p=2∨p=3∨p=5):Inv (s.onTh n (pcT · p)):=by
 refine h.ownR hn (D9 (l9 h.b hn) (by omega) (by omega)) hst hk hp.2 hst rfl ?_ ?_
 ·show p≠4;omega
 refine (bv h hn hst hk).mv hst hst hp.1 ?_ (fun _ _=>hh) ?_ ?_ ?_
 ·show p≠0;omega
 ·show p≤9;omega
 all_goals (intro k;simp only [pcT] at k;omega)
theorem Kv (hp:(gth s.th n).pc=1∨(gth s.th n).pc=2):Inv (s.onTh n onT):=by
 have x:=bv h hn hst hk
 refine h.ownR hn (jf (l9 h.b hn) (by omega)) hst hk (by omega) hst rfl (by show (gth s.th n).pc≠4;omega) ?_
 refine x.mv hst hst (by omega) (by show (gth s.th n).pc≠0;omega) (fun a b=>x.h1 (by omega) a b) (by show (gth s.th n).pc≤9;omega) ?_ ?_
 all_goals (intro k;simp only [onT] at k;omega)
theorem ZP (p:(gth s.th n).pc=0):Inv (recvN s n):=by
 have x:=bv h hn hst hk
 have hb:=gz h.b hn (by omega)
 rw [rW p] at hb ⊢
 have hi:=Af h.b hn
 have hE:aX s.rc n=0:=JB (KQ h.b) (by omega) (fun k=>x.rc.1 k p)
 refine h.sh (a:=s.toRc (Z0 s.rc n)) (t:=pcT (gth s.th n) 1) hn hb rfl (fun j hj hne=>?_) ?_ ?_
 ·refine ⟨.rfl,?_,.rfl,.rfl,id,Fz,fun _ _=>rfl,fun _ _ _=>rfl,rfl,Int.le_refl _,fun _ _ _ _=>rfl,Int.le_refl _,Int.le_refl _⟩
  show (j:Int)∈Z0 s.rc n↔_
  rw [wE hE]
  exact ⟨fun k=>k.elim id (fun k=>absurd k (by omega)),.inl⟩
 ·exact .ofR (by show (gth s.th n).st≠0;omega) hk ⟨x.sn,x.fl,⟨fun _=>by simp [pcT],fun _=>(wE hE).2 (.inr rfl)⟩,x.el,fun k=>absurd (k.symm.trans hst) (by decide),fun _ k=>absurd rfl k,by simp [pcT],(fun e=>absurd e (by simp [pcT,l8,o9,z8,G5])),(fun e=>absurd e (by simp [pcT,l8,o9,z8,G5]))⟩
 ·exact h.l.keep rfl rfl rfl (Q5 _ _ _) fun j _=>aV (a:=s.toRc (Z0 s.rc n)) (t:=pcT (gth s.th n) 1) hn rfl (.no (F7 (.inr (.inr (.inl ⟨hk,by omega⟩)))) (F7 (.inr (.inr (.inl ⟨hk,by simp [pcT]⟩))))) j
theorem ZH (p:(gth s.th n).pc=1):Inv (firstR s n):=by
 unfold firstR
 split
 ·next e=>exact kJ h hn hst hk (by omega) ((KJ (KQ h.b)).1 e) (.inl rfl)
 ·split
  ·exact jU h hn hst hk (by omega) (by decide) rfl
  ·exact Kv h hn hst hk (.inl p)
theorem a0x (p:(gth s.th n).pc=2):Inv (lookR s n):=by
 have x:=bv h hn hst hk
 have hh:=x.h1 (by omega) (by omega) (by omega)
 unfold lookR
 repeat' split
 ·exact kJ h hn hst hk (by omega) hh (.inr (.inl rfl))
 ·exact jU h hn hst hk (by omega) (jB s) rfl
 ·exact jU h hn hst hk (by omega) (by decide) rfl
 ·exact jU h hn hst hk (by omega) (by decide) rfl
 ·exact kJ h hn hst hk (by omega) hh (.inr (.inr rfl))
 ·exact Kv h hn hst hk (.inr p)
omit hk in
theorem Ct (hs:G6 s=1):D7 ((s.toWord (s.hd+1) s.tl s.md).onTh n (l8 · s.hd 4)) n (gth s.th n).ki 1 (Q7 s s.hd) 4=((s.toWord (s.hd+1) s.tl s.md).setTh n (pcT (F3 (l8 (gth s.th n) s.hd 4) (gth s.th n).ki 1 (Q7 s s.hd)) 4)).toLg (s.lg++[⟨n,(gth s.th n).ki,(gth s.th n).va,1,Q7 s s.hd⟩]):=by
 have hb:=mr h.b hn (by omega) hs
 have hn' : n<((s.toWord (s.hd+1) s.tl s.md).onTh n (l8 · s.hd 4)).th.length:=by show n<(s.th.set n _).length;simpa using hn
 have hg' : gth ((s.toWord (s.hd+1) s.tl s.md).onTh n (l8 · s.hd 4)).th n=l8 (gth s.th n) s.hd 4:=K7 (s:=s.toWord (s.hd+1) s.tl s.md) (n:=n) hn (l8 · s.hd 4)
 rw [cK hb hn',hg']
 unfold St.onTh
 simp only [St.setTh,St.toLg,List.set_set]
 rfl
theorem a0K (p:(gth s.th n).pc=3):Inv (takeR s n):=by
 have x:=bv h hn hst hk
 have hh:=x.h1 (by omega) (by omega) (by omega)
 have hw:=wd h.b
 have hg:=l9 h.b hn
 have hki:=X0 (gth s.th n).ki
 unfold takeR
 split
 ·exact kJ h hn hst hk (by omega) hh (.inl rfl)
 ·split
  ·exact jU h hn hst hk (by omega) (jB s) rfl
  ·next n4 n1 =>
   have hs:G6 s=1:=Classical.not_not.1 n1
   have hlt:s.md≠2∧s.hd<s.tl:=by rcases cu h.b with ⟨-,h'⟩ | ⟨h',-⟩ | ⟨h',-⟩ | ⟨h',-⟩ <;> omega
   have hb:=zN h.b hn (by omega)
   unfold takeR at hb
   rw [if_neg n4,if_neg n1] at hb
   rw [Ct h hn hst hs] at hb ⊢
   refine Inv.lg ?_ _
   have e:F3 (l8 (gth s.th n) s.hd 4) (gth s.th n).ki 1 (Q7 s s.hd)=⟨(gth s.th n).st,(gth s.th n).ki,(gth s.th n).va,(gth s.th n).un,4,s.hd,(gth s.th n).se,(gth s.th n).tr,(gth s.th n).la,1,Q7 s s.hd⟩:=by
    unfold F3;rw [if_neg (by omega)];rfl
   rw [e] at hb ⊢
   refine h.sh (a:=s.toWord (s.hd+1) s.tl s.md) hn hb rfl (fun j hj hne=>?_) ?_ ?_
   ·exact ⟨.rfl,.rfl,.rfl,.rfl,id,id,fun _ _=>rfl,fun _ _ _=>rfl,rfl,by show s.hd≤s.hd+1;omega,fun _ _ _ _=>rfl,Int.le_refl _,Int.le_refl _⟩
   ·refine .ofR (by show (gth s.th n).st≠0;omega) hk ⟨x.sn,x.fl,⟨fun _=>by simp [pcT],fun _=>x.rc.2 (by omega)⟩,x.el,fun k=>absurd (k.symm.trans hst) (by decide),fun _ _ _=>hh,by simp [pcT],fun _=>?_,(fun e=>absurd e (by simp [pcT,l8,o9,z8,G5]))⟩
    show 0≤s.hd∧s.hd<s.hd+1∧gs s.sl (plc s.sl s.hd)=⟨s.hd,Q7 s s.hd⟩
    refine ⟨by omega,by omega,?_⟩
    have h1:=h.l.s1 s.hd (Int.le_refl _) hlt.2
    rw [jP h.b (by omega)]
    unfold atV
    generalize gs s.sl (plc s.sl s.hd)=z at h1
    obtain ⟨a,b⟩:=z
    simp only at h1
    subst h1;rfl
   ·exact h.l.take h.b (fun j hj y=>(h.hol hj y).2.1) hn (F7 (.inr (.inr (.inl ⟨hk,by omega⟩)))) hlt.2 rfl rfl rfl rfl ⟨by show (gth s.th n).st≠0;omega,.inr ⟨hk,rfl⟩⟩ rfl
theorem ZY (p:(gth s.th n).pc=4):Inv (readR s n):=by
 have x:=bv h hn hst hk
 have hh:=x.h1 (by omega) (by omega) (by omega)
 have hb:=tV h.b hn (by omega)
 unfold readR at hb ⊢
 have hw:=wd h.b
 have hH:Hol (gth s.th n):=⟨by omega,.inr ⟨hk,p⟩⟩
 obtain ⟨h0,h1,h2⟩:=h.hol hn hH
 obtain ⟨er,ev⟩:=Lj h.b h0 h1 h2
 have hl:=ig s.sl (gth s.th n).re
 have at_:∀ q,plc s.sl (gth s.th n).re≠plc s.sl q→gs (rlL s.sl (gth s.th n).re) (plc (rlL s.sl (gth s.th n).re) q)=gs s.sl (plc s.sl q):=fun q hq=>by
  rw [nR hl,er,mD (yQ h.b h0),if_neg hq]
 refine h.sh (a:=s.toSl (rlL s.sl (gth s.th n).re)) (t:=G5 (gth s.th n) (rdV s.sl (gth s.th n).re) 6) hn hb rfl (fun j hj hne=>?_) ?_ ?_
 ·refine ⟨.rfl,.rfl,.rfl,.rfl,id,id,fun _ _=>rfl,fun _ _ y=>?_,rfl,Int.le_refl _,fun y a b c=>?_,Int.le_refl _,Int.le_refl _⟩
  ·exact at_ _ (tF (by rw [h2,y];show (gth s.th n).re≠s.tl;omega))
  ·have hd:=h.l.d n j hn hj (Ne.symm hne) hH y
   exact at_ _ (tF (by omega))
 ·exact .ofR (by show (gth s.th n).st≠0;omega) hk ⟨x.sn,x.fl,⟨fun _=>by simp [G5],fun _=>x.rc.2 (by omega)⟩,x.el,fun k=>absurd (k.symm.trans hst) (by decide),fun _ _ _=>hh,by simp [G5],(fun e=>absurd e (by simp [pcT,l8,o9,z8,G5])),(fun e=>absurd e (by simp [pcT,l8,o9,z8,G5]))⟩
 ·exact h.l.rel h.b hn hH rfl h0 h1 h2 rfl rfl rfl rfl (t:=G5 (gth s.th n) (rdV s.sl (gth s.th n).re) 6) (F7 (.inr (.inr (.inl ⟨hk,by simp [G5]⟩))))
theorem a1x (p:(gth s.th n).pc=5):Inv (s.onTh n (o9 · s.ee 7)):=by
 have x:=bv h hn hst hk
 have hh:=x.h1 (by omega) (by omega) (by omega)
 obtain ⟨-,-,-,-,-,e⟩:=l6 h.b
 have he:=O7.1 e
 exact h.ownR hn (jJ (l9 h.b hn) (by omega) (by omega) (by decide)) hst hk (by omega) hst rfl (by simp [o9]) (x.mv hst hst (by omega) (by simp [o9]) (fun _ _=>hh) (by simp [o9]) (fun e=>absurd e (by simp [pcT,l8,o9,z8,G5])) (fun _=>Int.le_refl _))
theorem a0f (p:(gth s.th n).pc=6):Inv (notifyR s n):=by
 have x:=bv h hn hst hk
 have hh:=x.h1 (by omega) (by omega) (by omega)
 obtain ⟨-,-,d,-,e,-⟩:=l6 h.b
 have he:=O7.1 e
 obtain ⟨n1,n2,n3⟩:=uz e
 have h2:stB (s.toFull (nxE s.fe) (s.fl.drop 1))=true:=eu h.b (fF e (O6 (R8 e) 1)) (bN d (O6 (R8 e) 1) (fun x hx=>List.mem_of_mem_drop hx))
 have h3:stB ((s.toFull (nxE s.fe) (s.fl.drop 1)).onTh n (pcT · 9))=true:=r9 h2 (D9 (l9 h.b hn) (by omega) (by decide))
 obtain ⟨w1,w2,w3,w4,w5⟩:=Aa h3 s.fl
 have eN:notifyR s n=if hdB (s.fl.take 1)=true then G9 ((s.toFull (nxE s.fe) (s.fl.drop 1)).onTh n (pcT · 9)) (hdI (s.fl.take 1)) else (s.toFull (nxE s.fe) (s.fl.drop 1)).onTh n (pcT · 9):=by unfold notifyR;rw [n1,n2,n3]
 rw [eN]
 have hu:∀ j,gth ((s.toFull (nxE s.fe) (s.fl.drop 1)).onTh n (pcT · 9)).th j=if n=j then pcT (gth s.th n) 9 else gth s.th j:=fun j=>JV (s:=s.toFull (nxE s.fe) (s.fl.drop 1)) hn
 generalize (if hdB (s.fl.take 1)=true then G9 ((s.toFull (nxE s.fe) (s.fl.drop 1)).onTh n (pcT · 9)) (hdI (s.fl.take 1)) else (s.toFull (nxE s.fe) (s.fl.drop 1)).onTh n (pcT · 9))=r at w1 w2 w3 w4 w5
 obtain ⟨a1,a2,a3,a4,a5,a6,a7,a8,a9,a10⟩:=bq w2
 have nW:(n:Int)∉s.fl.take 1:=fun k=>x.fl (List.mem_of_mem_take k)
 refine h.wk (n:=n) (t:=pcT (gth s.th n) 9) (s.fl.take 1) w1 (w3.trans (Q5 _ _ _)) w4 a1 a2 a4 a5 a6 (by rw [a7];exact Cm he.1.2) (by rw [a9];exact Int.le_refl _) (fun j=>?_) (fun j=>?_) (fun j k=>.inl (List.mem_of_mem_take k)) (fun j hj=>?_) ?_ (.no (F7 (.inr (.inr (.inl ⟨hk,by omega⟩)))) (F7 (.inr (.inr (.inl ⟨hk,by simp [pcT]⟩)))))
 ·rw [a8];exact zG (PI h.b)
 ·rw [a10]
  exact ⟨fun k=>⟨k,fun w=>h.apart (List.mem_of_mem_take w) k⟩,fun k=>k.1⟩
 ·rw [w5 j (by rw [show ((s.toFull (nxE s.fe) (s.fl.drop 1)).onTh n (pcT · 9)).th.length=s.th.length from Q5 _ _ _];exact hj),hu]
  by_cases c:j=n
  ·subst c;simp [nW]
  ·have c' : ¬ n=j:=fun q=>c q.symm
   simp only [if_neg c,if_neg c']
 ·refine ThI.car (s:=s.toFull (nxE s.fe) (s.fl.drop 1)) (.ofR (by show (gth s.th n).st≠0;omega) hk ⟨x.sn,fun k=>x.fl (List.mem_of_mem_drop k),⟨fun _=>by simp [pcT],fun _=>x.rc.2 (by omega)⟩,x.el,fun k=>absurd (k.symm.trans hst) (by decide),fun _ _ k=>absurd rfl k,by simp [pcT],(fun e=>absurd e (by simp [pcT,l8,o9,z8,G5])),(fun e=>absurd e (by simp [pcT,l8,o9,z8,G5]))⟩) (.shr w2 w4)
theorem a1M (p:(gth s.th n).pc=7):Inv (if G6 s=4∧(gth s.th n).la=false then s.onTh n (pcT · 8) else s.onTh n (pcT · 2)):=by
 have x:=bv h hn hst hk
 have hh:=x.h1 (by omega) (by omega) (by omega)
 split
 ·exact h.ownR hn (D9 (l9 h.b hn) (by omega) (by decide)) hst hk (by omega) hst rfl (by simp [pcT]) (x.mv hst hst (by omega) (by simp [pcT]) (fun _ _=>hh) (by simp [pcT]) (fun e=>absurd e (by simp [pcT,l8,o9,z8,G5])) (fun _=>x.se (.inl p)))
 ·exact kJ h hn hst hk (by omega) hh (.inl rfl)
theorem a1h (p:(gth s.th n).pc=8):Inv (commitR s n):=by
 have x:=bv h hn hst hk
 have hh:=x.h1 (by omega) (by omega) (by omega)
 have hb:=uV h.b hn (by omega)
 unfold commitR at hb ⊢
 split
 ·exact kJ h hn hst hk (by omega) hh (.inl rfl)
 ·next hl =>
  split
  ·next hc =>
   rw [if_neg hl,if_pos hc] at hb
   refine h.sh (a:=s.toEmpty s.ee (s.el++[(n:Int)])) (t:=z8 (gth s.th n) 2) hn hb rfl (fun j hj hne=>?_) ?_ ?_
   ·refine ⟨.rfl,.rfl,.rfl,?_,id,id,fun _ _=>rfl,fun _ _ _=>rfl,rfl,Int.le_refl _,fun _ _ _ _=>rfl,Int.le_refl _,Int.le_refl _⟩
    show (j:Int)∈s.el++[(n:Int)]↔_
    rw [List.mem_append,List.mem_singleton]
    exact ⟨fun k=>k.elim id (fun k=>absurd k (by omega)),.inl⟩
   ·exact .ofR (by simp [z8]) hk ⟨x.sn,x.fl,⟨fun _=>by simp [z8],fun _=>x.rc.2 (by omega)⟩,⟨fun _=>rfl,fun _=>by simp [St.toEmpty]⟩,fun _=>⟨rfl,by simpa [z8] using hl⟩,fun _ _ _=>hh,by simp [z8],(fun e=>absurd e (by simp [pcT,l8,o9,z8,G5])),(fun e=>absurd e (by simp [pcT,l8,o9,z8,G5]))⟩
   ·exact h.l.keep rfl rfl rfl (Q5 _ _ _) fun j _=>aV (a:=s.toEmpty s.ee (s.el++[(n:Int)])) (t:=z8 (gth s.th n) 2) hn rfl (.no (F7 (.inr (.inr (.inl ⟨hk,by omega⟩)))) (F7 (.inr (.inr (.inl ⟨hk,by simp [z8]⟩))))) j
  ·exact kJ h hn hst hk (by omega) hh (.inl rfl)
theorem a0w (p:(gth s.th n).pc=9):Inv ((s.toRc (lvL s.rc n)).onTh n E9):=by
 have x:=bv h hn hst hk
 have hb:=gz h.b hn (by omega)
 rw [iH (.inl p)] at hb
 refine h.sh (a:=s.toRc (lvL s.rc n)) (t:=E9 (gth s.th n)) hn hb rfl (fun j hj hne=>?_) ?_ ?_
 ·refine ⟨.rfl,?_,.rfl,.rfl,id,fun k=>JM k (by omega),fun _ _=>rfl,fun _ _ _=>rfl,rfl,Int.le_refl _,fun _ _ _ _=>rfl,Int.le_refl _,Int.le_refl _⟩
  show (j:Int)∈lvL s.rc n↔_
  rw [tZ (KQ h.b)]
  exact ⟨fun k=>k.1,fun k=>⟨k,by omega⟩⟩
 ·exact .ofO rfl ⟨x.sn,fun k=>((tZ (KQ h.b)).1 k).2 rfl,x.fl,fun k=>by have:=x.el.1 k;omega⟩
 ·exact h.l.keep rfl rfl rfl (Q5 _ _ _) fun j _=>aV (a:=s.toRc (lvL s.rc n)) (t:=E9 (gth s.th n)) hn rfl (.no (F7 (.inr (.inr (.inl ⟨hk,by omega⟩)))) (F7 (.inl rfl))) j
end
end
section
section
variable {s:St} {n:Nat} (h:Inv s) (hn:n<s.th.length) (hst:(gth s.th n).st=1) (hk:j6 (gth s.th n).ki=3)
include h hn hst hk
theorem xn:ThC s n (gth s.th n):=(h.t n hn).cc (by omega) hk
theorem a0O:Inv (bP s n):=by
 have x:=xn h hn hst hk
 have hg:=l9 h.b hn
 have hw:=bM h.b (Q3 (gth s.th n).ki)
 have hn' : n<(s.toWord s.hd s.tl (clM s.md (Q3 (gth s.th n).ki))).th.length:=hn
 unfold bP
 rw [cK hw hn']
 refine Inv.lg ?_ _
 have et:=gY (gth s.th n) (gth s.th n).ki 1 0
 have h1:thB (pcT (F3 (gth s.th n) (gth s.th n).ki 1 0) 1)=true:=D9 (jW hg (by decide)) (by rw [et.1];omega) (by decide)
 refine h.sh (a:=s.toWord s.hd s.tl (clM s.md (Q3 (gth s.th n).ki))) (t:=pcT (F3 (gth s.th n) (gth s.th n).ki 1 0) 1) hn (kR hw h1) rfl (fun j hj hne=>.same rfl rfl rfl rfl rfl rfl (Int.le_refl _) rfl (Int.le_refl _) rfl) ?_ ?_
 ·exact .ofC (by show (F3 (gth s.th n) (gth s.th n).ki 1 0).st≠0;rw [et.1];omega) (by show j6 (F3 (gth s.th n) (gth s.th n).ki 1 0).ki=3;rw [et.2.1];exact hk) ⟨⟨x.o.sn,x.o.rc,x.o.fl,x.o.el⟩,by simp [pcT],et.1.trans hst⟩
 ·exact h.l.keep rfl rfl rfl (Q5 _ _ _) fun j _=>aV (a:=s.toWord s.hd s.tl (clM s.md (Q3 (gth s.th n).ki))) (t:=pcT (F3 (gth s.th n) (gth s.th n).ki 1 0) 1) hn rfl (.no (F7 (.inr (.inr (.inr hk)))) (F7 (.inr (.inr (.inr (by show j6 (F3 (gth s.th n) (gth s.th n).ki 1 0).ki=3;rw [et.2.1];exact hk)))))) j
theorem a0k:Inv (bR s n):=by
 have x:=xn h hn hst hk
 obtain ⟨-,-,d,-,e,-⟩:=l6 h.b
 have he:=O7.1 e
 obtain ⟨n1,n2,n3⟩:=aS e
 have hb:stB (bR s n)=true:=dI _ (og h.b hn (by omega))
 have hs:=qQ s n
 have hw:=L6 (ntT s.fl.length s.fe s.fl) ((s.toFull (ntE s.fe s.fl) (ntL s.fl.length s.fe s.fl)).onTh n (pcT · 2))
 have hcf:(bR s n).cf=s.cf:=hw.2.1
 have hlen:(bR s n).th.length=s.th.length:=hw.2.2.2.trans (Q5 _ _ _)
 obtain ⟨a1,a2,a3,a4,a5,a6,a7,a8,a9,a10⟩:=bq hs
 refine h.wk (n:=n) (t:=pcT (gth s.th n) 2) s.fl hb hlen hcf a1 a2 a4 a5 a6 (by rw [a7];show s.fe≤ntE s.fe s.fl;rw [n1];exact Cm he.1.2) (by rw [a9];exact Int.le_refl _) (fun j=>?_) (fun j=>?_) (fun j k=>.inl k) (fun j hj=>mY h.b hn hst hj) ?_ (.no (F7 (.inr (.inr (.inr hk)))) (F7 (.inr (.inr (.inr hk)))))
 ·rw [a8]
  show j∈ntL s.fl.length s.fe s.fl↔_
  rw [n2]
  exact ⟨fun k=>(List.not_mem_nil k).elim,fun k=>absurd k.1 k.2⟩
 ·rw [a10]
  exact ⟨fun k=>⟨k,fun w=>h.apart w k⟩,fun k=>k.1⟩
 ·refine ThI.car (s:=s.toFull (ntE s.fe s.fl) (ntL s.fl.length s.fe s.fl)) (.ofC (by show (gth s.th n).st≠0;omega) hk ⟨⟨x.o.sn,x.o.rc,?_,x.o.el⟩,by simp [pcT],hst⟩) (.shr hs hcf)
  show (n:Int)∉ntL s.fl.length s.fe s.fl
  rw [n2];exact List.not_mem_nil
theorem ZC:Inv (Y9 s n):=by
 have x:=xn h hn hst hk
 obtain ⟨-,-,-,d,-,e⟩:=l6 h.b
 have he:=O7.1 e
 obtain ⟨n1,n2,n3⟩:=aS e
 have hb:stB (Y9 s n)=true:=dI _ (jG h.b hn (by omega))
 have hs:=nD s n
 have hw:=L6 (ntT s.el.length s.ee s.el) ((s.toEmpty (ntE s.ee s.el) (ntL s.el.length s.ee s.el)).onTh n E9)
 have hcf:(Y9 s n).cf=s.cf:=hw.2.1
 have hlen:(Y9 s n).th.length=s.th.length:=hw.2.2.2.trans (Q5 _ _ _)
 obtain ⟨a1,a2,a3,a4,a5,a6,a7,a8,a9,a10⟩:=bq hs
 refine h.wk (n:=n) (t:=E9 (gth s.th n)) s.el hb hlen hcf a1 a2 a4 a5 a6 (by rw [a7];exact Int.le_refl _) (by rw [a9];show s.ee≤ntE s.ee s.el;rw [n1];exact Cm he.1.2) (fun j=>?_) (fun j=>?_) (fun j k=>.inr k) (fun j hj=>jC h.b hn hst hj) ?_ (.no (F7 (.inr (.inr (.inr hk)))) (F7 (.inl rfl)))
 ·rw [a8]
  exact ⟨fun k=>⟨k,fun w=>h.apart k w⟩,fun k=>k.1⟩
 ·rw [a10]
  show j∈ntL s.el.length s.ee s.el↔_
  rw [n2]
  exact ⟨fun k=>(List.not_mem_nil k).elim,fun k=>absurd k.1 k.2⟩
 ·refine ThI.car (s:=s.toEmpty (ntE s.ee s.el) (ntL s.el.length s.ee s.el)) (.ofO rfl ⟨x.o.sn,x.o.rc,x.o.fl,?_⟩) (.shr hs hcf)
  show (n:Int)∉ntL s.el.length s.ee s.el
  rw [n2];exact List.not_mem_nil
end
section
variable {s:St} {n:Nat} (h:Inv s) (hn:n<s.th.length) (hst:(gth s.th n).st=1)
include h hn hst
theorem FN (hk:j6 (gth s.th n).ki=1):Inv (sendN s n):=by
 rcases iW (l9 h.b hn) with p | p | p | p | p | p | p | p | p | p | p | p
 ·exact a0e h hn hst hk p
 ·rw [iZ p];exact a1t h hn hst hk p
 ·rw [iG p];exact ZJ h hn hst hk p
 ·rw [dR p];exact a0n h hn hst hk p
 ·rw [iP p];exact a1k h hn hst hk p
 ·rw [iR p];exact ZV h hn hst hk p
 ·rw [iV p];exact a1c h hn hst hk p
 ·rw [iI p];exact ZR h hn hst hk p
 ·rw [iQ p];exact ZO h hn hst hk p
 ·rw [fZ p];exact ZG h hn hst hk p
 ·rw [eZ p];exact Vp h hn hst hk p
 ·rw [aU p];exact XY h hn hst hk p
theorem FZ (hk:j6 (gth s.th n).ki=2):Inv (recvN s n):=by
 have p9:=(bv h hn hst hk).p9
 rcases iW (l9 h.b hn) with p | p | p | p | p | p | p | p | p | p | p | p
 ·exact ZP h hn hst hk p
 ·rw [qY p];exact ZH h hn hst hk p
 ·rw [pX p];exact a0x h hn hst hk p
 ·rw [qD p];exact a0K h hn hst hk p
 ·rw [qw p];exact ZY h hn hst hk p
 ·rw [qK p];exact a1x h hn hst hk p
 ·rw [rz p];exact a0f h hn hst hk p
 ·rw [qx p];exact a1M h hn hst hk p
 ·rw [qR p];exact a1h h hn hst hk p
 ·rw [iH (.inl p)];exact a0w h hn hst hk p
 ·omega
 ·omega
theorem Bo (hk:j6 (gth s.th n).ki=3):Inv (closeN s n) :=
 bz (P:=Inv) (a0O h hn hst hk) (a0k h hn hst hk) (ZC h hn hst hk)
theorem vF:aQ s n=if j6 (gth s.th n).ki=1 then sendN s n else if j6 (gth s.th n).ki=2 then recvN s n else closeN s n:=by
 rw [mh]
 unfold stepD
 have hh:=aa h.b hn
 rw [Int.toNat_natCast]
 split
 ·next k=>unfold aB;rw [if_pos (I6.2 ⟨hh,by rw [Int.toNat_natCast];exact hst,by rw [Int.toNat_natCast];exact k⟩),Int.toNat_natCast]
 ·split
  ·next k=>unfold ai;rw [if_pos (I6.2 ⟨hh,by rw [Int.toNat_natCast];exact hst,by rw [Int.toNat_natCast];exact k⟩),Int.toNat_natCast]
  ·next k1 k2 =>
   have k:j6 (gth s.th n).ki=3:=by rcases U3 (l9 h.b hn) (by omega) with k | k | k <;> omega
   unfold P8;rw [if_pos (vR h.b hn hst k),Int.toNat_natCast]
theorem Qj:Inv (aQ s n):=by
 rw [vF h hn hst]
 split
 ·next k=>exact FN h hn hst k
 ·split
  ·next k=>exact FZ h hn hst k
  ·next k1 k2=>exact Bo h hn hst (by rcases U3 (l9 h.b hn) (by omega) with k | k | k <;> omega)
end
theorem Qv {s:St} (h:Inv s) (i:Int):Inv (ay s i):=by
 unfold ay;split
 ·next e =>
  obtain ⟨n,rfl,-,hn,hst⟩:=jE.1 e
  exact Qj h hn hst
 ·exact h
theorem JI {s r:St} (h:Inv s) {i k v u:Int} (hb:mR s i k v u 0 r):Inv r:=by
 obtain ⟨-,n,t,rfl,hn,ht,rfl⟩:=kI hb
 have x:=h.t n hn
 have key:(gth s.th n).st=0∧opB k=true∧t.st=1∧t.ki=k∧t.pc=0∧t.la=false:=by
  rcases ht with ⟨_,h0,_⟩ | ⟨_,_,h0,_⟩ | ⟨a,b,_,_,rfl⟩ | ⟨_,_,_,_,h0,_⟩ | ⟨a,b,_,_,_,rfl⟩
  ·cases h0
  ·cases h0
  ·exact ⟨a,b,rfl,rfl,rfl,rfl⟩
  ·cases h0
  ·exact ⟨a,b,rfl,rfl,rfl,rfl⟩
 obtain ⟨a,b,c,d,e,f⟩:=key
 have o:=x.oo a
 have hk:=X0 k
 have hb:=vZ.1 b
 refine h.own hn (Fa ht (l9 h.b hn)) ⟨fun k=>absurd k (by omega),fun _ _=>?_,fun _ _=>?_,fun _ _=>⟨o,by omega,c⟩⟩ (.no (F7 (.inl a)) (F7 ?_))
 ·refine ⟨o.rc,o.el,⟨fun k=>absurd k o.sn,fun k=>absurd e k⟩,⟨fun k=>absurd k o.fl,fun k=>by omega⟩,fun k=>by omega,fun k=>absurd e k,?_,?_,?_,?_,?_⟩
  all_goals (intro k;omega)
 ·refine ⟨o.sn,o.fl,⟨fun k=>absurd k o.rc,fun k=>absurd e k⟩,⟨fun k=>absurd k o.el,fun k=>by omega⟩,fun k=>by omega,fun k=>absurd e k,by omega,?_,?_⟩
  all_goals (intro k;omega)
 ·rw [d];omega
theorem Yn {ep:Int} {l:List Int} (h:okE ep l=true) (i:Int):cnL ep l i=lvL l i:=by unfold cnL;rw [if_pos h]
theorem Jv {k:Int} (h:K3 k=true):j6 k≠3:=by
 have:=jv.1 h
 have:=X0 k
 omega
theorem Bj {t:Th}:HolE t (M4 t):=by
 refine ⟨⟨fun ⟨a,b⟩=>⟨?_,b⟩,fun ⟨a,b⟩=>⟨?_,b⟩⟩,fun _=>rfl⟩
 ·unfold M4 at a;simp only at a;split at a <;> omega
 ·unfold M4;simp only;split <;> omega
theorem TC {s:St} (h:Inv s) {n:Nat} (hn:n<s.th.length) (h1:K3 (gth s.th n).ki=true) (h2:(gth s.th n).st≠0):Inv (O4 s n):=by
 have x:=h.t n hn
 have hb:=wW h.b hn h1 h2
 have hk:=Jv h1
 have h3:=Zl h.b hn
 obtain ⟨-,-,-,-,c,d⟩:=l6 h.b
 unfold O4 at hb ⊢
 split
 ·next e =>
  rw [if_pos e] at hb
  have eT:M4 (gth s.th n)=⟨1,(gth s.th n).ki,(gth s.th n).va,(gth s.th n).un,(gth s.th n).pc,(gth s.th n).re,(gth s.th n).se,(gth s.th n).tr,true,(gth s.th n).rs,(gth s.th n).go⟩:=by unfold M4;rw [if_pos e]
  rw [Yn c,Yn d] at hb ⊢
  have mF:∀ j:Int,j∈lvL s.fl n↔j∈s.fl∧j≠n:=fun j=>tZ (PI h.b)
  have mE:∀ j:Int,j∈lvL s.el n↔j∈s.el∧j≠n:=fun j=>tZ (Uf h.b)
  refine h.sh (a:=(s.toFull s.fe (lvL s.fl n)).toEmpty s.ee (lvL s.el n)) hn hb rfl (fun j hj hne=>?_) ?_ ?_
  ·refine ⟨.rfl,.rfl,?_,?_,id,id,fun _ _=>rfl,fun _ _ _=>rfl,rfl,Int.le_refl _,fun _ _ _ _=>rfl,Int.le_refl _,Int.le_refl _⟩
   ·exact (mF j).trans ⟨fun k=>k.1,fun k=>⟨k,by omega⟩⟩
   ·exact (mE j).trans ⟨fun k=>k.1,fun k=>⟨k,by omega⟩⟩
  ·rw [eT]
   have nf:(n:Int)∉lvL s.fl n:=fun k=>((mF _).1 k).2 rfl
   have ne:(n:Int)∉lvL s.el n:=fun k=>((mE _).1 k).2 rfl
   rcases U3 (l9 h.b hn) h2 with k | k | k
   ·have y:=x.ss h2 k
    have p:=(y.pk e).1
    refine .ofS (by show (1:Int)≠0;decide) k ⟨y.rc,ne,y.sn,⟨fun m=>absurd m nf,fun m=>absurd m (by simp)⟩,fun m=>absurd m (by simp),y.h1,?_,?_,?_,?_,?_⟩
    all_goals (intro m;simp only at m;omega)
   ·have y:=x.rr h2 k
    have p:=(y.pk e).1
    refine .ofR (by show (1:Int)≠0;decide) k ⟨y.sn,nf,y.rc,⟨fun m=>absurd m ne,fun m=>absurd m (by simp)⟩,fun m=>absurd m (by simp),y.h1,y.p9,?_,?_⟩
    all_goals (intro m;simp only at m;omega)
   ·exact absurd k hk
  ·exact h.l.keep rfl rfl rfl (Q5 _ _ _) fun j _=>aV (a:=(s.toFull s.fe (lvL s.fl n)).toEmpty s.ee (lvL s.el n)) hn rfl Bj j
 ·next e =>
  have eT:M4 (gth s.th n)=⟨(gth s.th n).st,(gth s.th n).ki,(gth s.th n).va,(gth s.th n).un,(gth s.th n).pc,(gth s.th n).re,(gth s.th n).se,(gth s.th n).tr,true,(gth s.th n).rs,(gth s.th n).go⟩:=by unfold M4;rw [if_neg e]
  refine h.own hn (ES (l9 h.b hn) h1 h2) ?_ Bj
  rw [eT]
  rcases U3 (l9 h.b hn) h2 with k | k | k
  ·have y:=x.ss h2 k
   exact .ofS h2 k ⟨y.rc,y.el,y.sn,y.fl,fun m=>absurd m e,y.h1,y.re,y.wr,y.ev,y.ho,y.se⟩
  ·have y:=x.rr h2 k
   exact .ofR h2 k ⟨y.sn,y.fl,y.rc,y.el,fun m=>absurd m e,y.h1,y.p9,y.ho,y.se⟩
  ·exact absurd k hk
theorem AL:∀ (l:List Int) {s:St},Inv s→(∀ i∈l,∃ n:Nat,i=n∧n<s.th.length∧K3 (gth s.th n).ki=true∧(gth s.th n).st≠0)→Inv (aF l s)
 | [],_,h,_=>h
 | i::l,s,h,hl=>by
  obtain ⟨n,rfl,hn,h1,h2⟩:=hl i List.mem_cons_self
  refine AL l (s:=O4 s (n:Int).toNat) (by rw [Int.toNat_natCast];exact TC h hn h1 h2) fun x hx=>?_
  obtain ⟨m,rfl,hm,h3,h4⟩:=hl x (List.mem_cons_of_mem _ hx)
  rw [Int.toNat_natCast]
  refine ⟨m,rfl,by rw [jm];exact hm,?_,?_⟩
  ·rw [gK hn];split <;> exact h3
  ·rw [gK hn];split
   ·unfold M4;simp only;split <;> omega
   ·exact h4
theorem Inv.now {s:St} (h:Inv s) {n:Int} (h0:0≤n∧n≤1099511627776):Inv (s.toNow n) :=
 ⟨Dl h.b h0,fun j hj=>(h.t j hj).car (.same rfl rfl rfl rfl rfl rfl (Int.le_refl _) rfl (Int.le_refl _) rfl),⟨h.l.s1,h.l.s2,h.l.d⟩⟩
theorem PW {s:St} (h:Inv s) (n:Int):Inv (M0 s n):=by
 by_cases e:M8 s n=0
 ·obtain ⟨hB,h0,h1⟩:=jN e
  have hb:=Ba hB
  rw [(dw e).1]
  refine AL _ (h.now (by omega)) fun i hi=>?_
  obtain ⟨m,rfl,hm,h2,-⟩:=(rR e).1 hi
  obtain ⟨h3,h4,-⟩:=Rs.1 h2
  exact ⟨m,rfl,hm,h3,h4⟩
 ·rw [(aM e).1];exact h
theorem yx {s r:St} {x:Ca} {E:Int} (h:Inv s) (hd:Gc s x E r):Inv r:=by
 by_cases hE:E=0
 ·subst hE
  rcases hd with ⟨he,h0,-⟩ | ⟨-,-,h0,rfl⟩ | ⟨-,-,h0,rfl⟩ | ⟨-,-,-,hb⟩
  ·exact absurd h0.symm he
  ·exact Qv h _
  ·exact PW h _
  ·exact JI h hb
 ·rw [pY hd hE];exact h
theorem Dq {c:Cf} (hc:cfB c=true):Inv (E5 c):=by
 have hB:=Co hc
 have hr:=vC hc
 have hg:∀ j,gth (E5 c).th j=th0:=fun j=>by
  unfold gth E5
  simp only [List.getD_eq_getElem?_getD,List.getElem?_replicate]
  split <;> rfl
 have hno:∀ j,¬ Hol (gth (E5 c).th j):=fun j=>by rw [hg];exact F7 (.inl rfl)
 refine ⟨hB,fun j _=>.ofO (by rw [hg];rfl) ⟨List.not_mem_nil,List.not_mem_nil,List.not_mem_nil,List.not_mem_nil⟩,⟨fun p a b=>?_,fun p a b=>?_,fun j k _ _ _ y=>absurd y (hno j)⟩⟩
 ·have a:0≤p:=a
  have b:p<0:=b
  omega
 ·have a:(0:Int)≤p:=a
  obtain ⟨k,hk⟩:∃ k:Nat,cfR c=k:=⟨(cfR c).toNat,by omega⟩
  have hl:(iE (cfR c)).length=k:=by rw [hk];exact Dy (by omega)
  have b:p<0+((iE (cfR c)).length:Int):=b
  rw [hl] at b
  left
  show (gs (iE (cfR c)) (plc (iE (cfR c)) p)).st=p
  have hp:plc (iE (cfR c)) p=p.toNat:=by
   unfold plc I9 jO
   rw [hl,show decide (0≤p)=true by simpa using a,show decide (1≤(k:Int))=true by simp;omega]
   simp only [Bool.and_self,if_true]
   rw [Int.emod_eq_of_lt a (by omega)]
  rw [hp]
  have hpk:p.toNat<k:=by omega
  have e:iE (cfR c)=(List.range k).map fun (i:Nat)=>(⟨(i:Int),0⟩:Slo):=by
   unfold iE;rw [if_pos (iw.2 (by omega)),hk,Int.toNat_natCast]
  rw [e]
  unfold gs
  rw [List.getD_eq_getElem?_getD,List.getElem?_map,List.getElem?_range hpk]
  show ((p.toNat:Nat):Int)=p
  omega
end
section
def lS (t:Th) (e:Int):Prop:=j6 t.ki=1∧(t.st=2∨t.st=1∧t.pc=8∧t.se=e)
def ma (t:Th) (e:Int):Prop:=j6 t.ki=2∧(t.st=2∨t.st=1∧t.pc=8∧t.se=e)
def wkF (t:Th):Prop:=t.st=1∧(j6 t.ki=2∧(t.pc=4∨t.pc=6)∨j6 t.ki=3∧t.pc=1)
def wkE (t:Th):Prop:=t.st=1∧(j6 t.ki=1∧t.pc=6∨j6 t.ki=3∧(t.pc=1∨t.pc=2))
def NF (s:St):Prop:=F8 s=2∨∃ j,j<s.th.length∧wkF (gth s.th j)
def NE (s:St):Prop:=G6 s=4∨∃ j,j<s.th.length∧wkE (gth s.th j)
structure WaI (s:St):Prop where
 f:∀ j,j<s.th.length→lS (gth s.th j) s.fe→NF s
 e:∀ j,j<s.th.length→ma (gth s.th j) s.ee→NE s
theorem zz {s:St} (h:Inv s) {j:Nat} (hj:j<s.th.length) {e:Int} (w:lS (gth s.th j) e):s.sn.head? = some (j:Int):=by
 obtain ⟨k,w⟩:=w
 have x:=(h.t j hj).ss (by rcases w with w | ⟨w,-⟩ <;> omega) k
 rcases w with w | ⟨-,w,-⟩
 ·have:=(x.pk w).1;exact x.h1 (by omega) (by omega) (by omega)
 ·exact x.h1 (by omega) (by omega) (by omega)
theorem xg {s:St} (h:Inv s) {j:Nat} (hj:j<s.th.length) {e:Int} (w:ma (gth s.th j) e):s.rc.head? = some (j:Int):=by
 obtain ⟨k,w⟩:=w
 have x:=(h.t j hj).rr (by rcases w with w | ⟨w,-⟩ <;> omega) k
 rcases w with w | ⟨-,w,-⟩
 ·have:=(x.pk w).1;exact x.h1 (by omega) (by omega) (by omega)
 ·exact x.h1 (by omega) (by omega) (by omega)
theorem mG {s r:St} {n:Nat} (o:OthM s.th r.th n) {j:Nat} (hj:j<s.th.length) (hne:j≠n):gth r.th j=gth s.th j∨(gth s.th j).st=2∧gth r.th j=D8 (gth s.th j):=by
 exact o.one j hj (by omega)
theorem nZ {s r:St} (h:Inv s) {n:Nat} (o:OthM s.th r.th n) {j:Nat} (hj:j<s.th.length) (hne:j≠n) {e:Int} (w:lS (gth r.th j) e):lS (gth s.th j) e:=by
 rcases mG o hj hne with k | ⟨h2,k⟩
 ·rw [k] at w;exact w
 ·rw [k,fV h2] at w
  exact ⟨w.1,.inl h2⟩
theorem kV {s r:St} (h:Inv s) {n:Nat} (o:OthM s.th r.th n) {j:Nat} (hj:j<s.th.length) (hne:j≠n) {e:Int} (w:ma (gth r.th j) e):ma (gth s.th j) e:=by
 rcases mG o hj hne with k | ⟨h2,k⟩
 ·rw [k] at w;exact w
 ·rw [k,fV h2] at w
  exact ⟨w.1,.inl h2⟩
theorem AB {s r:St} {n:Nat} (o:OthM s.th r.th n) {K:Th→Prop} (hK:∀ t,K t→t.st=1) (hn:K (gth s.th n)→K (gth r.th n)):(∃ j,j<s.th.length∧K (gth s.th j))→∃ j,j<r.th.length∧K (gth r.th j):=by
 rintro ⟨j,hj,k⟩
 refine ⟨j,by rw [o.len];exact hj,?_⟩
 by_cases e:j=n
 ·subst e;exact hn k
 ·rcases mG o hj e with q | ⟨q,-⟩
  ·rw [q];exact k
  ·have:=hK _ k;omega
theorem KL {s r:St} {n:Nat} (o:OthM s.th r.th n) (hs:F8 s=2→F8 r=2) (hn:wkF (gth s.th n)→wkF (gth r.th n)):NF s→NF r:=fun h=>h.elim (fun k=>.inl (hs k)) fun k=>.inr (AB o (fun _ x=>x.1) hn k)
theorem Kz {s r:St} {n:Nat} (o:OthM s.th r.th n) (hs:G6 s=4→G6 r=4) (hn:wkE (gth s.th n)→wkE (gth r.th n)):NE s→NE r:=fun h=>h.elim (fun k=>.inl (hs k)) fun k=>.inr (AB o (fun _ x=>x.1) hn k)
theorem nU {s r:St} (h1:r.hd=s.hd) (h2:r.tl=s.tl) (h3:r.md=s.md) (h4:r.sl.length=s.sl.length):F8 r=F8 s∧G6 r=G6 s:=by
 unfold F8 G6;rw [h1,h2,h3,h4];exact ⟨rfl,rfl⟩
theorem U5 {u:Th} (h1:u.st≠2) (h2:u.pc≠8) (e:Int):¬ lS u e∧¬ ma u e:=⟨fun ⟨_,k⟩=>by omega,fun ⟨_,k⟩=>by omega⟩
theorem WaI.mk' {s r:St} {n:Nat} (o:OthM s.th r.th n) (fo:lS (gth r.th n) r.fe→NF r) (fr:(∃ j,j<s.th.length∧j≠n∧lS (gth r.th j) r.fe)→NF r)
  (eo:ma (gth r.th n) r.ee→NE r) (er:(∃ j,j<s.th.length∧j≠n∧ma (gth r.th j) r.ee)→NE r):WaI r where
 f:=fun j hj k=>by
  by_cases e:j=n
  ·subst e;exact fo k
  ·exact fr ⟨j,by rw [← o.len];exact hj,e,k⟩
 e:=fun j hj k=>by
  by_cases e:j=n
  ·subst e;exact eo k
  ·exact er ⟨j,by rw [← o.len];exact hj,e,k⟩
section
variable {s r:St} {n:Nat} (h:Inv s) (o:OthM s.th r.th n)
include h o
theorem qL (w:WaI s) (e:r.fe=s.fe) (hs:F8 s=2→F8 r=2) (hn:wkF (gth s.th n)→wkF (gth r.th n)):(∃ j,j<s.th.length∧j≠n∧lS (gth r.th j) r.fe)→NF r:=by
 rintro ⟨j,hj,hne,k⟩
 rw [e] at k
 exact KL o hs hn (w.f j hj (nZ h o hj hne k))
theorem nK (w:WaI s) (e:r.ee=s.ee) (hs:G6 s=4→G6 r=4) (hn:wkE (gth s.th n)→wkE (gth r.th n)):(∃ j,j<s.th.length∧j≠n∧ma (gth r.th j) r.ee)→NE r:=by
 rintro ⟨j,hj,hne,k⟩
 rw [e] at k
 exact Kz o hs hn (w.e j hj (kV h o hj hne k))
theorem wo (e:r.fe=s.fe) (hh:s.sn.head? = some (n:Int)):(∃ j,j<s.th.length∧j≠n∧lS (gth r.th j) r.fe)→NF r:=by
 rintro ⟨j,hj,hne,k⟩
 have:=iq hh (zz h hj (nZ h o hj hne k))
 omega
theorem CK (e:r.ee=s.ee) (hh:s.rc.head? = some (n:Int)):(∃ j,j<s.th.length∧j≠n∧ma (gth r.th j) r.ee)→NE r:=by
 rintro ⟨j,hj,hne,k⟩
 have:=iq hh (xg h hj (kV h o hj hne k))
 omega
theorem eH (w:WaI s) {u:Th} (hu:gth r.th n=u) (e1:r.hd=s.hd) (e2:r.tl=s.tl) (e3:r.md=s.md) (e4:r.sl.length=s.sl.length) (e5:r.fe=s.fe) (e6:r.ee=s.ee) (h1:u.st≠2) (h2:u.pc≠8) (kf:wkF (gth s.th n)→wkF u) (ke:wkE (gth s.th n)→wkE u):WaI r:=by
 obtain ⟨s1,s2⟩:=nU e1 e2 e3 e4
 refine .mk' o (fun k=>?_) (qL h o w e5 (by rw [s1];exact id) (by rw [hu];exact kf)) (fun k=>?_) (nK h o w e6 (by rw [s2];exact id) (by rw [hu];exact ke))
 ·rw [hu] at k;exact absurd k (U5 h1 h2 _).1
 ·rw [hu] at k;exact absurd k (U5 h1 h2 _).2
end
theorem WaI.lg {s:St} (w:WaI s) (l:List En):WaI (s.toLg l):=⟨w.f,w.e⟩
section
variable {s:St} {n:Nat} (h:Inv s) (w:WaI s) (hn:n<s.th.length)
include h w hn
theorem KH {u:Th} (h1:u.st≠2) (h2:u.pc≠8) (kf:wkF (gth s.th n)→wkF u) (ke:wkE (gth s.th n)→wkE u):WaI (s.setTh n u) :=
 eH h (OthM.set u) w (by rw [fG hn,if_pos rfl]) rfl rfl rfl rfl rfl rfl h1 h2 kf ke
theorem KF {k r g:Int} (hst:(gth s.th n).st=1) (kf:¬ wkF (gth s.th n)) (ke:¬ wkE (gth s.th n)):WaI (D7 s n k r g 9):=by
 rw [cK h.b hn]
 exact (KH h w hn (by show (F3 (gth s.th n) k r g).st≠2;rw [wV];omega) (by simp [pcT]) (fun x=>absurd x kf) (fun x=>absurd x ke)).lg _
end
theorem V4 {t:Th} (h:j6 t.ki=1∧t.pc≠6∨j6 t.ki=2∧t.pc≠4∧t.pc≠6):¬ wkF t∧¬ wkE t:=⟨fun ⟨_,k⟩=>by omega,fun ⟨_,k⟩=>by omega⟩
section
variable {s:St} {n:Nat} (h:Inv s) (w:WaI s) (hn:n<s.th.length) (hst:(gth s.th n).st=1) (hk:j6 (gth s.th n).ki=1)
include h w hn hst hk
omit hst in
theorem fJ {u:Th} (hp:(gth s.th n).pc≠6) (h1:u.st=1) (h2:u.pc≠8):WaI (s.setTh n u) :=
 KH h w hn (by omega) h2 (fun x=>absurd x (V4 (.inl ⟨hk,hp⟩)).1) (fun x=>absurd x (V4 (.inl ⟨hk,hp⟩)).2)
theorem a3n (hE:s.ee<1099511627776):WaI (sendN s n):=by
 have x:=eF h hn hst hk
 have o:=OthM.of (Bb (s:=s) (n:=n))
 have hI:=FN h hn hst hk
 have nT:(gth s.th n).pc≠6→∀ {k r g:Int},WaI (D7 s n k r g 9):=fun hp=>KF h w hn hst (V4 (.inl ⟨hk,hp⟩)).1 (V4 (.inl ⟨hk,hp⟩)).2
 rcases iW (l9 h.b hn) with p | p | p | p | p | p | p | p | p | p | p | p
 ·rw [ja p] at o ⊢
  exact eH h o w (u:=pcT (gth s.th n) 1) (K7 (s:=s.toSn (Z0 s.sn n)) hn _) rfl rfl rfl rfl rfl rfl (by show (gth s.th n).st≠2;omega) (by simp [pcT]) (fun k=>absurd k (V4 (.inl ⟨hk,by omega⟩)).1) (fun k=>absurd k (V4 (.inl ⟨hk,by omega⟩)).2)
 ·rw [iZ p]
  unfold Y4
  repeat' split
  ·exact fJ h w hn hk (by omega) hst (by simp [pcT])
  ·exact nT (by omega)
  ·exact fJ h w hn hk (by omega) hst (by show (gth s.th n).pc≠8;omega)
 ·rw [iG p]
  unfold cZ bD
  repeat' split
  ·exact fJ h w hn hk (by omega) hst (by simp [l8])
  ·exact nT (by omega)
  ·exact fJ h w hn hk (by omega) hst (by simp [l8])
  ·exact nT (by omega)
  ·exact nT (by omega)
  ·exact fJ h w hn hk (by omega) hst (by simp [pcT])
  ·exact fJ h w hn hk (by omega) hst (by show (gth s.th n).pc≠8;omega)
  ·exact nT (by omega)
 ·rw [dR p] at o ⊢
  split
  ·next e =>
   rw [if_pos e] at o
   exact eH h o w (u:=pcT (gth s.th n) 4) (K7 (s:=s.toSl (wrL s.sl (gth s.th n).re (gth s.th n).va)) hn _) rfl rfl rfl (Da _ _ _) rfl rfl (by show (gth s.th n).st≠2;omega) (by simp [pcT]) (fun k=>absurd k (V4 (.inl ⟨hk,by omega⟩)).1) (fun k=>absurd k (V4 (.inl ⟨hk,by omega⟩)).2)
  ·exact w
 ·rw [iP p] at o ⊢
  have hh:=x.h1 (by omega) (by omega) (by omega)
  unfold Q6 at o ⊢
  split
  ·next e =>
   rw [if_pos e] at o
   have hs:s.md=0∧s.tl - s.hd<s.sl.length∧s.tl<1099511627776:=by rcases kT h.b with k | k | k | k <;> omega
   have hw:=wd h.b
   have hb:stB (s.toWord s.hd (s.tl+1) s.md)=true:=M6 h.b (I7.2 (by omega))
   have hn' : n<(s.toWord s.hd (s.tl+1) s.md).th.length:=hn
   have hr:shr (D7 (s.toWord s.hd (s.tl+1) s.md) n (gth s.th n).ki 1 0 6)=shr (s.toWord s.hd (s.tl+1) s.md):=iA _ _ _ _ _ _
   obtain ⟨a1,a2,a3,a4,a5,a6,a7,a8,a9,a10⟩:=bq hr
   have hu:gth (D7 (s.toWord s.hd (s.tl+1) s.md) n (gth s.th n).ki 1 0 6).th n=pcT (F3 (gth s.th n) (gth s.th n).ki 1 0) 6:=by
    rw [cK hb hn'];exact (fG (s:=s.toWord s.hd (s.tl+1) s.md) hn).trans (if_pos rfl)
   have et:=gY (gth s.th n) (gth s.th n).ki 1 0
   have hst' : (pcT (F3 (gth s.th n) (gth s.th n).ki 1 0) 6).st=1:=et.1.trans hst
   generalize D7 (s.toWord s.hd (s.tl+1) s.md) n (gth s.th n).ki 1 0 6=r at *
   have own:NE r:=.inr ⟨n,by rw [o.len];exact hn,by rw [hu];exact ⟨hst',.inl ⟨by show j6 (F3 (gth s.th n) (gth s.th n).ki 1 0).ki=1;rw [et.2.1];exact hk,rfl⟩⟩⟩
   refine .mk' o (fun k=>?_) (wo h o a7 hh) (fun _=>own) (fun _=>own)
   rw [hu] at k;exact absurd k (U5 (by omega) (by simp [pcT]) _).1
  ·split
   ·exact fJ h w hn hk (by omega) hst (by simp [pcT])
   ·exact nT (by omega)
 ·rw [iR p]
  exact fJ h w hn hk (by omega) hst (by simp [o9])
 ·have hh:=x.h1 (by omega) (by omega) (by omega)
  rw [iV p] at o hI ⊢
  obtain ⟨-,-,-,d,-,e⟩:=l6 h.b
  obtain ⟨n1,n2,n3⟩:=uz e
  have h2:stB (s.toEmpty (nxE s.ee) (s.el.drop 1))=true:=bL h.b (fF e (O6 (R8 e) 1)) (bN d (O6 (R8 e) 1) (fun x hx=>List.mem_of_mem_drop hx))
  have h3:stB ((s.toEmpty (nxE s.ee) (s.el.drop 1)).onTh n (pcT · 9))=true:=r9 h2 (D9 (l9 h.b hn) (by omega) (by decide))
  obtain ⟨w1,w2,w3,w4,w5⟩:=Aa h3 s.el
  have eN:L9 s n=if hdB (s.el.take 1)=true then G9 ((s.toEmpty (nxE s.ee) (s.el.drop 1)).onTh n (pcT · 9)) (hdI (s.el.take 1)) else (s.toEmpty (nxE s.ee) (s.el.drop 1)).onTh n (pcT · 9):=by unfold L9;rw [n1,n2,n3]
  have hu:=w5 n (by rw [show ((s.toEmpty (nxE s.ee) (s.el.drop 1)).onTh n (pcT · 9)).th.length=s.th.length from Q5 _ _ _];exact hn)
  rw [show gth ((s.toEmpty (nxE s.ee) (s.el.drop 1)).onTh n (pcT · 9)).th n=pcT (gth s.th n) 9 from K7 (s:=s.toEmpty (nxE s.ee) (s.el.drop 1)) hn _,if_neg (fun k=>x.el (List.mem_of_mem_take k)),← eN] at hu
  rw [← eN] at w2
  obtain ⟨a1,a2,a3,a4,a5,a6,a7,a8,a9,a10⟩:=bq w2
  generalize L9 s n=r at *
  refine .mk' o (fun k=>?_) (wo h o a7 hh) (fun k=>?_) ?_
  ·rw [hu] at k;exact absurd k (U5 (by show (gth s.th n).st≠2;omega) (by simp [pcT]) _).1
  ·rw [hu] at k;exact absurd k (U5 (by show (gth s.th n).st≠2;omega) (by simp [pcT]) _).2
  ·rintro ⟨j,hj,hne,k⟩
   exfalso
   have a9:r.ee=nxE s.ee:=a9
   have a10:r.el=s.el.drop 1:=a10
   have hnx:nxE s.ee=s.ee+1:=by unfold nxE;rw [if_pos (by omega)]
   have hj' : j<r.th.length:=by rw [o.len];exact hj
   obtain ⟨kk,k'⟩:=k
   rcases k' with k' | ⟨q1,q2,q3⟩
   ·have y:=((hI.t j hj').rr (by omega) kk).el.2 k'
    rw [a10] at y
    -- one alone may wait
    obtain ⟨y1,y2⟩:=(sV (Uf h.b)).1 y
    cases hc:s.el with
    | nil=>rw [hc] at y1;cases y1
    | cons z l =>
     have z1:z∈s.el:=by rw [hc];exact List.mem_cons_self
     obtain ⟨i,rfl,hi⟩:=Ij h.b d z1
     have hx:∀ m:Nat,m<s.th.length→(m:Int)∈s.el→s.rc.head? = some (m:Int):=fun m hm hm' => by
      have ym:=h.t m hm
      by_cases h0:(gth s.th m).st=0
      ·exact absurd hm' (ym.oo h0).el
      ·rcases U3 (l9 h.b hm) h0 with q | q | q
       ·exact absurd hm' (ym.ss h0 q).el
       ·exact xg h hm (e:=0) ⟨q,.inl ((ym.rr h0 q).el.1 hm')⟩
       ·exact absurd hm' (ym.cc h0 q).o.el
     have:=iq (hx i hi z1) (hx j hj y1)
     rw [hc,List.head?_cons,this] at y2
     exact y2 rfl
   ·have y:=kV h o hj hne ⟨kk,.inr ⟨q1,q2,q3⟩⟩
    obtain ⟨y1,y2⟩:=y
    rcases mG o hj hne with z | ⟨z,z'⟩
    ·rw [z] at q1 q2 q3 kk
     have:=((h.t j hj).rr (by omega) kk).se (.inr q2)
     omega
    ·have:=(((h.t j hj).rr (by omega) y1).pk z).1
     rw [z',fV z] at q2
     have q2:(gth s.th j).pc=8:=q2
     omega
 ·rw [iI p]
  split
  ·next e =>
   refine .mk' (OthM.set _) (fun _=>.inl e.1) (qL h (OthM.set _) w rfl (fun k=>k) (fun k=>absurd k (V4 (.inl ⟨hk,by omega⟩)).1)) (fun k=>?_) (nK h (OthM.set _) w rfl (fun k=>k) (fun k=>absurd k (V4 (.inl ⟨hk,by omega⟩)).2))
   have k:ma (gth (s.onTh n (pcT · 8)).th n) s.ee:=k
   rw [K7 hn] at k
   have:=k.1
   have hk' : j6 (gth s.th n).ki=2:=this
   omega
  ·exact fJ h w hn hk (by omega) hst (by simp [pcT])
 ·have hh:=x.h1 (by omega) (by omega) (by omega)
  rw [iQ p] at o ⊢
  unfold Q8 at o ⊢
  split
  ·exact fJ h w hn hk (by omega) hst (by simp [pcT])
  ·next hl =>
   split
   ·next hc =>
    rw [if_neg hl,if_pos hc] at o
    have hc' : s.fe=(gth s.th n).se:=by simp only [cmB,Bool.and_eq_true,beq_iff_eq] at hc;exact hc.2
    have nf:NF s:=w.f n hn ⟨hk,.inr ⟨hst,p,hc'.symm⟩⟩
    refine .mk' o (fun _=>KL o (fun k=>k) (fun k=>absurd k (V4 (.inl ⟨hk,by omega⟩)).1) nf) (wo h o rfl hh) (fun k=>?_) (nK h o w rfl (fun k=>k) (fun k=>absurd k (V4 (.inl ⟨hk,by omega⟩)).2))
    rw [K7 (s:=s.toFull s.fe (s.fl++[(n:Int)])) hn] at k
    have hk' : j6 (gth s.th n).ki=2:=k.1
    omega
   ·exact fJ h w hn hk (by omega) hst (by simp [pcT])
 ·rw [fZ p] at o ⊢
  exact eH h o w (u:=E9 (gth s.th n)) (K7 (s:=s.toSn (lvL s.sn n)) hn _) rfl rfl rfl rfl rfl rfl (by simp [E9]) (by simp [E9]) (fun k=>absurd k (V4 (.inl ⟨hk,by omega⟩)).1) (fun k=>absurd k (V4 (.inl ⟨hk,by omega⟩)).2)
 ·have hh:=x.h1 (by omega) (by omega) (by omega)
  rw [eZ p] at o ⊢
  unfold Y6 at o ⊢
  split
  ·next e =>
   rw [if_pos e] at o
   have e' := e
   simp only [dA,Bool.and_eq_true,beq_iff_eq] at e'
   obtain ⟨⟨⟨⟨e1,e2⟩,e3⟩,-⟩,e5⟩:=e'
   rw [lM e3,decide_eq_true_eq] at e5
   have hw:=wd h.b
   have hb:stB (s.toWord (s.hd+1) s.tl s.md)=true:=M6 h.b (I7.2 (by omega))
   have hn' : n<(s.toWord (s.hd+1) s.tl s.md).th.length:=hn
   have hr:shr (D7 (s.toWord (s.hd+1) s.tl s.md) n 9 1 (Q7 s (gth s.th n).re) 11)=shr (s.toWord (s.hd+1) s.tl s.md):=iA _ _ _ _ _ _
   obtain ⟨a1,a2,a3,a4,a5,a6,a7,a8,a9,a10⟩:=bq hr
   have hu:gth (D7 (s.toWord (s.hd+1) s.tl s.md) n 9 1 (Q7 s (gth s.th n).re) 11).th n=pcT (gth s.th n) 11:=by
    rw [cK hb hn'];exact (fG (s:=s.toWord (s.hd+1) s.tl s.md) hn).trans (if_pos rfl)
   generalize D7 (s.toWord (s.hd+1) s.tl s.md) n 9 1 (Q7 s (gth s.th n).re) 11=r at *
   have ns:G6 s≠4:=by rcases cu h.b with k | k | k | k <;> omega
   refine .mk' o (fun k=>?_) (wo h o a7 hh) (fun k=>?_) (nK h o w a9 (fun k=>absurd k ns) (fun k=>absurd k (V4 (.inl ⟨hk,by omega⟩)).2))
   ·rw [hu] at k;exact absurd k (U5 (by show (gth s.th n).st≠2;omega) (by simp [pcT]) _).1
   ·rw [hu] at k;exact absurd k (U5 (by show (gth s.th n).st≠2;omega) (by simp [pcT]) _).2
  ·exact fJ h w hn hk (by omega) hst (by simp [pcT])
 ·rw [aU p] at o ⊢
  exact eH h o w (u:=pcT (gth s.th n) 2) (K7 (s:=s.toSl (rlL s.sl (gth s.th n).re)) hn _) rfl rfl rfl (ig _ _) rfl rfl (by show (gth s.th n).st≠2;omega) (by simp [pcT]) (fun k=>absurd k (V4 (.inl ⟨hk,by omega⟩)).1) (fun k=>absurd k (V4 (.inl ⟨hk,by omega⟩)).2)
end
end
section
section
variable {s:St} {n:Nat} (h:Inv s) (w:WaI s) (hn:n<s.th.length) (hk:j6 (gth s.th n).ki=2)
include h w hn hk
theorem dX {u:Th} (hp:(gth s.th n).pc≠4∧(gth s.th n).pc≠6) (h1:u.st=1) (h2:u.pc≠8):WaI (s.setTh n u) :=
 KH h w hn (by omega) h2 (fun x=>absurd x (V4 (.inr ⟨hk,hp⟩)).1) (fun x=>absurd x (V4 (.inr ⟨hk,hp⟩)).2)
variable (hst:(gth s.th n).st=1)
include hst
theorem a3D (hE:s.fe<1099511627776):WaI (recvN s n):=by
 have x:=bv h hn hst hk
 have p9:=x.p9
 have o:=OthM.of (zR (s:=s) (n:=n))
 have hI:=FZ h hn hst hk
 have nT:(gth s.th n).pc≠4∧(gth s.th n).pc≠6→∀ {k r g:Int},WaI (D7 s n k r g 9):=fun hp=>KF h w hn hst (V4 (.inr ⟨hk,hp⟩)).1 (V4 (.inr ⟨hk,hp⟩)).2
 have nE:∀ {q:Prop},wkE (gth s.th n)→q:=fun ⟨_,k⟩=>by omega
 rcases iW (l9 h.b hn) with p | p | p | p | p | p | p | p | p | p | p | p
 ·rw [rW p] at o ⊢
  exact eH h o w (u:=pcT (gth s.th n) 1) (K7 (s:=s.toRc (Z0 s.rc n)) hn _) rfl rfl rfl rfl rfl rfl (by show (gth s.th n).st≠2;omega) (by simp [pcT]) (fun k=>absurd k (V4 (.inr ⟨hk,by omega⟩)).1) (fun k=>absurd k (V4 (.inr ⟨hk,by omega⟩)).2)
 ·rw [qY p]
  unfold firstR
  repeat' split
  ·exact dX h w hn hk (by omega) hst (by simp [pcT])
  ·exact nT (by omega)
  ·exact dX h w hn hk (by omega) hst (by show (gth s.th n).pc≠8;omega)
 ·rw [pX p]
  unfold lookR
  repeat' split
  ·exact dX h w hn hk (by omega) hst (by simp [pcT])
  ·exact nT (by omega)
  ·exact nT (by omega)
  ·exact nT (by omega)
  ·exact dX h w hn hk (by omega) hst (by simp [pcT])
  ·exact dX h w hn hk (by omega) hst (by show (gth s.th n).pc≠8;omega)
 ·rw [qD p] at o ⊢
  have hh:=x.h1 (by omega) (by omega) (by omega)
  unfold takeR at o ⊢
  split
  ·exact dX h w hn hk (by omega) hst (by simp [pcT])
  ·next n4 =>
   split
   ·exact nT (by omega)
   ·next n1 =>
    have hs:G6 s=1:=Classical.not_not.1 n1
    have hlt:s.md≠2∧s.hd<s.tl:=by rcases cu h.b with ⟨-,h'⟩ | ⟨h',-⟩ | ⟨h',-⟩ | ⟨h',-⟩ <;> omega
    rw [if_neg n4,if_neg n1] at o
    rw [Ct h hn hst hs] at o ⊢
    have et:=gY (l8 (gth s.th n) s.hd 4) (gth s.th n).ki 1 (Q7 s s.hd)
    have hu:gth ((s.toWord (s.hd+1) s.tl s.md).setTh n (pcT (F3 (l8 (gth s.th n) s.hd 4) (gth s.th n).ki 1 (Q7 s s.hd)) 4)).th n=pcT (F3 (l8 (gth s.th n) s.hd 4) (gth s.th n).ki 1 (Q7 s s.hd)) 4:=(fG (s:=s.toWord (s.hd+1) s.tl s.md) hn).trans (if_pos rfl)
    refine WaI.lg ?_ _
    have o:OthM s.th ((s.toWord (s.hd+1) s.tl s.md).setTh n (pcT (F3 (l8 (gth s.th n) s.hd 4) (gth s.th n).ki 1 (Q7 s s.hd)) 4)).th n:=o
    have hst' : (pcT (F3 (l8 (gth s.th n) s.hd 4) (gth s.th n).ki 1 (Q7 s s.hd)) 4).st=1:=et.1.trans hst
    have own:NF ((s.toWord (s.hd+1) s.tl s.md).setTh n (pcT (F3 (l8 (gth s.th n) s.hd 4) (gth s.th n).ki 1 (Q7 s s.hd)) 4)):=.inr ⟨n,by rw [o.len];exact hn,by rw [hu];exact ⟨hst',.inl ⟨by show j6 (F3 (l8 (gth s.th n) s.hd 4) (gth s.th n).ki 1 (Q7 s s.hd)).ki=2;rw [et.2.1];exact hk,.inl rfl⟩⟩⟩
    refine .mk' o (fun _=>own) (fun _=>own) (fun k=>?_) (CK h o rfl hh)
    rw [hu] at k;exact absurd k (U5 (by omega) (by simp [pcT]) _).2
 ·rw [qw p] at o ⊢
  exact eH h o w (u:=G5 (gth s.th n) (rdV s.sl (gth s.th n).re) 6) (K7 (s:=s.toSl (rlL s.sl (gth s.th n).re)) hn _) rfl rfl rfl (ig _ _) rfl rfl (by show (gth s.th n).st≠2;omega) (by simp [G5]) (fun _=>⟨hst,.inl ⟨hk,.inr rfl⟩⟩) nE
 ·rw [qK p]
  exact dX h w hn hk (by omega) hst (by simp [o9])
 ·have hh:=x.h1 (by omega) (by omega) (by omega)
  rw [rz p] at o hI ⊢
  obtain ⟨-,-,d,-,e,-⟩:=l6 h.b
  obtain ⟨n1,n2,n3⟩:=uz e
  have h2:stB (s.toFull (nxE s.fe) (s.fl.drop 1))=true:=eu h.b (fF e (O6 (R8 e) 1)) (bN d (O6 (R8 e) 1) (fun x hx=>List.mem_of_mem_drop hx))
  have h3:stB ((s.toFull (nxE s.fe) (s.fl.drop 1)).onTh n (pcT · 9))=true:=r9 h2 (D9 (l9 h.b hn) (by omega) (by decide))
  obtain ⟨w1,w2,w3,w4,w5⟩:=Aa h3 s.fl
  have eN:notifyR s n=if hdB (s.fl.take 1)=true then G9 ((s.toFull (nxE s.fe) (s.fl.drop 1)).onTh n (pcT · 9)) (hdI (s.fl.take 1)) else (s.toFull (nxE s.fe) (s.fl.drop 1)).onTh n (pcT · 9):=by unfold notifyR;rw [n1,n2,n3]
  have hu:=w5 n (by rw [show ((s.toFull (nxE s.fe) (s.fl.drop 1)).onTh n (pcT · 9)).th.length=s.th.length from Q5 _ _ _];exact hn)
  rw [show gth ((s.toFull (nxE s.fe) (s.fl.drop 1)).onTh n (pcT · 9)).th n=pcT (gth s.th n) 9 from K7 (s:=s.toFull (nxE s.fe) (s.fl.drop 1)) hn _,if_neg (fun k=>x.fl (List.mem_of_mem_take k)),← eN] at hu
  rw [← eN] at w2
  obtain ⟨a1,a2,a3,a4,a5,a6,a7,a8,a9,a10⟩:=bq w2
  generalize notifyR s n=r at *
  refine .mk' o (fun k=>?_) ?_ (fun k=>?_) (CK h o a9 hh)
  ·rw [hu] at k;exact absurd k (U5 (by show (gth s.th n).st≠2;omega) (by simp [pcT]) _).1
  ·rintro ⟨j,hj,hne,k⟩
   exfalso
   have a7:r.fe=nxE s.fe:=a7
   have a8:r.fl=s.fl.drop 1:=a8
   have hnx:nxE s.fe=s.fe+1:=by unfold nxE;rw [if_pos (by omega)]
   have hj' : j<r.th.length:=by rw [o.len];exact hj
   obtain ⟨kk,k'⟩:=k
   rcases k' with k' | ⟨q1,q2,q3⟩
   ·have y:=((hI.t j hj').ss (by omega) kk).fl.2 k'
    rw [a8] at y
    obtain ⟨y1,y2⟩:=(sV (PI h.b)).1 y
    cases hc:s.fl with
    | nil=>rw [hc] at y1;cases y1
    | cons z l =>
     have z1:z∈s.fl:=by rw [hc];exact List.mem_cons_self
     obtain ⟨i,rfl,hi⟩:=Ij h.b d z1
     have hx:∀ m:Nat,m<s.th.length→(m:Int)∈s.fl→s.sn.head? = some (m:Int):=fun m hm hm' => by
      have ym:=h.t m hm
      by_cases h0:(gth s.th m).st=0
      ·exact absurd hm' (ym.oo h0).fl
      ·rcases U3 (l9 h.b hm) h0 with q | q | q
       ·exact zz h hm (e:=0) ⟨q,.inl ((ym.ss h0 q).fl.1 hm')⟩
       ·exact absurd hm' (ym.rr h0 q).fl
       ·exact absurd hm' (ym.cc h0 q).o.fl
     have:=iq (hx i hi z1) (hx j hj y1)
     rw [hc,List.head?_cons,this] at y2
     exact y2 rfl
   ·have y:=nZ h o hj hne ⟨kk,.inr ⟨q1,q2,q3⟩⟩
    obtain ⟨y1,y2⟩:=y
    rcases mG o hj hne with z | ⟨z,z'⟩
    ·rw [z] at q1 q2 q3 kk
     have:=((h.t j hj).ss (by omega) kk).se (.inr q2)
     omega
    ·have:=(((h.t j hj).ss (by omega) y1).pk z).1
     rw [z',fV z] at q2
     have q2:(gth s.th j).pc=8:=q2
     omega
  ·rw [hu] at k;exact absurd k (U5 (by show (gth s.th n).st≠2;omega) (by simp [pcT]) _).2
 ·rw [qx p]
  split
  ·next e =>
   refine .mk' (OthM.set _) (fun k=>?_) (qL h (OthM.set _) w rfl (fun k=>k) (fun k=>absurd k (V4 (.inr ⟨hk,by omega⟩)).1)) (fun _=>.inl e.1) (nK h (OthM.set _) w rfl (fun k=>k) (fun k=>absurd k (V4 (.inr ⟨hk,by omega⟩)).2))
   have k:lS (gth (s.onTh n (pcT · 8)).th n) s.fe:=k
   rw [K7 hn] at k
   have:=k.1
   have hk' : j6 (gth s.th n).ki=1:=this
   omega
  ·exact dX h w hn hk (by omega) hst (by simp [pcT])
 ·have hh:=x.h1 (by omega) (by omega) (by omega)
  rw [qR p] at o ⊢
  unfold commitR at o ⊢
  split
  ·exact dX h w hn hk (by omega) hst (by simp [pcT])
  ·next hl =>
   split
   ·next hc =>
    rw [if_neg hl,if_pos hc] at o
    have hc' : s.ee=(gth s.th n).se:=by simp only [cmB,Bool.and_eq_true,beq_iff_eq] at hc;exact hc.2
    have nf:NE s:=w.e n hn ⟨hk,.inr ⟨hst,p,hc'.symm⟩⟩
    refine .mk' o (fun k=>?_) (qL h o w rfl (fun k=>k) (fun k=>absurd k (V4 (.inr ⟨hk,by omega⟩)).1)) (fun _=>Kz o (fun k=>k) (fun k=>absurd k (V4 (.inr ⟨hk,by omega⟩)).2) nf) (CK h o rfl hh)
    rw [K7 (s:=s.toEmpty s.ee (s.el++[(n:Int)])) hn] at k
    have hk' : j6 (gth s.th n).ki=1:=k.1
    omega
   ·exact dX h w hn hk (by omega) hst (by simp [pcT])
 ·rw [iH (.inl p)] at o ⊢
  exact eH h o w (u:=E9 (gth s.th n)) (K7 (s:=s.toRc (lvL s.rc n)) hn _) rfl rfl rfl rfl rfl rfl (by simp [E9]) (by simp [E9]) (fun k=>absurd k (V4 (.inr ⟨hk,by omega⟩)).1) (fun k=>absurd k (V4 (.inr ⟨hk,by omega⟩)).2)
 ·omega
 ·omega
end
section
variable {s:St} {n:Nat} (h:Inv s) (w:WaI s) (hn:n<s.th.length) (hst:(gth s.th n).st=1) (hk:j6 (gth s.th n).ki=3)
include h w hn hst hk
theorem a3o (hF:s.fe<1099511627776) (hE:s.ee<1099511627776):WaI (closeN s n):=by
 have x:=xn h hn hst hk
 have o:=bu h.b hn (by omega)
 have hI:=Bo h hn hst hk
 have hg:=l9 h.b hn
 obtain ⟨-,-,-,-,ef,ee⟩:=l6 h.b
 have p2:=x.p2
 have p0:0≤(gth s.th n).pc:=by rcases iW hg with p | p | p | p | p | p | p | p | p | p | p | p <;> omega
 have pp:(gth s.th n).pc=0∨(gth s.th n).pc=1∨(gth s.th n).pc=2:=by omega
 rcases pp with p | p | p
 ·rw [gM p] at o hI ⊢
  have hu:=wK h.b hn n
  rw [if_pos rfl] at hu
  have et:=gY (gth s.th n) (gth s.th n).ki 1 0
  have hst' : (pcT (F3 (gth s.th n) (gth s.th n).ki 1 0) 1).st=1:=et.1.trans hst
  have hk' : j6 (pcT (F3 (gth s.th n) (gth s.th n).ki 1 0) 1).ki=3:=by show j6 (F3 (gth s.th n) (gth s.th n).ki 1 0).ki=3;rw [et.2.1];exact hk
  have own:NF (bP s n):=.inr ⟨n,by rw [o.len];exact hn,by rw [hu];exact ⟨hst',.inr ⟨hk',rfl⟩⟩⟩
  have ownE:NE (bP s n):=.inr ⟨n,by rw [o.len];exact hn,by rw [hu];exact ⟨hst',.inr ⟨hk',.inl rfl⟩⟩⟩
  exact .mk' o (fun _=>own) (fun _=>own) (fun _=>ownE) (fun _=>ownE)
 ·rw [iC p] at o hI ⊢
  have hu:=mY h.b hn hst hn
  rw [if_pos rfl] at hu
  obtain ⟨a1,a2,a3,a4,a5,a6,a7,a8,a9,a10⟩:=bq (qQ s n)
  obtain ⟨n1,n2,n3⟩:=aS ef
  have a7:(bR s n).fe=ntE s.fe s.fl:=a7
  have a8:(bR s n).fl=ntL s.fl.length s.fe s.fl:=a8
  have hnx:nxE s.fe=s.fe+1:=by unfold nxE;rw [if_pos (by omega)]
  rw [n1,hnx] at a7
  rw [n2] at a8
  generalize bR s n=r at *
  obtain ⟨s1,s2⟩:=nU (s:=s) (r:=r) a1 a2 a3 (by rw [a4];rfl)
  refine .mk' o (fun k=>?_) ?_ (fun k=>?_) (nK h o w a9 (by rw [s2];exact id) (fun _=>by rw [hu];exact ⟨hst,.inr ⟨hk,.inr rfl⟩⟩))
  ·rw [hu] at k;exact absurd k (U5 (by show (gth s.th n).st≠2;omega) (by simp [pcT]) _).1
  ·rintro ⟨j,hj,hne,k⟩
   exfalso
   have hj' : j<r.th.length:=by rw [o.len];exact hj
   obtain ⟨kk,k'⟩:=k
   rcases k' with k' | ⟨q1,q2,q3⟩
   ·have y:=((hI.t j hj').ss (by omega) kk).fl.2 k'
    rw [a8] at y;cases y
   ·have y:=nZ h o hj hne ⟨kk,.inr ⟨q1,q2,q3⟩⟩
    rcases mG o hj hne with z | ⟨z,z'⟩
    ·rw [z] at q1 q2 q3 kk
     have:=((h.t j hj).ss (by omega) kk).se (.inr q2)
     omega
    ·have:=(((h.t j hj).ss (by omega) y.1).pk z).1
     rw [z',fV z] at q2
     have q2:(gth s.th j).pc=8:=q2
     omega
  ·rw [hu] at k;exact absurd k (U5 (by show (gth s.th n).st≠2;omega) (by simp [pcT]) _).2
 ·rw [jM (by omega) (by omega)] at o hI ⊢
  have hu:=jC h.b hn hst hn
  rw [if_pos rfl] at hu
  obtain ⟨a1,a2,a3,a4,a5,a6,a7,a8,a9,a10⟩:=bq (nD s n)
  obtain ⟨n1,n2,n3⟩:=aS ee
  have a9:(Y9 s n).ee=ntE s.ee s.el:=a9
  have a10:(Y9 s n).el=ntL s.el.length s.ee s.el:=a10
  have hnx:nxE s.ee=s.ee+1:=by unfold nxE;rw [if_pos (by omega)]
  rw [n1,hnx] at a9
  rw [n2] at a10
  generalize Y9 s n=r at *
  obtain ⟨s1,s2⟩:=nU (s:=s) (r:=r) a1 a2 a3 (by rw [a4];rfl)
  refine .mk' o (fun k=>?_) (qL h o w a7 (by rw [s1];exact id) (fun ⟨_,k⟩=>by omega)) (fun k=>?_) ?_
  ·rw [hu] at k;exact absurd k (U5 (by simp [E9]) (by simp [E9]) _).1
  ·rw [hu] at k;exact absurd k (U5 (by simp [E9]) (by simp [E9]) _).2
  ·rintro ⟨j,hj,hne,k⟩
   exfalso
   have hj' : j<r.th.length:=by rw [o.len];exact hj
   obtain ⟨kk,k'⟩:=k
   rcases k' with k' | ⟨q1,q2,q3⟩
   ·have y:=((hI.t j hj').rr (by omega) kk).el.2 k'
    rw [a10] at y;cases y
   ·have y:=kV h o hj hne ⟨kk,.inr ⟨q1,q2,q3⟩⟩
    rcases mG o hj hne with z | ⟨z,z'⟩
    ·rw [z] at q1 q2 q3 kk
     have:=((h.t j hj).rr (by omega) kk).se (.inr q2)
     omega
    ·have:=(((h.t j hj).rr (by omega) y.1).pk z).1
     rw [z',fV z] at q2
     have q2:(gth s.th j).pc=8:=q2
     omega
end
theorem Xl {s:St} {n:Nat} (h:Inv s) (w:WaI s) (hn:n<s.th.length) (hst:(gth s.th n).st=1) (hF:s.fe<1099511627776) (hE:s.ee<1099511627776):WaI (aQ s n):=by
 rw [vF h hn hst]
 split
 ·next k=>exact a3n h w hn hst k hE
 ·split
  ·next k=>exact a3D h w hn k hst hF
  ·next k1 k2=>exact a3o h w hn hst (by rcases U3 (l9 h.b hn) (by omega) with k | k | k <;> omega) hF hE
theorem XD {s:St} (h:Inv s) (w:WaI s) (hF:s.fe<1099511627776) (hE:s.ee<1099511627776) (i:Int):WaI (ay s i):=by
 unfold ay;split
 ·next e =>
  obtain ⟨n,rfl,-,hn,hst⟩:=jE.1 e
  exact Xl h w hn hst hF hE
 ·exact w
theorem ZW {s r:St} (h:Inv s) (w:WaI s) {i k v u:Int} (hb:mR s i k v u 0 r):WaI r:=by
 obtain ⟨-,n,t,rfl,hn,ht,rfl⟩:=kI hb
 have key:(gth s.th n).st=0∧t.st=1∧t.pc=0:=by
  rcases ht with ⟨_,h0,_⟩ | ⟨_,_,h0,_⟩ | ⟨a,b,_,_,rfl⟩ | ⟨_,_,_,_,h0,_⟩ | ⟨a,b,_,_,_,rfl⟩
  ·cases h0
  ·cases h0
  ·exact ⟨a,rfl,rfl⟩
  ·cases h0
  ·exact ⟨a,rfl,rfl⟩
 obtain ⟨a,c,e⟩:=key
 exact KH h w hn (by omega) (by omega) (fun k=>by have:=k.1;omega) (fun k=>by have:=k.1;omega)
theorem XQ {s:St} (h:Inv s) (w:WaI s) (n:Int):WaI (M0 s n):=by
 by_cases e:M8 s n=0
 ·obtain ⟨e1,e2,e3,e4,e5,e6,e7,e8,e9,e10,e11⟩:=bF e
  obtain ⟨s1,s2⟩:=nU e2 e3 e4 (by rw [e5])
  have hl:=yP s n
  have hg:∀ j,j<s.th.length→gth (M0 s n).th j=gth s.th j∨gth (M0 s n).th j=M4 (gth s.th j):=fun j _=>by
   rw [yO e];split
   ·exact .inr rfl
   ·exact .inl rfl
  have hw:∀ (K:Th→Prop),(∀ t,K t→t.st=1)→(∀ t,t.st=1→K t→K (M4 t))→(∃ j,j<s.th.length∧K (gth s.th j))→∃ j,j<(M0 s n).th.length∧K (gth (M0 s n).th j):=fun K h1 h2 ⟨j,hj,k⟩=>by
   refine ⟨j,by rw [hl];exact hj,?_⟩
   rcases hg j hj with q | q
   ·rw [q];exact k
   ·rw [q];exact h2 _ (h1 _ k) k
  have lt:∀ t:Th,t.st=1→(M4 t).st=1:=fun t h1=>by unfold M4;simp only;rw [if_neg (by omega)];exact h1
  constructor
  ·intro j hj k
   rw [hl] at hj
   rw [e10] at k
   have k0:lS (gth s.th j) s.fe:=by
    rcases hg j hj with q | q
    ·rw [q] at k;exact k
    ·rw [q] at k
     obtain ⟨a,b⟩:=k
     by_cases h2:(gth s.th j).st=2
     ·exact ⟨a,.inl h2⟩
     ·unfold M4 at b;simp only [if_neg h2] at b
      exact ⟨a,b⟩
   rcases w.f j hj k0 with q | q
   ·left;rw [s1];exact q
   ·exact .inr (hw _ (fun _ x=>x.1) (fun t h1 x=>⟨lt t h1,x.2⟩) q)
  ·intro j hj k
   rw [hl] at hj
   rw [e11] at k
   have k0:ma (gth s.th j) s.ee:=by
    rcases hg j hj with q | q
    ·rw [q] at k;exact k
    ·rw [q] at k
     obtain ⟨a,b⟩:=k
     by_cases h2:(gth s.th j).st=2
     ·exact ⟨a,.inl h2⟩
     ·unfold M4 at b;simp only [if_neg h2] at b
      exact ⟨a,b⟩
   rcases w.e j hj k0 with q | q
   ·left;rw [s2];exact q
   ·exact .inr (hw _ (fun _ x=>x.1) (fun t h1 x=>⟨lt t h1,x.2⟩) q)
 ·rw [(aM e).1];exact w
theorem VH {s r:St} {x:Ca} {E:Int} (h:Inv s) (w:WaI s) (hF:s.fe<1099511627776) (hE:s.ee<1099511627776) (hd:Gc s x E r):WaI r:=by
 by_cases h0:E=0
 ·subst h0
  rcases hd with ⟨he,h0,-⟩ | ⟨-,-,h0,rfl⟩ | ⟨-,-,h0,rfl⟩ | ⟨-,-,-,hb⟩
  ·exact absurd h0.symm he
  ·exact XD h w hF hE _
  ·exact XQ h w _
  ·exact ZW h w hb
 ·rw [pY hd h0];exact w
theorem a0a {c:Cf}:WaI (E5 c):=by
 have hg:∀ j,gth (E5 c).th j=th0:=fun j=>by
  unfold gth E5
  simp only [List.getD_eq_getElem?_getD,List.getElem?_replicate]
  split <;> rfl
 constructor
 ·intro j _ k;rw [hg] at k;obtain ⟨_,k⟩:=k;rcases k with k | ⟨k,_⟩ <;> cases k
 ·intro j _ k;rw [hg] at k;obtain ⟨_,k⟩:=k;rcases k with k | ⟨k,_⟩ <;> cases k
end
section
def Pq (t:Th) (k v u:Int):Th×Int :=
 if t.st≠0 then (t,120) else if opB k=false then (t,190) else if K3 k=false then (⟨1,k,v,0,0,0,0,0,false,0,0⟩,0) else if 0≤u∧u≤1099511627776 then (⟨1,k,v,u,0,0,0,0,false,0,0⟩,0) else (t,50)
theorem Xp (t:Th) (k v u:Int):zU t k v u (Pq t k v u).2 (Pq t k v u).1:=by
 unfold Pq
 by_cases h:t.st=0
 ·rw [if_neg (by omega)]
  cases h1:opB k
  ·exact .inr (.inl ⟨h,h1,rfl,rfl⟩)
  ·cases h2:K3 k
   ·exact .inr (.inr (.inl ⟨h,h1,h2,rfl,rfl⟩))
   ·by_cases h3:0≤u∧u≤1099511627776
    ·rw [if_neg (by simp),if_neg (by simp),if_pos h3];exact .inr (.inr (.inr (.inr ⟨h,h1,h2,h3,rfl,rfl⟩)))
    ·rw [if_neg (by simp),if_neg (by simp),if_neg h3];exact .inr (.inr (.inr (.inl ⟨h,h1,h2,h3,rfl,rfl⟩)))
 ·rw [if_pos h];exact .inl ⟨h,rfl,rfl⟩
def BB (s:St) (i k v u:Int):St×Int :=
 if stB s=false then (s,20) else if iO s.cf.th s.cf.si i k≠0 then (s,iO s.cf.th s.cf.si i k) else (s.setTh i.toNat (Pq (gth s.th i.toNat) k v u).1,(Pq (gth s.th i.toNat) k v u).2)
theorem VM (s:St) (i k v u:Int):mR s i k v u (BB s i k v u).2 (BB s i k v u).1:=by
 unfold BB
 cases h:stB s
 ·exact .inl ⟨h,rfl,rfl⟩
 ·rw [if_neg (by simp)]
  by_cases h1:iO s.cf.th s.cf.si i k=0
  ·rw [if_neg (by omega)]
   have hth:=(Y3 h).1
   have hi:¬ (i<0∨s.cf.th≤i):=fun h' => by unfold iO at h1;rw [if_pos h'] at h1;cases h1
   exact .inr (.inr ⟨h,h1,i.toNat,_,by omega,by omega,Xp _ k v u,rfl⟩)
  ·rw [if_pos h1];exact .inr (.inl ⟨h,h1,rfl,rfl⟩)
def doF (s:St) (x:Ca):St×Int :=
 if caE x≠0 then (s,caE x) else if x.ki=10 then (ay s x.th,dC s x.th) else if x.ki=11 then (M0 s x.va,M8 s x.va) else BB s x.th x.ki x.va (s.nw+x.un)
theorem bB (s:St) (x:Ca):Gc s x (doF s x).2 (doF s x).1:=by
 unfold doF
 by_cases h:caE x=0
 ·rw [if_neg (by omega)]
  by_cases h1:x.ki=10
  ·rw [if_pos h1];exact .inr (.inl ⟨h,h1,rfl,rfl⟩)
  ·rw [if_neg h1]
   by_cases h2:x.ki=11
   ·rw [if_pos h2];exact .inr (.inr (.inl ⟨h,h2,rfl,rfl⟩))
   ·rw [if_neg h2];exact .inr (.inr (.inr ⟨h,h1,h2,VM _ _ _ _ _⟩))
 ·rw [if_pos h];exact .inl ⟨h,rfl,rfl⟩
def D5 (s:St) (l:List Int):St×Int:=if deE l=0 then doF s (deC l) else (s,deE l)
structure No where
 er:Int
 to:Int
 le:Int
 mo:Int
 ru:Int
def A7:St→List (List Int)→St
 | s,[]=>s
 | s,l::r=>A7 (D5 s l).1 r
def dO (c:Cf) (raw:List (List Int)):St:=if cfB c=true then A7 (E5 c) raw else st0
def wZ (c:Cf):Int:=if cfB c=true then 0 else 20
theorem Ho {s:St} {l:List Int} (h:(D5 s l).2≠0):(D5 s l).1=s:=by
 unfold D5 at h ⊢
 split
 ·next e=>rw [if_pos e] at h;exact pY (bB _ _) h
 ·rfl
theorem xZ:∀ (a b:List (List Int)) (s:St),A7 s (a++b)=A7 (A7 s a) b
 | [],_,_=>rfl
 | _::a,b,_=>xZ a b _
structure Far (N:Nat) (s:St):Prop where
 tl:s.tl≤N
 fe:s.fe≤N
 ee:s.ee≤N
 lg:s.lg.length≤N
structure Up (s r:St):Prop where
 tl:r.tl≤s.tl+1
 fe:r.fe≤s.fe+1
 ee:r.ee≤s.ee+1
 lg:r.lg.length≤s.lg.length+1
theorem Up.refl (s:St):Up s s:=⟨by omega,by omega,by omega,by omega⟩
theorem a0m (e:Int):nxE e≤e+1:=by unfold nxE;split <;> omega
theorem sZ (e:Int) (l:List Int):ntE e l≤e+1:=by
 unfold ntE;split
 ·exact a0m e
 ·omega
theorem CL {a b:List En} (h:fA a b):b.length≤a.length+1:=by
 rcases h with rfl | ⟨x,rfl⟩ <;> simp
theorem pU {s u r:St} (h:fA s.lg r.lg) (e:shr r=shr u) (h1:u.tl≤s.tl+1) (h2:u.fe≤s.fe+1) (h3:u.ee≤s.ee+1):Up s r:=by
 obtain ⟨a1,a2,a3,a4,a5,a6,a7,a8,a9,a10⟩:=bq e
 exact ⟨by omega,by omega,by omega,CL h⟩
theorem Wn (s:St) (n:Nat):Up s (sendN s n):=by
 have hl:=(yV (s:=s) (n:=n)).1
 revert hl
 have tl:∀ (u:St) (k r g p:Int),u.tl≤s.tl+1→u.fe≤s.fe+1→u.ee≤s.ee+1→fA s.lg (D7 u n k r g p).lg→Up s (D7 u n k r g p):=fun u k r g p h1 h2 h3 h=>pU h (iA _ _ _ _ _ _) h1 h2 h3
 have no:∀ (u:St),u.tl≤s.tl+1→u.fe≤s.fe+1→u.ee≤s.ee+1→fA s.lg u.lg→Up s u:=fun u h1 h2 h3 h=>⟨h1,h2,h3,CL h⟩
 have h1:s.tl≤s.tl+1:=by omega
 have h2:s.fe≤s.fe+1:=by omega
 have h3:s.ee≤s.ee+1:=by omega
 refine uK (P:=fun u=>fA s.lg u.lg→Up s u) ?_ ?_ ?_ ?_ ?_ ?_ ?_ ?_ ?_ ?_ ?_ ?_
 all_goals (try unfold Y4);(try unfold cZ);(try unfold bD);(try unfold Q6);(try unfold L9);(try unfold Q8);(try unfold Y6)
 all_goals (repeat' split) <;> intro hl <;> first | exact tl _ _ _ _ _ h1 h2 h3 hl | exact no _ h1 h2 h3 hl | exact tl _ _ _ _ _ (Int.le_refl _) h2 h3 hl | exact pU hl (sD _ _) h1 h2 (sZ _ _) | exact no _ h1 h2 (sZ _ _) hl
theorem Yd (s:St) (n:Nat):Up s (recvN s n):=by
 have hl:=(pK (s:=s) (n:=n)).1
 revert hl
 have tl:∀ (u:St) (k r g p:Int),u.tl≤s.tl+1→u.fe≤s.fe+1→u.ee≤s.ee+1→fA s.lg (D7 u n k r g p).lg→Up s (D7 u n k r g p):=fun u k r g p h1 h2 h3 h=>pU h (iA _ _ _ _ _ _) h1 h2 h3
 have no:∀ (u:St),u.tl≤s.tl+1→u.fe≤s.fe+1→u.ee≤s.ee+1→fA s.lg u.lg→Up s u:=fun u h1 h2 h3 h=>⟨h1,h2,h3,CL h⟩
 have h1:s.tl≤s.tl+1:=by omega
 have h2:s.fe≤s.fe+1:=by omega
 have h3:s.ee≤s.ee+1:=by omega
 refine jD (P:=fun u=>fA s.lg u.lg→Up s u) ?_ ?_ ?_ ?_ ?_ ?_ ?_ ?_ ?_ ?_
 all_goals (try unfold firstR);(try unfold lookR);(try unfold takeR);(try unfold readR);(try unfold notifyR);(try unfold commitR)
 all_goals (repeat' split) <;> intro hl <;> first | exact tl _ _ _ _ _ h1 h2 h3 hl | exact no _ h1 h2 h3 hl | exact pU hl (sD _ _) h1 (sZ _ _) h3 | exact no _ h1 (sZ _ _) h3 hl
theorem TZ (s:St) (n:Nat):Up s (closeN s n):=by
 have hl:=(fB (s:=s) (n:=n)).1
 revert hl
 have h1:s.tl≤s.tl+1:=by omega
 have h2:s.fe≤s.fe+1:=by omega
 have h3:s.ee≤s.ee+1:=by omega
 exact bz (P:=fun u=>fA s.lg u.lg→Up s u) (fun hl=>pU hl (EX s n) h1 h2 h3) (fun hl=>pU hl (qQ s n) h1 (sZ _ _) h3) (fun hl=>pU hl (nD s n) h1 h2 (sZ _ _))
theorem Qb (s:St) (i:Int):Up s (stepD s i):=by
 unfold stepD aB ai P8
 repeat' split
 all_goals first | exact Wn _ _ | exact Yd _ _ | exact TZ _ _ | exact .refl _
theorem Vx (s:St) (i:Int):Up s (ay s i):=by
 unfold ay;split
 ·rw [mh];exact Qb s i
 ·exact .refl _
theorem a1l {s r:St} {i k v u E:Int} (h:mR s i k v u E r):Up s r:=by
 rcases h with ⟨-,-,rfl⟩ | ⟨-,-,-,rfl⟩ | ⟨-,-,n,t,-,-,-,rfl⟩
 ·exact .refl _
 ·exact .refl _
 ·exact ⟨by show s.tl≤s.tl+1;omega,by show s.fe≤s.fe+1;omega,by show s.ee≤s.ee+1;omega,by show s.lg.length≤_;omega⟩
theorem WY (s:St) (n:Int):Up s (M0 s n):=by
 by_cases e:M8 s n=0
 ·obtain ⟨e1,e2,e3,e4,e5,e6,e7,e8,e9,e10,e11⟩:=bF e
  exact ⟨by omega,by omega,by omega,by rw [e9];omega⟩
 ·rw [(aM e).1];exact .refl _
theorem XN {s r:St} {x:Ca} {E:Int} (h:Gc s x E r):Up s r:=by
 rcases h with ⟨-,-,rfl⟩ | ⟨-,-,-,rfl⟩ | ⟨-,-,-,rfl⟩ | ⟨-,-,-,h⟩
 ·exact .refl _
 ·exact Vx _ _
 ·exact WY _ _
 ·exact a1l h
theorem Zy (s:St) (l:List Int):Up s (D5 s l).1:=by
 unfold D5;split
 ·exact XN (bB _ _)
 ·exact .refl _
theorem Far.up {N:Nat} {s r:St} (h:Far N s) (u:Up s r):Far (N+1) r:=⟨by have:=h.tl;have:=u.tl;omega,by have:=h.fe;have:=u.fe;omega,by have:=h.ee;have:=u.ee;omega,by have:=h.lg;have:=u.lg;omega⟩
structure Scr (N:Nat) (s:St):Prop where
 i:Inv s
 w:WaI s
 f:Far N s
theorem fT {N:Nat} {s:St} (hN:N<1099511627776) (h:Scr N s) (l:List Int):Scr (N+1) (D5 s l).1:=by
 have hf:=h.f
 have h1:=hf.fe
 have h2:=hf.ee
 refine ⟨?_,?_,hf.up (Zy s l)⟩
 ·unfold D5;split
  ·exact yx h.i (bB _ _)
  ·exact h.i
 ·unfold D5;split
  ·exact VH h.i h.w (by omega) (by omega) (bB _ _)
  ·exact h.w
theorem dU {c:Cf} (hc:cfB c=true):Scr 0 (E5 c):=⟨Dq hc,a0a,⟨Int.le_refl _,Int.le_refl _,Int.le_refl _,Nat.le_refl _⟩⟩
theorem xC:∀ (raw:List (List Int)) {N:Nat} {s:St},N+raw.length<1099511627776→Scr N s→Scr (N+raw.length) (A7 s raw)
 | [],_,_,_,h=>h
 | l::raw,N,s,hN,h=>by
  have hN' : N+(raw.length+1)<1099511627776:=hN
  have:=xC raw (by omega) (fT (by omega) h l)
  show Scr (N+(raw.length+1)) _
  rwa [show N+(raw.length+1)=N+1+raw.length by omega]
theorem Far.mono {N M:Nat} {s:St} (h:Far N s) (hM:N≤M):Far M s:=⟨by have:=h.tl;omega,by have:=h.fe;omega,by have:=h.ee;omega,by have:=h.lg;omega⟩
theorem Scr.mono {N M:Nat} {s:St} (h:Scr N s) (hM:N≤M):Scr M s:=⟨h.i,h.w,h.f.mono hM⟩
end
section
theorem UW {s r:St} {i k v u:Int} {N:Nat} (h:mR s i k v u 0 r) (ho:s.ok) (hv:In64 v) (hl:s.lg.length≤N):Wk r N:=by
 obtain ⟨hB,n,t,-,hn,ht,rfl⟩:=kI h
 have w:Wk s N:=⟨hB,.of ho,hl⟩
 refine ⟨kR hB (Fa ht (l9 hB hn)),⟨w.v.cf,w.v.sl,fun y hy=>?_⟩,hl⟩
 rcases List.mem_or_eq_of_mem_set hy with h | rfl
 ·exact w.v.th y h
 ·rcases ht with ⟨-,h0,-⟩ | ⟨-,-,h0,-⟩ | ⟨-,-,-,-,rfl⟩ | ⟨-,-,-,-,h0,-⟩ | ⟨-,-,-,-,-,rfl⟩
  ·cases h0
  ·cases h0
  ·exact ⟨hv,by show In64 0;decide⟩
  ·cases h0
  ·exact ⟨hv,by show In64 0;decide⟩
theorem Rq {s r:St} {x:Ca} {E:Int} {N:Nat} (h:Gc s x E r) (hx:x.ok) (ho:s.ok) (hw:s.few) (hl:s.lg.length≤N) (hN:N≤900):r.few∧r.lg.length≤N+1∧r.ok:=by
 by_cases hE:E=0
 ·subst hE
  have key:Wk r (N+1):=by
   rcases h with ⟨he,h0,-⟩ | ⟨-,-,h0,rfl⟩ | ⟨-,-,h0,rfl⟩ | ⟨-,-,-,h⟩
   ·exact absurd h0.symm he
   ·obtain ⟨n,-,hB,-⟩:=jE.1 h0.symm
    exact Vo ⟨hB,.of ho,hl⟩ _
   ·have w:=WT (N:=N) ⟨(jN h0.symm).1,.of ho,hl⟩ x.va
    exact ⟨w.b,w.v,by have:=w.l;omega⟩
   ·have w:=UW (N:=N) h ho hx.2.2.1 hl
    exact ⟨w.b,w.v,by have:=w.l;omega⟩
  exact ⟨key.few (by omega),key.l,key.ok (by omega)⟩
 ·rw [pY h hE];exact ⟨hw,by omega,ho⟩
structure Kp (N:Nat) (s:St):Prop where
 ok:s.ok
 few:s.few
 lg:s.lg.length≤N
theorem Li {s:St} {l:List Int} {N:Nat} (h:Kp N s) (hl:∀ n∈l,In64 n) (hN:N≤900):Kp (N+1) (D5 s l).1:=by
 unfold D5
 split
 ·next e =>
  obtain ⟨h1,h2,-,-⟩:=uN e
  have hx:(deC l).ok:=by
   rw [h2]
   match l,h1 with
   | [a,b,c,d],_=>exact ⟨hl a (by simp),hl b (by simp),hl c (by simp),hl d (by simp)⟩
  obtain ⟨w1,w2,w3⟩:=Rq (bB s (deC l)) hx h.ok h.few h.lg hN
  exact ⟨w3,w1,w2⟩
 ·exact ⟨h.ok,h.few,by have:=h.lg;show s.lg.length≤_;omega⟩
end
section
open Go.ChangeShapes Go.WideShapes Go.ChangeAt Go.RowKit
def eG (l:List (List Int)):Value:=F4 l.length (l.map l5)
theorem ixR {l:List (List Int)} {i:Nat} (h:i<l.length):IxP ((l.map l5).toArray) (i:Int) (l5 l[i]):=⟨by omega,by simp [h]⟩
end
section
open Go.ChangeShapes Go.WideShapes Go.ChangeAt Go.RowKit
def zrC:Value:=.agg #[.int .i64 0,.int .i64 0,.int .i64 0,.int .i64 0,.int .i64 0,.int .i64 0,vD false,.int .i64 0,.int .i64 0,.int .i64 0,.slice none 0 0,.slice none 0 0,.slice none 0 0,.int .i64 0,.slice none 0 0,.int .i64 0,.slice none 0 0,.int .i64 0,.slice none 0 0,.slice none 0 0]
end
section
open Go.ChangeShapes Go.WideShapes Go.ChangeAt Go.RowKit
def bZr:Option Blk:=some ⟨true,false,20,1,[zrC]⟩
theorem Cq {c:Cf} (hc:c.ok) (h:cfB c=true):Kp 0 (E5 c):=by
 have w:Wk (E5 c) 0:=by
  refine ⟨(Dq h).b,⟨hc,fun x hx=>?_,fun t ht=>?_⟩,Nat.le_refl _⟩
  ·have hx' : x∈iE (cfR c):=hx
   unfold iE at hx'
   split at hx'
   ·obtain ⟨i,-,rfl⟩:=List.mem_map.1 hx'
    show In64 0;decide
   ·cases hx'
  ·have ht' : t∈List.replicate c.th.toNat th0:=ht
   rw [(List.mem_replicate.1 ht').2]
   exact ⟨by show In64 0;decide,by show In64 0;decide⟩
 exact ⟨w.ok (by omega),w.few (by omega),w.l⟩
end
section
open Go.ChangeShapes Go.WideShapes Go.ChangeAt Go.RowKit
end
section
theorem zg {k:Int} (h:F5 k=true):I5 k=false:=by
 simp [F5] at h;simp [I5];omega
def inL (es:List En):List Int:=es.filterMap fun e=>if F5 e.ki&&decide (e.re=1) then some e.va else none
def LH (es:List En):List Int:=es.filterMap fun e=>if (I5 e.ki||decide (e.ki=9))&&decide (e.re=1) then some e.go else none
theorem gp (e:En):inL [e]=if F5 e.ki&&decide (e.re=1) then [e.va] else []:=by
 simp only [inL,List.filterMap_cons,List.filterMap_nil];cases (F5 e.ki&&decide (e.re=1)) <;> rfl
theorem eD (e:En):LH [e]=if (I5 e.ki||decide (e.ki=9))&&decide (e.re=1) then [e.go] else []:=by
 simp only [LH,List.filterMap_cons,List.filterMap_nil];cases ((I5 e.ki||decide (e.ki=9))&&decide (e.re=1)) <;> rfl
theorem Pg (es:List En) (e:En):inL (es++[e])=inL es++(if F5 e.ki&&decide (e.re=1) then [e.va] else []):=by
 rw [← gp];unfold inL;rw [List.filterMap_append]
theorem AX {a:Qu} {n:Int} (h:(a.gone n).2=true):∃ r,a.vals=n::r∧(a.gone n).1=a.with r:=by
 obtain ⟨l,c,p,m⟩:=a
 cases l with
 | nil=>simp [Qu.gone] at h
 | cons v r =>
  simp only [Qu.gone] at h ⊢
  split
  ·rename_i hv;subst hv;exact ⟨r,rfl,rfl⟩
  ·rename_i hv;simp [hv] at h
theorem Jb {a:Qu} {e:En} (h:(a.tell e).2=true):LH [e]++(a.tell e).1.vals=a.vals++inL [e]∧(a.tell e).1.cap=a.cap∧(a.tell e).1.pol=a.pol∧(a.mode≤2→a.mode≤(a.tell e).1.mode∧(a.tell e).1.mode≤2):=by
 cases hs:F5 e.ki
 ·cases hr:I5 e.ki
  ·have e1:a.tell e=if e.re≠1 then (a,false) else if e.ki=7 then (⟨a.vals,a.cap,a.pol,gW a.mode⟩,true) else if e.ki=8 then (⟨a.vals,a.cap,a.pol,2⟩,true) else if e.ki=9 then (if a.mode≠0∨a.pol≠2∨(a.vals.length:Int)<a.cap then (a,false) else a.gone e.go) else (a,false):=by simp [Qu.tell,hs,hr]
   rw [e1] at h ⊢
   by_cases h1:e.re=1
   ·by_cases h7:e.ki=7
    ·have hs7:F5 7=false:=rfl
     have hr7:I5 7=false:=rfl
     simp only [h1,h7,ne_eq,not_true_eq_false,if_false,if_true,gp,eD,hs7,hr7]
     refine ⟨by simp,trivial,trivial,fun hm=>?_⟩
     unfold gW;split <;> omega
    ·by_cases h8:e.ki=8
     ·have hs8:F5 8=false:=rfl
      have hr8:I5 8=false:=rfl
      simp [gp,eD,h1,h8,hs8,hr8]
     ·by_cases h9:e.ki=9
      ·simp only [h1,h9,ne_eq,not_true_eq_false,if_false,if_true,show ¬ (9:Int)=7 by omega,show ¬ (9:Int)=8 by omega] at h ⊢
       split
       ·rename_i hc;simp [hc] at h
       ·rename_i hc
        simp only [hc,if_false] at h
        obtain ⟨r,hv,hg⟩:=AX h
        rw [hg]
        have hs9:F5 9=false:=rfl
        simp [gp,eD,h1,h9,hv,Qu.with,hs9]
      ·simp [h1,h7,h8,h9] at h
   ·simp [h1] at h
  ·have e1:a.tell e=a.recv e:=by simp [Qu.tell,hs,hr]
   rw [e1] at h ⊢
   unfold Qu.recv at h ⊢
   by_cases h1:e.re=1
   ·simp only [h1,if_true] at h ⊢
    by_cases h2:a.mode=2
    ·simp [h2] at h
    ·simp only [h2,if_false] at h ⊢
     obtain ⟨r,hv,hg⟩:=AX h
     rw [hg]
     simp [gp,eD,hs,hr,h1,hv,Qu.with]
   ·simp only [h1,if_false] at h ⊢
    have hio:inL [e]=[]∧LH [e]=[]:=by simp [gp,eD,h1]
    rw [hio.1,hio.2]
    repeat' split
    all_goals simp
 ·have e1:a.tell e=a.send e:=by simp [Qu.tell,hs]
  have hr:=zg hs
  have h9:¬ e.ki=9:=by intro h9;rw [h9] at hs;simp [F5] at hs
  rw [e1] at h ⊢
  unfold Qu.send at h ⊢
  by_cases h1:e.re=1
  ·simp only [h1,if_true] at h ⊢
   split
   ·rename_i hc;rw [if_pos hc] at h;cases h
   ·simp [gp,eD,hs,hr,h1,h9,Qu.with]
  ·simp only [h1,if_false] at h ⊢
   have hio:inL [e]=[]∧LH [e]=[]:=by simp [gp,eD,h1]
   rw [hio.1,hio.2]
   repeat' split
   all_goals simp
theorem uQ {a:Qu} {e:En} {l:List En} (h:(a.tell e).2=false):a.all (e::l)=(a,0):=by simp [Qu.all,h]
theorem fP {a:Qu} {e:En} {l:List En} (h:(a.tell e).2=true):a.all (e::l)=(((a.tell e).1.all l).1,((a.tell e).1.all l).2+1):=by simp [Qu.all,h]
theorem jI (e:En) (l:List En):inL (e::l)=inL [e]++inL l:=by
 rw [show e::l=[e]++l from rfl];unfold inL;rw [List.filterMap_append]
end
section
theorem YX {s r:St} (hB:stB s=true) (hR:stB r=true) (e1:r.hd=s.hd) (e2:r.tl=s.tl) (e3:r.md=s.md) (e5:r.cf=s.cf) (hv:∀ p,s.hd≤p→p<s.tl→atV r p=atV s p):quV r=quV s:=by
 have hw:=wd hB
 rw [ae hB,ae hR,e1,e2,e3,e5]
 congr 1
 refine List.map_congr_left fun k hk=>hv _ (by omega) ?_
 have:=List.mem_range.1 hk
 omega
section
variable {s:St} {n:Nat} (h:Inv s) (hn:n<s.th.length) (hst:(gth s.th n).st=1)
include h hn hst
theorem Xv (hk:j6 (gth s.th n).ki=1) (ht:s.tl<1099511627776):sH s (sendN s n) n:=by
 have x:=eF h hn hst hk
 have hw:=wd h.b
 have hR:=aL h.b hn (by omega)
 rcases Qa h.b hn (by omega) hk with ⟨p,hl⟩ | ⟨-,k⟩ | k
 ·refine .inl ⟨hl,?_⟩
  rcases p with p | p
  ·rw [dR p] at hR ⊢
   split
   ·next hE =>
    rw [if_pos hE] at hR
    refine YX h.b hR rfl rfl rfl rfl fun q a b=>?_
    have hr:=x.re (.inl p)
    rw [hr] at hE
    have hy:dz s.sl s.tl=true:=by
     rcases Yw s.sl s.tl (gth s.th n).va with ⟨-,a,-⟩ | ⟨a,-⟩ | ⟨a,-⟩
     ·exact a
     ·omega
     ·omega
    have hy2:=(dZ hy).2
    have h1:=h.l.s1 q a b
    unfold atV
    show (gs (wrL s.sl (gth s.th n).re (gth s.th n).va) (plc (wrL s.sl (gth s.th n).re (gth s.th n).va) q)).vl=_
    rw [hr,nR (Da _ _ _)]
    unfold wrL
    rw [if_pos hy,mD (yQ h.b (by omega)),if_neg (tF (by omega))]
   ·rfl
  ·rw [aU p] at hR ⊢
   refine YX h.b hR rfl rfl rfl rfl fun q a b=>?_
   unfold atV
   show (gs (rlL s.sl (gth s.th n).re) (plc (rlL s.sl (gth s.th n).re) q)).vl=_
   rw [nR (ig _ _),Yv]
 ·rcases k with ⟨p,k⟩ | ⟨p,k⟩ | k
  ·refine absurd ?_ k
   rw [jP h.b (by omega)]
   unfold atV
   rw [x.wr p]
  ·exact absurd (x.ev (.inl p)) k
  ·omega
 ·exact k
theorem WW (ht:s.tl<1099511627776):sH s (aQ s n) n:=by
 rw [vF h hn hst]
 split
 ·next k=>exact Xv h hn hst k ht
 ·split
  ·next k=>exact RG h.b hn (by omega) k
  ·next k1 k2=>exact NA h.b hn (by omega) (by rcases U3 (l9 h.b hn) (by omega) with k | k | k <;> omega)
end
def LinI (q:Qu) (s:St):Prop:=q.all s.lg=(quV s,s.lg.length)
theorem SA {q q' : Qu} {l:List En} {x:En} (h:q.all l=(q',l.length)) (k:(q'.tell x).2=true):q.all (l++[x])=((q'.tell x).1,(l++[x]).length):=by
 induction l generalizing q with
 | nil =>
  simp only [Qu.all,Prod.mk.injEq] at h
  obtain ⟨rfl,-⟩:=h
  show q.all [x]=_
  rw [fP k];rfl
 | cons y l ih =>
  cases hy:(q.tell y).2
  ·rw [uQ hy] at h
   simp at h
  ·rw [fP hy] at h
   simp only [Prod.mk.injEq,List.length_cons,Nat.add_right_cancel_iff] at h
   have:=ih (Prod.ext h.1 h.2)
   rw [List.cons_append,fP hy,this]
   simp
theorem LinI.ok {q:Qu} {s r:St} {n:Nat} (h:LinI q s) (k:sH s r n):LinI q r:=by
 unfold LinI at h ⊢
 rcases k with ⟨e1,e2⟩ | ⟨x,e1,-,e2⟩
 ·rw [e1,e2];exact h
 ·rw [e1,SA h (by rw [e2]),e2]
theorem FD {q:Qu} {s r:St} (h:LinI q s) (e1:r.lg=s.lg) (e2:quV r=quV s):LinI q r:=by unfold LinI at h ⊢;rw [e1,e2];exact h
theorem PK {q:Qu} {s:St} (h:Inv s) (l:LinI q s) (ht:s.tl<1099511627776) (i:Int):LinI q (ay s i):=by
 unfold ay;split
 ·next e =>
  obtain ⟨n,rfl,-,hn,hst⟩:=jE.1 e
  exact l.ok (WW h hn hst ht)
 ·exact l
theorem RO {q:Qu} {s r:St} {x:Ca} {E:Int} (h:Inv s) (l:LinI q s) (ht:s.tl<1099511627776) (hd:Gc s x E r):LinI q r:=by
 by_cases hE:E=0
 ·subst hE
  rcases hd with ⟨he,h0,-⟩ | ⟨-,-,h0,rfl⟩ | ⟨-,-,h0,rfl⟩ | ⟨-,-,-,hb⟩
  ·exact absurd h0.symm he
  ·exact PK h l ht _
  ·obtain ⟨e1,e2,e3,e4,e5,e6,e7,e8,e9,e10,e11⟩:=bF h0.symm
   exact FD l e9 (kK (Ed _ _) e2 e3 e4 e5 e1)
  ·have hI:=JI h hb
   obtain ⟨-,n,t,-,hn,ht,rfl⟩:=kI hb
   exact FD l rfl (kK (hI.b.trans h.b.symm) rfl rfl rfl rfl rfl)
 ·rw [pY hd hE];exact l
theorem EY:∀ (raw:List (List Int)) {q:Qu} {N:Nat} {s:St},N+raw.length<1099511627776→Scr N s→LinI q s→LinI q (A7 s raw)
 | [],_,_,_,_,_,h=>h
 | l::raw,q,N,s,hN,h,k=>by
  have hN' : N+(raw.length+1)<1099511627776:=hN
  have h1:=h.f.tl
  refine EY raw (N:=N+1) (by omega) (fT (by omega) h l) ?_
  unfold D5;split
  ·exact RO h.i k (by omega) (bB _ _)
  ·exact k
theorem VR (c:Cf):LinI (quV (E5 c)) (E5 c):=rfl
theorem UO {c:Cf} (hc:cfB c=true) {raw:List (List Int)} (h:raw.length<1099511627776):LinI (quV (E5 c)) (A7 (E5 c) raw):=EY raw (N:=0) (by omega) (dU hc) (VR c)
end
section
def O5 (t:Th):Bool:=(j6 t.ki==1&&(t.pc==6||t.pc==9))||(j6 t.ki==2&&(t.pc==4||t.pc==6||t.pc==9))||(j6 t.ki==3&&t.pc != 0)
structure SmT (t u:Th):Prop where
 ki:u.ki=t.ki
 va:u.va=t.va
def StT (n:Nat) (a b:List En) (t u:Th):Prop :=
 SmT t u∧t.st≠0 ∧
 (b=a∧u.st≠0∧O5 u=O5 t∧u.rs=t.rs∧u.go=t.go ∨
  b=a∧u.st=0∧O5 t=true∧u.rs=t.rs∧u.go=t.go ∨
  (∃ g,b=a++[⟨n,9,t.va,1,g⟩])∧u.st≠0∧O5 t=false∧O5 u=false∧u.rs=t.rs∧u.go=t.go ∨
  b=a++[⟨n,t.ki,t.va,u.rs,u.go⟩]∧u.st≠0∧O5 t=false∧O5 u=true∧1≤u.rs)
theorem ic {t:Th} (h:j6 t.ki=1):O5 t=(t.pc==6||t.pc==9):=by simp [O5,h]
theorem jg {t:Th} (h:j6 t.ki=2):O5 t=(t.pc==4||t.pc==6||t.pc==9):=by simp [O5,h]
theorem wX {t:Th} (h:j6 t.ki=3):O5 t=(t.pc != 0):=by simp [O5,h]
theorem Aq {s:St} (h:stB s=true) {n:Nat} (hn:n<s.th.length) (k r g p:Int):gth (D7 s n k r g p).th n=pcT (F3 (gth s.th n) k r g) p:=by
 rw [cK h hn];exact (fG (s:=s) hn).trans (if_pos rfl)
theorem Gi {s:St} (h:stB s=true) {n:Nat} (hn:n<s.th.length) (k r g p:Int):(D7 s n k r g p).lg=s.lg++[⟨n,k,(gth s.th n).va,r,g⟩]:=by
 rw [cK h hn];rfl
theorem Ff {t:Th} {k r g:Int} (h:k≠9):F3 t k r g=⟨t.st,t.ki,t.va,t.un,t.pc,t.re,t.se,t.tr,t.la,r,g⟩:=by unfold F3;rw [if_neg h]
theorem a2C {k:Int} (h:j6 k=1∨j6 k=2∨j6 k=3):k≠9:=by have:=X0 k;omega
section
variable {s:St} {n:Nat} (hn:n<s.th.length) (hst:(gth s.th n).st=1)
include hn hst
theorem wC {a:St} (ha:stB a=true) (e1:a.th=s.th) (e2:a.lg=s.lg) {r p:Int} (hk:j6 (gth s.th n).ki=1∨j6 (gth s.th n).ki=2∨j6 (gth s.th n).ki=3) (h0:O5 (gth s.th n)=false) (hp:∀ u:Th,u.ki=(gth s.th n).ki→u.pc=p→O5 u=true) (hr:1≤r) :
  StT n s.lg (D7 a n (gth s.th n).ki r 0 p).lg (gth s.th n) (gth (D7 a n (gth s.th n).ki r 0 p).th n):=by
 have hn' : n<a.th.length:=by rw [e1];exact hn
 have hk9:=a2C hk
 rw [Aq ha hn',Gi ha hn',e1,e2,Ff hk9]
 exact ⟨⟨rfl,rfl⟩,by omega,.inr (.inr (.inr ⟨rfl,by show (gth s.th n).st≠0;omega,h0,hp _ rfl rfl,hr⟩))⟩
omit hn in
theorem tN {r:St} {u:Th} (hl:r.lg=s.lg) (hu:gth r.th n=u) (k:u.ki=(gth s.th n).ki) (v:u.va=(gth s.th n).va) (h1:u.st≠0) (ht:O5 u=O5 (gth s.th n)) (a:u.rs=(gth s.th n).rs) (b:u.go=(gth s.th n).go):StT n s.lg r.lg (gth s.th n) (gth r.th n):=by
 rw [hu,hl]
 exact ⟨⟨k,v⟩,by omega,.inl ⟨rfl,h1,ht,a,b⟩⟩
variable (h:Inv s)
include h
theorem Xi (hk:j6 (gth s.th n).ki=1):StT n s.lg (sendN s n).lg (gth s.th n) (gth (sendN s n).th n):=by
 have x:=eF h hn hst hk
 have hw:=wd h.b
 have tT:∀ {r:Int},(gth s.th n).pc≠6→(gth s.th n).pc≠9→1≤r→StT n s.lg (D7 s n (gth s.th n).ki r 0 9).lg (gth s.th n) (gth (D7 s n (gth s.th n).ki r 0 9).th n):=fun p6 p9 hr =>
  wC hn hst h.b rfl rfl (.inl hk) (by rw [ic hk];simp [p6,p9]) (fun u e p=>by rw [ic (by rw [e];exact hk),p];rfl) hr
 have tO:∀ {r:St} {u:Th},r.lg=s.lg→gth r.th n=u→u.ki=(gth s.th n).ki→u.va=(gth s.th n).va→u.st≠0→(gth s.th n).pc≠6→(gth s.th n).pc≠9→u.pc≠6→u.pc≠9→u.rs=(gth s.th n).rs→u.go=(gth s.th n).go→StT n s.lg r.lg (gth s.th n) (gth r.th n):=fun hl hu k v h1 p6 p9 q6 q9 a b =>
  tN hst hl hu k v h1 (by have hk' := hk;rw [← k] at hk';rw [ic hk',ic hk,beq_false_of_ne p6,beq_false_of_ne p9,beq_false_of_ne q6,beq_false_of_ne q9]) a b
 have on:∀ (f:Th→Th),gth (s.onTh n f).th n=f (gth s.th n):=fun f=>K7 hn f
 have h1:(gth s.th n).st≠0:=by omega
 have hs:F8 s≠1→F8 s≠2→1≤F8 s:=fun a b=>by rcases kT h.b with k | k | k | k <;> omega
 rcases iW (l9 h.b hn) with p | p | p | p | p | p | p | p | p | p | p | p
 ·rw [ja p]
  exact tO rfl (K7 (s:=s.toSn (Z0 s.sn n)) hn _) rfl rfl h1 (by omega) (by omega) (by simp [pcT]) (by simp [pcT]) rfl rfl
 ·rw [iZ p]
  unfold Y4
  repeat' split
  ·exact tO rfl (on _) rfl rfl h1 (by omega) (by omega) (by simp [pcT]) (by simp [pcT]) rfl rfl
  ·exact tT (by omega) (by omega) (by decide)
  ·exact tO rfl (on _) rfl rfl h1 (by omega) (by omega) (by show (gth s.th n).pc≠6;omega) (by show (gth s.th n).pc≠9;omega) rfl rfl
 ·rw [iG p]
  unfold cZ bD
  repeat' split
  ·exact tO rfl (on _) rfl rfl h1 (by omega) (by omega) (by simp [l8]) (by simp [l8]) rfl rfl
  ·exact tT (by omega) (by omega) (by decide)
  ·exact tO rfl (on _) rfl rfl h1 (by omega) (by omega) (by simp [l8]) (by simp [l8]) rfl rfl
  ·exact tT (by omega) (by omega) (by decide)
  ·exact tT (by omega) (by omega) (by decide)
  ·exact tO rfl (on _) rfl rfl h1 (by omega) (by omega) (by simp [pcT]) (by simp [pcT]) rfl rfl
  ·exact tO rfl (on _) rfl rfl h1 (by omega) (by omega) (by show (gth s.th n).pc≠6;omega) (by show (gth s.th n).pc≠9;omega) rfl rfl
  ·next a b=>exact tT (by omega) (by omega) (hs a b)
 ·rw [dR p]
  split
  ·exact tO rfl (K7 (s:=s.toSl (wrL s.sl (gth s.th n).re (gth s.th n).va)) hn _) rfl rfl h1 (by omega) (by omega) (by simp [pcT]) (by simp [pcT]) rfl rfl
  ·exact tO rfl rfl rfl rfl h1 (by omega) (by omega) (by omega) (by omega) rfl rfl
 ·rw [iP p]
  unfold Q6
  split
  ·next e =>
   have hs:s.md=0∧s.tl - s.hd<s.sl.length∧s.tl<1099511627776:=by rcases kT h.b with k | k | k | k <;> omega
   have hb:stB (s.toWord s.hd (s.tl+1) s.md)=true:=M6 h.b (I7.2 (by omega))
   exact wC hn hst hb rfl rfl (.inl hk) (by rw [ic hk];simp [p]) (fun u e p=>by rw [ic (by rw [e];exact hk),p];rfl) (by decide)
  ·next a =>
   split
   ·exact tO rfl (on _) rfl rfl h1 (by omega) (by omega) (by simp [pcT]) (by simp [pcT]) rfl rfl
   ·next b=>exact tT (by omega) (by omega) (hs a b)
 ·rw [iR p]
  exact tO rfl (on _) rfl rfl h1 (by omega) (by omega) (by simp [o9]) (by simp [o9]) rfl rfl
 ·rw [iV p]
  obtain ⟨-,-,-,d,-,e⟩:=l6 h.b
  obtain ⟨n1,n2,n3⟩:=uz e
  have h2:stB (s.toEmpty (nxE s.ee) (s.el.drop 1))=true:=bL h.b (fF e (O6 (R8 e) 1)) (bN d (O6 (R8 e) 1) (fun x hx=>List.mem_of_mem_drop hx))
  have h3:stB ((s.toEmpty (nxE s.ee) (s.el.drop 1)).onTh n (pcT · 9))=true:=r9 h2 (D9 (l9 h.b hn) (by omega) (by decide))
  obtain ⟨w1,w2,w3,w4,w5⟩:=Aa h3 s.el
  have eN:L9 s n=if hdB (s.el.take 1)=true then G9 ((s.toEmpty (nxE s.ee) (s.el.drop 1)).onTh n (pcT · 9)) (hdI (s.el.take 1)) else (s.toEmpty (nxE s.ee) (s.el.drop 1)).onTh n (pcT · 9):=by unfold L9;rw [n1,n2,n3]
  have hu:=w5 n (by rw [show ((s.toEmpty (nxE s.ee) (s.el.drop 1)).onTh n (pcT · 9)).th.length=s.th.length from Q5 _ _ _];exact hn)
  rw [show gth ((s.toEmpty (nxE s.ee) (s.el.drop 1)).onTh n (pcT · 9)).th n=pcT (gth s.th n) 9 from K7 (s:=s.toEmpty (nxE s.ee) (s.el.drop 1)) hn _,if_neg (fun k=>x.el (List.mem_of_mem_take k)),← eN] at hu
  refine tN hst ?_ hu rfl rfl h1 (by rw [ic (t:=pcT (gth s.th n) 9) hk,ic hk,p];rfl) rfl rfl
  rw [eN];split
  ·exact (bE _ _).1
  ·rfl
 ·rw [iI p]
  split
  ·exact tO rfl (on _) rfl rfl h1 (by omega) (by omega) (by simp [pcT]) (by simp [pcT]) rfl rfl
  ·exact tO rfl (on _) rfl rfl h1 (by omega) (by omega) (by simp [pcT]) (by simp [pcT]) rfl rfl
 ·rw [iQ p]
  unfold Q8
  repeat' split
  ·exact tO rfl (on _) rfl rfl h1 (by omega) (by omega) (by simp [pcT]) (by simp [pcT]) rfl rfl
  ·exact tO rfl (K7 (s:=s.toFull s.fe (s.fl++[(n:Int)])) hn _) rfl rfl (by simp [z8]) (by omega) (by omega) (by simp [z8]) (by simp [z8]) rfl rfl
  ·exact tO rfl (on _) rfl rfl h1 (by omega) (by omega) (by simp [pcT]) (by simp [pcT]) rfl rfl
 ·rw [fZ p]
  have e:gth ((s.toSn (lvL s.sn n)).onTh n E9).th n=E9 (gth s.th n):=K7 (s:=s.toSn (lvL s.sn n)) hn _
  rw [e]
  exact ⟨⟨rfl,rfl⟩,h1,.inr (.inl ⟨rfl,rfl,by rw [ic hk,p];rfl,rfl,rfl⟩)⟩
 ·rw [eZ p]
  unfold Y6
  split
  ·next e =>
   have e' := e
   simp only [dA,Bool.and_eq_true,beq_iff_eq] at e'
   obtain ⟨⟨⟨⟨e1,e2⟩,e3⟩,-⟩,e5⟩:=e'
   rw [lM e3,decide_eq_true_eq] at e5
   have hb:stB (s.toWord (s.hd+1) s.tl s.md)=true:=M6 h.b (I7.2 (by omega))
   have hn' : n<(s.toWord (s.hd+1) s.tl s.md).th.length:=hn
   rw [Aq hb hn',Gi hb hn']
   refine ⟨⟨rfl,rfl⟩,h1,.inr (.inr (.inl ⟨⟨_,rfl⟩,h1,by rw [ic hk,p];rfl,?_,rfl,rfl⟩))⟩
   show O5 (pcT (gth s.th n) 11)=false
   rw [ic (t:=pcT (gth s.th n) 11) hk];rfl
  ·exact tO rfl (on _) rfl rfl h1 (by omega) (by omega) (by simp [pcT]) (by simp [pcT]) rfl rfl
 ·rw [aU p]
  exact tO rfl (K7 (s:=s.toSl (rlL s.sl (gth s.th n).re)) hn _) rfl rfl h1 (by omega) (by omega) (by simp [pcT]) (by simp [pcT]) rfl rfl
theorem Xe (hk:j6 (gth s.th n).ki=2):StT n s.lg (recvN s n).lg (gth s.th n) (gth (recvN s n).th n):=by
 have x:=bv h hn hst hk
 have p9:=x.p9
 have tT:∀ {r:Int},(gth s.th n).pc≠4→(gth s.th n).pc≠6→(gth s.th n).pc≠9→1≤r→StT n s.lg (D7 s n (gth s.th n).ki r 0 9).lg (gth s.th n) (gth (D7 s n (gth s.th n).ki r 0 9).th n):=fun p4 p6 p9 hr =>
  wC hn hst h.b rfl rfl (.inr (.inl hk)) (by rw [jg hk];simp [p4,p6,p9]) (fun u e p=>by rw [jg (by rw [e];exact hk),p];rfl) hr
 have tO:∀ {r:St} {u:Th},r.lg=s.lg→gth r.th n=u→u.ki=(gth s.th n).ki→u.va=(gth s.th n).va→u.st≠0→(gth s.th n).pc≠4→(gth s.th n).pc≠6→(gth s.th n).pc≠9→u.pc≠4→u.pc≠6→u.pc≠9→u.rs=(gth s.th n).rs→u.go=(gth s.th n).go→StT n s.lg r.lg (gth s.th n) (gth r.th n):=fun hl hu k v h1 p4 p6 p9 q4 q6 q9 a b =>
  tN hst hl hu k v h1 (by have hk' := hk;rw [← k] at hk';rw [jg hk',jg hk,beq_false_of_ne p4,beq_false_of_ne p6,beq_false_of_ne p9,beq_false_of_ne q4,beq_false_of_ne q6,beq_false_of_ne q9]) a b
 have on:∀ (f:Th→Th),gth (s.onTh n f).th n=f (gth s.th n):=fun f=>K7 hn f
 have h1:(gth s.th n).st≠0:=by omega
 have hs:1≤G6 s:=by rcases cu h.b with k | k | k | k <;> omega
 rcases iW (l9 h.b hn) with p | p | p | p | p | p | p | p | p | p | p | p
 ·rw [rW p]
  exact tO rfl (K7 (s:=s.toRc (Z0 s.rc n)) hn _) rfl rfl h1 (by omega) (by omega) (by omega) (by simp [pcT]) (by simp [pcT]) (by simp [pcT]) rfl rfl
 ·rw [qY p]
  unfold firstR
  repeat' split
  ·exact tO rfl (on _) rfl rfl h1 (by omega) (by omega) (by omega) (by simp [pcT]) (by simp [pcT]) (by simp [pcT]) rfl rfl
  ·exact tT (by omega) (by omega) (by omega) (by decide)
  ·exact tO rfl (on _) rfl rfl h1 (by omega) (by omega) (by omega) (by show (gth s.th n).pc≠4;omega) (by show (gth s.th n).pc≠6;omega) (by show (gth s.th n).pc≠9;omega) rfl rfl
 ·rw [pX p]
  unfold lookR
  repeat' split
  ·exact tO rfl (on _) rfl rfl h1 (by omega) (by omega) (by omega) (by simp [pcT]) (by simp [pcT]) (by simp [pcT]) rfl rfl
  ·exact tT (by omega) (by omega) (by omega) hs
  ·exact tT (by omega) (by omega) (by omega) (by decide)
  ·exact tT (by omega) (by omega) (by omega) (by decide)
  ·exact tO rfl (on _) rfl rfl h1 (by omega) (by omega) (by omega) (by simp [pcT]) (by simp [pcT]) (by simp [pcT]) rfl rfl
  ·exact tO rfl (on _) rfl rfl h1 (by omega) (by omega) (by omega) (by show (gth s.th n).pc≠4;omega) (by show (gth s.th n).pc≠6;omega) (by show (gth s.th n).pc≠9;omega) rfl rfl
 ·rw [qD p]
  unfold takeR
  split
  ·exact tO rfl (on _) rfl rfl h1 (by omega) (by omega) (by omega) (by simp [pcT]) (by simp [pcT]) (by simp [pcT]) rfl rfl
  ·split
   ·exact tT (by omega) (by omega) (by omega) hs
   ·next n4 n1 =>
    have hs:G6 s=1:=Classical.not_not.1 n1
    have hk9:=a2C (.inr (.inl hk))
    rw [Ct h hn hst hs,Ff hk9]
    have e:gth (((s.toWord (s.hd+1) s.tl s.md).setTh n (pcT (⟨(l8 (gth s.th n) s.hd 4).st,(l8 (gth s.th n) s.hd 4).ki,(l8 (gth s.th n) s.hd 4).va,(l8 (gth s.th n) s.hd 4).un,(l8 (gth s.th n) s.hd 4).pc,(l8 (gth s.th n) s.hd 4).re,(l8 (gth s.th n) s.hd 4).se,(l8 (gth s.th n) s.hd 4).tr,(l8 (gth s.th n) s.hd 4).la,1,Q7 s s.hd⟩:Th) 4)).toLg (s.lg++[⟨n,(gth s.th n).ki,(gth s.th n).va,1,Q7 s s.hd⟩])).th n=_:=(fG (s:=s.toWord (s.hd+1) s.tl s.md) hn).trans (if_pos rfl)
    rw [e]
    refine ⟨⟨rfl,rfl⟩,h1,.inr (.inr (.inr ⟨rfl,h1,by rw [jg hk,p];rfl,?_,by simp [pcT]⟩))⟩
    unfold O5
    simp [pcT,l8,hk]
 ·rw [qw p]
  have hH:Hol (gth s.th n):=⟨by omega,.inr ⟨hk,p⟩⟩
  obtain ⟨h0,h1',h2⟩:=h.hol hn hH
  have ev:=(Lj h.b h0 h1' h2).2
  have hg:=(x.ho p).2.2
  refine tN hst rfl (K7 (s:=s.toSl (rlL s.sl (gth s.th n).re)) hn _) rfl rfl h1 (by show O5 (G5 (gth s.th n) (rdV s.sl (gth s.th n).re) 6)=_;rw [jg (t:=G5 (gth s.th n) (rdV s.sl (gth s.th n).re) 6) hk,jg hk,p];rfl) rfl ?_
  show rdV s.sl (gth s.th n).re=(gth s.th n).go
  rw [ev,hg]
 ·rw [qK p]
  exact tO rfl (on _) rfl rfl h1 (by omega) (by omega) (by omega) (by simp [o9]) (by simp [o9]) (by simp [o9]) rfl rfl
 ·rw [rz p]
  obtain ⟨-,-,d,-,e,-⟩:=l6 h.b
  obtain ⟨n1,n2,n3⟩:=uz e
  have h2:stB (s.toFull (nxE s.fe) (s.fl.drop 1))=true:=eu h.b (fF e (O6 (R8 e) 1)) (bN d (O6 (R8 e) 1) (fun x hx=>List.mem_of_mem_drop hx))
  have h3:stB ((s.toFull (nxE s.fe) (s.fl.drop 1)).onTh n (pcT · 9))=true:=r9 h2 (D9 (l9 h.b hn) (by omega) (by decide))
  obtain ⟨w1,w2,w3,w4,w5⟩:=Aa h3 s.fl
  have eN:notifyR s n=if hdB (s.fl.take 1)=true then G9 ((s.toFull (nxE s.fe) (s.fl.drop 1)).onTh n (pcT · 9)) (hdI (s.fl.take 1)) else (s.toFull (nxE s.fe) (s.fl.drop 1)).onTh n (pcT · 9):=by unfold notifyR;rw [n1,n2,n3]
  have hu:=w5 n (by rw [show ((s.toFull (nxE s.fe) (s.fl.drop 1)).onTh n (pcT · 9)).th.length=s.th.length from Q5 _ _ _];exact hn)
  rw [show gth ((s.toFull (nxE s.fe) (s.fl.drop 1)).onTh n (pcT · 9)).th n=pcT (gth s.th n) 9 from K7 (s:=s.toFull (nxE s.fe) (s.fl.drop 1)) hn _,if_neg (fun k=>x.fl (List.mem_of_mem_take k)),← eN] at hu
  refine tN hst ?_ hu rfl rfl h1 (by rw [jg (t:=pcT (gth s.th n) 9) hk,jg hk,p];rfl) rfl rfl
  rw [eN];split
  ·exact (bE _ _).1
  ·rfl
 ·rw [qx p]
  split
  ·exact tO rfl (on _) rfl rfl h1 (by omega) (by omega) (by omega) (by simp [pcT]) (by simp [pcT]) (by simp [pcT]) rfl rfl
  ·exact tO rfl (on _) rfl rfl h1 (by omega) (by omega) (by omega) (by simp [pcT]) (by simp [pcT]) (by simp [pcT]) rfl rfl
 ·rw [qR p]
  unfold commitR
  repeat' split
  ·exact tO rfl (on _) rfl rfl h1 (by omega) (by omega) (by omega) (by simp [pcT]) (by simp [pcT]) (by simp [pcT]) rfl rfl
  ·exact tO rfl (K7 (s:=s.toEmpty s.ee (s.el++[(n:Int)])) hn _) rfl rfl (by simp [z8]) (by omega) (by omega) (by omega) (by simp [z8]) (by simp [z8]) (by simp [z8]) rfl rfl
  ·exact tO rfl (on _) rfl rfl h1 (by omega) (by omega) (by omega) (by simp [pcT]) (by simp [pcT]) (by simp [pcT]) rfl rfl
 ·rw [iH (.inl p)]
  have e:gth ((s.toRc (lvL s.rc n)).onTh n E9).th n=E9 (gth s.th n):=K7 (s:=s.toRc (lvL s.rc n)) hn _
  rw [e]
  exact ⟨⟨rfl,rfl⟩,h1,.inr (.inl ⟨rfl,rfl,by rw [jg hk,p];rfl,rfl,rfl⟩)⟩
 ·omega
 ·omega
theorem Ps (hk:j6 (gth s.th n).ki=3):StT n s.lg (closeN s n).lg (gth s.th n) (gth (closeN s n).th n):=by
 have x:=xn h hn hst hk
 have h1:(gth s.th n).st≠0:=by omega
 by_cases p:(gth s.th n).pc=0
 ·rw [gM p]
  unfold bP
  exact wC hn hst (bM h.b _) rfl rfl (.inr (.inr hk)) (by rw [wX hk,p];rfl) (fun u e p=>by rw [wX (by rw [e];exact hk),p];rfl) (by decide)
 ·by_cases p1:(gth s.th n).pc=1
  ·rw [iC p1]
   have hu:=mY h.b hn hst hn
   rw [if_pos rfl] at hu
   refine tN hst ?_ hu rfl rfl h1 (by rw [wX (t:=pcT (gth s.th n) 2) hk,wX hk,p1];rfl) rfl rfl
   exact (L6 _ _).1
  ·rw [jM p p1]
   have hu:=jC h.b hn hst hn
   rw [if_pos rfl] at hu
   rw [hu]
   refine ⟨⟨rfl,rfl⟩,h1,.inr (.inl ⟨(L6 _ _).1,rfl,?_,rfl,rfl⟩)⟩
   rw [wX hk];simpa using p
theorem BV:StT n s.lg (aQ s n).lg (gth s.th n) (gth (aQ s n).th n):=by
 rw [vF h hn hst]
 split
 ·next k=>exact Xi hn hst h k
 ·split
  ·next k=>exact Xe hn hst h k
  ·next k1 k2=>exact Ps hn hst h (by rcases U3 (l9 h.b hn) (by omega) with k | k | k <;> omega)
end
end
end Go.Proofs.YtfogkllejkmpdaaGreat
