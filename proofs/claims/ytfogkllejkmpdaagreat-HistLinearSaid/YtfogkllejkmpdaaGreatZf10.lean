/- Texts merged: AcMT, AcNT, RcWT, SdPT, SdQT, RecvFT, RcLT, RecvVT, RcMT, CloseFT, CcAT, CloseAT, CcBT, CcCT. -/
import Derived.Test.YtfogkllejkmpdaaGreatZf9
import Derived.Test.YtfogkllejkmpdaaGreatZf6
import Derived.Test.YtfogkllejkmpdaaGreatZf8
namespace Go.Proofs.YtfogkllejkmpdaaGreat
set_option linter.unusedVariables false
set_option linter.unusedSimpArgs false
set_option maxRecDepth 100000
section
open Go.RowKit
section
variable {s:St} {n:Nat} {c:Int}
theorem Dn.sp (h:Dn s n c) (hl:s.lg.length≤999999):Sp s n 1 0:=⟨by decide,h.ck,h.ok,h.hn,h.st,h.sd,hl,by constructor <;> omega⟩
end
end
section
open Go.RowKit
def bS (s:St):Option Blk:=some ⟨true,false,20,1,[stT s]⟩
theorem a1n {s:St} (h:stB s=true) (hl:s.lg.length≤1000):s.few:=by
 obtain ⟨a,b,c,d,-,-⟩:=l6 h
 have h1:=Y3 h
 have h2:=X9 (H8.1 a).1
 have h3:=X9 (H8.1 b).1
 have h4:=X9 (H8.1 c).1
 have h5:=X9 (H8.1 d).1
 have h6:=(aR.1 (C8 h).2.1).1
 exact ⟨by omega,by omega,by omega,by omega,by omega,by omega,hl⟩
section
variable {s:St} {i m o:Int} {b:Bool}
end
end
section
open Go.RowKit
section
variable {h t m r:Int}
end
end
section
def shr (s:St):(Int×Int×Int)×List Slo×List Int×List Int×(Int×List Int)×(Int×List Int):=((s.hd,s.tl,s.md),s.sl,s.sn,s.rc,(s.fe,s.fl),(s.ee,s.el))
theorem a1p (s:St) (n:Nat) (f:Th→Th):shr (s.onTh n f)=shr s:=rfl
theorem TW (s:St) (i k r g:Int):shr (bH s i k r g)=shr s:=by unfold bH;split <;> rfl
theorem iA (s:St) (n:Nat) (k r g p:Int):shr (D7 s n k r g p)=shr s:=by unfold D7;rw [a1p,TW]
theorem sD (s:St) (i:Int):shr (G9 s i)=shr s:=by unfold G9;split <;> rfl
theorem uK {P:St→Prop} {s:St} {n:Nat} (h0:P ((s.toSn (Z0 s.sn n)).onTh n (pcT · 1))) (h1:P (Y4 s n)) (h2:P (cZ s n)) (h3:P (if wrE s.sl (gth s.th n).re=0 then (s.toSl (wrL s.sl (gth s.th n).re (gth s.th n).va)).onTh n (pcT · 4) else s)) (h4:P (Q6 s n)) (h5:P (s.onTh n (o9 · s.fe 7))) (h6:P (L9 s n)) (h7:P (if F8 s=2∧(gth s.th n).la=false then s.onTh n (pcT · 8) else s.onTh n (pcT · 2))) (h8:P (Q8 s n)) (h9:P ((s.toSn (lvL s.sn n)).onTh n E9)) (h10:P (Y6 s n)) (h11:P ((s.toSl (rlL s.sl (gth s.th n).re)).onTh n (pcT · 2))):P (sendN s n):=by
 unfold sendN
 by_cases c0:(gth s.th n).pc=0
 ·rw [if_pos c0];exact h0
 rw [if_neg c0]
 by_cases c1:(gth s.th n).pc=1
 ·rw [if_pos c1];exact h1
 rw [if_neg c1]
 by_cases c2:(gth s.th n).pc=2
 ·rw [if_pos c2];exact h2
 rw [if_neg c2]
 by_cases c3:(gth s.th n).pc=3
 ·rw [if_pos c3];exact h3
 rw [if_neg c3]
 by_cases c4:(gth s.th n).pc=4
 ·rw [if_pos c4];exact h4
 rw [if_neg c4]
 by_cases c5:(gth s.th n).pc=5
 ·rw [if_pos c5];exact h5
 rw [if_neg c5]
 by_cases c6:(gth s.th n).pc=6
 ·rw [if_pos c6];exact h6
 rw [if_neg c6]
 by_cases c7:(gth s.th n).pc=7
 ·rw [if_pos c7];exact h7
 rw [if_neg c7]
 by_cases c8:(gth s.th n).pc=8
 ·rw [if_pos c8];exact h8
 rw [if_neg c8]
 by_cases c9:(gth s.th n).pc=9
 ·rw [if_pos c9];exact h9
 rw [if_neg c9]
 by_cases c10:(gth s.th n).pc=10
 ·rw [if_pos c10];exact h10
 rw [if_neg c10]
 exact h11
structure Oth (l m:List Th) (i:Int):Prop where
 len:m.length=l.length
 one:∃ w:Nat,∀ j:Nat,j<l.length→(j:Int)≠i→gth m j=gth l j∨(j=w∧(gth l j).st=2∧gth m j=D8 (gth l j))
theorem Oth.refl (l:List Th) (i:Int):Oth l l i:=⟨rfl,0,fun _ _ _=>.inl rfl⟩
theorem Oth.set {l:List Th} {n:Nat} (t:Th):Oth l (l.set n t) n:=⟨by simp,0,fun j hj hne=>.inl (by
 by_cases hn:n<l.length
 ·rw [H9 hn,if_neg (by omega)]
 ·rw [List.set_eq_of_length_le (by omega)])⟩
theorem Oth.wake {l:List Th} {n w:Nat} (t:Th) (hw:w<l.length):Oth l ((l.set n t).set w (D8 (gth (l.set n t) w))) n:=⟨by simp,w,fun j hj hne=>by
 have e1:gth (l.set n t) j=gth l j:=by
  by_cases hn:n<l.length
  ·rw [H9 hn,if_neg (by omega)]
  ·rw [List.set_eq_of_length_le (by omega)]
 rw [H9 (by simpa using hw)]
 split
 ·next e =>
  subst e
  rw [e1]
  by_cases h2:(gth l w).st=2
  ·exact .inr ⟨rfl,h2,rfl⟩
  ·left;unfold D8;rw [if_neg h2]
 ·exact .inl e1⟩
theorem Ve (s:St) (n:Nat) (k r g:Int):∃ t,(bH s n k r g).th=s.th.set n t:=by
 unfold bH;split
 ·exact ⟨_,by simp [St.setTh,St.addLg];rfl⟩
 ·exact ⟨gth s.th n,qG.symm⟩
theorem vU (s:St) (n:Nat) (k r g p:Int):∃ t,(D7 s n k r g p).th=s.th.set n t:=by
 obtain ⟨t,ht⟩:=Ve s n k r g
 exact ⟨pcT (gth (bH s n k r g).th n) p,by show (bH s n k r g).th.set n _=_;rw [ht,List.set_set]⟩
theorem Bb {s:St} {n:Nat}:Oth s.th (sendN s n).th n:=by
 have tl:∀ (u:St) (k r g p:Int),u.th=s.th→Oth s.th (D7 u n k r g p).th n:=fun u k r g p hu=>by
  obtain ⟨t,ht⟩:=vU u n k r g p
  rw [ht,hu];exact Oth.set t
 have on:∀ (u:St) (f:Th→Th),u.th=s.th→Oth s.th (u.onTh n f).th n:=fun u f hu=>by
  show Oth s.th (u.th.set n _) n
  rw [hu];exact Oth.set _
 refine uK (P:=fun u=>Oth s.th u.th n) ?_ ?_ ?_ ?_ ?_ ?_ ?_ ?_ ?_ ?_ ?_ ?_
 ·exact on _ _ rfl
 ·unfold Y4;(repeat' split) <;> first | exact tl _ _ _ _ _ rfl | exact on _ _ rfl
 ·unfold cZ bD;(repeat' split) <;> first | exact tl _ _ _ _ _ rfl | exact on _ _ rfl
 ·split
  ·exact on _ _ rfl
  ·exact Oth.refl _ _
 ·unfold Q6;(repeat' split) <;> first | exact tl _ _ _ _ _ rfl | exact on _ _ rfl
 ·exact on _ _ rfl
 ·unfold L9 G9
  repeat' split
  ·next hh =>
   have hi:=J5.1 hh
   refine Oth.wake _ ?_
   have h2:=hi.2.2
   simp only [St.onTh,St.setTh,List.length_set] at h2
   have e:(s.toEmpty (ntE s.ee s.el) (ntL 1 s.ee s.el)).th=s.th:=rfl
   rw [e] at h2;omega
  ·exact on _ _ rfl
  ·exact on _ _ rfl
 ·split <;> exact on _ _ rfl
 ·unfold Q8;(repeat' split) <;> exact on _ _ rfl
 ·exact on _ _ rfl
 ·unfold Y6;(repeat' split) <;> first | exact tl _ _ _ _ _ rfl | exact on _ _ rfl
 ·exact on _ _ rfl
theorem Mr {s:St} {i:Int}:Oth s.th (aB s i).th i:=by
 unfold aB;split
 ·next h =>
  have:=(J5.1 (I6.1 h).1).2.1
  have h2:=Bb (s:=s) (n:=i.toNat)
  rwa [Int.toNat_of_nonneg this] at h2
 ·exact Oth.refl _ _
def fA (a b:List En):Prop:=b=a∨∃ x,b=a++[x]
theorem Yb (s:St) (i k r g:Int):fA s.lg (bH s i k r g).lg:=by
 unfold bH;split
 ·exact .inr ⟨_,rfl⟩
 ·exact .inl rfl
theorem BK (s:St) (n:Nat) (k r g p:Int):fA s.lg (D7 s n k r g p).lg:=Yb s n k r g
theorem kG (s:St) (i k r g:Int):(bH s i k r g).cf=s.cf∧(bH s i k r g).nw=s.nw:=by unfold bH;split <;> exact ⟨rfl,rfl⟩
theorem yV {s:St} {n:Nat}:fA s.lg (sendN s n).lg∧(sendN s n).cf=s.cf∧(sendN s n).nw=s.nw:=by
 have tl:∀ (u:St) (k r g p:Int),u.lg=s.lg→u.cf=s.cf→u.nw=s.nw→fA s.lg (D7 u n k r g p).lg∧(D7 u n k r g p).cf=s.cf∧(D7 u n k r g p).nw=s.nw:=fun u k r g p h1 h2 h3 =>
  ⟨h1 ▸ BK u n k r g p,(kG u n k r g).1.trans h2,(kG u n k r g).2.trans h3⟩
 have no:∀ (u:St),u.lg=s.lg→u.cf=s.cf→u.nw=s.nw→fA s.lg u.lg∧u.cf=s.cf∧u.nw=s.nw:=fun u h1 h2 h3=>⟨.inl h1,h2,h3⟩
 refine uK (P:=fun u=>fA s.lg u.lg∧u.cf=s.cf∧u.nw=s.nw) ?_ ?_ ?_ ?_ ?_ ?_ ?_ ?_ ?_ ?_ ?_ ?_
 all_goals (try unfold Y4);(try unfold cZ);(try unfold bD);(try unfold Q6);(try unfold L9);(try unfold G9);(try unfold Q8);(try unfold Y6)
 all_goals (repeat' split) <;> first | exact tl _ _ _ _ _ rfl rfl rfl | exact no _ rfl rfl rfl
theorem yE (s:St) (i:Int):fA s.lg (aB s i).lg∧(aB s i).cf=s.cf∧(aB s i).nw=s.nw:=by
 unfold aB;split
 ·exact yV
 ·exact ⟨.inl rfl,rfl,rfl⟩
end
section
theorem kK {a s:St} (h0:stB a=stB s) (h1:a.hd=s.hd) (h2:a.tl=s.tl) (h3:a.md=s.md) (h4:a.sl=s.sl) (h5:a.cf=s.cf):quV a=quV s:=by
 cases a;cases s;simp only at h1 h2 h3 h4 h5;subst h1 h2 h3 h4 h5;unfold quV;rw [h0];rfl
theorem ae {s:St} (h:stB s=true):quV s=⟨(List.range (s.tl - s.hd).toNat).map fun (n:Nat)=>atV s (s.hd+n),cfR s.cf,s.cf.po,s.md⟩:=by unfold quV;rw [if_pos h]
theorem vG {s:St} (h:stB s=true):((quV s).vals.length:Int)=s.tl - s.hd:=by
 have:=M3 (C8 h).1
 rw [ae h];simp only [List.length_map,List.length_range];omega
theorem nz {s:St} (h:stB s=true):(quV s).cap=s.sl.length∧(quV s).pol=s.cf.po∧(quV s).mode=s.md:=by
 rw [ae h];exact ⟨(C8 h).2.2.symm,rfl,rfl⟩
theorem kT {s:St} (h:stB s=true):(F8 s=1∧s.md=0∧s.tl - s.hd<s.sl.length∧s.tl<1099511627776)∨(F8 s=2∧s.md=0∧(s.tl - s.hd=s.sl.length∨s.tl=1099511627776))∨(F8 s=6∧s.md=1)∨(F8 s=7∧s.md=2):=by
 have c:=(C8 h).1
 have hl:=M3 c
 unfold F8 acR jX
 rw [c,xw c]
 by_cases h2:s.md=2
 ·simp [h2]
 ·by_cases h1:s.md=1
  ·simp [h1]
  ·have h0:s.md=0:=by omega
   by_cases hf:s.tl - s.hd=s.sl.length
   ·simp [h0,hf]
   ·by_cases he:s.tl=1099511627776
    ·simp [h0,hf,he]
    ·simp [h0,hf,he];omega
theorem Az {k:Int} (h:j6 k=1):F5 k=true:=by have:=X0 k;simp [F5];omega
theorem Nl {s:St} (h:stB s=true) {n ki va r g:Int} (hk:j6 ki=1) (hr:(r=2∧s.md=0∧s.tl - s.hd=s.sl.length∧s.cf.po=0∧ki=2)∨(r=3∧s.md=0∧s.tl - s.hd=s.sl.length∧s.cf.po=1)∨(r=5∧ki=3)∨(r=6∧s.md=1)∨(r=7∧s.md=2)) :
  (quV s).tell ⟨n,ki,va,r,g⟩=(quV s,true):=by
 obtain ⟨c1,c2,c3⟩:=nz h
 have hl:=vG h
 unfold Qu.tell
 rw [if_pos (Az hk)]
 unfold Qu.send Qu.full
 rcases hr with ⟨rfl,h1,h2,h3,h4⟩ | ⟨rfl,h1,h2,h3⟩ | ⟨rfl,h1⟩ | ⟨rfl,h1⟩ | ⟨rfl,h1⟩
 ·simp [c1,c2,c3,h1,h3,h4];omega
 ·simp [c1,c2,c3,h1,h3];omega
 ·simp [h1]
 ·simp [c3,h1]
 ·simp [c3,h1]
def sH (s a:St) (n:Nat):Prop:=(a.lg=s.lg∧quV a=quV s)∨∃ x:En,a.lg=s.lg++[x]∧x.th=(n:Int)∧(quV s).tell x=(quV a,true)
theorem P7 {s:St} (h:stB s=true) {n:Nat} {f:Th→Th} (ht:thB (f (gth s.th n))=true):sH s (s.onTh n f) n :=
 .inl ⟨rfl,kK (by rw [h];exact r9 h ht) rfl rfl rfl rfl rfl⟩
theorem xQ {s:St} (h:stB s=true) {n:Nat} (hn:n<s.th.length) (k r g p:Int):(D7 s n k r g p).lg=s.lg++[⟨n,k,(gth s.th n).va,r,g⟩]:=by
 show (bH s n k r g).lg=_;rw [dQ h hn];rfl
theorem nN {s:St} (h:stB s=true) {n:Nat} (hn:n<s.th.length) (h1:(gth s.th n).st≠0) {k r g p:Int} (hr:0≤r∧r≤7) (hp:0≤p∧p≤11):quV (D7 s n k r g p)=quV s:=by
 have hs:=iA s n k r g p
 simp only [shr,Prod.mk.injEq] at hs
 exact kK (by rw [h];exact O9 h hn h1 hr hp) hs.1.1 hs.1.2.1 hs.1.2.2 hs.2.1 (by show (bH s n k r g).cf=s.cf;exact (kG s n k r g).1)
theorem gG {s:St} (h:stB s=true) {n:Nat} (hn:n<s.th.length) (h1:(gth s.th n).st≠0) {r p:Int} (hr:0≤r∧r≤7) (hp:0≤p∧p≤11) (hk:j6 (gth s.th n).ki=1)
  (hc:(r=2∧s.md=0∧s.tl - s.hd=s.sl.length∧s.cf.po=0∧(gth s.th n).ki=2)∨(r=3∧s.md=0∧s.tl - s.hd=s.sl.length∧s.cf.po=1)∨(r=5∧(gth s.th n).ki=3)∨(r=6∧s.md=1)∨(r=7∧s.md=2)):sH s (D7 s n (gth s.th n).ki r 0 p) n :=
 .inr ⟨_,xQ h hn _ _ _ _,rfl,by rw [nN h hn h1 hr hp];exact Nl h hk hc⟩
theorem Ur {t:Th} (h:thB t=true) (hk:j6 t.ki=1) (hl:t.la=true):t.ki=3:=by
 obtain ⟨st,ki,va,un,pc,re,se,tr,la,rs,go⟩:=t
 simp only at *
 subst hl
 rw [K6] at h
 have:=X0 ki
 have hb:bI true=1:=rfl
 omega
theorem jP {s:St} (h:stB s=true) {p:Int} (hp:0≤p):Q7 s p=atV s p:=by unfold Q7;rw [if_neg (by omega),if_pos h]
theorem a0U {s a:St} (h:stB s=true) (ha:stB a=true) (h1:a.hd=s.hd) (h2:a.tl=s.tl+1) (h3:a.md=s.md) (h4:a.sl=s.sl) (h5:a.cf=s.cf):quV a=(quV s).with ((quV s).vals++[atV s s.tl]):=by
 have c:=M3 (C8 h).1
 rw [ae h,ae ha]
 unfold Qu.with
 have hat:∀ p,atV a p=atV s p:=fun p=>by unfold atV;rw [h4]
 simp only [hat,h1,h2,h3,h5]
 rw [show (s.tl+1 - s.hd).toNat=(s.tl - s.hd).toNat+1 by omega,List.range_succ,List.map_append,List.map_singleton]
 rw [show s.hd+((s.tl - s.hd).toNat:Int)=s.tl by omega]
theorem KC {s a:St} (h:stB s=true) (ha:stB a=true) (h1:a.hd=s.hd+1) (h2:a.tl=s.tl) (h3:a.md=s.md) (h4:a.sl=s.sl) (h5:a.cf=s.cf) (hl:s.hd<s.tl):(quV s).gone (atV s s.hd)=(quV a,true):=by
 have c:=M3 (C8 h).1
 have hat:∀ p,atV a p=atV s p:=fun p=>by unfold atV;rw [h4]
 have e:(List.range (s.tl - s.hd).toNat).map (fun (n:Nat)=>atV s (s.hd+n))=atV s s.hd::(List.range (a.tl - a.hd).toNat).map (fun (n:Nat)=>atV a (a.hd+n)):=by
  rw [show (s.tl - s.hd).toNat=(a.tl - a.hd).toNat+1 by rw [h1,h2];omega,List.range_succ_eq_map,List.map_cons,List.map_map]
  congr 1
  ·simp
  ·refine List.map_congr_left fun k _=>?_
   simp only [Function.comp,hat,h1]
   congr 1;omega
 unfold Qu.gone
 rw [ae h,ae ha]
 simp only [e]
 simp [Qu.with,h3,h5]
theorem TM {s:St} (h:stB s=true) {n:Nat} (hn:n<s.th.length) (h1:(gth s.th n).st≠0) (hk:j6 (gth s.th n).ki=1) (ht:s.tl≠1099511627776) (hs:F8 s=2):sH s (bD s n) n:=by
 have hg:=l9 h hn
 have hp:=xe (N7.1 h).1
 obtain ⟨hm,hf⟩:s.md=0∧s.tl - s.hd=s.sl.length:=by rcases kT h with ⟨h',-⟩ | ⟨-,h1,h2⟩ | ⟨h',-⟩ | ⟨h',-⟩ <;> omega
 have hc:=I7.1 (C8 h).1
 unfold bD
 repeat' split
 ·next c=>exact gG h hn h1 (by decide) (by decide) hk (.inr (.inl ⟨rfl,hm,hf,c⟩))
 ·exact P7 h (iX hg h1 (by omega) (by decide))
 ·next c1 c2 c=>exact gG h hn h1 (by decide) (by decide) hk (.inl ⟨rfl,hm,hf,by omega,c⟩)
 ·next c=>exact gG h hn h1 (by decide) (by decide) hk (.inr (.inr (.inl ⟨rfl,Ur hg hk c⟩)))
 ·exact P7 h (D9 hg h1 (by decide))
 ·exact P7 h (jf hg h1)
theorem Qa {s:St} (h:stB s=true) {n:Nat} (hn:n<s.th.length) (h1:(gth s.th n).st≠0) (hk:j6 (gth s.th n).ki=1) :
  ((gth s.th n).pc=3∨(gth s.th n).pc=11)∧(sendN s n).lg=s.lg ∨
  (sendN s n).lg≠s.lg∧((gth s.th n).pc=4∧Q7 s s.tl≠(gth s.th n).va∨(gth s.th n).pc=10∧s.cf.po≠2∨s.tl=1099511627776)∨sH s (sendN s n) n:=by
 have hg:=l9 h hn
 have hc:=I7.1 (C8 h).1
 obtain ⟨ln,-,-,-,le,-⟩:=l6 h
 have he:=O7.1 le
 have hst:=aL h hn h1
 have no:∀ {a:St},a.lg=s.lg→stB a=true→a.hd=s.hd→a.tl=s.tl→a.md=s.md→a.sl=s.sl→a.cf=s.cf→sH s a n:=fun h0 h1 h2 h3 h4 h5 h6=>.inl ⟨h0,kK (h1.trans h.symm) h2 h3 h4 h5 h6⟩
 have see:∀ r,F8 s=r→r≠1→r≠2→(r=6∧s.md=1)∨(r=7∧s.md=2):=fun r hr n1 n2=>by rcases kT h with ⟨h',-⟩ | ⟨h',-⟩ | h' | h' <;> omega
 obtain p | p | p | p | p | p | p | p | p | p | p | p:=iW hg
 ·refine .inr (.inr (no ?_ hst ?_ ?_ ?_ ?_ ?_)) <;> rw [ja p] <;> rfl
 ·rw [iZ p] at hst ⊢
  refine .inr (.inr ?_)
  unfold Y4
  repeat' split
  ·exact P7 h (D9 hg h1 (by decide))
  ·next c=>exact gG h hn h1 (by decide) (by decide) hk (.inr (.inr (.inl ⟨rfl,Ur hg hk c⟩)))
  ·exact P7 h (jf hg h1)
 ·rw [iG p]
  unfold cZ
  split
  ·exact .inr (.inr (P7 h (iX hg h1 (by omega) (by decide))))
  ·split
   ·next hs2 =>
    by_cases ht:s.tl=1099511627776
    ·by_cases hl:(bD s n).lg=s.lg
     ·have hb:=zQ h hn h1
      refine .inr (.inr (.inl ⟨hl,?_⟩))
      have hsh:shr (bD s n)=shr s∧(bD s n).cf=s.cf:=by
       unfold bD;(repeat' split) <;> first | exact ⟨iA _ _ _ _ _ _,(kG _ _ _ _ _).1⟩ | exact ⟨rfl,rfl⟩
      obtain ⟨hsh,hcf⟩:=hsh
      simp only [shr,Prod.mk.injEq] at hsh
      exact kK (hb.trans h.symm) hsh.1.1 hsh.1.2.1 hsh.1.2.2 hsh.2.1 hcf
     ·exact .inr (.inl ⟨hl,.inr (.inr ht)⟩)
    ·exact .inr (.inr (TM h hn h1 hk ht hs2))
   ·next n1 n2=>exact .inr (.inr (gG h hn h1 (nH s) (by decide) hk (.inr (.inr (.inr (see _ rfl n1 n2))))))
 ·rw [dR p]
  refine .inl ⟨.inl p,?_⟩
  split <;> rfl
 ·rw [iP p] at hst ⊢
  unfold Q6 at hst ⊢
  split
  ·next hs =>
   rw [if_pos hs] at hst
   obtain ⟨hm,hlt,htl⟩:s.md=0∧s.tl - s.hd<s.sl.length∧s.tl<1099511627776:=by rcases kT h with ⟨-,h'⟩ | ⟨h',-⟩ | ⟨h',-⟩ | ⟨h',-⟩ <;> first | exact h' | omega
   have hb:stB (s.toWord s.hd (s.tl+1) s.md)=true:=by
    have h2:=lY (C8 h).1
    rw [(DW hs).1] at h2
    exact M6 h h2
   have hlg:=xQ hb (n:=n) hn (gth s.th n).ki 1 0 6
   by_cases hv:Q7 s s.tl=(gth s.th n).va
   ·refine .inr (.inr (.inr ⟨_,hlg,rfl,?_⟩))
    have hq:quV (D7 (s.toWord s.hd (s.tl+1) s.md) n (gth s.th n).ki 1 0 6)=quV (s.toWord s.hd (s.tl+1) s.md):=nN hb (n:=n) hn h1 (by decide) (by decide)
    rw [hq,a0U h hb rfl rfl rfl rfl rfl]
    unfold Qu.tell
    have hg' : gth (s.toWord s.hd (s.tl+1) s.md).th n=gth s.th n:=rfl
    rw [hg',if_pos (Az hk)]
    obtain ⟨c1,c2,c3⟩:=nz h
    have hl:=vG h
    unfold Qu.send Qu.full
    have hnf:decide ((quV s).cap≤((quV s).vals.length:Int))=false:=by rw [c1,hl];simp;omega
    simp only [if_true,hnf,c3,hm,ne_eq,not_true_eq_false,decide_false,Bool.or_self,Bool.false_eq_true,if_false]
    rw [← hv,jP h (by omega)]
   ·exact .inr (.inl ⟨by rw [hlg];simp [St.toWord],.inl ⟨p,hv⟩⟩)
  ·next hs =>
   split
   ·exact .inr (.inr (P7 h (D9 hg h1 (by decide))))
   ·next n2=>exact .inr (.inr (gG h hn h1 (nH s) (by decide) hk (.inr (.inr (.inr (see _ rfl hs n2))))))
 ·rw [iR p];exact .inr (.inr (P7 h (jJ hg h1 (by omega) (by decide))))
 ·refine .inr (.inr (no ?_ hst ?_ ?_ ?_ ?_ ?_)) <;> rw [iV p] <;> unfold L9 G9 <;> (repeat' split) <;> rfl
 ·rw [iI p]
  refine .inr (.inr ?_)
  split
  ·exact P7 h (D9 hg h1 (by decide))
  ·exact P7 h (D9 hg h1 (by decide))
 ·refine .inr (.inr (no ?_ hst ?_ ?_ ?_ ?_ ?_)) <;> rw [iQ p] <;> unfold Q8 <;> (repeat' split) <;> rfl
 ·refine .inr (.inr (no ?_ hst ?_ ?_ ?_ ?_ ?_)) <;> rw [fZ p] <;> rfl
 ·rw [eZ p] at hst ⊢
  unfold Y6 at hst ⊢
  split
  ·next hb =>
   rw [if_pos hb] at hst
   obtain ⟨e1,e2,e3,e4,e5⟩:=PY.1 hb
   have hw:stB (s.toWord (s.hd+1) s.tl s.md)=true:=by
    have h2:=mI (x:=(gth s.th n).re) (C8 h).1
    rw [show evH s.hd s.tl s.md s.sl.length (gth s.th n).re=s.hd+1 by unfold evH;rw [if_pos hb]] at h2
    exact M6 h h2
   have hlg:=xQ hw (n:=n) hn 9 1 (Q7 s (gth s.th n).re) 11
   by_cases hp:s.cf.po=2
   ·refine .inr (.inr (.inr ⟨_,hlg,rfl,?_⟩))
    have hq:quV (D7 (s.toWord (s.hd+1) s.tl s.md) n 9 1 (Q7 s (gth s.th n).re) 11)=quV (s.toWord (s.hd+1) s.tl s.md):=nN hw (n:=n) hn h1 (by decide) (by decide)
    rw [hq,← KC h hw rfl rfl rfl rfl rfl e5]
    obtain ⟨c1,c2,c3⟩:=nz h
    have hl:=vG h
    unfold Qu.tell
    have k1:F5 9=false:=by decide
    have k2:I5 9=false:=by decide
    rw [if_neg (by rw [k1];decide),if_neg (by rw [k2];decide)]
    have hno:¬ ((quV s).mode≠0∨(quV s).pol≠2∨((quV s).vals.length:Int)<(quV s).cap):=by rw [c1,c2,c3,hl];omega
    rw [if_neg (show ¬ (1:Int)≠1 by decide),if_neg (show ¬ (9:Int)=7 by decide),if_neg (show ¬ (9:Int)=8 by decide),if_pos rfl,if_neg hno,← e3,jP h (by omega)]
   ·exact .inr (.inl ⟨by rw [hlg];simp [St.toWord],.inr (.inl ⟨p,hp⟩)⟩)
  ·exact .inr (.inr (P7 h (D9 hg h1 (by decide))))
 ·rw [aU p];exact .inl ⟨.inr p,rfl⟩
end
section
def G5 (t:Th) (g p:Int):Th:=⟨t.st,t.ki,t.va,t.un,p,t.re,t.se,t.tr,t.la,t.rs,g⟩
def G6 (s:St):Int:=tkR s.hd s.tl s.md s.sl.length
def firstR (s:St) (n:Nat):St :=
 if plI s.rc n=0 then s.onTh n (pcT · 2)
 else if (gth s.th n).la=true then D7 s n (gth s.th n).ki 5 0 9
 else s.onTh n onT
def lookR (s:St) (n:Nat):St :=
 if G6 s=1 then s.onTh n (pcT · 3)
 else if G6 s≠4 then D7 s n (gth s.th n).ki (G6 s) 0 9
 else if (gth s.th n).ki=5 then D7 s n (gth s.th n).ki 4 0 9
 else if (gth s.th n).la=true then D7 s n (gth s.th n).ki 5 0 9
 else if ve s (gth s.th n).tr=2 then s.onTh n (pcT · 5)
 else s.onTh n onT
def takeR (s:St) (n:Nat):St :=
 if G6 s=4 then s.onTh n (pcT · 2)
 else if G6 s≠1 then D7 s n (gth s.th n).ki (G6 s) 0 9
 else D7 ((s.toWord (s.hd+1) s.tl s.md).onTh n (l8 · s.hd 4)) n (gth s.th n).ki 1 (Q7 s s.hd) 4
def readR (s:St) (n:Nat):St:=(s.toSl (rlL s.sl (gth s.th n).re)).onTh n (G5 · (rdV s.sl (gth s.th n).re) 6)
def notifyR (s:St) (n:Nat):St :=
 if hdB (ntT 1 s.fe s.fl)=true then G9 ((s.toFull (ntE s.fe s.fl) (ntL 1 s.fe s.fl)).onTh n (pcT · 9)) (hdI (ntT 1 s.fe s.fl))
 else (s.toFull (ntE s.fe s.fl) (ntL 1 s.fe s.fl)).onTh n (pcT · 9)
def commitR (s:St) (n:Nat):St :=
 if (gth s.th n).la=true then s.onTh n (pcT · 2)
 else if cmB s.ee s.el (gth s.th n).se n=true then (s.toEmpty s.ee (s.el++[(n:Int)])).onTh n (z8 · 2)
 else s.onTh n (pcT · 2)
def recvN (s:St) (n:Nat):St :=
 if (gth s.th n).pc=0 then (s.toRc (Z0 s.rc n)).onTh n (pcT · 1)
 else if (gth s.th n).pc=1 then firstR s n
 else if (gth s.th n).pc=2 then lookR s n
 else if (gth s.th n).pc=3 then takeR s n
 else if (gth s.th n).pc=4 then readR s n
 else if (gth s.th n).pc=5 then s.onTh n (o9 · s.ee 7)
 else if (gth s.th n).pc=6 then notifyR s n
 else if (gth s.th n).pc=7 then (if G6 s=4∧(gth s.th n).la=false then s.onTh n (pcT · 8) else s.onTh n (pcT · 2))
 else if (gth s.th n).pc=8 then commitR s n
 else (s.toRc (lvL s.rc n)).onTh n E9
def ai (s:St) (i:Int):St:=if J8 s i 2=true then recvN s i.toNat else s
def ag (s:St) (i:Int):Nat→St×Nat
 | 0=>(s,0)
 | k+1=>if J8 s i 2=true then ((ag (ai s i) i k).1,(ag (ai s i) i k).2+1) else (s,0)
theorem jD {P:St→Prop} {s:St} {n:Nat} (h0:P ((s.toRc (Z0 s.rc n)).onTh n (pcT · 1))) (h1:P (firstR s n)) (h2:P (lookR s n)) (h3:P (takeR s n)) (h4:P (readR s n)) (h5:P (s.onTh n (o9 · s.ee 7))) (h6:P (notifyR s n)) (h7:P (if G6 s=4∧(gth s.th n).la=false then s.onTh n (pcT · 8) else s.onTh n (pcT · 2))) (h8:P (commitR s n)) (h9:P ((s.toRc (lvL s.rc n)).onTh n E9)):P (recvN s n):=by
 unfold recvN
 by_cases c0:(gth s.th n).pc=0
 ·rw [if_pos c0];exact h0
 rw [if_neg c0]
 by_cases c1:(gth s.th n).pc=1
 ·rw [if_pos c1];exact h1
 rw [if_neg c1]
 by_cases c2:(gth s.th n).pc=2
 ·rw [if_pos c2];exact h2
 rw [if_neg c2]
 by_cases c3:(gth s.th n).pc=3
 ·rw [if_pos c3];exact h3
 rw [if_neg c3]
 by_cases c4:(gth s.th n).pc=4
 ·rw [if_pos c4];exact h4
 rw [if_neg c4]
 by_cases c5:(gth s.th n).pc=5
 ·rw [if_pos c5];exact h5
 rw [if_neg c5]
 by_cases c6:(gth s.th n).pc=6
 ·rw [if_pos c6];exact h6
 rw [if_neg c6]
 by_cases c7:(gth s.th n).pc=7
 ·rw [if_pos c7];exact h7
 rw [if_neg c7]
 by_cases c8:(gth s.th n).pc=8
 ·rw [if_pos c8];exact h8
 rw [if_neg c8]
 exact h9
theorem rW {s:St} {n:Nat} (h:(gth s.th n).pc=0):recvN s n=(s.toRc (Z0 s.rc n)).onTh n (pcT · 1):=by unfold recvN;rw [h];rfl
theorem qY {s:St} {n:Nat} (h:(gth s.th n).pc=1):recvN s n=firstR s n:=by unfold recvN;rw [h];rfl
theorem pX {s:St} {n:Nat} (h:(gth s.th n).pc=2):recvN s n=lookR s n:=by unfold recvN;rw [h];rfl
theorem qD {s:St} {n:Nat} (h:(gth s.th n).pc=3):recvN s n=takeR s n:=by unfold recvN;rw [h];rfl
theorem qw {s:St} {n:Nat} (h:(gth s.th n).pc=4):recvN s n=readR s n:=by unfold recvN;rw [h];rfl
theorem qK {s:St} {n:Nat} (h:(gth s.th n).pc=5):recvN s n=s.onTh n (o9 · s.ee 7):=by unfold recvN;rw [h];rfl
theorem rz {s:St} {n:Nat} (h:(gth s.th n).pc=6):recvN s n=notifyR s n:=by unfold recvN;rw [h];rfl
theorem qx {s:St} {n:Nat} (h:(gth s.th n).pc=7):recvN s n=(if G6 s=4∧(gth s.th n).la=false then s.onTh n (pcT · 8) else s.onTh n (pcT · 2)):=by unfold recvN;rw [h];rfl
theorem qR {s:St} {n:Nat} (h:(gth s.th n).pc=8):recvN s n=commitR s n:=by unfold recvN;rw [h];rfl
theorem iH {s:St} {n:Nat} (h:(gth s.th n).pc=9∨(gth s.th n).pc=10∨(gth s.th n).pc=11):recvN s n=(s.toRc (lvL s.rc n)).onTh n E9:=by unfold recvN;rcases h with h | h | h <;> rw [h] <;> rfl
theorem a1G {t:Th} (h:thB t=true):t.pc=0∨t.pc=1∨t.pc=2∨t.pc=3∨t.pc=4∨t.pc=5∨t.pc=6∨t.pc=7∨t.pc=8∨(t.pc=9∨t.pc=10∨t.pc=11):=by
 rcases iW h with p | p | p | p | p | p | p | p | p | p | p | p <;> simp [p]
theorem Yg {t:Th} (h:thB t=true) (h1:t.st≠0) {g p:Int} (hp:0≤p∧p≤11):thB (G5 t g p)=true:=by
 obtain ⟨st,ki,va,un,pc,re,se,tr,la,rs,go⟩:=t
 simp only [G5] at *;rw [K6] at *;omega
theorem jB (s:St):0≤G6 s∧G6 s≤7:=by
 unfold G6 tkR;repeat' split
 all_goals omega
theorem cu {s:St} (h:stB s=true):(G6 s=1∧s.md≠2∧s.hd<s.tl)∨(G6 s=4∧s.md=0∧s.hd=s.tl)∨(G6 s=6∧s.md=1∧s.hd=s.tl)∨(G6 s=7∧s.md=2):=by
 have c:=(C8 h).1
 have hl:=M3 c
 unfold G6 tkR jX
 rw [c,lM c]
 by_cases h2:s.md=2
 ·simp [h2]
 ·by_cases hs:s.hd<s.tl
  ·simp [h2,hs]
  ·by_cases h1:s.md=1
   ·simp [h1,hs];omega
   ·simp [h1,h2,hs];omega
theorem Fb {s:St} (h:stB s=true) (hs:G6 s=1):stB (s.toWord (s.hd+1) s.tl s.md)=true:=by
 have hl:=M3 (C8 h).1
 refine M6 h (I7.2 ?_)
 rcases cu h with ⟨-,h2,h3⟩ | ⟨h1,-⟩ | ⟨h1,-⟩ | ⟨h1,-⟩ <;> omega
theorem Iz {s:St} (h:stB s=true) {n:Nat} (hn:n<s.th.length) (h1:(gth s.th n).st≠0):stB (firstR s n)=true:=by
 unfold firstR
 repeat' split
 ·exact r9 h (D9 (l9 h hn) h1 (by decide))
 ·exact O9 h hn h1 (by decide) (by decide)
 ·exact r9 h (jf (l9 h hn) h1)
theorem Mm {s:St} (h:stB s=true) {n:Nat} (hn:n<s.th.length) (h1:(gth s.th n).st≠0):stB (lookR s n)=true:=by
 unfold lookR
 repeat' split
 ·exact r9 h (D9 (l9 h hn) h1 (by decide))
 ·exact O9 h hn h1 (jB s) (by decide)
 ·exact O9 h hn h1 (by decide) (by decide)
 ·exact O9 h hn h1 (by decide) (by decide)
 ·exact r9 h (D9 (l9 h hn) h1 (by decide))
 ·exact r9 h (jf (l9 h hn) h1)
theorem K7 {s:St} {n:Nat} (hn:n<s.th.length) (f:Th→Th):gth (s.onTh n f).th n=f (gth s.th n):=by show gth (s.th.set n _) n=_;rw [H9 hn,if_pos rfl]
theorem mr {s:St} (h:stB s=true) {n:Nat} (hn:n<s.th.length) (h1:(gth s.th n).st≠0) (hs:G6 s=1):stB ((s.toWord (s.hd+1) s.tl s.md).onTh n (l8 · s.hd 4))=true:=by
 have hl:=M3 (C8 h).1
 exact r9 (Fb h hs) (iX (l9 h hn) h1 (by omega) (by decide))
theorem zN {s:St} (h:stB s=true) {n:Nat} (hn:n<s.th.length) (h1:(gth s.th n).st≠0):stB (takeR s n)=true:=by
 unfold takeR
 repeat' split
 ·exact r9 h (D9 (l9 h hn) h1 (by decide))
 ·exact O9 h hn h1 (jB s) (by decide)
 ·next h2 h3 =>
  have hs:G6 s=1:=Classical.not_not.1 h3
  refine O9 (mr h hn h1 hs) (by show n<(s.th.set n _).length;simpa using hn) ?_ (by decide) (by decide)
  have:=K7 (s:=s.toWord (s.hd+1) s.tl s.md) (n:=n) hn (l8 · s.hd 4)
  rw [this];exact h1
theorem tV {s:St} (h:stB s=true) {n:Nat} (hn:n<s.th.length) (h1:(gth s.th n).st≠0):stB (readR s n)=true :=
 r9 (Jg h (ig _ _) (Qh (C8 h).2.1 _)) (Yg (l9 h hn) h1 (by decide))
theorem EL {s:St} (h:stB s=true) {n:Nat} (hn:n<s.th.length) (h1:(gth s.th n).st≠0):stB (notifyR s n)=true:=by
 obtain ⟨-,-,d,-,e,-⟩:=l6 h
 have h2:stB (s.toFull (ntE s.fe s.fl) (ntL 1 s.fe s.fl))=true:=by
  refine eu h ?_ ?_
  ·simp only [ntE,ntL,e,if_true];exact fF e (O6 (R8 e) 1)
  ·simp only [ntL,e,if_true];exact bN d (O6 (R8 e) 1) (fun x hx=>List.mem_of_mem_drop hx)
 have h3:stB ((s.toFull (ntE s.fe s.fl) (ntL 1 s.fe s.fl)).onTh n (pcT · 9))=true:=r9 h2 (D9 (l9 h hn) h1 (by decide))
 unfold notifyR
 split
 ·exact eU h3 _
 ·exact h3
theorem uV {s:St} (h:stB s=true) {n:Nat} (hn:n<s.th.length) (h1:(gth s.th n).st≠0):stB (commitR s n)=true:=by
 obtain ⟨-,-,-,c,-,e⟩:=l6 h
 unfold commitR
 repeat' split
 ·exact r9 h (D9 (l9 h hn) h1 (by decide))
 ·next hb =>
  have hE:aX s.el n=0:=by simp only [cmB,Bool.and_eq_true,beq_iff_eq] at hb;exact hb.1.2
  have h2:=vT c (Af h hn).1
  rw [qf hE] at h2
  exact r9 (s:=s.toEmpty s.ee (s.el++[(n:Int)])) (bL h (Em e (Dw hE)) h2) (FI (l9 h hn) h1 (by decide))
 ·exact r9 h (D9 (l9 h hn) h1 (by decide))
theorem gz {s:St} (h:stB s=true) {n:Nat} (hn:n<s.th.length) (h1:(gth s.th n).st≠0):stB (recvN s n)=true:=by
 obtain ⟨-,a,-,-,-,e⟩:=l6 h
 have he:=O7.1 e
 have hg:=l9 h hn
 refine jD (P:=fun u=>stB u=true) ?_ ?_ ?_ ?_ ?_ ?_ ?_ ?_ ?_ ?_
 ·exact r9 (QA h (vT a (Af h hn).1)) (D9 hg h1 (by decide))
 ·exact Iz h hn h1
 ·exact Mm h hn h1
 ·exact zN h hn h1
 ·exact tV h hn h1
 ·exact r9 h (jJ hg h1 (by omega) (by decide))
 ·exact EL h hn h1
 ·split
  ·exact r9 h (D9 hg h1 (by decide))
  ·exact r9 h (D9 hg h1 (by decide))
 ·exact uV h hn h1
 ·exact r9 (QA h (IV a)) (xU hg h1)
theorem MG (s:St) (i:Int):stB (ai s i)=stB s:=by
 unfold ai
 split
 ·next hr =>
  obtain ⟨hh,h1,-⟩:=I6.1 hr
  obtain ⟨h,h2,h3⟩:=J5.1 hh
  rw [h]
  exact gz h (by omega) (by omega)
 ·rfl
theorem zR {s:St} {n:Nat}:Oth s.th (recvN s n).th n:=by
 have tl:∀ (u:St) (k r g p:Int),u.th=s.th→Oth s.th (D7 u n k r g p).th n:=fun u k r g p hu=>by
  obtain ⟨t,ht⟩:=vU u n k r g p
  rw [ht,hu];exact Oth.set t
 have tl2:∀ (u:St) (t:Th) (k r g p:Int),u.th=s.th.set n t→Oth s.th (D7 u n k r g p).th n:=fun u t k r g p hu=>by
  obtain ⟨t',ht⟩:=vU u n k r g p
  rw [ht,hu,List.set_set];exact Oth.set t'
 have on:∀ (u:St) (f:Th→Th),u.th=s.th→Oth s.th (u.onTh n f).th n:=fun u f hu=>by
  show Oth s.th (u.th.set n _) n
  rw [hu];exact Oth.set _
 refine jD (P:=fun u=>Oth s.th u.th n) ?_ ?_ ?_ ?_ ?_ ?_ ?_ ?_ ?_ ?_
 ·exact on _ _ rfl
 ·unfold firstR;(repeat' split) <;> first | exact tl _ _ _ _ _ rfl | exact on _ _ rfl
 ·unfold lookR;(repeat' split) <;> first | exact tl _ _ _ _ _ rfl | exact on _ _ rfl
 ·unfold takeR;split
  ·exact on _ _ rfl
  ·split
   ·exact tl _ _ _ _ _ rfl
   ·exact tl2 _ _ _ _ _ _ rfl
 ·exact on _ _ rfl
 ·exact on _ _ rfl
 ·unfold notifyR G9
  repeat' split
  ·next hh =>
   have hi:=J5.1 hh
   refine Oth.wake _ ?_
   have h2:=hi.2.2
   simp only [St.onTh,St.setTh,List.length_set] at h2
   have e:(s.toFull (ntE s.fe s.fl) (ntL 1 s.fe s.fl)).th=s.th:=rfl
   rw [e] at h2;omega
  ·exact on _ _ rfl
  ·exact on _ _ rfl
 ·split <;> exact on _ _ rfl
 ·unfold commitR;(repeat' split) <;> exact on _ _ rfl
 ·exact on _ _ rfl
theorem OB {s:St} {i:Int}:Oth s.th (ai s i).th i:=by
 unfold ai;split
 ·next h =>
  have:=(J5.1 (I6.1 h).1).2.1
  have h2:=zR (s:=s) (n:=i.toNat)
  rwa [Int.toNat_of_nonneg this] at h2
 ·exact Oth.refl _ _
theorem pK {s:St} {n:Nat}:fA s.lg (recvN s n).lg∧(recvN s n).cf=s.cf∧(recvN s n).nw=s.nw:=by
 have tl:∀ (u:St) (k r g p:Int),u.lg=s.lg→u.cf=s.cf→u.nw=s.nw→fA s.lg (D7 u n k r g p).lg∧(D7 u n k r g p).cf=s.cf∧(D7 u n k r g p).nw=s.nw:=fun u k r g p h1 h2 h3 =>
  ⟨h1 ▸ BK u n k r g p,(kG u n k r g).1.trans h2,(kG u n k r g).2.trans h3⟩
 have no:∀ (u:St),u.lg=s.lg→u.cf=s.cf→u.nw=s.nw→fA s.lg u.lg∧u.cf=s.cf∧u.nw=s.nw:=fun u h1 h2 h3=>⟨.inl h1,h2,h3⟩
 refine jD (P:=fun u=>fA s.lg u.lg∧u.cf=s.cf∧u.nw=s.nw) ?_ ?_ ?_ ?_ ?_ ?_ ?_ ?_ ?_ ?_
 all_goals (try unfold firstR);(try unfold lookR);(try unfold takeR);(try unfold readR);(try unfold notifyR);(try unfold G9);(try unfold commitR)
 all_goals (repeat' split) <;> first | exact tl _ _ _ _ _ rfl rfl rfl | exact no _ rfl rfl rfl
theorem pE (s:St) (i:Int):fA s.lg (ai s i).lg∧(ai s i).cf=s.cf∧(ai s i).nw=s.nw:=by
 unfold ai;split
 ·exact pK
 ·exact ⟨.inl rfl,rfl,rfl⟩
theorem zT {k:Int} (h:j6 k=2):F5 k=false∧I5 k=true:=by have:=X0 k;simp [F5,I5];omega
theorem Mj {s:St} (h:stB s=true) {n ki va r g:Int} (hk:j6 ki=2) (hr:(r=4∧s.md=0∧s.hd=s.tl∧ki=5)∨(r=5∧ki=6)∨(r=6∧s.md=1∧s.hd=s.tl)∨(r=7∧s.md=2)) :
  (quV s).tell ⟨n,ki,va,r,g⟩=(quV s,true):=by
 obtain ⟨c1,c2,c3⟩:=nz h
 have hl:=vG h
 obtain ⟨k1,k2⟩:=zT hk
 unfold Qu.tell
 rw [if_neg (by rw [k1];decide),if_pos k2]
 unfold Qu.recv
 rcases hr with ⟨rfl,h1,h2,h3⟩ | ⟨rfl,h1⟩ | ⟨rfl,h1,h2⟩ | ⟨rfl,h1⟩
 ·have:(quV s).vals.length=0:=by omega
  simp [c3,h1,h3,this]
 ·simp [h1]
 ·have:(quV s).vals.length=0:=by omega
  simp [c3,h1,this]
 ·simp [c3,h1]
theorem gL {s:St} (h:stB s=true) {n:Nat} (hn:n<s.th.length) (h1:(gth s.th n).st≠0) {r p:Int} (hr:0≤r∧r≤7) (hp:0≤p∧p≤11) (hk:j6 (gth s.th n).ki=2)
  (hc:(r=4∧s.md=0∧s.hd=s.tl∧(gth s.th n).ki=5)∨(r=5∧(gth s.th n).ki=6)∨(r=6∧s.md=1∧s.hd=s.tl)∨(r=7∧s.md=2)):sH s (D7 s n (gth s.th n).ki r 0 p) n :=
 .inr ⟨_,xQ h hn _ _ _ _,rfl,by rw [nN h hn h1 hr hp];exact Mj h hk hc⟩
theorem TR {t:Th} (h:thB t=true) (hk:j6 t.ki=2) (hl:t.la=true):t.ki=6:=by
 obtain ⟨st,ki,va,un,pc,re,se,tr,la,rs,go⟩:=t
 simp only at *
 subst hl
 rw [K6] at h
 have:=X0 ki
 have hb:bI true=1:=rfl
 omega
theorem Yv (l:List Slo) (p:Int) (j:Nat):(gs (rlL l p) j).vl=(gs l j).vl:=by
 unfold rlL
 split
 ·by_cases hn:plc l p<l.length
  ·rw [mD hn]
   split
   ·next e=>subst e;rfl
   ·rfl
  ·rw [List.set_eq_of_length_le (by omega)]
 ·rfl
theorem Zq {s:St} (h:stB s=true) {n:Nat} (hn:n<s.th.length) (h1:(gth s.th n).st≠0):quV (readR s n)=quV s:=by
 rw [ae h,ae (tV h hn h1)]
 have hat:∀ p,atV (readR s n) p=atV s p:=fun p=>by
  unfold atV
  have e:(readR s n).sl=rlL s.sl (gth s.th n).re:=rfl
  rw [e,Yv]
  congr 2
  unfold plc;rw [ig]
 simp only [hat]
 rfl
theorem RG {s:St} (h:stB s=true) {n:Nat} (hn:n<s.th.length) (h1:(gth s.th n).st≠0) (hk:j6 (gth s.th n).ki=2):sH s (recvN s n) n:=by
 have hg:=l9 h hn
 obtain ⟨-,-,-,-,-,le⟩:=l6 h
 have he:=O7.1 le
 have hst:=gz h hn h1
 have no:∀ {a:St},a.lg=s.lg→stB a=true→a.hd=s.hd→a.tl=s.tl→a.md=s.md→a.sl=s.sl→a.cf=s.cf→sH s a n:=fun h0 h1 h2 h3 h4 h5 h6=>.inl ⟨h0,kK (h1.trans h.symm) h2 h3 h4 h5 h6⟩
 obtain p | p | p | p | p | p | p | p | p | p:=a1G hg
 ·refine no ?_ hst ?_ ?_ ?_ ?_ ?_ <;> rw [rW p] <;> rfl
 ·rw [qY p]
  unfold firstR
  repeat' split
  ·exact P7 h (D9 hg h1 (by decide))
  ·next c=>exact gL h hn h1 (by decide) (by decide) hk (.inr (.inl ⟨rfl,TR hg hk c⟩))
  ·exact P7 h (jf hg h1)
 ·rw [pX p]
  unfold lookR
  split
  ·exact P7 h (D9 hg h1 (by decide))
  ·next n1 =>
   split
   ·next n4=>exact gL h hn h1 (jB s) (by decide) hk (.inr (.inr (by rcases cu h with ⟨h',-⟩ | ⟨h',-⟩ | h' | h' <;> omega)))
   ·next n4 =>
    have h4:G6 s=4:=Classical.not_not.1 n4
    have hm:s.md=0∧s.hd=s.tl:=by rcases cu h with ⟨h',-⟩ | ⟨-,h'⟩ | ⟨h',-⟩ | ⟨h',-⟩ <;> omega
    repeat' split
    ·next c=>exact gL h hn h1 (by decide) (by decide) hk (.inl ⟨rfl,hm.1,hm.2,c⟩)
    ·next c=>exact gL h hn h1 (by decide) (by decide) hk (.inr (.inl ⟨rfl,TR hg hk c⟩))
    ·exact P7 h (D9 hg h1 (by decide))
    ·exact P7 h (jf hg h1)
 ·rw [qD p]
  unfold takeR
  split
  ·exact P7 h (D9 hg h1 (by decide))
  ·next n4 =>
   split
   ·next n1=>exact gL h hn h1 (jB s) (by decide) hk (.inr (.inr (by rcases cu h with ⟨h',-⟩ | ⟨h',-⟩ | h' | h' <;> omega)))
   ·next n1 =>
    have hs:G6 s=1:=Classical.not_not.1 n1
    have hlt:s.md≠2∧s.hd<s.tl:=by rcases cu h with ⟨-,h'⟩ | ⟨h',-⟩ | ⟨h',-⟩ | ⟨h',-⟩ <;> omega
    have hc:=M3 (C8 h).1
    have hb:=mr h hn h1 hs
    have hn' : n<((s.toWord (s.hd+1) s.tl s.md).onTh n (l8 · s.hd 4)).th.length:=by show n<(s.th.set n _).length;simpa using hn
    have hg' := K7 (s:=s.toWord (s.hd+1) s.tl s.md) (n:=n) hn (l8 · s.hd 4)
    have hlg:=xQ hb (n:=n) hn' (gth s.th n).ki 1 (Q7 s s.hd) 4
    refine .inr ⟨_,hlg,rfl,?_⟩
    have hq:quV (D7 ((s.toWord (s.hd+1) s.tl s.md).onTh n (l8 · s.hd 4)) n (gth s.th n).ki 1 (Q7 s s.hd) 4)=quV ((s.toWord (s.hd+1) s.tl s.md).onTh n (l8 · s.hd 4)):=nN hb hn' (by rw [hg'];exact h1) (by decide) (by decide)
    rw [hq,← KC h hb rfl rfl rfl rfl rfl hlt.2]
    obtain ⟨k1,k2⟩:=zT hk
    obtain ⟨c1,c2,c3⟩:=nz h
    unfold Qu.tell
    rw [if_neg (by rw [k1];decide),if_pos k2]
    unfold Qu.recv
    rw [if_pos rfl,if_neg (by rw [c3];exact hlt.1),jP h (by omega)]
 ·rw [qw p]
  exact .inl ⟨rfl,Zq h hn h1⟩
 ·rw [qK p];exact P7 h (jJ hg h1 (by omega) (by decide))
 ·refine no ?_ hst ?_ ?_ ?_ ?_ ?_ <;> rw [rz p] <;> unfold notifyR G9 <;> (repeat' split) <;> rfl
 ·rw [qx p]
  split
  ·exact P7 h (D9 hg h1 (by decide))
  ·exact P7 h (D9 hg h1 (by decide))
 ·refine no ?_ hst ?_ ?_ ?_ ?_ ?_ <;> rw [qR p] <;> unfold commitR <;> (repeat' split) <;> rfl
 ·refine no ?_ hst ?_ ?_ ?_ ?_ ?_ <;> rw [iH p] <;> rfl
end
section
open Go.RowKit
structure Dr (s:St) (n:Nat) (c:Int):Prop where
 ck:stB s=true
 ok:s.ok
 few:s.few
 hn:n<s.th.length
 st:(gth s.th n).st=1
 sd:j6 (gth s.th n).ki=2
 pc:(gth s.th n).pc=c
section
variable {s:St} {n:Nat} {c:Int}
theorem Dr.ht (h:Dr s n c):gth s.th n=pcT (gth s.th n) c:=by rw [← h.pc];rfl
theorem Dr.has (h:Dr s n c):hasB s n=true:=aa h.ck h.hn
theorem Dr.ru (h:Dr s n c):J8 s n 2=true:=I6.2 ⟨h.has,by simpa using h.st,by simpa using h.sd⟩
theorem Dr.rs (h:Dr s n c):H7 (gth s.th n).st=0:=by rw [h.st];rfl
theorem Dr.sl (h:Dr s n c):fH s.sl=true:=(C8 h.ck).2.1
theorem Dr.nx {v:Int} (_h:Dr s n c) (hn:ve s (gth s.th n).tr=v):AC Tryz.prog 222 [cfT s.cf,.int .i64 (gth s.th n).tr] (.int .i64 v):=by subst hn;exact DC s.cf (gth s.th n).tr
end
end
section
open Go.RowKit
theorem Gp {s:St} {n:Nat} (h:Vk s) (hB:stB s=true) (hn:n<s.th.length) (h1:(gth s.th n).st≠0):Vk (recvN s n):=by
 have same:∀ {u:St},u.cf=s.cf→u.sl=s.sl→u.th=s.th→Vk u:=fun e1 e2 e3=>⟨e1 ▸ h.cf,fun x hx=>h.sl x (e2 ▸ hx),fun t ht=>h.th t (e3 ▸ ht)⟩
 have h0:(0:Int)=0:=rfl
 have z:In64 0:=by decide
 refine jD (P:=fun u=>Vk u) ?_ ?_ ?_ ?_ ?_ ?_ ?_ ?_ ?_ ?_
 ·exact (same (u:=s.toRc (Z0 s.rc n)) rfl rfl rfl).on hn fun _=>⟨rfl,rfl⟩
 ·unfold firstR;repeat' split
  ·exact h.on hn fun _=>⟨rfl,rfl⟩
  ·exact h.told hB hn (.inr z)
  ·exact h.on hn fun _=>⟨rfl,rfl⟩
 ·unfold lookR;repeat' split
  ·exact h.on hn fun _=>⟨rfl,rfl⟩
  ·exact h.told hB hn (.inr z)
  ·exact h.told hB hn (.inr z)
  ·exact h.told hB hn (.inr z)
  ·exact h.on hn fun _=>⟨rfl,rfl⟩
  ·exact h.on hn fun _=>⟨rfl,rfl⟩
 ·unfold takeR;repeat' split
  ·exact h.on hn fun _=>⟨rfl,rfl⟩
  ·exact h.told hB hn (.inr z)
  ·next h2 h3 =>
   have hs:G6 s=1:=Classical.not_not.1 h3
   have hv:Vk ((s.toWord (s.hd+1) s.tl s.md).onTh n (l8 · s.hd 4)):=(same (u:=s.toWord (s.hd+1) s.tl s.md) rfl rfl rfl).on hn fun _=>⟨rfl,rfl⟩
   refine hv.told (mr hB hn h1 hs) (by show n<(s.th.set n _).length;simpa using hn) (.inr ?_)
   have hg:∀ q,In64 (gs s.sl q).vl:=fun q=>by
    unfold gs
    rw [List.getD_eq_getElem?_getD]
    cases hx:s.sl[q]? with
    | none=>exact z
    | some x=>exact h.sl x (List.mem_of_getElem? hx)
   unfold Q7
   repeat' split
   all_goals first | exact z | exact hg _
 ·unfold readR
  have hsl:∀ x∈rlL s.sl (gth s.th n).re,In64 x.vl:=fun x hx=>by
   unfold rlL at hx
   split at hx
   ·rcases List.mem_or_eq_of_mem_set hx with h2 | rfl
    ·exact h.sl x h2
    ·show In64 (gs s.sl _).vl
     unfold gs
     rw [List.getD_eq_getElem?_getD]
     cases hx:s.sl[plc s.sl (gth s.th n).re]? with
     | none=>exact z
     | some x=>exact h.sl x (List.mem_of_getElem? hx)
   ·exact h.sl x hx
  have hv:Vk (s.toSl (rlL s.sl (gth s.th n).re)):=⟨h.cf,hsl,h.th⟩
  refine hv.set ⟨(h.th _ (pW hn)).1,?_⟩
  show In64 (rdV s.sl (gth s.th n).re)
  unfold rdV
  split
  ·unfold gs
   rw [List.getD_eq_getElem?_getD]
   cases hx:s.sl[plc s.sl (gth s.th n).re]? with
   | none=>exact z
   | some x=>exact h.sl x (List.mem_of_getElem? hx)
  ·exact z
 ·exact h.on hn fun _=>⟨rfl,rfl⟩
 ·have hv:Vk ((s.toFull (ntE s.fe s.fl) (ntL 1 s.fe s.fl)).onTh n (pcT · 9)):=(same (u:=s.toFull (ntE s.fe s.fl) (ntL 1 s.fe s.fl)) rfl rfl rfl).on hn fun _=>⟨rfl,rfl⟩
  unfold notifyR;split
  ·exact hv.wake _
  ·exact hv
 ·split <;> exact h.on hn fun _=>⟨rfl,rfl⟩
 ·unfold commitR;repeat' split
  ·exact h.on hn fun _=>⟨rfl,rfl⟩
  ·exact (same (u:=s.toEmpty s.ee (s.el++[(n:Int)])) rfl rfl rfl).on hn fun _=>⟨rfl,rfl⟩
  ·exact h.on hn fun _=>⟨rfl,rfl⟩
 ·exact (same (u:=s.toRc (lvL s.rc n)) rfl rfl rfl).on hn fun _=>⟨rfl,rfl⟩
theorem DX {s:St} {n:Nat} (h:J8 s n 2=true):ai s n=recvN s n:=by unfold ai;rw [if_pos h,Int.toNat_natCast]
theorem NS {s:St} (hB:stB s=true) (ho:s.ok) (hl:s.lg.length≤900000) (i:Int):(ai s i).ok∧(ai s i).lg.length≤s.lg.length+1:=by
 have hlg:(ai s i).lg.length≤s.lg.length+1:=by
  rcases (pE s i).1 with h | ⟨x,h⟩ <;> rw [h] <;> simp
 refine ⟨?_,hlg⟩
 cases hr:J8 s i 2
 ·have:ai s i=s:=by simp [ai,hr]
  rw [this];exact ho
 ·obtain ⟨h1,h2,h3⟩:=I6.1 hr
  obtain ⟨-,hi0,hi1⟩:=J5.1 h1
  obtain ⟨n,rfl⟩:∃ n:Nat,i=n:=⟨i.toNat,by omega⟩
  have hn:n<s.th.length:=by omega
  rw [Int.toNat_natCast] at h2
  rw [DX hr] at hlg ⊢
  exact Ao (gz hB hn (by omega)) (Gp (.of ho) hB hn (by omega)) (by omega)
end
section
open Go.RowKit
section
variable {s:St} {n:Nat} {c:Int}
end
end
section
def Q3 (k:Int):Int:=if k=7 then 1 else if k=8 then 2 else 0
def J9:List Int→St→St
 | [],s=>s
 | i::l,s=>J9 l (G9 s i)
def bP (s:St) (n:Nat):St:=D7 (s.toWord s.hd s.tl (clM s.md (Q3 (gth s.th n).ki))) n (gth s.th n).ki 1 0 1
def bR (s:St) (n:Nat):St:=J9 (ntT s.fl.length s.fe s.fl) ((s.toFull (ntE s.fe s.fl) (ntL s.fl.length s.fe s.fl)).onTh n (pcT · 2))
def Y9 (s:St) (n:Nat):St:=J9 (ntT s.el.length s.ee s.el) ((s.toEmpty (ntE s.ee s.el) (ntL s.el.length s.ee s.el)).onTh n E9)
def closeN (s:St) (n:Nat):St:=if (gth s.th n).pc=0 then bP s n else if (gth s.th n).pc=1 then bR s n else Y9 s n
def P8 (s:St) (i:Int):St:=if J8 s i 3=true then closeN s i.toNat else s
def J6 (s:St) (i:Int):Nat→St×Nat
 | 0=>(s,0)
 | k+1=>if J8 s i 3=true then ((J6 (P8 s i) i k).1,(J6 (P8 s i) i k).2+1) else (s,0)
theorem bz {P:St→Prop} {s:St} {n:Nat} (h0:P (bP s n)) (h1:P (bR s n)) (h2:P (Y9 s n)):P (closeN s n):=by
 unfold closeN;split
 ·exact h0
 ·split
  ·exact h1
  ·exact h2
theorem uE (t:Th):D8 (D8 t)=D8 t:=by unfold D8;split <;> simp_all
theorem jF:∀ (l:List Int) (s:St),shr (J9 l s)=shr s
 | [],s=>rfl
 | i::l,s=>by show shr (J9 l (G9 s i))=_;rw [jF l,sD]
theorem bE (s:St) (i:Int):(G9 s i).lg=s.lg∧(G9 s i).cf=s.cf∧(G9 s i).nw=s.nw∧(G9 s i).th.length=s.th.length:=by
 unfold G9;split
 ·exact ⟨rfl,rfl,rfl,by simp [St.onTh,St.setTh]⟩
 ·exact ⟨rfl,rfl,rfl,rfl⟩
theorem L6:∀ (l:List Int) (s:St),(J9 l s).lg=s.lg∧(J9 l s).cf=s.cf∧(J9 l s).nw=s.nw∧(J9 l s).th.length=s.th.length
 | [],s=>⟨rfl,rfl,rfl,rfl⟩
 | i::l,s=>by
  obtain ⟨a,b,c,d⟩:=L6 l (G9 s i)
  obtain ⟨a',b',c',d'⟩:=bE s i
  exact ⟨a.trans a',b.trans b',c.trans c',d.trans d'⟩
theorem dI:∀ (l:List Int) {s:St},stB s=true→stB (J9 l s)=true
 | [],_,h=>h
 | i::l,_,h=>dI l (eU h i)
theorem Bw {s:St} (h:stB s=true) (i:Int) {j:Nat} (hj:j<s.th.length):gth (G9 s i).th j=if (j:Int)=i then D8 (gth s.th j) else gth s.th j:=by
 unfold G9
 split
 ·next hh =>
  have hi:=J5.1 hh
  show gth (s.th.set i.toNat (D8 (gth s.th i.toNat))) j=_
  rw [H9 (by omega)]
  by_cases e:i.toNat=j
  ·rw [if_pos e,if_pos (by omega),e]
  ·rw [if_neg e,if_neg (by omega)]
 ·next hh =>
  rw [if_neg]
  rintro rfl
  exact hh (aa h hj)
theorem mW:∀ (l:List Int) {s:St},stB s=true→∀ {j:Nat},j<s.th.length→gth (J9 l s).th j=if (j:Int)∈l then D8 (gth s.th j) else gth s.th j
 | [],s,h,j,hj=>by simp [J9]
 | i::l,s,h,j,hj=>by
  show gth (J9 l (G9 s i)).th j=_
  rw [mW l (eU h i) (by rw [(bE s i).2.2.2];exact hj),Bw h i hj]
  by_cases e:(j:Int)=i
  ·subst e
   simp [uE]
  ·simp [e]
theorem UT (k:Int):Q3 k=0∨Q3 k=1∨Q3 k=2:=by unfold Q3;(repeat' split) <;> simp
theorem ZB {m d:Int} (h:0≤m∧m≤2):0≤clM m d∧clM m d≤2:=by unfold clM;split <;> omega
theorem bM {s:St} (h:stB s=true) (d:Int):stB (s.toWord s.hd s.tl (clM s.md d))=true:=by
 have c:=I7.1 (C8 h).1
 have:=ZB (m:=s.md) (d:=d) (by omega)
 exact M6 h (I7.2 (by omega))
theorem aS {ep:Int} {l:List Int} (h:okE ep l=true):ntE ep l=nxE ep∧ntL l.length ep l=[]∧ntT l.length ep l=l:=by simp [ntE,ntL,ntT,h]
theorem JC (m:Int):W9 m []=true:=rfl
theorem Fv {s:St} (h:stB s=true):stB (s.toFull (ntE s.fe s.fl) (ntL s.fl.length s.fe s.fl))=true:=by
 obtain ⟨-,-,-,-,e,-⟩:=l6 h
 obtain ⟨e1,e2,-⟩:=aS e
 rw [e1,e2]
 exact eu h (fF e rfl) (JC _)
theorem Aj {s:St} (h:stB s=true):stB (s.toEmpty (ntE s.ee s.el) (ntL s.el.length s.ee s.el))=true:=by
 obtain ⟨-,-,-,-,-,e⟩:=l6 h
 obtain ⟨e1,e2,-⟩:=aS e
 rw [e1,e2]
 exact bL h (fF e rfl) (JC _)
theorem og {s:St} (h:stB s=true) {n:Nat} (hn:n<s.th.length) (h1:(gth s.th n).st≠0):stB ((s.toFull (ntE s.fe s.fl) (ntL s.fl.length s.fe s.fl)).onTh n (pcT · 2))=true :=
 r9 (Fv h) (D9 (l9 h hn) h1 (by decide))
theorem jG {s:St} (h:stB s=true) {n:Nat} (hn:n<s.th.length) (h1:(gth s.th n).st≠0):stB ((s.toEmpty (ntE s.ee s.el) (ntL s.el.length s.ee s.el)).onTh n E9)=true :=
 r9 (Aj h) (xU (l9 h hn) h1)
theorem dL {s:St} (h:stB s=true) {n:Nat} (hn:n<s.th.length) (h1:(gth s.th n).st≠0):stB (closeN s n)=true :=
 bz (P:=fun u=>stB u=true) (O9 (bM h _) hn h1 (by decide) (by decide)) (dI _ (og h hn h1)) (dI _ (jG h hn h1))
theorem ZM (s:St) (i:Int):stB (P8 s i)=stB s:=by
 unfold P8
 split
 ·next hr =>
  obtain ⟨hh,h1,-⟩:=I6.1 hr
  obtain ⟨h,h2,h3⟩:=J5.1 hh
  rw [h]
  exact dL h (by omega) (by omega)
 ·rfl
theorem S9 {s:St} {i:Int} (h:J8 s i 3=false) (k:Nat):J6 s i k=(s,0):=by
 cases k with
 | zero=>rfl
 | succ k=>simp [J6,h]
theorem X6 {s:St} {i:Int} (h:J8 s i 3=true) (k:Nat):J6 s i (k+1)=((J6 (P8 s i) i k).1,(J6 (P8 s i) i k).2+1):=by simp [J6,h]
structure OthM (l m:List Th) (i:Int):Prop where
 len:m.length=l.length
 one:∀ j:Nat,j<l.length→(j:Int)≠i→gth m j=gth l j∨((gth l j).st=2∧gth m j=D8 (gth l j))
theorem OthM.refl (l:List Th) (i:Int):OthM l l i:=⟨rfl,fun _ _ _=>.inl rfl⟩
theorem OthM.set {l:List Th} {n:Nat} (t:Th):OthM l (l.set n t) n:=⟨by simp,fun j hj hne=>.inl (by
 by_cases hn:n<l.length
 ·rw [H9 hn,if_neg (by omega)]
 ·rw [List.set_eq_of_length_le (by omega)])⟩
theorem OthM.wakes {l:List Th} {i:Int} {s:St} (h:OthM l s.th i) (hs:stB s=true) (k:List Int):OthM l (J9 k s).th i:=⟨(L6 k s).2.2.2.trans h.len,fun j hj hne=>by
 rw [mW k hs (by rw [h.len];exact hj)]
 have key:∀ t:Th,D8 t=t∨(t.st=2∧D8 t=D8 t):=fun t=>by
  by_cases h2:t.st=2
  ·exact .inr ⟨h2,rfl⟩
  ·left;unfold D8;rw [if_neg h2]
 split
 ·rcases h.one j hj hne with e | ⟨e1,e2⟩
  ·rw [e];exact key _
  ·rw [e2,uE];exact .inr ⟨e1,rfl⟩
 ·exact h.one j hj hne⟩
theorem bu {s:St} (h:stB s=true) {n:Nat} (hn:n<s.th.length) (h1:(gth s.th n).st≠0):OthM s.th (closeN s n).th n:=by
 refine bz (P:=fun u=>OthM s.th u.th n) ?_ ?_ ?_
 ·unfold bP
  obtain ⟨t,ht⟩:=vU (s.toWord s.hd s.tl (clM s.md (Q3 (gth s.th n).ki))) n (gth s.th n).ki 1 0 1
  rw [ht];exact OthM.set t
 ·exact OthM.wakes (s:=(s.toFull (ntE s.fe s.fl) (ntL s.fl.length s.fe s.fl)).onTh n (pcT · 2)) (OthM.set _) (og h hn h1) _
 ·exact OthM.wakes (s:=(s.toEmpty (ntE s.ee s.el) (ntL s.el.length s.ee s.el)).onTh n E9) (OthM.set _) (jG h hn h1) _
theorem GL {s:St} {i:Int}:OthM s.th (P8 s i).th i:=by
 unfold P8;split
 ·next hr =>
  obtain ⟨hh,h1,-⟩:=I6.1 hr
  obtain ⟨h,h2,h3⟩:=J5.1 hh
  have h4:=bu h (n:=i.toNat) (by omega) (by omega)
  rwa [Int.toNat_of_nonneg h2] at h4
 ·exact OthM.refl _ _
theorem fB {s:St} {n:Nat}:fA s.lg (closeN s n).lg∧(closeN s n).cf=s.cf∧(closeN s n).nw=s.nw:=by
 refine bz (P:=fun u=>fA s.lg u.lg∧u.cf=s.cf∧u.nw=s.nw) ?_ ?_ ?_
 ·unfold bP
  exact ⟨BK _ n _ _ _ _,kG _ n _ _ _⟩
 ·unfold bR
  obtain ⟨a,b,c,-⟩:=L6 (ntT s.fl.length s.fe s.fl) ((s.toFull (ntE s.fe s.fl) (ntL s.fl.length s.fe s.fl)).onTh n (pcT · 2))
  exact ⟨.inl a,b,c⟩
 ·unfold Y9
  obtain ⟨a,b,c,-⟩:=L6 (ntT s.el.length s.ee s.el) ((s.toEmpty (ntE s.ee s.el) (ntL s.el.length s.ee s.el)).onTh n E9)
  exact ⟨.inl a,b,c⟩
theorem uR (s:St) (i:Int):fA s.lg (P8 s i).lg∧(P8 s i).cf=s.cf∧(P8 s i).nw=s.nw:=by
 unfold P8;split
 ·exact fB
 ·exact ⟨.inl rfl,rfl,rfl⟩
theorem a0o {k:Int} (h:j6 k=3):F5 k=false∧I5 k=false∧(k=7∨k=8):=by have:=X0 k;simp [F5,I5];omega
theorem a3v {m:Int} (h:0≤m∧m≤2):clM m (Q3 7)=gW m:=by
 obtain rfl | rfl | rfl:m=0∨m=1∨m=2:=by omega
 all_goals rfl
theorem a3E {m:Int} (h:0≤m∧m≤2):clM m (Q3 8)=2:=by
 obtain rfl | rfl | rfl:m=0∨m=1∨m=2:=by omega
 all_goals rfl
theorem OV {s a:St} (h:stB s=true) (ha:stB a=true) (h1:a.hd=s.hd) (h2:a.tl=s.tl) (h4:a.sl=s.sl) (h5:a.cf=s.cf):quV a=⟨(quV s).vals,(quV s).cap,(quV s).pol,a.md⟩:=by
 have hat:∀ p,atV a p=atV s p:=fun p=>by unfold atV;rw [h4]
 rw [ae h,ae ha]
 simp only [hat,h1,h2,h5]
theorem Xy {s:St} (h:stB s=true) {n:Nat} (hn:n<s.th.length) (h1:(gth s.th n).st≠0) (hk:j6 (gth s.th n).ki=3):sH s (bP s n) n:=by
 have hw:=bM h (Q3 (gth s.th n).ki)
 have hlg:=xQ hw (n:=n) hn (gth s.th n).ki 1 0 1
 refine .inr ⟨_,hlg,rfl,?_⟩
 have hq:quV (bP s n)=quV (s.toWord s.hd s.tl (clM s.md (Q3 (gth s.th n).ki))):=nN hw (n:=n) hn h1 (by decide) (by decide)
 rw [hq,OV (a:=s.toWord s.hd s.tl (clM s.md (Q3 (gth s.th n).ki))) h hw rfl rfl rfl rfl]
 obtain ⟨k1,k2,k3⟩:=a0o hk
 obtain ⟨c1,c2,c3⟩:=nz h
 have c:=I7.1 (C8 h).1
 show (quV s).tell ⟨n,(gth s.th n).ki,_,1,0⟩=(⟨(quV s).vals,(quV s).cap,(quV s).pol,clM s.md (Q3 (gth s.th n).ki)⟩,true)
 unfold Qu.tell
 rw [if_neg (by rw [k1];decide),if_neg (by rw [k2];decide),if_neg (show ¬ (1:Int)≠1 by decide)]
 rcases k3 with k | k
 ·rw [if_pos k,k,c3]
  rw [a3v (by omega)]
 ·rw [if_neg (show ¬ (gth s.th n).ki=7 by omega),if_pos k,k]
  rw [a3E (by omega)]
theorem NA {s:St} (h:stB s=true) {n:Nat} (hn:n<s.th.length) (h1:(gth s.th n).st≠0) (hk:j6 (gth s.th n).ki=3):sH s (closeN s n) n:=by
 refine bz (P:=fun u=>sH s u n) (Xy h hn h1 hk) ?_ ?_
 ·have hs:=jF (ntT s.fl.length s.fe s.fl) ((s.toFull (ntE s.fe s.fl) (ntL s.fl.length s.fe s.fl)).onTh n (pcT · 2))
  simp only [shr,Prod.mk.injEq] at hs
  obtain ⟨a,b,-,-⟩:=L6 (ntT s.fl.length s.fe s.fl) ((s.toFull (ntE s.fe s.fl) (ntL s.fl.length s.fe s.fl)).onTh n (pcT · 2))
  exact .inl ⟨a,kK ((dI _ (og h hn h1)).trans h.symm) hs.1.1 hs.1.2.1 hs.1.2.2 hs.2.1 b⟩
 ·have hs:=jF (ntT s.el.length s.ee s.el) ((s.toEmpty (ntE s.ee s.el) (ntL s.el.length s.ee s.el)).onTh n E9)
  simp only [shr,Prod.mk.injEq] at hs
  obtain ⟨a,b,-,-⟩:=L6 (ntT s.el.length s.ee s.el) ((s.toEmpty (ntE s.ee s.el) (ntL s.el.length s.ee s.el)).onTh n E9)
  exact .inl ⟨a,kK ((dI _ (jG h hn h1)).trans h.symm) hs.1.1 hs.1.2.1 hs.1.2.2 hs.2.1 b⟩
end
section
open Go.RowKit
section
variable {k h t m d:Int}
theorem OZ (k:Int):AC Tryz.prog 345 [.int .i64 k] (.int .i64 (Q3 k)):=by
 by_cases h7:k=7
 ·subst h7;exact d9 mixed (ext:=[]) (fuel:=9) (n:=3) (orc:=[.nilFunc]) trivial (by kernel_rfl)
 ·by_cases h8:k=8
  ·subst h8;exact d9 mixed (ext:=[]) (fuel:=9) (n:=3) (orc:=[.nilFunc,.nilFunc]) trivial (by kernel_rfl)
  ·rw [show Q3 k=0 by simp [Q3,h7,h8]]
   exact d9 mixed (ext:=[]) (fuel:=9) (n:=3) (orc:=[.bool false,.bool false]) (an (show (k==7)=false by simp [h7])<|an (show (k==8)=false by simp [h8]) trivial) (by kernel_rfl)
theorem YA (h:m<d) (hd:d=1∨d=2):clM m d=d:=by unfold clM;rw [if_pos ⟨hd,h⟩]
theorem YW (h:¬ m<d):clM m d=m:=by unfold clM;rw [if_neg (fun e=>h e.2)]
theorem Nr (hd:d=0∨d=1∨d=2):AC Tryz.prog 344 [wdT h t m,.int .i64 d] (wdT h t (clM m d)):=by
 rcases hd with rfl | rfl | rfl
 ·rw [show clM m 0=m by simp [clM]]
  exact d9 mixed (ext:=[]) (fuel:=9) (n:=3) (orc:=[.nilFunc,.nilFunc]) trivial (by kernel_rfl)
 ·by_cases hm:m<1
  ·rw [YA hm (.inl rfl)]
   exact d9 mixed (ext:=[]) (fuel:=9) (n:=3) (orc:=[.nilFunc,.bool false]) (an (show decide ((1:Int)≤m)=false by simp;omega) trivial) (by kernel_rfl)
  ·rw [YW hm]
   exact d9 mixed (ext:=[]) (fuel:=9) (n:=3) (orc:=[.nilFunc,.bool true]) (an (show decide ((1:Int)≤m)=true by simp;omega) trivial) (by kernel_rfl)
 ·by_cases hm:m<2
  ·rw [YA hm (.inr rfl)]
   exact d9 mixed (ext:=[]) (fuel:=9) (n:=3) (orc:=[.nilFunc,.nilFunc,.bool false]) (an (show decide ((2:Int)≤m)=false by simp;omega) trivial) (by kernel_rfl)
  ·rw [YW hm]
   exact d9 mixed (ext:=[]) (fuel:=9) (n:=3) (orc:=[.nilFunc,.nilFunc,.bool true]) (an (show decide ((2:Int)≤m)=true by simp;omega) trivial) (by kernel_rfl)
end
end
section
theorem bG {s:St} {i:Int} (h:J8 s i 3=true):P8 s i=closeN s i.toNat:=by unfold P8;rw [if_pos h]
theorem gM {s:St} {n:Nat} (h:(gth s.th n).pc=0):closeN s n=bP s n:=by unfold closeN;rw [if_pos h]
theorem iC {s:St} {n:Nat} (h:(gth s.th n).pc=1):closeN s n=bR s n:=by unfold closeN;rw [if_neg (by omega),if_pos h]
theorem jM {s:St} {n:Nat} (h0:(gth s.th n).pc≠0) (h1:(gth s.th n).pc≠1):closeN s n=Y9 s n:=by unfold closeN;rw [if_neg h0,if_neg h1]
theorem nM {t:Th} (h:t.st≠2):D8 t=t:=by unfold D8;rw [if_neg h]
section
variable {s:St} (h:stB s=true) {n:Nat} (hn:n<s.th.length) (h1:(gth s.th n).st=1)
include h hn
theorem wK (j:Nat):gth (bP s n).th j=if j=n then pcT (F3 (gth s.th n) (gth s.th n).ki 1 0) 1 else gth s.th j:=by
 have hw:=bM h (Q3 (gth s.th n).ki)
 unfold bP D7
 rw [dQ (n:=n) hw hn]
 show gth ((s.th.set n (F3 (gth s.th n) (gth s.th n).ki 1 0)).set n (pcT (gth (s.th.set n (F3 (gth s.th n) (gth s.th n).ki 1 0)) n) 1)) j=_
 rw [List.set_set,H9 hn,H9 hn,if_pos rfl]
 by_cases e:n=j
 ·rw [if_pos e,if_pos e.symm]
 ·rw [if_neg e,if_neg (fun x=>e x.symm)]
include h1
theorem mY {j:Nat} (hj:j<s.th.length):gth (bR s n).th j=if j=n then pcT (gth s.th n) 2 else if (j:Int)∈s.fl then D8 (gth s.th j) else gth s.th j:=by
 have hb:=og h hn (by omega)
 have e3:=(aS (l6 h).2.2.2.2.1).2.2
 unfold bR
 rw [mW _ hb (by show j<(s.th.set n _).length;simpa using hj),e3]
 have e:gth ((s.toFull (ntE s.fe s.fl) (ntL s.fl.length s.fe s.fl)).onTh n (pcT · 2)).th j=if n=j then pcT (gth s.th n) 2 else gth s.th j:=H9 hn
 rw [e]
 by_cases c:j=n
 ·subst c
  rw [if_pos rfl,if_pos rfl,nM (show (pcT (gth s.th j) 2).st≠2 by show (gth s.th j).st≠2;omega)]
  simp
 ·have c' : ¬ n=j:=fun x=>c x.symm
  simp only [if_neg c,if_neg c']
theorem jC {j:Nat} (hj:j<s.th.length):gth (Y9 s n).th j=if j=n then E9 (gth s.th n) else if (j:Int)∈s.el then D8 (gth s.th j) else gth s.th j:=by
 have hb:=jG h hn (by omega)
 have e3:=(aS (l6 h).2.2.2.2.2).2.2
 unfold Y9
 rw [mW _ hb (by show j<(s.th.set n _).length;simpa using hj),e3]
 have e:gth ((s.toEmpty (ntE s.ee s.el) (ntL s.el.length s.ee s.el)).onTh n E9).th j=if n=j then E9 (gth s.th n) else gth s.th j:=H9 hn
 rw [e]
 by_cases c:j=n
 ·subst c
  rw [if_pos rfl,if_pos rfl,nM (show (E9 (gth s.th j)).st≠2 by show (0:Int)≠2;decide)]
  simp
 ·have c' : ¬ n=j:=fun x=>c x.symm
  simp only [if_neg c,if_neg c']
end
theorem EX (s:St) (n:Nat):shr (bP s n)=shr (s.toWord s.hd s.tl (clM s.md (Q3 (gth s.th n).ki))):=iA _ _ _ _ _ _
theorem qQ (s:St) (n:Nat):shr (bR s n)=shr (s.toFull (ntE s.fe s.fl) (ntL s.fl.length s.fe s.fl)):=jF _ _
theorem nD (s:St) (n:Nat):shr (Y9 s n)=shr (s.toEmpty (ntE s.ee s.el) (ntL s.el.length s.ee s.el)):=jF _ _
theorem vR {s:St} (h:stB s=true) {n:Nat} (hn:n<s.th.length) (h1:(gth s.th n).st=1) (h2:j6 (gth s.th n).ki=3):J8 s n 3=true:=by
 refine I6.2 ⟨aa h hn,?_,?_⟩ <;> rw [Int.toNat_natCast] <;> assumption
theorem Ll {s:St} {n:Nat} (h1:(gth s.th n).st≠1):J8 s n 3=false:=by
 cases h:J8 s n 3
 ·rfl
 ·have:=(I6.1 h).2.1;rw [Int.toNat_natCast] at this;exact absurd this h1
theorem three {s:St} (h:stB s=true) {n:Nat} (hn:n<s.th.length) (h1:(gth s.th n).st=1) (hk:j6 (gth s.th n).ki=3) (hp:(gth s.th n).pc=0) (m:Nat) :
  ∃ u:St,J6 s n (m+3)=(u,3)∧stB u=true∧u.md=clM s.md (Q3 (gth s.th n).ki)∧u.hd=s.hd∧u.tl=s.tl∧u.fl=[]∧u.el=[]∧u.fe=nxE s.fe∧u.ee=nxE s.ee∧u.cf=s.cf∧u.nw=s.nw∧u.sl=s.sl∧u.sn=s.sn∧u.rc=s.rc ∧
   u.lg=s.lg++[⟨n,(gth s.th n).ki,(gth s.th n).va,1,0⟩]∧u.th.length=s.th.length∧gth u.th n=E9 (F3 (gth s.th n) (gth s.th n).ki 1 0) ∧
   ∀ j:Nat,j<s.th.length→j≠n→(gth u.th j=gth s.th j∨gth u.th j=D8 (gth s.th j))∧((j:Int)∈s.fl∨(j:Int)∈s.el→gth u.th j=D8 (gth s.th j)):=by
 have ki9:(gth s.th n).ki≠9:=fun e=>by rw [e] at hk;exact absurd hk (by decide)
 have e9:∀ t:Th,F3 t (gth s.th n).ki 1 0=⟨t.st,t.ki,t.va,t.un,t.pc,t.re,t.se,t.tr,t.la,1,0⟩:=fun t=>by unfold F3;rw [if_neg ki9]
 have r0:=vR h hn h1 hk
 have b1:=dL h hn (by omega)
 have l1:=(bu h hn (by omega)).len
 have q1:=EX s n
 have g1:=wK h hn
 have o1:=fB (s:=s) (n:=n)
 have lg1:(bP s n).lg=s.lg++[⟨n,(gth s.th n).ki,(gth s.th n).va,1,0⟩]:=xQ (bM h (Q3 (gth s.th n).ki)) (n:=n) hn (gth s.th n).ki 1 0 1
 rw [gM hp] at b1 l1 o1
 simp only [shr,Prod.mk.injEq] at q1
 have s0:P8 s n=bP s n:=by rw [bG r0,Int.toNat_natCast,gM hp]
 obtain ⟨⟨w1,w2,w3⟩,w4,w5,w6,⟨w7,w8⟩,w9,w10⟩:=q1
 generalize bP s n=a at *
 have ga:=g1 n
 rw [if_pos rfl,e9] at ga
 have na:n<a.th.length:=by omega
 have a1:(gth a.th n).st=1:=by rw [ga];exact h1
 have ak:j6 (gth a.th n).ki=3:=by rw [ga];exact hk
 have ap:(gth a.th n).pc=1:=by rw [ga];rfl
 have r1:=vR b1 na a1 ak
 have b2:=dL b1 na (by omega)
 have l2:=(bu b1 na (by omega)).len
 have q2:=qQ a n
 have g2:=fun (j:Nat) (hj:j<a.th.length)=>mY b1 na a1 hj
 have o2:=fB (s:=a) (n:=n)
 have lg2:(bR a n).lg=a.lg:=(L6 _ _).1
 rw [iC ap] at b2 l2 o2
 obtain ⟨f1,f2,-⟩:=aS (l6 b1).2.2.2.2.1
 simp only [shr,Prod.mk.injEq,f1,f2] at q2
 have s1:P8 a n=bR a n:=by rw [bG r1,Int.toNat_natCast,iC ap]
 obtain ⟨⟨x1,x2,x3⟩,x4,x5,x6,⟨x7,x8⟩,x9,x10⟩:=q2
 generalize bR a n=b at *
 have gb:=g2 n na
 rw [if_pos rfl,ga] at gb
 have nb:n<b.th.length:=by omega
 have b1' : (gth b.th n).st=1:=by rw [gb];exact h1
 have bk:j6 (gth b.th n).ki=3:=by rw [gb];exact hk
 have bp:(gth b.th n).pc=2:=by rw [gb];rfl
 have r2:=vR b2 nb b1' bk
 have b3:=dL b2 nb (by omega)
 have l3:=(bu b2 nb (by omega)).len
 have q3:=nD b n
 have g3:=fun (j:Nat) (hj:j<b.th.length)=>jC b2 nb b1' hj
 have o3:=fB (s:=b) (n:=n)
 have lg3:(Y9 b n).lg=b.lg:=(L6 _ _).1
 rw [jM (by omega) (by omega)] at b3 l3 o3
 obtain ⟨f3,f4,-⟩:=aS (l6 b2).2.2.2.2.2
 simp only [shr,Prod.mk.injEq,f3,f4] at q3
 have s2:P8 b n=Y9 b n:=by rw [bG r2,Int.toNat_natCast,jM (by omega) (by omega)]
 obtain ⟨⟨y1,y2,y3⟩,y4,y5,y6,⟨y7,y8⟩,y9,y10⟩:=q3
 generalize Y9 b n=u at *
 have gu:=g3 n nb
 rw [if_pos rfl,gb] at gu
 have r3:J8 u n 3=false:=Ll (by rw [gu];show (0:Int)≠1;decide)
 refine ⟨u,?_,b3,?_,?_,?_,?_,?_,?_,?_,?_,?_,?_,?_,?_,?_,?_,?_,?_⟩
 ·rw [X6 r0,s0,X6 r1,s1,X6 r2,s2,S9 r3]
 ·rw [y3];exact x3.trans w3
 ·rw [y1];exact x1.trans w1
 ·rw [y2];exact x2.trans w2
 ·rw [y8];exact x8
 ·exact y10
 ·rw [y7];show b.fe=_;rw [x7];show nxE a.fe=_;rw [w7];rfl
 ·rw [y9];show nxE b.ee=_;rw [x9];show nxE a.ee=_;rw [w9];rfl
 ·exact o3.2.1.trans (o2.2.1.trans o1.2.1)
 ·exact o3.2.2.trans (o2.2.2.trans o1.2.2)
 ·rw [y4];exact x4.trans w4
 ·rw [y5];exact x5.trans w5
 ·rw [y6];exact x6.trans w6
 ·rw [lg3,lg2,lg1]
 ·omega
 ·rw [gu,e9];rfl
 ·intro j hj hne
  have e1:=g1 j
  have e2:=g2 j (by omega)
  have e3:=g3 j (by omega)
  rw [if_neg hne] at e1 e2 e3
  have hfl:a.fl=s.fl:=w8
  have hel:b.el=s.el:=x10.trans w10
  rw [hfl,e1] at e2
  rw [hel,e2] at e3
  rw [e3]
  by_cases c1:(j:Int)∈s.fl
  ·rw [if_pos c1,uE]
   refine ⟨?_,fun _=>?_⟩
   ·right;split <;> rfl
   ·split <;> rfl
  ·rw [if_neg c1]
   by_cases c2:(j:Int)∈s.el
   ·rw [if_pos c2];exact ⟨.inr rfl,fun _=>rfl⟩
   ·rw [if_neg c2];exact ⟨.inl rfl,fun x=>absurd x (by simp [c1,c2])⟩
theorem Bz {s:St} {n:Nat} (m:Nat):(J6 s n m).2≤3:=by
 cases h0:J8 s n 3
 ·rw [S9 h0];omega
 obtain ⟨hh,h1,hk⟩:=I6.1 h0
 obtain ⟨h,-,hi⟩:=J5.1 hh
 rw [Int.toNat_natCast] at h1 hk
 have hn:n<s.th.length:=by omega
 have two:∀ {b:St},stB b=true→n<b.th.length→(gth b.th n).st=1→(gth b.th n).pc≠0→(gth b.th n).pc≠1→∀ k,(J6 b n k).2≤1:=fun {b} hb nb h1 p0 p1 k=>by
  cases k with
  | zero=>simp [J6]
  | succ k =>
   cases hr:J8 b n 3
   ·rw [S9 hr];omega
   ·rw [X6 hr,bG hr,Int.toNat_natCast,jM p0 p1]
    have:=jC hb nb h1 nb
    rw [if_pos rfl] at this
    rw [S9 (Ll (by rw [this];show (0:Int)≠1;decide))]
    show 0+1≤1;omega
 have one:∀ {b:St},stB b=true→n<b.th.length→(gth b.th n).st=1→(gth b.th n).pc≠0→∀ k,(J6 b n k).2≤2:=fun {b} hb nb h1 p0 k=>by
  by_cases p1:(gth b.th n).pc=1
  ·cases k with
   | zero=>simp [J6]
   | succ k =>
    cases hr:J8 b n 3
    ·rw [S9 hr];omega
    ·rw [X6 hr,bG hr,Int.toNat_natCast,iC p1]
     have hg:=mY hb nb h1 nb
     rw [if_pos rfl] at hg
     have hb' := dL hb nb (by omega)
     have hl:=(bu hb nb (by omega)).len
     rw [iC p1] at hb' hl
     have:=two hb' (by omega) (by rw [hg];exact h1) (by rw [hg];show (2:Int)≠0;decide) (by rw [hg];show (2:Int)≠1;decide) k
     show _+1≤2;omega
  ·have:=two hb nb h1 p0 p1 k;omega
 by_cases p0:(gth s.th n).pc=0
 ·cases m with
  | zero=>simp [J6]
  | succ k =>
   rw [X6 h0,bG h0,Int.toNat_natCast,gM p0]
   have hg:=wK h hn n
   rw [if_pos rfl] at hg
   have hb' := dL h hn (by omega)
   have hl:=(bu h hn (by omega)).len
   rw [gM p0] at hb' hl
   have hst:(F3 (gth s.th n) (gth s.th n).ki 1 0).st=1:=by rw [wV];exact h1
   have:=one hb' (by omega) (by rw [hg];exact hst) (by rw [hg];show (1:Int)≠0;decide) k
   show _+1≤3;omega
 ·have:=one h hn h1 p0 m;omega
end
section
open Go.RowKit
structure Wk (s:St) (N:Nat):Prop where
 b:stB s=true
 v:Vk s
 l:s.lg.length≤N
theorem Wk.ok {s:St} {N:Nat} (h:Wk s N) (hN:N≤1000000):s.ok:=Ao h.b h.v (by have:=h.l;omega)
theorem Wk.few {s:St} {N:Nat} (h:Wk s N) (hN:N≤1000):s.few:=a1n h.b (by have:=h.l;omega)
theorem Wk.fit {s:St} {N:Nat} (h:Wk s N) (hN:N≤1000000):s.fit:=lK h.b (by have:=h.l;omega)
theorem Wk.wake {s:St} {N:Nat} (h:Wk s N) (i:Int):Wk (G9 s i) N:=⟨eU h.b i,h.v.wake i,by rw [(bE s i).1];exact h.l⟩
theorem Wk.wakes {N:Nat}:∀ (l:List Int) {s:St},Wk s N→Wk (J9 l s) N
 | [],_,h=>h
 | i::l,_,h=>Wk.wakes l (h.wake i)
theorem a3B {l:List Int} {i:Nat} (h:i<l.length):IxP ((l.map (Value.int .i64 ·)).toArray) (i:Int) (.int .i64 l[i]):=⟨by omega,by simp [h]⟩
structure Dc (s:St) (n:Nat) (c:Int):Prop where
 w:Wk s 999
 hn:n<s.th.length
 st:(gth s.th n).st=1
 sd:j6 (gth s.th n).ki=3
 pc:(gth s.th n).pc=c
section
variable {s:St} {n:Nat} {c:Int}
theorem Dc.ok (h:Dc s n c):s.ok:=h.w.ok (by omega)
theorem Dc.few (h:Dc s n c):s.few:=h.w.few (by omega)
theorem Dc.ht (h:Dc s n c):gth s.th n=pcT (gth s.th n) c:=by rw [← h.pc];rfl
theorem Dc.has (h:Dc s n c):hasB s n=true:=aa h.w.b h.hn
theorem Dc.ru (h:Dc s n c):J8 s n 3=true:=I6.2 ⟨h.has,by simpa using h.st,by simpa using h.sd⟩
theorem Dc.rs (h:Dc s n c):H7 (gth s.th n).st=0:=by rw [h.st];rfl
theorem Le {s:St} {N n:Nat} (h:Wk s N) (hn:n<s.th.length) (h1:(gth s.th n).st≠0):Wk ((s.toFull (nxE s.fe) []).onTh n (pcT · 2)) N:=by
 obtain ⟨e1,e2,-⟩:=aS (l6 h.b).2.2.2.2.1
 refine ⟨?_,Vk.on (s:=s.toFull (nxE s.fe) []) (f:=(pcT · 2)) ⟨h.v.cf,h.v.sl,h.v.th⟩ hn fun _=>⟨rfl,rfl⟩,h.l⟩
 have:=og h.b hn h1
 rwa [e1,e2] at this
theorem Ei {s:St} {N n:Nat} (h:Wk s N) (hn:n<s.th.length) (h1:(gth s.th n).st≠0):Wk ((s.toEmpty (nxE s.ee) []).onTh n E9) N:=by
 obtain ⟨e1,e2,-⟩:=aS (l6 h.b).2.2.2.2.2
 refine ⟨?_,Vk.on (s:=s.toEmpty (nxE s.ee) []) (f:=E9) ⟨h.v.cf,h.v.sl,h.v.th⟩ hn fun _=>⟨rfl,rfl⟩,h.l⟩
 have:=jG h.b hn h1
 rwa [e1,e2] at this
theorem FM {s:St} (h:stB s=true) (n:Nat):bR s n=J9 s.fl ((s.toFull (nxE s.fe) []).onTh n (pcT · 2)):=by
 obtain ⟨e1,e2,e3⟩:=aS (l6 h).2.2.2.2.1
 unfold bR;rw [e1,e2,e3]
theorem AV {s:St} (h:stB s=true) (n:Nat):Y9 s n=J9 s.el ((s.toEmpty (nxE s.ee) []).onTh n E9):=by
 obtain ⟨e1,e2,e3⟩:=aS (l6 h).2.2.2.2.2
 unfold Y9;rw [e1,e2,e3]
theorem Wk.shut {s:St} {N:Nat} (h:Wk s N) (d:Int):Wk (s.toWord s.hd s.tl (clM s.md d)) N:=⟨bM h.b d,⟨h.v.cf,h.v.sl,h.v.th⟩,h.l⟩
theorem zJ {s:St} {N n:Nat} (h:Wk s N) (hn:n<s.th.length) (h1:(gth s.th n).st≠0):Wk (closeN s n) (N+1):=by
 have up:∀ {u:St},Wk u N→Wk u (N+1):=fun w=>⟨w.b,w.v,by have:=w.l;omega⟩
 refine bz (P:=fun u=>Wk u (N+1)) ?_ ?_ ?_
 ·have hw:=h.shut (Q3 (gth s.th n).ki)
  refine ⟨O9 hw.b hn h1 (by decide) (by decide),hw.v.told hw.b hn (.inr (by constructor <;> omega)),?_⟩
  have:=nO hw.b (n:=n) hn (k:=(gth s.th n).ki) (r:=1) (g:=0) (p:=1)
  have hl:(s.toWord s.hd s.tl (clM s.md (Q3 (gth s.th n).ki))).lg.length=s.lg.length:=rfl
  have:=h.l
  show (D7 _ n _ 1 0 1).lg.length≤_
  omega
 ·rw [FM h.b];exact up (Wk.wakes _ (Le h hn h1))
 ·rw [AV h.b];exact up (Wk.wakes _ (Ei h hn h1))
theorem Lv {m:Int} {l:List Int} (h:W9 m l=true):l.length≤16:=X9 (H8.1 h).1
end
section
variable {s:St} {i m o:Int} {b:Bool}
end
end
section
open Go.RowKit
def tkT (n:Nat) (v:Value):List (Nat×Value):=[(0,.func (.func 369) #[pt 0] #[]),(1,.func (.func 370) #[] #[vFz [.int .i64 n]]),(5,v)]
def tkB (l:List Int):Option Blk:=some ⟨true,false,1,1,[l5 l]⟩
def tkA (l:List Int):Option Blk:=some ⟨true,true,1,l.length,l.map (.int .i64 ·)⟩
def tk0 (l:List Int):Sg:=⟨mkT 24 (tkT l.length (.slice none 0 0)),[tkB l]⟩
def tkS (l:List Int) (i:Nat):Sg:=⟨mkT 24 (tkT l.length (.slice (some ⟨1,0,some 0⟩) (l.take i).length 0)),[tkB (l.drop i),tkA (l.take i)]⟩
section
variable {l:List Int} {ep:Int}
theorem Zm (h:P5 l=true) {i:Nat} (hi:i<l.length):AC Tryz.prog 373 [l5 (l.drop i)] (.tuple #[.int .i64 l[i],l5 (l.drop (i+1)),.bool true]):=by
 have hl:=X9 h
 have hd:=TF h i
 have:=AQ (l.drop i) (by simp;omega)
 rw [List.drop_eq_getElem_cons hi] at this hd ⊢
 generalize l[i]=x at this hd ⊢
 generalize l.drop (i+1)=r at this hd ⊢
 have h1:nxB (x::r)=true:=by simp [nxB,hd]
 rwa [show nxI (x::r)=x by simp [nxI,h1],show nxL (x::r)=r by simp [nxL,h1],h1] at this
theorem a3b (l:List Int):l.length=(l.map (Value.int .i64 ·)).length:=by simp
theorem Yu (h:P5 l=true):∀ (k i:Nat),l.length - i=k→i≤l.length→eY Tryz.prog 1 (j3 Tryz.prog 368 0) (tkS l i) (.exit 0) (tkS l l.length)
 | 0,i,hk,hi=>by
  have:i=l.length:=by omega
  subst this
  exact jo mixed (fuel:=9) (n:=5) (keep:=[0,1,5]) (ext:=[373]) (im:=[0,1]) (orc:=[.bool false]) (an (show decide (((l.take l.length).length:Int)<l.length)=false by simp) trivial) (by intro e;cases e) (by kernel_rfl) (by rfl)
 | k+1,i,hk,hi=>by
  have h1:i<l.length:=by omega
  have hl:=X9 h
  have ht:(l.take i).length=i:=by simp;omega
  have ht1:(l.take (i+1)).length=i+1:=by simp;omega
  have hs:l.take (i+1)=l.take i++[l[i]]:=by simp
  exact bC mixed (fuel:=9) (n:=5) (keep:=[0,1,5]) (ext:=[373]) (im:=[0,3]) (orc:=[.bool true,.tuple #[.int .i64 l[i],l5 (l.drop (i+1)),vD true],l5 (l.take (i+1))])
   (an (show decide (((l.take i).length:Int)<l.length)=true by rw [ht];simp;omega)<|an (Zm h h1)<|an (rfl:(1:Nat)=1)<|an (N8 [l[i]])<|an (a3b (l.take i)) <|
    an (show vo (l.take (i+1)).length ((l.take (i+1)).map (Value.int .i64 ·)) (l.take i).length ((l.take i).map (Value.int .i64 ·)) 1 [.int .i64 l[i]] from ⟨by omega,by rw [hs,List.map_append];rfl,by omega⟩) trivial) (by kernel_rfl) (by rfl) (Yu h k (i+1) (by omega) (by omega))
theorem ZN (h:P5 l=true) (h0:0<l.length):eY Tryz.prog 1 (j3 Tryz.prog 368 0) (tk0 l) (.exit 0) (tkS l l.length):=by
 have hn:=Zm h h0
 rw [List.drop_zero] at hn
 have ht:(l.take (0+1))=[l[0]]:=by
  match l,h0 with
  | x::r,_=>rfl
 have ih:=Yu h (l.length - 1) (0+1) rfl h0
 unfold tkS at ih
 rw [ht] at ih
 exact bC mixed (fuel:=9) (n:=5) (keep:=[0,1,5]) (ext:=[373]) (im:=[0,2]) (orc:=[.bool true,.tuple #[.int .i64 l[0],l5 (l.drop (0+1)),vD true],l5 [l[0]]])
  (an (show decide (((0:Nat):Int)<l.length)=true by simp;omega)<|an hn<|an (rfl:(1:Nat)=1)<|an (N8 [l[0]])<|an (show 0<1∧vo [l[0]].length ([l[0]].map (Value.int .i64 ·)) 0 [] 1 [.int .i64 l[0]] from ⟨by omega,by simp,by simp,by omega⟩) trivial) (by kernel_rfl) (by rfl) ih
def evN:List FuncId:=[70,268,373]
theorem oM (h:okE ep l=true):AC Tryz.prog 346 [evT ep l] (.tuple #[evT (nxE ep) [],l5 l]):=by
 have ho:=R8 h
 have he:=(O7.1 h).1
 have hl:=X9 ho
 rw [Xj]
 by_cases h0:l=[]
 ·subst h0
  exact d9 mixed (ext:=evN) (fuel:=9) (n:=9) (orc:=[vD true,evT ep [],.nilFunc]) (an (F9 h)<|an (gq ep [] (by simp))<|an (show In64 (ep+1) by constructor <;> omega) trivial) (by kernel_rfl)
 ·have hp:0<l.length:=List.length_pos_iff.2 h0
  have hL:=ZN ho hp
  unfold tkS at hL
  rw [List.take_length,List.drop_length] at hL
  exact d9 mixed (ext:=evN) (fuel:=9) (n:=9) (orc:=[vD true,evT ep l,oK 1 [14] [0,1,5] 0 (tkT l.length (.slice (some ⟨1,0,some 0⟩) l.length 0)) [tkB [],tkA l]])
   (an (F9 h)<|an (gq ep l (by omega))<|an hL<|an (show In64 (ep+1) by constructor <;> omega)<|an (l7 (f:=(Value.int .i64 ·)) l) trivial) (by kernel_rfl)
end
end
end Go.Proofs.YtfogkllejkmpdaaGreat
