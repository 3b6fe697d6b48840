/- Texts merged: EngLT, EngBT, EngDT, EngST, EngTT. -/
import Derived.Test.YtfogkllejkmpdaaGreatZf2
import Derived.LoopN
import Derived.ScopeJumps
namespace Go.Proofs.YtfogkllejkmpdaaGreat
set_option linter.unusedVariables false
set_option linter.unusedSimpArgs false
set_option maxRecDepth 100000
section
open Go.RowKit
def xx (f:Nat→Option Nat):Value→Value
 | .pointer (some ⟨j,n,some s⟩)=>match f j with
  | some k=>.pointer (some ⟨k,n,some s⟩)
  | none=>gN
 | .slice (some ⟨j,n,some s⟩) l c=>match f j with
  | some k=>.slice (some ⟨k,n,some s⟩) l c
  | none=>gN
 | .map (some j)=>match f j with
  | some k=>.map (some k)
  | none=>gN
 | v=>if dW v then v else gN
def Cs (f:Nat→Option Nat):Nat→Value→Value
 | 0,v=>xx f v
 | n+1,v=>match v with
  | .func fn fs cs=>.func fn (fs.toList.map (Cs f n)).toArray (cs.toList.map (Cs f n)).toArray
  | .iface 1000007 (.tuple cs)=>.iface 1000007 (.tuple (cs.toList.map (Cs f n)).toArray)
  | v=>xx f v
def Ew (f:Nat→Option Nat) (v:Value):Value:=Cs f 4 v
def sU (f:Nat→Option Nat):Value→Value
 | .agg xs=>.agg (xs.toList.map (Ew f)).toArray
 | v=>Ew f v
def TD (f:Nat→Option Nat):Value→Value
 | .tuple xs=>.tuple (xs.toList.map (sU f)).toArray
 | v=>sU f v
def a2W (f:Nat→Option Nat):Value→Value
 | .agg xs=>.agg (xs.toList.map (sU f)).toArray
 | v=>sU f v
def rV (f:Nat→Option Nat) (b:Blk):Option Blk :=
 match b.arr with
 | true=>some b
 | false=>match b.isMap && !(b.n==0) with
  | true=>some b
  | false=>if b.els.all okV then some { b with els:=b.els.map (match b.isMap with | true=>a2W f | false=>sU f) } else none
def IB (j:Nat):List Nat→Nat→Option Nat
 | [],_=>none
 | i::r,k=>match i==j with
  | true=>some k
  | false=>IB j r (k+1)
def XA:List Nat→Bool
 | []=>true
 | i::r=>(r.all fun j=>!(j==i))&&XA r
def yA (f:Nat→Option Nat) (H:List (Option Blk)):List Nat→Option (List (Option Blk))
 | []=>some []
 | i::r=>match look H i with
  | some b=>if b.w then match rV f b,yA f H r with
   | some b',some s=>some (some b' :: s)
   | _,_=>none
   else none
  | none=>none
def canon (im keep:List Nat) (s:Sg):Option Sg :=
 if XA im then (yA (fun j=>IB j im 0) s.H im).map fun H=>⟨s.T.zipIdx.map fun x=>if keep.any (fun t=>t==x.2) then TD (fun j=>IB j im 0) x.1 else gN,H⟩ else none
section
variable {ρ ρ2:A8} {O:Nat→Prop} {W:World} {f:Nat→Option Nat}
theorem DY (hf:∀ j k p,f j=some k→ρ j=some p→ρ2 k=some p) {v c:Value} (h:Rp ρ O W v c):Rp ρ2 O W (xx f v) c:=by
 unfold xx
 split
 ·next j n s =>
  split
  ·next k hk =>
   obtain ⟨g,k',j',h1,h2,h3⟩:=V8.1 h
   exact V8.2 ⟨g,k',j',hf _ _ _ hk h1,h2,h3⟩
  ·exact dF _
 ·next j n s l c =>
  split
  ·next k hk =>
   obtain ⟨g,k',cap,h1,h2,h3⟩:=di.1 h
   exact di.2 ⟨g,k',cap,hf _ _ _ hk h1,h2,h3⟩
  ·exact dF _
 ·next j =>
  split
  ·next k hk =>
   obtain ⟨g,h1,h2⟩:=je.1 h
   exact je.2 ⟨g,hf _ _ _ hk h1,h2⟩
  ·exact dF _
 ·split
  ·next hc=>exact (aJ h hc).mono (Still.refl _ _) (I8 _)
  ·exact dF _
theorem Cn {R R' : Value→Value→Prop} {g:Value→Value} (hR:∀ x y,R x y→R' (g x) y) {xs ys:Array Value} (h:AtAll R xs ys):AtAll R' (xs.toList.map g).toArray ys:=by
 refine ⟨by simpa using h.1,fun i x hx=>?_⟩
 simp only [List.getElem?_toArray,List.getElem?_map,Array.getElem?_toList] at hx
 obtain ⟨u,hu,rfl⟩:=Option.map_eq_some_iff.1 hx
 obtain ⟨y,hy,hr⟩:=h.2 i u hu
 exact ⟨y,hy,hR _ _ hr⟩
theorem wB (hf:∀ j k p,f j=some k→ρ j=some p→ρ2 k=some p):∀ (n:Nat) {v c:Value},Rp ρ O W v c→Rp ρ2 O W (Cs f n v) c
 | 0,_,_,h=>DY hf h
 | n+1,v,c,h=>by
  unfold Cs
  split
  ·next fn fs cs =>
   obtain ⟨ys,us,rfl,h1,h2⟩:=U6.1 h
   exact U6.2 ⟨ys,us,rfl,Cn (g:=Cs f n) (fun _ _=>wB hf n) h1,Cn (g:=Cs f n) (fun _ _=>wB hf n) h2⟩
  ·next cs =>
   obtain ⟨g,o,rfl,h1,h2,h3⟩:=zD.1 h
   refine zD.2 ⟨g,o,rfl,h1,h2,fun j x hx=>?_⟩
   simp only [List.getElem?_toArray,List.getElem?_map,Array.getElem?_toList] at hx
   obtain ⟨x0,hx0,rfl⟩:=Option.map_eq_some_iff.1 hx
   obtain ⟨u,hu,hr⟩:=h3 j x0 hx0
   exact ⟨u,hu,wB hf n hr⟩
  ·exact DY hf h
theorem BF (hf:∀ j k p,f j=some k→ρ j=some p→ρ2 k=some p) {v c:Value} (h:Rp ρ O W v c):Rp ρ2 O W (Ew f v) c:=wB hf 4 h
theorem CB (hf:∀ j k p,f j=some k→ρ j=some p→ρ2 k=some p) {v c:Value} (h:Rp ρ O W v c):Rp ρ2 O W (sU f v) c:=by
 unfold sU
 split
 ·obtain ⟨ys,rfl,ha⟩:=R9.1 h
  exact R9.2 ⟨ys,rfl,Cn (g:=Ew f) (fun _ _=>BF hf) ha⟩
 ·exact BF hf h
theorem Di (hf:∀ j k p,f j=some k→ρ j=some p→ρ2 k=some p) {v c:Value} (h:Rp ρ O W v c):Rp ρ2 O W (TD f v) c:=by
 unfold TD
 split
 ·obtain ⟨ys,rfl,ha⟩:=G8.1 h
  exact G8.2 ⟨ys,rfl,Cn (g:=sU f) (fun _ _=>CB hf) ha⟩
 ·exact CB hf h
theorem FK (v:Value):(xx f v).cells=#[xx f v]:=by
 have hu:gN.cells=#[gN]:=rfl
 unfold xx
 split
 ·split
  ·rfl
  ·exact hu
 ·split
  ·rfl
  ·exact hu
 ·split
  ·rfl
  ·exact hu
 ·split
  ·next hc=>cases v <;> first | rfl | cases hc
  ·exact hu
theorem Hd (v:Value):(Ew f v).cells=#[Ew f v]:=by
 unfold Ew Cs
 split
 ·rfl
 ·rfl
 ·exact FK v
theorem cells_ok {v:Value} (h:∀ xs,v≠.agg xs):v.cells=#[v]:=by
 cases v <;> first | rfl | exact absurd rfl (h _)
theorem IC (v:Value):(sU f v).cells=(v.cells.toList.map (Ew f)).toArray:=by
 unfold sU
 split
 ·rfl
 ·next hn=>rw [Hd,cells_ok (fun xs e=>hn xs e)];rfl
theorem vN (hf:∀ j k p,f j=some k→ρ j=some p→ρ2 k=some p) {b b' : Blk} (h:rV f b=some b') {g:Nat} (hB:BlkAt ρ O W g b):BlkAt ρ2 O W g b' ∧ b'.w=b.w∧b'.k=b.k:=by
 unfold rV at h
 split at h
 ·next ha =>
  cases h
  refine ⟨?_,rfl,rfl⟩
  obtain ⟨arr,ty,h1,h2,h3⟩:=(I4 (Z7 ha)).1 hB
  have hp:∀ r:A8,b.pm r=nowhere:=fun r=>by unfold Blk.pm;rw [ha]
  rw [hp] at h3
  exact (I4 (Z7 ha)).2 ⟨arr,ty,h1,h2,by rw [hp];exact h3⟩
 ·next ha =>
  split at h
  ·next hmn =>
   cases h
   refine ⟨?_,rfl,rfl⟩
   simp only [Bool.and_eq_true,Bool.not_eq_true'] at hmn
   have hp:∀ r:A8,b.mpm r=nowhere:=fun r=>by
    unfold Blk.mpm;split
    ·next e=>rw [e] at hmn;exact absurd hmn.2 (by decide)
    ·rfl
   have:=(af hmn.1).1 hB
   rw [hp] at this
   exact (af hmn.1).2 (by rw [hp];exact this)
  ·next hmn =>
   split at h
   ·next hok =>
    cases hm:b.isMap
    ·rw [hm] at h
     cases h
     refine ⟨?_,rfl,rfl⟩
     obtain ⟨arr,ty,h1,h2,h3⟩:=(I4 hm).1 hB
     have hp:∀ (r:A8) els,({ b with els:=els }:Blk).pm r=r:=fun r els=>by show b.pm r=r;unfold Blk.pm;rw [ha]
     have hp' : ∀ r:A8,b.pm r=r:=fun r=>by unfold Blk.pm;rw [ha]
     refine (I4 (b:={ b with els:=b.els.map (sU f) }) hm).2 ⟨arr,ty,h1,by simpa using h2,fun n el hel=>?_⟩
     simp only [List.getElem?_map] at hel
     obtain ⟨el0,he,rfl⟩:=Option.map_eq_some_iff.1 hel
     obtain ⟨h4,h5⟩:=h3 n el0 he
     rw [IC]
     refine ⟨by simpa using h4,fun j x hx=>?_⟩
     simp only [List.getElem?_toArray,List.getElem?_map,Array.getElem?_toList] at hx
     obtain ⟨x0,hx0,rfl⟩:=Option.map_eq_some_iff.1 hx
     obtain ⟨u,hu,hr⟩:=h5 j x0 hx0
     rw [hp'] at hr
     rw [hp]
     exact ⟨u,hu,BF hf hr⟩
    ·rw [hm] at h
     cases h
     refine ⟨?_,rfl,rfl⟩
     have hn0:b.n=0:=by rw [hm] at hmn;simpa using hmn
     have hp:∀ (r:A8) els,({ b with els:=els }:Blk).mpm r=r:=fun r els=>by show b.mpm r=r;unfold Blk.mpm;rw [hn0]
     have hp' : ∀ r:A8,b.mpm r=r:=fun r=>by unfold Blk.mpm;rw [hn0]
     obtain ⟨l,h1,h2,h3⟩:=(af hm).1 hB
     refine (af (b:={ b with els:=b.els.map (a2W f) }) hm).2 ⟨l,h1,fun d hd=>?_,fun el hel=>?_⟩
     ·obtain ⟨v,hv⟩:=h2 d hd
      exact ⟨sU f v,List.mem_map.2 ⟨_,hv,rfl⟩⟩
     ·obtain ⟨el0,he,rfl⟩:=List.mem_map.1 hel
      obtain ⟨i,v,c,rfl,h4,h5⟩:=h3 el0 he
      rw [hp'] at h5
      exact ⟨i,sU f v,c,rfl,h4,by rw [hp];exact CB hf h5⟩
   ·cases h
end
theorem zV {j:Nat}:∀ {l:List Nat} {b k:Nat},IB j l b=some k→b≤k∧l[k - b]? = some j
 | [],b,k,h=>by cases h
 | i::r,b,k,h=>by
  simp only [IB] at h
  split at h
  ·next e =>
   cases h
   exact ⟨Nat.le_refl _,by simpa using e⟩
  ·obtain ⟨h1,h2⟩:=zV h
   refine ⟨by omega,?_⟩
   rw [show k - b=(k - (b+1))+1 by omega]
   simpa using h2
theorem Ev:∀ {l:List Nat} {i j x:Nat},XA l=true→l[i]? = some x→l[j]? = some x→i=j
 | [],i,j,x,_,h,_=>by simp at h
 | a::r,i,j,x,h,h1,h2=>by
  simp only [XA,Bool.and_eq_true] at h
  have hne:∀ k y,r[k]? = some y→y≠a:=fun k y hk=>by
   have:=List.all_eq_true.1 h.1 y (List.mem_of_getElem? hk)
   simpa using this
  cases i with
  | zero =>
   cases j with
   | zero=>rfl
   | succ j=>simp at h1 h2;exact absurd h1.symm (hne j x h2)
  | succ i =>
   cases j with
   | zero=>simp at h1 h2;exact absurd h2.symm (hne i x h1)
   | succ j=>simp at h1 h2;rw [Ev h.2 h1 h2]
theorem uW {f:Nat→Option Nat} {H:List (Option Blk)}:∀ {im:List Nat} {H' : List (Option Blk)},yA f H im=some H' → H'.length=im.length∧∀ (k i:Nat),im[k]? = some i→∃ b b',look H i=some b∧b.w=true∧rV f b=some b' ∧ look H' k=some b'
 | [],H',h=>by simp only [yA,Option.some.injEq] at h;subst h;exact ⟨rfl,fun k i hk=>by simp at hk⟩
 | i::r,H',h=>by
  simp only [yA] at h
  split at h
  ·next b hb =>
   split at h
   ·next hw =>
    split at h
    ·next b' s h1 h2 =>
     cases h
     obtain ⟨h3,h4⟩:=uW h2
     refine ⟨by simp [h3],fun k j hk=>?_⟩
     cases k with
     | zero=>simp at hk;subst hk;exact ⟨b,b',hb,hw,h1,rfl⟩
     | succ k=>exact h4 k j (by simpa using hk)
    ·cases h
   ·cases h
  ·cases h
structure ExtL (ρ:A8) (O:Nat→Prop) (H:List (Option Blk)) (W:World) (ρ' : A8) (O' : Nat→Prop) (H' : List (Option Blk)) (W' : World):Prop where
 old:∀ g,g<W.heap.size→∀ i b k,look H' i=some b→ρ' i=some (g,k)→∃ i0 b0 k0,look H i0=some b0∧(b.w=true→b0.w=true)∧ρ i0=some (g,k0)
 still:Still O W O' W'
 keepO:∀ g,O g→(∀ i b,look H i=some b→∀ k,ρ i≠some (g,k))→O' g
 str:W'.tape=W.tape∧W'.os=W.os∧W'.output=W.output
 blk:∀ g,g<W.heap.size→(∀ i b,look H i=some b→b.w=true→∀ k,ρ i≠some (g,k))→W'.heap[g]? = W.heap[g]?
section
variable {ρ ρ' ρ'' : A8} {O O' O'' : Nat→Prop} {H H' H'' : List (Option Blk)} {W W' W'' : World}
theorem Ext.toL (h:Ext ρ O H W ρ' O' H' W') (hc:HConc ρ O H W):ExtL ρ O H W ρ' O' H' W' := by
 refine ⟨fun g hg i b k hi hk=>?_,h.still,h.keepO,h.str,h.blk⟩
 rcases h.live i b hi with ⟨b0,h1,h2⟩ | h1
 ·rcases h.new i _ hk with h3 | ⟨h3,-⟩
  ·exact ⟨i,b0,k,h1,h2,h3⟩
  ·have:=aK h1;omega
 ·rcases h.new i _ hk with h3 | ⟨-,h3 | ⟨j,bj,kj,h3,h4,h5⟩⟩
  ·rw [hc.fr i h1] at h3;cases h3
  ·simp at h3;omega
  ·exact ⟨j,bj,kj,h3,fun _=>h4,h5⟩
theorem ExtL.trans (h:ExtL ρ O H W ρ' O' H' W') (k:ExtL ρ' O' H' W' ρ'' O'' H'' W'') (hl:Low O W):ExtL ρ O H W ρ'' O'' H'' W'' := by
 refine ⟨fun g hg i b n hi hn=>?_,h.still.trans k.still,fun g hg hno=>?_,⟨k.str.1.trans h.str.1,k.str.2.1.trans h.str.2.1,k.str.2.2.trans h.str.2.2⟩,fun g hg hno=>?_⟩
 ·obtain ⟨i1,b1,k1,h1,h2,h3⟩:=k.old g (Nat.lt_of_lt_of_le hg h.still.size) i b n hi hn
  obtain ⟨i0,b0,k0,h4,h5,h6⟩:=h.old g hg i1 b1 k1 h1 h3
  exact ⟨i0,b0,k0,h4,fun w=>h5 (h2 w),h6⟩
 ·refine k.keepO g (h.keepO g hg hno) fun i b hi m hm=>?_
  obtain ⟨i0,b0,k0,h1,-,h2⟩:=h.old g (hl g hg) i b m hi hm
  exact hno i0 b0 h1 k0 h2
 ·refine (k.blk g (Nat.lt_of_lt_of_le hg h.still.size) fun i b hi hw m hm=>?_).trans (h.blk g hg hno)
  obtain ⟨i0,b0,k0,h1,h2,h3⟩:=h.old g hg i b m hi hm
  exact hno i0 b0 h1 (h2 hw) k0 h3
def jH (ρ:A8) (im:List Nat):A8:=fun k=>(im[k]?).bind ρ
theorem az {im keep:List Nat} {s s0:Sg} {a:Act} (h:canon im keep s=some s0) (hH:HConc ρ O s.H W) (hT:TConc ρ O s.T a W) :
  HConc (jH ρ im) O s0.H W∧TConc (jH ρ im) O s0.T a W∧ExtL ρ O s.H W (jH ρ im) O s0.H W∧(∀ k b,look s0.H k=some b→b.w=true)∧(∀ (k i:Nat),im[k]? = some i→∃ b,look s.H i=some b∧b.w=true)∧s0.H.length=im.length:=by
 unfold canon at h
 split at h
 ·next hn =>
  obtain ⟨H0,hH0,rfl⟩:=Option.map_eq_some_iff.1 h
  obtain ⟨hlen,hsp⟩:=uW hH0
  have hf:∀ j k p,IB j im 0=some k→ρ j=some p→jH ρ im k=some p:=fun j k p hj hp=>by
   obtain ⟨-,h2⟩:=zV hj
   simp only [jH,Nat.sub_zero] at h2 ⊢
   rw [h2];exact hp
  have hlk:∀ k b',look H0 k=some b' → ∃ i b,im[k]? = some i∧look s.H i=some b∧b.w=true∧rV (fun j=>IB j im 0) b=some b' := fun k b' hk=>by
   have hkl:k<im.length:=by rw [← hlen];exact aK hk
   obtain ⟨b,b2,h1,h2,h3,h4⟩:=hsp k im[k] (List.getElem?_eq_getElem hkl)
   rw [h4] at hk;cases hk
   exact ⟨im[k],b,List.getElem?_eq_getElem hkl,h1,h2,h3⟩
  refine ⟨⟨hH.low,fun k hk=>?_,fun k=>?_,fun i j b b' g k k' hi hj hgi hgj=>?_⟩,⟨hT.df,by simpa using hT.sz,fun t v hv=>?_⟩,⟨fun g hg k b n hk hn=>?_,Still.refl _ _,fun _ h _=>h,⟨rfl,rfl,rfl⟩,fun _ _ _=>rfl⟩,fun k b hk=>?_,fun k i hk=>?_,hlen⟩
  ·simp only [jH]
   rw [List.getElem?_eq_none (by rw [← hlen];exact hk)];rfl
  ·cases hk:look H0 k with
   | none=>trivial
   | some b' =>
    obtain ⟨i,b,h1,h2,h3,h4⟩:=hlk k b' hk
    have h5:=hH.hp i
    rw [h2] at h5
    obtain ⟨g,hg,hO,hB⟩:=h5
    obtain ⟨h6,h7,h8⟩:=vN hf h4 hB
    exact ⟨g,by simp only [jH,h1];rw [h8];exact hg,hO,h6⟩
  ·obtain ⟨i',b0,h1,h2,-⟩:=hlk i b hi
   obtain ⟨j',b1,h3,h4,-⟩:=hlk j b' hj
   simp only [jH,h1,h3,Option.bind_some] at hgi hgj
   have:=hH.inj i' j' b0 b1 g k k' h2 h4 hgi hgj
   subst this
   exact Ev hn h1 h3
  ·simp only [List.getElem?_map,List.getElem?_zipIdx] at hv
   obtain ⟨x,hx,rfl⟩:=Option.map_eq_some_iff.1 hv
   obtain ⟨u,hu,rfl⟩:=Option.map_eq_some_iff.1 hx
   obtain ⟨c,hc,hr⟩:=hT.tm t u hu
   refine ⟨c,hc,?_⟩
   dsimp only
   split
   ·exact Di hf hr
   ·exact dF _
  ·obtain ⟨i,b0,h1,h2,h3,-⟩:=hlk k b hk
   simp only [jH,h1,Option.bind_some] at hn
   exact ⟨i,b0,n,h2,fun _=>h3,hn⟩
  ·obtain ⟨i,b0,h1,h2,h3,h4⟩:=hlk k b hk
   unfold rV at h4
   split at h4
   ·cases h4;exact h3
   ·split at h4
    ·cases h4;exact h3
    ·split at h4
     ·cases h4;exact h3
     ·cases h4
  ·obtain ⟨b,-,h1,h2,-⟩:=hsp k i hk
   exact ⟨b,h1,h2⟩
 ·cases h
end
def LoopN (P:Program) (c:Code) (n:Nat) (s:Sg) (x:Exit) (s' : Sg):Prop :=
 ∀ (ρ:A8) (O:Nat→Prop) (a:Act) (W:World) (Q:Exit→Act→World→Prop),HConc ρ O s.H W→TConc ρ O s.T a W →
  (∀ ρ' O' a' W',HConc ρ' O' s'.H W' → TConc ρ' O' s'.T a' W' → ExtL ρ O s.H W ρ' O' s'.H W' → Q x a' W')→Code.rounds P c Q n a W
def j4 (P:Program) (c:Code) (s:Sg) (x:Exit) (s' : Sg):Prop:=∃ n,LoopN P c n s x s'
def pg (P:Program) (c:Code) (l:Nat) (Q:Exit→Act→World→Prop):Nat→Act→World→Prop
 | 0,_,_=>False
 | n+1,a,w=>c.wp P (Exit.jump l (pg P c l Q n) Q) a w
def a3f (P:Program) (l:Nat) (c:Code) (n:Nat) (s:Sg) (x:Exit) (s' : Sg):Prop :=
 ∀ (ρ:A8) (O:Nat→Prop) (a:Act) (W:World) (Q:Exit→Act→World→Prop),HConc ρ O s.H W→TConc ρ O s.T a W →
  (∀ ρ' O' a' W',HConc ρ' O' s'.H W' → TConc ρ' O' s'.T a' W' → ExtL ρ O s.H W ρ' O' s'.H W' → Q x a' W')→pg P c l Q n a W
def X3 (P:Program) (l:Nat) (c:Code) (s:Sg) (x:Exit) (s' : Sg):Prop:=∃ n,a3f P l c n s x s'
def lbl:Code→Option (Nat×Code)
 | .seq a b=>match a with
  | .label l=>some (l,b)
  | a=>match lbl b with
   | some (l,r)=>match findLabel a l with
    | none=>some (l,r)
    | some _=>none
   | none=>none
 | _=>none
theorem xN:∀ (c:Code) {l:Nat} {r:Code},lbl c=some (l,r)→findLabel c l=some (.seq .skip r)
 | .seq a b,l,r,h=>by
  unfold lbl at h
  split at h
  ·next l' => cases h;simp [findLabel]
  ·split at h
   ·next l' r' hb =>
    split at h
    ·next hf=>cases h;rw [findLabel,hf];exact xN b hb
    ·cases h
   ·cases h
 | .skip,_,_,h | .region ..,_,_,h | .cond ..,_,_,h | .block ..,_,_,h | .loop ..,_,_,h | .rangeFunc ..,_,_,h | .exit _,_,_,h | .scope _,_,_,h | .label _,_,_,h | .goto _,_,_,h | .ret,_,_,h | .refuse _,_,_,h=>by simp [lbl] at h
theorem lG {P:Program} {a:Act} {w:World} {Q:Exit→Act→World→Prop} {c r:Code} {l:Nat} (hf:findLabel c l=some (.seq .skip r)) (first:c.wp P (Exit.jump l (fun a w=>∃ n,pg P r l Q n a w) Q) a w):(Code.scope c).wp P Q a w:=by
 intro b k cs
 have hg:gotoIn l (.inScope c::k)=some (.code (.seq .skip r) :: .inScope c::k):=by simp [gotoIn,hf]
 have key:∀ n a w,pg P r l Q n a w→∃ e a' w',Q e a' w' ∧ Arrives P (lone (b.at a (.code (.seq .skip r) :: .inScope c::k)) cs w) b k cs e a' w' := by
  intro n
  induction n with
  | zero=>intro a w h;exact h.elim
  | succ n ih =>
   intro a w h
   obtain ⟨e,a₁,w₁,hq,harr⟩:=(wp_seq (x:=.skip) (wp_skip h):(Code.seq .skip r).wp P _ a w) b (.inScope c::k) cs
   cases e with
   | normal=>exact ⟨.normal,a₁,w₁,hq,Steps.trans harr (.one step_inScope)⟩
   | exit id=>exact ⟨.exit id,a₁,w₁,hq,fun k' hk=>harr k' (by simp [exitTo,hk])⟩
   | goto l' =>
    obtain ⟨rfl,hJ'⟩:=hq
    obtain ⟨e₂,a₂,w₂,hq₂,harr₂⟩:=ih a₁ w₁ hJ'
    exact ⟨e₂,a₂,w₂,hq₂,.of_steps (harr _ hg) harr₂⟩
   | ret=>exact ⟨_,a₁,w₁,hq,harr⟩
   | panic ch=>exact ⟨_,a₁,w₁,hq,harr⟩
   | outgrown=>exact ⟨_,a₁,w₁,hq,harr⟩
 obtain ⟨e,a₁,w₁,hq,harr⟩:=first b (.inScope c::k) cs
 cases e with
 | normal=>exact ⟨.normal,a₁,w₁,hq,.head step_scope (Steps.trans harr (.one step_inScope))⟩
 | exit id=>exact ⟨.exit id,a₁,w₁,hq,fun k' hk=>.head step_scope (harr k' (by simp [exitTo,hk]))⟩
 | goto l' =>
  obtain ⟨rfl,n,hJ'⟩:=hq
  obtain ⟨e₂,a₂,w₂,hq₂,harr₂⟩:=key n a₁ w₁ hJ'
  exact ⟨e₂,a₂,w₂,hq₂,.of_steps (.head step_scope (harr _ hg)) harr₂⟩
 | ret=>exact ⟨_,a₁,w₁,hq,.of_steps (.one step_scope) harr⟩
 | panic ch=>exact ⟨_,a₁,w₁,hq,.of_steps (.one step_scope) harr⟩
 | outgrown=>exact ⟨_,a₁,w₁,hq,.of_steps (.one step_scope) harr⟩
def a1B (P:Program) (c:Code) (N:Nat) (T0:List (Nat×Value)) (H0:List (Nat×Blk)) (D:List Nat) (dst:Nat) (els:List Value):Prop :=
 ∀ (ρ:A8) (O:Nat→Prop) (a:Act) (W:World) (Q:Exit→Act→World→Prop),Low O W→a.defers=[]→a.tmps.size=N→(∀ p∈T0,∃ c,a.tmps[p.1]? = some c∧Rp ρ O W p.2 c)→(∀ p∈H0,HAt ρ O W p.1 (some p.2)) →
  (∀ a' W' g0,a'.defers=[]→a'.tmps.size=N→(∀ t,t∉D→a'.tmps[t]? = a.tmps[t]?)→a'.tmps[dst]? = some (.map (some g0))→W.heap.size≤g0→Kept W W' → Ic ρ (fun g=>O g∨g=g0) W' g0 els→Q .normal a' W')→c.wp P Q a W
def Wp (D:List Nat) (dst:Nat) (T:List Value) (k:Nat):List Value:=(T.zipIdx.map fun x=>if D.any (fun d=>d==x.2) then gN else x.1).set dst (.map (some k))
def a2a (ts:List Nat) (T:List Value):List (Nat×Value):=ts.filterMap fun t=>(T[t]?).map fun v=>(t,v)
def a2Q (hs:List Nat) (H:List (Option Blk)):List (Nat×Blk):=hs.filterMap fun i=>(look H i).map fun b=>(i,b)
theorem Xf {P:Program} {c:Code} {s:Sg} {ts hs D:List Nat} {dst:Nat} {els:List Value} (h:a1B P c s.T.length (a2a ts s.T) (a2Q hs s.H) D dst els) (hd:D.any (fun d=>d==dst)=true) {ρ:A8} {O:Nat→Prop} {a:Act} {W:World} {Q:Exit→Act→World→Prop} (hH:HConc ρ O s.H W) (hT:TConc ρ O s.T a W)
  (hK:∀ ρ' O' a' W',HConc ρ' O' (s.H++[some ⟨true,false,0,0,els⟩]) W' → TConc ρ' O' (Wp D dst s.T s.H.length) a' W' → Ext ρ O s.H W ρ' O' (s.H++[some ⟨true,false,0,0,els⟩]) W' → Q .normal a' W'):c.wp P Q a W:=by
 refine h ρ O a W Q hH.low hT.df hT.sz (fun p hp=>?_) (fun p hp=>?_) fun a' W' g0 h1 h2 h3 h4 h5 h6 h7=>?_
 ·obtain ⟨t,-,ht⟩:=List.mem_filterMap.1 hp
  obtain ⟨v,hv,rfl⟩:=Option.map_eq_some_iff.1 ht
  exact hT.tm t v hv
 ·obtain ⟨i,-,hi⟩:=List.mem_filterMap.1 hp
  obtain ⟨b,hb,rfl⟩:=Option.map_eq_some_iff.1 hi
  have:=hH.hp i
  rw [hb] at this
  exact this
 ·have hnone:=hH.fr s.H.length (Nat.le_refl _)
  have hsub:Sub ρ (fun i=>if i=s.H.length then some (g0,0) else ρ i):=fun i p hi=>by
   by_cases e:i=s.H.length
   ·subst e;rw [hnone] at hi;cases hi
   ·simpa [e] using hi
  have hlt:g0<W'.heap.size:=by obtain ⟨l,h8,-⟩:=h7;exact h8.1.lt
  have hst:Still O W (fun g=>O g∨g=g0) W' := ⟨h6.size,fun g hg hO=>⟨fun h=>h.elim hO (fun e=>by omega),h6.block g hg⟩,Shp.of_same h6.block⟩
  have hstep:Step ρ O W (fun i=>if i=s.H.length then some (g0,0) else ρ i) (fun g=>O g∨g=g0) W' [s.H.length] [] s.H.length (s.H.length+1) :=
   ⟨hsub,fun i p hi=>by
    by_cases e:i=s.H.length
    ·subst e;simp at hi;subst hi;exact .inr ⟨Nat.le_refl _,by omega,.inl h5⟩
    ·simp [e] at hi;exact .inl hi,hst,fun g hg=>hg.elim (fun hg=>Nat.lt_of_lt_of_le (hH.low g hg) h6.size) (fun e=>e ▸ hlt),fun _ hg _=>.inl hg,⟨h6.tape,h6.os,h6.output⟩,fun g hg _=>h6.block g hg⟩
  have hwr:zt s.H [(s.H.length,some ⟨true,false,0,0,els⟩)] (s.H.length+1)=true:=by
   have hl:look s.H s.H.length=none:=by
    cases hl:look s.H s.H.length with
    | none=>rfl
    | some b=>have:=aK hl;omega
   simp [zt,zM,hl,Nat.ble_eq,Nat.blt_eq]
  have happ:Y0 s.H [(s.H.length,some ⟨true,false,0,0,els⟩)] (s.H.length+1)=s.H++[some ⟨true,false,0,0,els⟩]:=by
   unfold Y0 jh jh
   simp
  have hhat:HAt (fun i=>if i=s.H.length then some (g0,0) else ρ i) (fun g=>O g∨g=g0) W' s.H.length (some ⟨true,false,0,0,els⟩):=by
   refine ⟨g0,by simp,.inr rfl,(af rfl).2 ?_⟩
   obtain ⟨l,h8,h9,h10⟩:=h7
   exact ⟨l,h8,h9,fun el hel=>let ⟨i,v,c,h11,h12,h13⟩:=h10 el hel;⟨i,v,c,h11,h12,h13.mono (Still.refl _ _) hsub⟩⟩
  have:=Av hH hwr hstep (fun p hp=>by simp only [List.mem_singleton] at hp;subst hp;exact hhat)
  rw [happ] at this
  refine hK _ _ a' W' this.1 ⟨h1,by rw [h2];simp [Wp],fun t v hv=>?_⟩ this.2
  simp only [Wp,List.getElem?_set] at hv
  by_cases e:dst=t
  ·subst e
   simp only [if_true] at hv
   split at hv
   ·cases hv;exact ⟨_,h4,je.2 ⟨g0,by simp,rfl⟩⟩
   ·cases hv
  ·simp only [e,if_false,List.getElem?_map,List.getElem?_zipIdx] at hv
   obtain ⟨x,hx,rfl⟩:=Option.map_eq_some_iff.1 hv
   obtain ⟨u,hu,rfl⟩:=Option.map_eq_some_iff.1 hx
   obtain ⟨c,hc,hr⟩:=hT.tm t u hu
   dsimp only
   split
   ·next hany =>
    have htl:t<a'.tmps.size:=by rw [h2];exact (List.getElem?_eq_some_iff.1 hu).1
    exact ⟨a'.tmps[t],by simp [htl],dF _⟩
   ·next hany =>
    refine ⟨c,?_,hr.mono hst hsub⟩
    rw [h3 t fun hm=>hany (List.any_eq_true.2 ⟨t,hm,by simp⟩)]
    exact hc
def mkT (n:Nat) (l:List (Nat×Value)):List Value:=l.foldl (fun T x=>T.set x.1 x.2) (List.replicate n gN)
def shN (nx:Nat) (H' : List (Option Blk)) (k:Nat):Option Nat:=(look H' k).map fun _=>nx+k
def Gs (im:List Nat) (H:List (Option Blk)):List (Option Blk):=H.zipIdx.map fun x=>if im.any (fun i=>i==x.2) then none else x.1
def dD (s:Sg) (im:List Nat) (s' : Sg):Sg :=
 ⟨s'.T.map (TD (shN s.H.length s'.H)),Gs im s.H++s'.H.map fun x=>x.bind (rV (shN s.H.length s'.H))⟩
theorem yu {im:List Nat} {H:List (Option Blk)} (i:Nat):look (Gs im H) i=if im.any (fun j=>j==i) then none else look H i:=by
 unfold look Gs
 simp only [List.getElem?_map,List.getElem?_zipIdx,Nat.zero_add]
 cases h:H[i]? with
 | none=>simp
 | some x=>simp
theorem Ex {A B:List (Option Blk)} (i:Nat):look (A++B) i=if i<A.length then look A i else look B (i - A.length):=by
 unfold look
 rw [List.getElem?_append]
 by_cases h:i<A.length
 ·simp only [h,if_true]
 ·simp only [h,if_false]
theorem Sk {f:Blk→Option Blk} {B:List (Option Blk)} (i:Nat):look (B.map fun x=>x.bind f) i=(look B i).bind f:=by
 unfold look
 simp only [List.getElem?_map]
 cases h:B[i]? with
 | none=>rfl
 | some x=>rfl
theorem BQ {ρ:A8} {O:Nat→Prop} {W:World} {s s0 s' : Sg} {im keep:List Nat} (h:canon im keep s=some s0) (hH:HConc ρ O s.H W) {a0:Act} (hT:TConc ρ O s.T a0 W) {ρ' : A8} {O' : Nat→Prop} {a:Act} {W' : World} (hH' : HConc ρ' O' s'.H W') (hT' : TConc ρ' O' s'.T a W') (hE:ExtL (jH ρ im) O s0.H W ρ' O' s'.H W') :
  ∃ ρ'',HConc ρ'' O' (dD s im s').H W' ∧ TConc ρ'' O' (dD s im s').T a W' ∧ Ext ρ O s.H W ρ'' O' (dD s im s').H W' ∧ ∀ k p,ρ'' (s.H.length+k)=some p→ρ' k=some p:=by
 obtain ⟨hc1,hc2,hc3,hw,him,hl0⟩:=az h hH hT
 let nx:=s.H.length
 let ρ'' : A8:=fun i=>if i<nx then ρ i else if (look s'.H (i - nx)).isSome then ρ' (i - nx) else none
 have hkl:(Gs im s.H).length=nx:=by simp [Gs,nx]
 have hf:∀ j k p,shN nx s'.H j=some k→ρ' j=some p→ρ'' k=some p:=fun j k p hj hp=>by
  simp only [shN] at hj
  obtain ⟨b,hb,rfl⟩:=Option.map_eq_some_iff.1 hj
  have:ρ'' (nx+j)=ρ' j:=by
   have hn:¬ (nx+j<nx):=by omega
   simp only [ρ'',hn,if_false,Nat.add_sub_cancel_left,hb];rfl
  rw [this];exact hp
 have hsub:Sub ρ ρ'' := fun i p hp=>by
  have:i<nx:=Nat.lt_of_not_le fun hle=>by rw [hH.fr i hle] at hp;cases hp
  simp only [ρ'',this,if_true];exact hp
 -- blocks that are known still: none of those that the loop wrote
 have hlk:∀ i b,look (dD s im s').H i=some b→(i<nx∧im.any (fun j=>j==i)=false∧look s.H i=some b)∨(nx≤i∧∃ b0,look s'.H (i - nx)=some b0∧rV (shN nx s'.H) b0=some b):=fun i b hi=>by
  simp only [dD,Ex,hkl] at hi
  split at hi
  ·next hlt =>
   rw [yu] at hi
   split at hi
   ·cases hi
   ·next hno=>exact .inl ⟨hlt,by rw [Bool.not_eq_true] at hno;exact hno,hi⟩
  ·next hge =>
   rw [Sk] at hi
   obtain ⟨b0,h1,h2⟩:=Option.bind_eq_some_iff.1 hi
   exact .inr ⟨by omega,b0,h1,h2⟩
 have him' : ∀ k i0,(jH ρ im) k=some i0→∃ i,im[k]? = some i∧ρ i=some i0:=fun k i0 hk=>Option.bind_eq_some_iff.1 hk
 have hno0:∀ i b g k,look s.H i=some b→ρ i=some (g,k)→im.any (fun j=>j==i)=false→∀ i' b',look s0.H i' = some b' → ∀ k',jH ρ im i' ≠ some (g,k'):=fun i b g k hi hg hno i' b' hi' k' hk' => by
  obtain ⟨m,hm,hgm⟩:=him' i' _ hk'
  obtain ⟨bm,hbm,-⟩:=him i' m hm
  have:=hH.inj i m b bm g k k' hi hbm hg hgm
  subst this
  have h2:im.any (fun j=>j==i)=true:=List.any_eq_true.2 ⟨i,List.mem_of_getElem? hm,by simp⟩
  rw [hno] at h2;cases h2
 have hblk:∀ g,g<W.heap.size→∀ i b k,look s'.H i=some b→ρ' i=some (g,k)→∃ j bj kj,im.any (fun y=>y==j)=true∧look s.H j=some bj∧bj.w=true∧ρ j=some (g,kj):=fun g hg i b k hi hk=>by
  obtain ⟨i0,b0,k0,h1,-,h2⟩:=hE.old g hg i b k hi hk
  obtain ⟨m,hm,hgm⟩:=him' i0 _ h2
  obtain ⟨bm,hbm,hbw⟩:=him i0 m hm
  exact ⟨m,bm,k0,List.any_eq_true.2 ⟨m,List.mem_of_getElem? hm,by simp⟩,hbm,hbw,hgm⟩
 refine ⟨ρ'',⟨hH'.low,fun i hi=>?_,fun i=>?_,fun i j b b' g k k' hi hj hgi hgj=>?_⟩,⟨hT'.df,by simpa [dD] using hT'.sz,fun t v hv=>?_⟩,⟨hsub,fun i p hp=>?_,hE.still,fun g hg hno=>?_,fun i b hi=>?_,hE.str,fun g hg hno=>?_,fun i b hi hbw=>?_,?_⟩,fun k p hp=>?_⟩
 ·simp only [dD,List.length_append,hkl,List.length_map] at hi
  simp only [ρ'']
  rw [if_neg (by omega)]
  split
  ·exact hH'.fr _ (by omega)
  ·rfl
 ·cases hi:look (dD s im s').H i with
  | none=>trivial
  | some b =>
   rcases hlk i b hi with ⟨h1,h2,h3⟩ | ⟨h1,b0,h3,h4⟩
   ·have h5:=hH.hp i
    rw [h3] at h5
    obtain ⟨g,hg,hO,hB⟩:=h5
    have hn:=hno0 i b g b.k h3 hg h2
    refine ⟨g,hsub _ _ hg,hE.keepO g hO hn,hB.mono hE.still hsub (hE.blk g hB.lt fun i' b' hi' _=>hn i' b' hi')⟩
   ·have h5:=hH'.hp (i - nx)
    rw [h3] at h5
    obtain ⟨g,hg,hO,hB⟩:=h5
    obtain ⟨h6,h7,h8⟩:=vN hf h4 hB
    refine ⟨g,?_,hO,h6⟩
    simp only [ρ'']
    rw [if_neg (by omega),h3,h8]
    exact hg
 ·have cls:∀ i b g k,look (dD s im s').H i=some b→ρ'' i=some (g,k)→(i<nx∧im.any (fun j=>j==i)=false∧look s.H i=some b∧ρ i=some (g,k))∨(nx≤i∧∃ b0,look s'.H (i - nx)=some b0∧ρ' (i - nx)=some (g,k)):=fun i b g k hi hg=>by
   rcases hlk i b hi with ⟨h1,h2,h3⟩ | ⟨h1,b0,h3,-⟩
   ·simp only [ρ'',h1,if_true] at hg
    exact .inl ⟨h1,h2,h3,hg⟩
   ·simp only [ρ''] at hg
    rw [if_neg (by omega),h3] at hg
    exact .inr ⟨h1,b0,h3,hg⟩
  have apart:∀ i b g k j b' k',(i<nx∧im.any (fun j=>j==i)=false∧look s.H i=some b∧ρ i=some (g,k))→look s'.H j=some b' → ρ' j=some (g,k')→False:=fun i b g k j b' k' ⟨_,h2,h3,h4⟩ h5 h6=>by
   have h7:=hH.hp i
   rw [h3] at h7
   obtain ⟨g',hg',-,hB⟩:=h7
   rw [h4] at hg';cases hg'
   obtain ⟨m,bm,km,h8,h9,-,h10⟩:=hblk g hB.lt j b' k' h5 h6
   have:=hH.inj i m b bm g _ km h3 h9 h4 h10
   subst this
   rw [h2] at h8;cases h8
  rcases cls i b g k hi hgi with h1 | ⟨h1,b0,h2,h3⟩ <;> rcases cls j b' g k' hj hgj with h4 | ⟨h4,b1,h5,h6⟩
  ·exact hH.inj i j b b' g k k' h1.2.2.1 h4.2.2.1 h1.2.2.2 h4.2.2.2
  ·exact (apart i b g k _ b1 k' h1 h5 h6).elim
  ·exact (apart j b' g k' _ b0 k h4 h2 h3).elim
  ·have:=hH'.inj _ _ b0 b1 g k k' h2 h5 h3 h6
   omega
 ·simp only [dD,List.getElem?_map] at hv
  obtain ⟨u,hu,rfl⟩:=Option.map_eq_some_iff.1 hv
  obtain ⟨c,hc,hr⟩:=hT'.tm t u hu
  exact ⟨c,hc,Di hf hr⟩
 ·simp only [ρ''] at hp
  split at hp
  ·exact .inl hp
  ·split at hp
   ·next hlt hs =>
    obtain ⟨b,hb⟩:=Option.isSome_iff_exists.1 hs
    refine .inr ⟨by omega,?_⟩
    by_cases hg:p.1<W.heap.size
    ·obtain ⟨m,bm,km,-,h9,h10,h11⟩:=hblk p.1 hg _ b p.2 hb hp
     exact .inr ⟨m,bm,km,h9,h10,h11⟩
    ·exact .inl (by omega)
   ·cases hp
 ·refine hE.keepO g hg fun i b hi k hk=>?_
  obtain ⟨m,hm,hgm⟩:=him' i _ hk
  obtain ⟨bm,hbm,-⟩:=him i m hm
  exact hno m bm hbm k hgm
 ·rcases hlk i b hi with ⟨-,-,h3⟩ | ⟨h1,-⟩
  ·exact .inl ⟨b,h3,fun h=>h⟩
  ·exact .inr h1
 ·refine hE.blk g hg fun i b hi hbw k hk=>?_
  obtain ⟨m,hm,hgm⟩:=him' i _ hk
  obtain ⟨bm,hbm,hbw'⟩:=him i m hm
  exact hno m bm hbm hbw' k hgm
 ·have hlt:=aK hi
  simp only [dD,Ex,hkl]
  rw [if_pos hlt,yu]
  split
  ·next hany =>
   obtain ⟨j,hj,he⟩:=List.any_eq_true.1 hany
   obtain ⟨k,hk⟩:=List.mem_iff_getElem?.1 hj
   obtain ⟨bm,hbm,hbw'⟩:=him k j hk
   have:j=i:=by simpa using he
   subst this
   rw [hi] at hbm;cases hbm
   rw [hbw] at hbw';cases hbw'
  ·exact hi
 ·simp only [dD,List.length_append,hkl];omega
 ·have hn:¬ (s.H.length+k<nx):=by show ¬ (s.H.length+k<s.H.length);omega
  simp only [ρ'',hn,if_false] at hp
  split at hp
  ·rwa [show s.H.length+k - nx=k by show s.H.length+k - s.H.length=k;omega] at hp
  ·cases hp
theorem Zo {f:Nat→Option Nat} {b b' : Blk} (h:rV f b=some b'):b'.w=b.w:=by
 unfold rV at h
 split at h
 ·cases h;rfl
 ·split at h
  ·cases h;rfl
  ·split at h
   ·cases h;rfl
   ·cases h
def mvF (i j:Nat) (x:Nat):Option Nat:=match x==j with
 | true=>some i
 | false=>some x
def mvB (nx i j:Nat) (H:List (Option Blk)) (x:Option Blk×Nat):Option Blk:=match x.2==i with
 | true=>(look H j).bind (rV (mvF i j))
 | false=>match x.2==j with
  | true=>none
  | false=>match Nat.blt x.2 nx with
   | true=>x.1
   | false=>x.1.bind (rV (mvF i j))
def mvS (nx i j:Nat) (s:Sg):Sg:=⟨s.T.map (TD (mvF i j)),s.H.zipIdx.map (mvB nx i j s.H)⟩
theorem Kj {nx i j:Nat} {H:List (Option Blk)} (x:Nat):look (H.zipIdx.map (mvB nx i j H)) x=if x<H.length then mvB nx i j H (look H x,x) else none:=by
 unfold look
 simp only [List.getElem?_map,List.getElem?_zipIdx,Nat.zero_add]
 by_cases hx:x<H.length
 ·rw [if_pos hx,List.getElem?_eq_getElem hx]
  simp only [Option.map_some]
 ·rw [if_neg hx,List.getElem?_eq_none (by omega)];rfl
theorem xK {nx i j:Nat} {H:List (Option Blk)} {x:Nat} {b:Blk} (h:look (H.zipIdx.map (mvB nx i j H)) x=some b) :
  (x=i∧∃ b0,look H j=some b0∧rV (mvF i j) b0=some b)∨(x≠i∧x≠j∧∃ b0,look H x=some b0∧(b0=b∨rV (mvF i j) b0=some b)):=by
 rw [Kj] at h
 split at h
 ·unfold mvB at h
  simp only at h
  split at h
  ·next e =>
   obtain ⟨b0,h1,h2⟩:=Option.bind_eq_some_iff.1 h
   exact .inl ⟨by simpa using e,b0,h1,h2⟩
  ·next e =>
   split at h
   ·cases h
   ·next e2 =>
    refine .inr ⟨by simpa using e,by simpa using e2,?_⟩
    split at h
    ·exact ⟨b,h,.inl rfl⟩
    ·obtain ⟨b0,h1,h2⟩:=Option.bind_eq_some_iff.1 h
     exact ⟨b0,h1,.inr h2⟩
 ·cases h
theorem a2u {ρ:A8} {O:Nat→Prop} {W:World} {s:Sg} {a:Act} {nx i j:Nat} (hH:HConc ρ O s.H W) (hT:TConc ρ O s.T a W) (hρ:∀ p,ρ j=some p→ρ i=some p):HConc ρ O (mvS nx i j s).H W∧TConc ρ O (mvS nx i j s).T a W:=by
 have hf:∀ y k p,mvF i j y=some k→ρ y=some p→ρ k=some p:=fun y k p hy hp=>by
  unfold mvF at hy
  split at hy
  ·next e=>cases hy;have:y=j:=(by simpa using e);subst this;exact hρ p hp
  ·cases hy;exact hp
 refine ⟨⟨hH.low,fun x hx=>hH.fr x (by simpa [mvS] using hx),fun x=>?_,fun x y b b' g k k' hx hy hgx hgy=>?_⟩,⟨hT.df,by simpa [mvS] using hT.sz,fun t v hv=>?_⟩⟩
 ·cases hx:look (mvS nx i j s).H x with
  | none=>trivial
  | some b =>
   rcases xK hx with ⟨rfl,b0,h1,h2⟩ | ⟨-,-,b0,h1,h2⟩
   ·have h5:=hH.hp j
    rw [h1] at h5
    obtain ⟨g,hg,hO,hB⟩:=h5
    obtain ⟨h6,h7,h8⟩:=vN hf h2 hB
    exact ⟨g,by rw [h8];exact hρ _ hg,hO,h6⟩
   ·have h5:=hH.hp x
    rw [h1] at h5
    obtain ⟨g,hg,hO,hB⟩:=h5
    rcases h2 with rfl | h2
    ·exact ⟨g,hg,hO,hB⟩
    ·obtain ⟨h6,h7,h8⟩:=vN hf h2 hB
     exact ⟨g,by rw [h8];exact hg,hO,h6⟩
 ·have cls:∀ x b g k,look (mvS nx i j s).H x=some b→ρ x=some (g,k)→∃ x0 b0 k0,look s.H x0=some b0∧ρ x0=some (g,k0)∧((x=i∧x0=j)∨(x≠i∧x≠j∧x0=x)):=fun x b g k hx hg=>by
   rcases xK hx with ⟨rfl,b0,h1,-⟩ | ⟨h3,h4,b0,h1,-⟩
   ·have h5:=hH.hp j
    rw [h1] at h5
    obtain ⟨g',hg',-⟩:=h5
    have:=hρ _ hg'
    rw [hg] at this;cases this
    exact ⟨j,b0,_,h1,hg',.inl ⟨rfl,rfl⟩⟩
   ·exact ⟨x,b0,k,h1,hg,.inr ⟨h3,h4,rfl⟩⟩
  obtain ⟨x0,b0,k0,h1,h2,h3⟩:=cls x b g k hx hgx
  obtain ⟨y0,b1,k1,h4,h5,h6⟩:=cls y b' g k' hy hgy
  have:=hH.inj x0 y0 b0 b1 g k0 k1 h1 h4 h2 h5
  omega
 ·simp only [mvS,List.getElem?_map] at hv
  obtain ⟨u,hu,rfl⟩:=Option.map_eq_some_iff.1 hv
  obtain ⟨c,hc,hr⟩:=hT.tm t u hu
  exact ⟨c,hc,Di hf hr⟩
theorem a0X {ρ ρ' : A8} {O O' : Nat→Prop} {H0:List (Option Blk)} {W W' : World} {s:Sg} {i j:Nat} (hE:Ext ρ O H0 W ρ' O' s.H W') {b:Blk} (hi:look H0 i=some b) (hw:b.w=true) (hj:H0.length≤j):Ext ρ O H0 W ρ' O' (mvS H0.length i j s).H W' := by
 refine ⟨hE.sub,hE.new,hE.still,hE.keepO,fun x b' hx=>?_,hE.str,hE.blk,fun x b' hx hbw=>?_,by simpa [mvS] using hE.len⟩
 ·rcases xK hx with ⟨rfl,-⟩ | ⟨-,-,b0,h1,h2⟩
  ·exact .inl ⟨b,hi,fun _=>hw⟩
  ·have e:b'.w=b0.w:=by rcases h2 with rfl | h2;rfl;exact Zo h2
   rcases hE.live x b0 h1 with ⟨b1,h3,h4⟩ | h3
   ·exact .inl ⟨b1,h3,fun h=>h4 (e ▸ h)⟩
   ·exact .inr h3
 ·have h1:=hE.keep x b' hx hbw
  have hlt:=aK hx
  have hlt2:=aK h1
  have n1:(x==i)=false:=by
   cases e:x==i
   ·rfl
   ·have:x=i:=by simpa using e
    subst this;rw [hi] at hx;cases hx;rw [hw] at hbw;cases hbw
  have n2:(x==j)=false:=by
   cases e:x==j
   ·rfl
   ·have:x=j:=by simpa using e
    omega
  have n3:Nat.blt x H0.length=true:=by simp [Nat.blt_eq];exact hlt
  show look (s.H.zipIdx.map (mvB H0.length i j s.H)) x=some b'
  rw [Kj,if_pos hlt2]
  unfold mvB
  simp only [n1,n2,n3,h1]
def mvs (nx:Nat) (im:List Nat):Nat→Sg→Sg
 | 0,s=>s
 | k+1,s=>match im[k]? with
  | some i=>mvS nx i (nx+k) (mvs nx im k s)
  | none=>mvs nx im k s
theorem QC {ρ ρ' : A8} {O O' : Nat→Prop} {H0:List (Option Blk)} {W W' : World} {im:List Nat} {a:Act} (him:∀ (k i:Nat),im[k]? = some i→∃ b,look H0 i=some b∧b.w=true) {s:Sg} (hH:HConc ρ' O' s.H W') (hT:TConc ρ' O' s.T a W') (hE:Ext ρ O H0 W ρ' O' s.H W') :
  ∀ K,(∀ k i p,k<K→im[k]? = some i→ρ' (H0.length+k)=some p→ρ' i=some p)→HConc ρ' O' (mvs H0.length im K s).H W' ∧ TConc ρ' O' (mvs H0.length im K s).T a W' ∧ Ext ρ O H0 W ρ' O' (mvs H0.length im K s).H W'
 | 0,_=>⟨hH,hT,hE⟩
 | K+1,h=>by
  obtain ⟨h1,h2,h3⟩:=QC him hH hT hE K fun k i p hk=>h k i p (by omega)
  unfold mvs
  split
  ·next i hi =>
   obtain ⟨b,hb,hw⟩:=him K i hi
   obtain ⟨h4,h5⟩:=a2u (nx:=H0.length) h1 h2 (i:=i) (j:=H0.length+K) fun p hp=>h K i p (by omega) hi hp
   exact ⟨h4,h5,a0X h3 hb hw (by omega)⟩
  ·exact ⟨h1,h2,h3⟩
def a1Q (P:Program) (K:Nat) (c:Code) (n:Nat) (s:Sg) (x:Exit) (s' : Sg):Prop :=
 ∀ (ρ:A8) (O:Nat→Prop) (a:Act) (W:World) (Q:Exit→Act→World→Prop),HConc ρ O s.H W→TConc ρ O s.T a W →
  (∀ ρ' O' a' W',HConc ρ' O' s'.H W' → TConc ρ' O' s'.T a' W' → ExtL ρ O s.H W ρ' O' s'.H W' → (∀ k,k<K→ρ' k=ρ k)→Q x a' W')→Code.rounds P c Q n a W
def eY (P:Program) (K:Nat) (c:Code) (s:Sg) (x:Exit) (s' : Sg):Prop:=∃ n,a1Q P K c n s x s'
theorem Tx {ρ:A8} {O:Nat→Prop} {W:World} {s s0 s' : Sg} {im keep:List Nat} {K:Nat} (h:canon im keep s=some s0) (hH:HConc ρ O s.H W) {a0:Act} (hT:TConc ρ O s.T a0 W) {ρ' : A8} {O' : Nat→Prop} {a:Act} {W' : World} (hH' : HConc ρ' O' s'.H W') (hT' : TConc ρ' O' s'.T a W') (hE:ExtL (jH ρ im) O s0.H W ρ' O' s'.H W') (hK:∀ k,k<K→ρ' k=jH ρ im k) :
  ∃ ρ'',HConc ρ'' O' (mvs s.H.length im K (dD s im s')).H W' ∧ TConc ρ'' O' (mvs s.H.length im K (dD s im s')).T a W' ∧ Ext ρ O s.H W ρ'' O' (mvs s.H.length im K (dD s im s')).H W' := by
 obtain ⟨-,-,-,-,him,-⟩:=az h hH hT
 obtain ⟨ρ'',h1,h2,h3,h4⟩:=BQ h hH hT hH' hT' hE
 exact ⟨ρ'',QC him h1 h2 h3 K fun k i p hk hi hp=>h3.sub i p (by
  have:=hK k hk
  rw [h4 k p hp] at this
  unfold jH at this
  rw [hi] at this
  exact this.symm)⟩
end
section
open Go.RowKit
def oz (H:Nat→Option Blk) (v:Value):Value:=match ou H v with
 | some (v',_,_)=>v'
 | none=>v
def xq (P:Program) (op:Op) (e:Operand→Value) (H:Nat→Option Blk) (nx:Nat) (orc:List Value):EeR :=
 match op with
 | .buildSlice t len parts=>match iD (ou H) (parts.toList.map fun p=>e p.2) with
  | some (_,is,ps)=>match DN P t len (parts.toList.map fun p=>(p.1,oz H (e p.2))) nx [] with
   | some (.slice (some ⟨i,0,some 0⟩) n _,[],[(j,some b)],k,[],[])=>if b.arr&&(i==nx&&(j==nx&&k==nx+1)) then some (F4 b.n b.els,is,(nx,none)::is.map (·,none),nx+1,orc,ps++[pu n b.n b.els]) else none
   | _=>none
  | none=>none
 | _=>none
def IZ (P:Program) (op:Op) (e:Operand→Value) (H:Nat→Option Blk) (nx:Nat) (orc:List Value):EeR :=
 match op with
 | .slice t x lo hi none=>match iD (ou H) ((x::(lo.toList++hi.toList)).map e) with
  | some (_,is,ps)=>match Ku P t (oz H (e x)) (lo.map fun y=>oz H (e y)) (hi.map fun y=>oz H (e y)) orc with
   | some (v,[],orc',ob)=>some (v,is,is.map (·,none),nx,orc',ps++ob)
   | _=>none
  | none=>none
 | _=>none
def DZ (P:Program) (op:Op) (e:Operand→Value) (nx:Nat) (orc:List Value):EeR :=
 match op with
 | .buildSlice t len parts=>rA false P t len (parts.toList.map fun p=>(p.1,e p.2)) nx orc
 | _=>none
def Gx (P:Program) (op:Op) (e:Operand→Value) (H:Nat→Option Blk) (nx:Nat) (orc:List Value):EeR :=
 match Il P op e H nx orc with
 | some r=>some r
 | none=>match xq P op e H nx orc with
  | some r=>some r
  | none=>match IZ P op e H nx orc with
   | some r=>some r
   | none=>DZ P op e nx orc
section
variable {P:Program} {ρ:A8} {O:Nat→Prop} {W:World}
theorem ui {f:Value→Option (Value×List Nat×List Prop)}:∀ {xs al:List Value} {is:List Nat} {ps:List Prop},iD f xs=some (al,is,ps)→J3 ps→∀ x∈xs,∃ y js qs,f x=some (y,js,qs)∧(∀ j∈js,j∈is)∧J3 qs
 | [],_,_,_,_,_,x,hx=>by cases hx
 | a::r,al,is,ps,h,hc,x,hx=>by
  simp only [iD] at h
  split at h
  ·next y i p s js qs h1 h2 =>
   cases h
   obtain ⟨c1,c2⟩:=o6.1 hc
   rcases List.mem_cons.1 hx with rfl | hx
   ·exact ⟨y,i,p,h1,fun j hj=>List.mem_append.2 (.inl hj),c1⟩
   ·obtain ⟨y',js',qs',k1,k2,k3⟩:=ui h2 c2 x hx
    exact ⟨y',js',qs',k1,fun j hj=>List.mem_append.2 (.inr (k2 j hj)),k3⟩
  ·cases h
theorem FH {bd:Nat} {o:Oper} {e:Operand→Value} {H:Nat→Option Blk} {nx nx' : Nat} {orc orc' : List Value} {v:Value} {rd:List Nat} {wr:List (Nat×Option Blk)} {ob:List Prop} (h:xq P o.op e H nx orc=some (v,rd,wr,nx',orc',ob)) (hob:J3 ob):iy P bd o e H nx nx' rd wr v:=by
 unfold xq at h
 split at h
 ·next t len parts ho =>
  split at h
  ·next al is ps hl =>
   split at h
   ·next i n m j b k hs =>
    split at h
    ·next hc =>
     cases h
     simp only [Bool.and_eq_true,beq_iff_eq] at hc
     obtain ⟨hba,rfl,rfl,rfl⟩:=hc
     obtain ⟨hp,hlen,-⟩:=o6.1 hob
     intro ρ O a W K Q hlow he hrd _ hfr hbdr _ hK
     have hd:=ny (bd:=bd) (e:=fun x=>oz H (e x)) (H:=fun _=>none) ho hs
     have hni:ρ j=none:=hfr j (Nat.le_refl _) (by omega)
     refine hd ρ (N9 ρ O rd) a W K Q (ik hlow) (fun x hx=>?_) (fun q hq=>by cases hq) (fun p hp=>trivial) hfr hbdr (fun q hq=>by cases hq) ?_
     ·-- the operands,lent
      simp only [ho,Op.operands,List.mem_toArray,List.mem_map] at hx
      obtain ⟨p,hpm,rfl⟩:=hx
      obtain ⟨y,js,qs,k1,k2,k3⟩:=ui hl hp (e p.2) (List.mem_map.2 ⟨p,hpm,rfl⟩)
      have hr:=he p.2 (by simp only [ho,Op.operands,List.mem_toArray,List.mem_map];exact ⟨p,hpm,rfl⟩)
      have:=gV k1 k3 hr (fun j hj=>hrd j (k2 j hj))
      show Rp ρ (N9 ρ O rd) W (oz H (e p.2)) _
      unfold oz
      rw [k1]
      exact this.mono (gP k2) (I8 _)
     ·intro c ρ' O' W' hr hw hS
      have hb:=hw (j,some b) (by simp)
      obtain ⟨g,hg,hOg,hB⟩:=hb
      have hgn:W.heap.size≤g:=by
       rcases hS.new j _ hg with h1 | ⟨-,-,h1 | ⟨q,hj,-⟩⟩
       ·rw [hni] at h1;cases h1
       ·exact h1
       ·simp [kills] at hj
      have hrow:=gX (H:=fun _=>some b) (is:=[j]) (ob:=[pu n b.n b.els]) (v' := F4 b.n b.els) (by unfold qB;simp [hba]) ⟨hlen,trivial⟩ hr (fun q hj=>by
       simp only [List.mem_singleton] at hj
       subst hj
       exact ⟨g,hg,hOg,hB⟩)
      have hwr:∀ p∈(j,(none:Option Blk))::rd.map (·,none),HAt ρ (N9 ρ' O' [j]) W' p.1 p.2:=fun p hp=>by
       rcases List.mem_cons.1 hp with rfl | hp
       ·trivial
       ·obtain ⟨q,-,rfl⟩:=List.mem_map.1 hp
        trivial
      refine hK c ρ (N9 ρ' O' [j]) W' (hrow.mono (Still.refl _ _) (I8 _)) hwr ⟨Sub.refl _,fun _ _ h=>.inl h,⟨hS.still.size,fun q hq hO=>?_,hS.still.shp⟩,fun q hq=>hS.low q hq.1,fun q hq hno=>⟨?_,fun j hj k hk=>?_⟩,hS.str,fun q hq hno=>?_⟩
      ·have:=hS.still.pl q hq (fun h=>hO h.1)
       exact ⟨fun h=>this.1 h.1,this.2⟩
      ·refine hS.keepO q ⟨hq,fun j hj k=>hno j ?_ k⟩ fun j hj k hk=>?_
       ·simp only [List.map_cons,List.mem_cons]
        exact .inr (by simpa using hj)
       ·simp only [List.map_cons,List.map_nil,List.mem_singleton] at hj
        subst hj
        rw [hni] at hk;cases hk
      ·simp only [List.mem_singleton] at hj
       subst hj
       have hql:=hlow q hq
       rw [hg] at hk;cases hk
       omega
      ·refine hS.blk q hq fun j hj k hk=>?_
       simp only [List.map_cons,List.map_nil,List.mem_singleton] at hj
       subst hj
       rw [hni] at hk;cases hk
    ·cases h
   ·cases h
  ·cases h
 ·cases h
theorem NQ {bd:Nat} {o:Oper} {e:Operand→Value} {H:Nat→Option Blk} {nx nx' : Nat} {orc orc' : List Value} {v:Value} {rd:List Nat} {wr:List (Nat×Option Blk)} {ob:List Prop} (h:IZ P o.op e H nx orc=some (v,rd,wr,nx',orc',ob)) (hob:J3 ob):iy P bd o e H nx nx' rd wr v:=by
 unfold IZ at h
 split at h
 ·next t x lo hi ho =>
  split at h
  ·next al is ps hl =>
   split at h
   ·next v1 orc1 ob1 hs =>
    cases h
    obtain ⟨hp,hob1⟩:=o6.1 hob
    intro ρ O a W K Q hlow he hrd _ hfr hbdr _ hK
    have hv:=FB (e:=fun y=>oz H (e y)) (H:=fun _=>none) hs hob1
    have hops:∀ y∈o.op.operands,Rp ρ (N9 ρ O rd) W (oz H (e y)) (a.eval y):=fun y hy=>by
     have hm:e y∈(x::(lo.toList++hi.toList)).map e:=by
      refine List.mem_map.2 ⟨y,?_,rfl⟩
      rw [ho] at hy
      cases lo <;> cases hi <;> simp [Op.operands] at hy ⊢ <;> simpa [or_assoc] using hy
     obtain ⟨z,js,qs,k1,k2,k3⟩:=ui hl hp _ hm
     have:=gV k1 k3 (he y hy) (fun j hj=>hrd j (k2 j hj))
     unfold oz
     rw [k1]
     exact this.mono (gP k2) (I8 _)
    obtain ⟨c,hc,hr⟩:=hv ρ (N9 ρ O rd) W o a.eval ho (fun y hy=>hops y (by rw [ho];exact hy)) (fun j hj=>by cases hj)
    unfold Oper.wp
    rw [show (execOp a.eval o).run P W=_ from hc]
    refine hK c ρ (N9 ρ O rd) W hr (fun p hp=>?_) ⟨Sub.refl _,fun _ _ h=>.inl h,aI rd,fun q hq=>hlow q hq.1,fun q hq hno=>⟨hq,fun j hj k=>hno j ?_ k⟩,⟨rfl,rfl,rfl⟩,fun q hq hno=>rfl⟩
    ·obtain ⟨q,-,rfl⟩:=List.mem_map.1 hp
     trivial
    ·simpa using hj
   ·cases h
  ·cases h
 ·cases h
theorem LW {bd:Nat} {o:Oper} {e:Operand→Value} {H:Nat→Option Blk} {nx nx' : Nat} {orc orc' : List Value} {v:Value} {rd:List Nat} {wr:List (Nat×Option Blk)} {ob:List Prop} (h:Gx P o.op e H nx orc=some (v,rd,wr,nx',orc',ob)) (hob:J3 ob):iy P bd o e H nx nx' rd wr v:=by
 unfold Gx at h
 split at h
 ·next r hr=>cases h;exact Mx hr hob
 ·split at h
  ·next r hr=>cases h;exact FH hr hob
  ·split at h
   ·next r hr=>cases h;exact NQ hr hob
   ·unfold DZ at h
    split at h
    ·next ho=>exact ny ho h
    ·cases h
end
end
section
open Go.RowKit
def eo (T:List Value):Operand→Value
 | .tmp t=>(T[t]?).getD gN
 | .const v=>wT v
 | .global _=>gN
 | .func f=>.func (.func f) #[] #[]
def vP (v:Value) (orc:List Value):Option (Bool×List Value×List Prop) :=
 match v with
 | .iface 1000003 (.bool b)=>some (b,orc,[])
 | .bool b=>match orc with
  | r::orc' => match r with
   | .bool dir=>some (dir,orc',[b=dir])
   | .nilFunc=>match b with
    | true=>some (true,orc',[])
    | false=>some (false,orc',[])
   | _=>none
  | []=>none
 | _=>none
structure Fx where
 v:Value
 rd:List Nat
 wr:List (Nat×Option Blk)
 nx:Nat
abbrev Z5:=FuncId→List Value→List (Option Blk)→List Value→Option (Value×List (Option Blk)×List Value×List Prop)
abbrev EsR:=Option (Sg×List Value×List Prop)
def Vs (P:Program) (ext:List FuncId) (o:Oper) (T:List Value) (H:List (Option Blk)) (orc:List Value):Option (Fx×List Value×List Prop) :=
 match o.op with
 | .call { callee:=.value fo,args,argTypes:=_ }=>match eo T fo with
  | .func (.func g) fs cs=>if MP P g&&ext.contains g then (PG P g (fs.toList++args.toList.map (eo T)++cs.toList) (look H) H.length orc).map fun r=>(⟨r.1,r.2.1,r.2.2.1,r.2.2.2.1⟩,r.2.2.2.2.1,r.2.2.2.2.2) else none
  | _=>none
 | op=>(Gx P op (eo T) (look H) H.length orc).map fun r=>(⟨r.1,r.2.1,r.2.2.1,r.2.2.2.1⟩,r.2.2.2.2.1,r.2.2.2.2.2)
def Ez (P:Program) (ext:List FuncId) (o:Oper) (T:List Value):Option (FuncId×List Value) :=
 match o.op with
 | .call { callee:=.value fo,args,argTypes:=_ }=>match eo T fo with
  | .func (.func g) fs cs=>if MP P g && !ext.contains g then some (g,fs.toList++args.toList.map (eo T)++cs.toList) else none
  | _=>none
 | _=>none
def Yp:Value→Bool
 | .tuple xs=>xs.toList.isEmpty
 | _=>false
def MW (all:List Oper) (o:Oper) (T:List Value) (orc:List Value):Option (Bool×List Value×List Value×List Prop) :=
 match o.guard with
 | none=>some (true,T,orc,[])
 | some (j,want)=>match (all[j]?).bind (·.dst) with
  | some d=>match T[d]? with
   | some u=>match Yp u with
    | true=>some (false,T,orc,[])
    | false=>match vP u orc with
     | some (b,orc',ob)=>some (b==want,T.set d (vD b),orc',ob)
     | none=>none
   | none=>none
  | none=>none
def Mk (P:Program) (ext:List FuncId) (call:Z5) (all:List Oper) (o:Oper) (s:Sg) (orc:List Value):EsR :=
 match MW all o s.T orc with
 | some (run,T1,orc1,ob1)=>match run with
  | false=>some (⟨qM T1 o.dst (.tuple #[]),s.H⟩,orc1,ob1)
  | true=>match Ez P ext o T1 with
   | some (g,args)=>match call g args s.H orc1 with
    | some (v,H',orc2,ob2)=>some (⟨qM T1 o.dst v,H'⟩,orc2,ob1++ob2)
    | none=>none
   | none=>match Vs P ext o T1 s.H orc1 with
    | some (fx,orc2,ob2)=>if zt s.H fx.wr fx.nx then some (⟨qM T1 o.dst fx.v,Y0 s.H fx.wr fx.nx⟩,orc2,ob1++ob2) else none
    | none=>none
 | none=>none
def Gm (P:Program) (ext:List FuncId) (call:Z5) (all:List Oper):List Oper→Sg→List Value→EsR
 | [],s,orc=>some (s,orc,[])
 | o::r,s,orc=>match Mk P ext call all o s orc with
  | some (s1,orc1,ob1)=>match Gm P ext call all r s1 orc1 with
   | some (s2,orc2,ob2)=>some (s2,orc2,ob1++ob2)
   | none=>none
  | none=>none
def Iu:List Oper→List Nat→List Nat
 | [],acc=>acc
 | o::r,acc=>Iu r (acc++[o.after.toList.foldl (fun s e=>if Region.binds .any e then s ||| 2 ^ e.on ||| acc.getD e.on 0 else s) 0])
structure Rc where
 rt:List Nat
 wt:List Nat
 rd:List Nat
 wd:List Nat
def GR (a b:List Nat):Bool:=a.all fun x=>b.all fun y=>!(x==y)
def ky (p q:Rc):Bool:=GR p.wt q.rt&&GR p.wt q.wt&&GR p.rt q.wt&&GR p.wd q.rd&&GR p.wd q.wd&&GR p.rd q.wd
def a3x (bits:Nat) (recs:List Rc) (r:Rc):Bool:=(recs.zipIdx).all fun x=>bits.testBit x.2||ky x.1 r
def yJ (o:Oper):List Nat:=o.op.operands.toList.filterMap fun | .tmp t=>some t | _=>none
def xB (all:List Oper) (o:Oper):List Nat :=
 match o.guard with
 | none=>[]
 | some (j,_)=>match (all[j]?).bind (·.dst) with
  | some d=>[d]
  | none=>[]
def frz (hide:List Nat) (bd:Nat) (H:List (Option Blk)):List (Option Blk) :=
 (H.zipIdx.map fun x=>if hide.any (fun y=>y==x.2) then none else x.1.map fun b=>{ b with w:=false })++List.replicate (bd - H.length) none
def ltA (bd:Nat):Value→Bool
 | .iface 1000007 _=>false
 | .pointer (some a)=>Nat.blt a.block bd
 | .slice (some a) _ _=>Nat.blt a.block bd
 | .agg _ | .tuple _ | .func _ _ _=>false
 | .map (some i)=>Nat.blt i bd
 | _=>true
def ltV (bd:Nat):Value→Bool
 | .agg xs=>xs.toList.all (ltA bd)
 | .tuple xs=>xs.toList.all fun | .agg ys=>ys.toList.all (ltA bd) | v=>ltA bd v
 | v=>ltA bd v
def hidden (bits:Nat) (recs:List Rc):List Nat:=(recs.zipIdx).flatMap fun x=>if bits.testBit x.2 then [] else x.1.wd
def kF (H:List (Option Blk)):List Nat:=(H.zipIdx).filterMap fun x=>x.1.map fun _=>x.2
def ltF (bd:Nat):Value→Bool
 | .func _ fs cs=>fs.toList.all (ltA bd)&&cs.toList.all (ltA bd)
 | v=>ltA bd v
def GI (bd:Nat) (v:Value) (H' : List (Option Blk)):Option Blk :=
 match v with
 | .map (some j)=>match look H' j with
  | some b=>if b.isMap&&Nat.ble bd j&&b.els.all (fun el=>match el with | .agg xs=>xs.toList.all (ltF bd) | _=>false) then some b else none
  | none=>none
 | _=>none
def a1H (bd:Nat) (H' : List (Option Blk)) (v:Value):Option Value :=
 match ltA bd v with
 | true=>some v
 | false=>match v with
  | .pointer (some ⟨j,0,some 0⟩)=>match look H' j with
   | some b=>match b.els with
    | [el]=>if Nat.ble bd j && !b.isMap&&el.cells.toList.all (ltF bd) then some (vFz el.cells.toList) else none
    | _=>none
   | none=>none
  | _=>none
def SN (bd:Nat) (H' : List (Option Blk)):List Value→Option (List Value)
 | []=>some []
 | v::r=>match a1H bd H' v,SN bd H' r with
  | some u,some s=>some (u::s)
  | _,_=>none
def GZ (bd:Nat) (v:Value) (H' : List (Option Blk)):Option Value :=
 match v with
 | .func fn fs cs=>if fs.toList.all (ltA bd) then (SN bd H' cs.toList).map fun l=>.func fn fs l.toArray else none
 | _=>none
def GV (bd:Nat) (v:Value) (H' : List (Option Blk)):Option (Value×List Prop) :=
 match v with
 | .tuple xs=>match iD (ou (look H')) xs.toList with
  | some (ys,is,ob)=>if is.all (fun i=>Nat.ble bd i) then some (.tuple ys.toArray,ob) else none
  | none=>none
 | v=>match ou (look H') v with
  | some (u,is,ob)=>if is.all (fun i=>Nat.ble bd i) then some (u,ob) else none
  | none=>none
def Sn (call:Z5) (bd bits:Nat) (recs:List Rc) (g:FuncId) (args:List Value) (H:List (Option Blk)) (orc:List Value):Option (Fx×List Value×List Prop) :=
 let Hf:=frz (hidden bits recs) bd H
 match call g args Hf orc with
 | some (v,H',orc',ob)=>if ltV bd v then some (⟨v,kF Hf,[],H.length⟩,orc',ob) else match GI bd v H' with
  | some b=>some (⟨.map (some H.length),kF Hf,[(H.length,some b)],H.length+1⟩,orc',ob)
  | none=>match GZ bd v H' with
   | some u=>some (⟨u,kF Hf,[],H.length⟩,orc',ob)
   | none=>match GV bd v H' with
    | some (u,ob2)=>some (⟨u,kF Hf,[],H.length⟩,orc',ob++ob2)
    | none=>none
 | none=>none
def Ha (P:Program) (ext:List FuncId) (call:Z5) (bd:Nat) (all:List Oper) (bits:List Nat):List Oper→List Rc→Sg→List Value→EsR
 | [],_,s,orc=>some (s,orc,[])
 | o::r,recs,s,orc=>match MW all o s.T orc with
  | some (run,T1,orc1,ob1) =>
   match (match run with
    | false=>some (⟨.tuple #[],[],[],s.H.length⟩,orc1,[])
    | true=>match Ez P ext o T1 with
     | some (g,args)=>Sn call bd (bits.getD recs.length 0) recs g args s.H orc1
     | none=>Vs P ext o T1 s.H orc1:Option (Fx×List Value×List Prop)) with
   | some (fx,orc2,ob2) =>
    if zt s.H fx.wr fx.nx&&a3x (bits.getD recs.length 0) recs ⟨xB all o++yJ o,o.dst.toList,fx.rd,fx.wr.map (·.1)⟩ then
     match Ha P ext call bd all bits r (recs++[⟨xB all o++yJ o,o.dst.toList,fx.rd,fx.wr.map (·.1)⟩]) ⟨qM T1 o.dst fx.v,Y0 s.H fx.wr fx.nx⟩ orc2 with
     | some (s2,orc3,ob3)=>some (s2,orc3,ob1++(ob2++ob3))
     | none=>none
    else none
   | none=>none
  | none=>none
def Uk (P:Program) (l:List Oper):Bool :=
 match l.getLast? with
 | some o=>(match o.op with | .call { callee:=.value (.func g),args:=_,argTypes:=_ }=>(match P.funcs[g]? with | some fn=>fn.results.isEmpty | none=>false) | _=>false)&&(List.range (l.length - 1)).all fun p=>((Iu l []).getD (l.length - 1) 0).testBit p
 | none=>false
def QN (P:Program) (ext:List FuncId) (call:Z5) (l:List Oper) (s:Sg) (orc:List Value):EsR :=
 match l.getLast? with
 | some o=>match Ha P ext call (s.H.length+l.length) l (Iu l []) l.dropLast [] s orc with
  | some (s1,orc1,ob1)=>match Mk P ext call l o s1 orc1 with
   | some (s2,orc2,ob2)=>some (s2,orc2,ob1++ob2)
   | none=>none
  | none=>none
 | none=>none
abbrev EcR:=Option (Exit×Sg×List Value×List Prop)
def DF (f:Sg→List Value→EcR):Nat→Sg→List Value→EcR
 | 0,_,_=>none
 | n+1,s,orc=>match f s orc with
  | some (x,s1,orc1,ob1)=>match x with
   | .normal=>match DF f n s1 orc1 with
    | some (x2,s2,orc2,ob2)=>some (x2,s2,orc2,ob1++ob2)
    | none=>none
   | x=>some (x,s1,orc1,ob1)
  | none=>none
def Ni:List Value→Option (List Nat)
 | []=>some []
 | .int _ n::r=>(Ni r).map fun s=>n.toNat::s
 | _=>none
def a2L:List Value→Option (List (Nat×Value))
 | []=>some []
 | .int _ n::v::r=>(a2L r).map fun s=>(n.toNat,v)::s
 | _=>none
def a3F:Value→Option Blk
 | .func (.yield n) els ps=>match ps.toList with
  | [.bool arr,.int _ k]=>some ⟨true,arr,k.toNat,n,els.toList⟩
  | _=>none
 | _=>none
def a2w (x:Int):Exit:=match x with
 | .ofNat n=>.exit n
 | .negSucc _=>.ret
def QM (n:Nat) (v:Value):Option (List Nat×List Nat×Exit×Sg) :=
 match v with
 | .tuple xs=>match xs.toList with
  | [.agg im,.agg keep,.int _ x,.agg T,.tuple H]=>match Ni im.toList,Ni keep.toList,a2L T.toList with
   | some im,some keep,some T=>some (im,keep,a2w x,⟨mkT n T,H.toList.map a3F⟩)
   | _,_,_=>none
  | _=>none
 | _=>none
def eN (l:List Nat):Array Value:=(l.map fun (n:Nat)=>Value.int .i64 n).toArray
def eB:Option Blk→Value
 | some b=>.func (.yield b.n) b.els.toArray #[.bool b.arr,.int .i64 b.k]
 | none=>gN
def oLb (im keep:List Nat) (x:Int) (T:List (Nat×Value)) (H:List (Option Blk)):Value :=
 (.tuple #[.agg (eN im),.agg (eN keep),.int .i64 x,.agg (T.flatMap fun p=>[Value.int .i64 p.1,p.2]).toArray,.tuple (H.map eB).toArray])
def oL (im keep:List Nat) (x:Int) (T:List (Nat×Value)) (H:List (Option Blk)):Value:=.iface 1000005 (oLb im keep x T H)
def oK (K:Nat) (im keep:List Nat) (x:Int) (T:List (Nat×Value)) (H:List (Option Blk)):Value:=.iface 1000011 (.tuple #[.int .i64 K,oLb im keep x T H])
def a3u (n:Nat) (v:Value):Option (Nat×List Nat×List Nat×Exit×Sg) :=
 match v with
 | .tuple xs=>match xs.toList with
  | [.int _ K,sp]=>(QM n sp).map fun r=>(K.toNat,r)
  | _=>none
 | _=>none
def WF (T:List Value) (c:Operand) (b:Bool):List Value :=
 match c with
 | .tmp t=>T.set t (vD b)
 | _=>T
def Zp (orc:List Value):Option (List Nat×List Nat×List Nat×Nat×List Value×List Value) :=
 match orc with
 | .iface 1000008 (.tuple xs)::orc' => match xs.toList with
  | [.agg ts,.agg hs,.agg D,.int _ d,.agg els]=>match Ni ts.toList,Ni hs.toList,Ni D.toList with
   | some ts,some hs,some D=>some (ts,hs,D,d.toNat,els.toList,orc')
   | _,_,_=>none
  | _=>none
 | _=>none
def oR (ts hs D:List Nat) (dst:Nat) (els:List Value):Value:=.iface 1000008 (.tuple #[.agg (eN ts),.agg (eN hs),.agg (eN D),.int .i64 dst,.agg els.toArray])
def O1 (P:Program) (ext:List FuncId) (call:Z5) (fuel:Nat):Code→Sg→List Value→EcR
 | .skip,s,orc=>some (.normal,s,orc,[])
 | .region id ops draw,s,orc=>match draw with
  | false=>(Gm P ext call ops.toList ops.toList s orc).map fun r=>(.normal,r)
  | true=>match Zp orc with
   | some (ts,hs,D,d,els,orc')=>if D.any (fun x=>x==d) then some (.normal,⟨Wp D d s.T s.H.length,s.H++[some ⟨true,false,0,0,els⟩]⟩,orc',[a1B P (.region id ops true) s.T.length (a2a ts s.T) (a2Q hs s.H) D d els]) else none
   | none=>if EJ ops.toList then match Uk P ops.toList with
    | true=>(QN P ext call ops.toList s orc).map fun r=>(.normal,r)
    | false=>(Ha P ext call (s.H.length+ops.toList.length) ops.toList (Iu ops.toList []) ops.toList [] s orc).map fun r=>(.normal,r)
    else none
 | .seq a b,s,orc=>match O1 P ext call fuel a s orc with
  | some (x,s1,orc1,ob1)=>match x with
   | .normal=>match O1 P ext call fuel b s1 orc1 with
    | some (x2,s2,orc2,ob2)=>some (x2,s2,orc2,ob1++ob2)
    | none=>none
   | x=>some (x,s1,orc1,ob1)
  | none=>none
 | .cond c a b,s,orc=>match vP (eo s.T c) orc with
  | some (d,orc1,ob1)=>match (match d with
    | true=>O1 P ext call fuel a ⟨WF s.T c true,s.H⟩ orc1
    | false=>O1 P ext call fuel b ⟨WF s.T c false,s.H⟩ orc1) with
   | some (x,s2,orc2,ob2)=>some (x,s2,orc2,ob1++ob2)
   | none=>none
  | none=>none
 | .block id a,s,orc=>match O1 P ext call fuel a s orc with
  | some (x,r)=>match x with
   | .exit id' => some (if id' = id then .normal else .exit id',r)
   | x=>some (x,r)
  | none=>none
 | .loop a,s,orc=>match orc with
  | .iface 1000005 sp::orc' => match QM s.T.length sp with
   | some (im,keep,x,s')=>match canon im keep s with
    | some s0=>some (x,dD s im s',orc',[j4 P a s0 x s'])
    | none=>none
   | none=>none
  | .iface 1000011 sp::orc' => match a3u s.T.length sp with
   | some (K,im,keep,x,s')=>match canon im keep s with
    | some s0=>some (x,mvs s.H.length im K (dD s im s'),orc',[eY P K a s0 x s'])
    | none=>none
   | none=>none
  | _=>DF (O1 P ext call fuel a) fuel s orc
 | .exit id,s,orc=>some (.exit id,s,orc,[])
 | .ret,s,orc=>some (.ret,s,orc,[])
 | .goto l,s,orc=>some (.goto l,s,orc,[])
 | _,_,_=>none
def Vf (P:Program) (ext:List FuncId) (call:Z5) (fuel:Nat):Code→Sg→List Value→EcR
 | .seq a b,s,orc=>match a with
  | .label l=>match orc with
   | .iface 1000005 sp::orc' => match QM s.T.length sp with
    | some (im,keep,x,s')=>match canon im keep s with
     | some s0=>some (x,dD s im s',orc',[X3 P l b s0 x s'])
     | none=>none
    | none=>none
   | _=>none
  | a=>match O1 P ext call fuel a s orc with
   | some (x,s1,orc1,ob1)=>match x with
    | .normal=>match Vf P ext call fuel b s1 orc1 with
     | some (x2,s2,orc2,ob2)=>some (x2,s2,orc2,ob1++ob2)
     | none=>none
    | _=>none
   | none=>none
 | _,_,_=>none
def IX (P:Program) (ext:List FuncId) (call:Z5) (fuel:Nat) (c:Code) (s:Sg) (orc:List Value):EcR :=
 match c with
 | .seq a (.scope b)=>match lbl b with
  | some _=>match O1 P ext call fuel a s orc with
   | some (x,s1,orc1,ob1)=>match x with
    | .normal=>match Vf P ext call fuel b s1 orc1 with
     | some (x2,s2,orc2,ob2)=>some (x2,s2,orc2,ob1++ob2)
     | none=>none
    | _=>none
   | none=>none
  | none=>none
 | c=>O1 P ext call fuel c s orc
def oN (P:Program) (s:Sg):ResultVar→Option Value
 | .tmp t=>some ((s.T[t]?).getD gN)
 | .cell a t=>match s.T[a]? with
  | some v=>match yG P t v (look s.H) [] with
   | some (u,_,_,ob)=>if ob.isEmpty then some u else none
   | none=>none
  | none=>none
def xE (P:Program) (fn:Func) (s:Sg):Option Value :=
 match fn.results.toList.mapM (oN P s) with
 | some [v]=>some v
 | some vs=>some (.tuple vs.toArray)
 | none=>none
def zn (P:Program) (ext:List FuncId) (fuel:Nat):Nat→Z5
 | 0,_,_,_,_=>none
 | n+1,g,args,H,orc=>match P.funcs[g]? with
  | some fn=>match fn.body with
   | some c=>match IX P ext (zn P ext fuel n) fuel c ⟨args++List.replicate (fn.ntmps - args.length) (.tuple #[]),H⟩ orc with
    | some (x,s,orc',ob)=>match x with
     | .normal | .ret=>match xE P fn s with
      | some v=>some (v,s.H,orc',ob)
      | none=>none
     | _=>none
    | none=>none
   | none=>none
  | none=>none
end
section
open Go.RowKit
section
variable {P:Program} {ρ:A8} {O:Nat→Prop} {W:World}
def cz (P:Program) (call:Z5):Prop :=
 ∀ (g:FuncId) (args:List Value) (H:List (Option Blk)) (orc:List Value) (r:Value) (H' : List (Option Blk)) (orc' : List Value) (ob:List Prop),call g args H orc=some (r,H',orc',ob)→J3 ob →
  ∀ (ρ:A8) (O:Nat→Prop) (W:World) (vs:Array Value),HConc ρ O H W→AtAll (Rp ρ O W) args.toArray vs→Calls P g vs W fun e W' => ∃ c ρ' O',e = .returned c∧Rp ρ' O' W' r c∧HConc ρ' O' H' W' ∧ Ext ρ O H W ρ' O' H' W'
theorem kg {v c:Value} {orc orc' : List Value} {b:Bool} {ob:List Prop} (h:vP v orc=some (b,orc',ob)) (hob:J3 ob) (hr:Rp ρ O W v c):c = .bool b:=by
 unfold vP at h
 split at h
 ·cases h;exact rG.1 hr
 ·next b' =>
  have hc:c = .bool b' := H5.1 hr
  split at h
  ·split at h
   ·cases h;rw [hc,hob.1]
   ·split at h
    ·cases h;exact hc
    ·cases h;exact hc
   ·cases h
  ·cases h
 ·cases h
theorem EZ {T:List Value} {a:Act} (h:TConc ρ O T a W) (x:Operand):Rp ρ O W (eo T x) (a.eval x):=by
 cases x with
 | tmp t =>
  show Rp ρ O W ((T[t]?).getD gN) (a.tmps.getD t undef)
  cases ht:T[t]? with
  | none=>exact dF _
  | some v =>
   obtain ⟨c,hc,hr⟩:=h.tm t v ht
   simpa [hc] using hr
 | const v=>exact qX v
 | global g=>exact dF _
 | func f=>exact U6.2 ⟨#[],#[],rfl,⟨rfl,fun i x hx=>by simp at hx⟩,⟨rfl,fun i x hx=>by simp at hx⟩⟩
def Finer (T T1:List Value):Prop:=T1.length=T.length∧∀ (t:Nat) (v v1:Value),T[t]? = some v→T1[t]? = some v1→∀ ρ O W c,Rp ρ O W v c→Rp ρ O W v1 c
theorem Finer.refl (T:List Value):Finer T T:=⟨rfl,fun _ _ _ h1 h2 _ _ _ _ h=>by rw [h1] at h2;cases h2;exact h⟩
theorem Finer.conc {T T1:List Value} {a:Act} (hf:Finer T T1) (h:TConc ρ O T a W):TConc ρ O T1 a W :=
 ⟨h.df,h.sz.trans hf.1.symm,fun t v1 h1=>by
  have ht:t<T.length:=by rw [← hf.1];exact (List.getElem?_eq_some_iff.1 h1).1
  obtain ⟨c,hc,hr⟩:=h.tm t T[t] (List.getElem?_eq_getElem ht)
  exact ⟨c,hc,hf.2 t _ v1 (List.getElem?_eq_getElem ht) h1 _ _ _ _ hr⟩⟩
theorem Ag {T:List Value} {t:Nat} {u:Value} {b:Bool} (hu:T[t]? = some u) (h:∀ ρ O W c,Rp ρ O W u c→c = .bool b):Finer T (T.set t (vD b)):=by
 refine ⟨by simp,fun t' v v1 h1 h2 ρ O W c hr=>?_⟩
 rw [List.getElem?_set] at h2
 by_cases e:t=t'
 ·subst e
  rw [hu] at h1;cases h1
  simp only [if_true] at h2
  split at h2
  ·cases h2;exact rG.2 (h _ _ _ _ hr)
  ·cases h2
 ·simp only [e,if_false] at h2
  rw [h1] at h2;cases h2;exact hr
theorem pM {all:List Oper} {o:Oper} {T T1:List Value} {orc orc' : List Value} {run:Bool} {ob:List Prop} (h:MW all o T orc=some (run,T1,orc',ob)) (hob:J3 ob):Finer T T1:=by
 unfold MW at h
 split at h
 ·cases h;exact Finer.refl _
 ·split at h
  ·split at h
   ·next u hu =>
    split at h
    ·cases h;exact Finer.refl _
    ·split at h
     ·next b orc1 ob1 hd =>
      cases h
      exact Ag hu fun _ _ _ _ hr=>kg hd hob hr
     ·cases h
   ·cases h
  ·cases h
theorem lZ {all:List Oper} {o:Oper} {T T1:List Value} {orc orc' : List Value} {run:Bool} {ob:List Prop} (h:MW all o T orc=some (run,T1,orc',ob)) (hob:J3 ob) {a:Act}
  (ht:∀ t∈xB all o,∀ v,T[t]? = some v→∃ c,a.tmps[t]? = some c∧Rp ρ O W v c):Region.wanted o (yielded all.toArray a.tmps)=run:=by
 unfold MW at h
 unfold xB at ht
 split at h
 ·next hg=>cases h;simp [Region.wanted,hg]
 ·next j want hg =>
  rw [hg] at ht
  simp only at ht
  split at h
  ·next d hd =>
   rw [hd] at ht
   split at h
   ·next u hu =>
    split at h
    ·next hsk =>
     cases h
     obtain ⟨c,hc,hr⟩:=ht d (by simp) u hu
     unfold Yp at hsk
     split at hsk
     ·next xs =>
      obtain ⟨ys,rfl,-⟩:=G8.1 hr
      have hy:yielded all.toArray a.tmps j=none:=by
       unfold yielded
       have:(all.toArray[j]?).bind (·.dst)=some d:=by simpa using hd
       rw [this]
       simp [hc]
      simp only [Region.wanted,hg,hy]
      cases want <;> rfl
     ·cases hsk
    ·split at h
     ·next b orc1 ob1 hdc =>
      cases h
      obtain ⟨c,hc,hr⟩:=ht d (by simp) u hu
      have hcb:=kg hdc hob hr
      subst hcb
      have hy:yielded all.toArray a.tmps j=some b:=by
       unfold yielded
       have:(all.toArray[j]?).bind (·.dst)=some d:=by simpa using hd
       rw [this]
       simp [hc]
      simp only [Region.wanted,hg,hy]
      cases b <;> cases want <;> rfl
     ·cases h
   ·cases h
  ·cases h
theorem Dv {bd:Nat} {ext:List FuncId} {o:Oper} {T:List Value} {H:List (Option Blk)} {orc orc' : List Value} {fx:Fx} {ob:List Prop} (h:Vs P ext o T H orc=some (fx,orc',ob)) (hob:J3 ob):iy P bd o (eo T) (look H) H.length fx.nx fx.rd fx.wr fx.v:=by
 unfold Vs at h
 split at h
 ·next fo args ats ho =>
  split at h
  ·next g fs cs hfo =>
   split at h
   ·next hg =>
    obtain ⟨r,hr,he⟩:=Option.map_eq_some_iff.1 h
    cases he
    simp only [Bool.and_eq_true] at hg
    exact UN ho hfo hg.1 hr hob
   ·cases h
  ·cases h
 ·obtain ⟨r,hr,he⟩:=Option.map_eq_some_iff.1 h
  cases he
  exact LW hr hob
theorem pF {ext:List FuncId} {o:Oper} {T:List Value} {g:FuncId} {args:List Value} (h:Ez P ext o T=some (g,args)) :
  ∃ fo xs ats fs cs,o.op = .call { callee:=.value fo,args:=xs,argTypes:=ats }∧eo T fo = .func (.func g) fs cs∧MP P g=true∧args=fs.toList++xs.toList.map (eo T)++cs.toList:=by
 unfold Ez at h
 split at h
 ·next fo xs ats ho =>
  split at h
  ·next g' fs cs hfo =>
   split at h
   ·next hg =>
    cases h
    simp only [Bool.and_eq_true] at hg
    exact ⟨fo,xs,ats,fs,cs,ho,hfo,hg.1,rfl⟩
   ·cases h
  ·cases h
 ·cases h
theorem args_at {T:List Value} {e:Operand→Value} {o:Oper} {fo:Operand} {xs:Array Operand} {ats:Array TypeId} {fs cs:Array Value} {g:FuncId} {f:Operand→Value} (ho:o.op = .call { callee:=.value fo,args:=xs,argTypes:=ats }) (hfo:e fo = .func (.func g) fs cs)
  (he:∀ x∈o.op.operands,Rp ρ O W (e x) (f x)):∃ ys us,f fo = .func (.func g) ys us∧AtAll (Rp ρ O W) (fs.toList++xs.toList.map e++cs.toList).toArray (ys++xs.map f++us):=by
 have hf:=he fo (by simp [ho,Op.operands,Call.operands])
 rw [hfo] at hf
 obtain ⟨ys,us,hfv,ha1,ha2⟩:=U6.1 hf
 refine ⟨ys,us,hfv,?_⟩
 have h1:=ha1.1
 have h2:=ha2.1
 refine ⟨by simp;omega,fun i x hx=>?_⟩
 simp only [List.getElem?_toArray,List.getElem?_append,Array.getElem?_append,List.length_append,List.length_map,Array.length_toList,Array.size_append,Array.size_map,h1,List.getElem?_map,Array.getElem?_toList,Array.getElem?_map] at hx ⊢
 split at hx
 ·next c1 =>
  rw [if_pos c1]
  split at hx
  ·next c2=>rw [if_pos c2];exact ha1.2 i x hx
  ·next c2 =>
   rw [if_neg c2]
   obtain ⟨y,hy,rfl⟩:=Option.map_eq_some_iff.1 hx
   exact ⟨f y,by rw [hy];rfl,he y (by simp only [ho,Op.operands,Call.operands];simp [Array.mem_of_getElem? hy])⟩
 ·next c1 =>
  rw [if_neg c1]
  exact ha2.2 _ x hx
theorem QH {o:Oper} {T:List Value} {H:List (Option Blk)} {fx:Fx} {a:Act} {K:Act→World→Prop} {Q:Exit→Act→World→Prop} (hd:iy P H.length o (eo T) (look H) H.length fx.nx fx.rd fx.wr fx.v) (hw:zt H fx.wr fx.nx=true) (hH:HConc ρ O H W) (hT:TConc ρ O T a W)
  (hK:∀ ρ' O' a' W',HConc ρ' O' (Y0 H fx.wr fx.nx) W' → TConc ρ' O' (qM T o.dst fx.v) a' W' → Ext ρ O H W ρ' O' (Y0 H fx.wr fx.nx) W' → K a' W'):o.wp P a W K Q:=by
 refine hd ρ O a W K Q hH.low (fun x _=>EZ hT x) (fun i _=>hH.hp i) (fun p _=>hH.hp p.1) (fun i hi _=>hH.fr i hi) hH.fr (fun i _ j _ b b' g k k' => hH.inj i j b b' g k k') fun c ρ' O' W' hv hp hs=>?_
 obtain ⟨h1,h2⟩:=Av hH hw hs hp
 exact hK ρ' O' _ W' h1 (jy (hT.mono hs.still hs.sub) o.dst hv) h2
theorem XU {ext:List FuncId} {call:Z5} (hcall:cz P call) {all:List Oper} {o:Oper} {s s' : Sg} {orc orc' : List Value} {ob:List Prop} (h:Mk P ext call all o s orc=some (s',orc',ob)) (hob:J3 ob) {a:Act} (hH:HConc ρ O s.H W) (hT:TConc ρ O s.T a W) {rest:List Oper} {Q:Exit→Act→World→Prop}
  (hK:∀ ρ' O' a' W',HConc ρ' O' s'.H W' → TConc ρ' O' s'.T a' W' → Ext ρ O s.H W ρ' O' s'.H W' → wpList P all.toArray Q rest a' W'):wpList P all.toArray Q (o::rest) a W:=by
 unfold Mk at h
 split at h
 ·next run T1 orc1 ob1 hg =>
  have hfin:∀ {ob2},J3 (ob1++ob2)→Finer s.T T1:=fun h=>pM hg (o6.1 h).1
  have hwant:∀ {ob2},J3 (ob1++ob2)→Region.wanted o (yielded all.toArray a.tmps)=run:=fun h=>lZ (ρ:=ρ) (O:=O) (W:=W) hg (o6.1 h).1 (fun t _ v hv=>hT.tm t v hv)
  split at h
  ·cases h
   have hob' : J3 (ob++[]):=by simpa using hob
   unfold wpList
   rw [hwant hob']
   simp only [Bool.false_eq_true,if_false]
   exact hK ρ O _ W hH (jy ((hfin hob').conc hT) o.dst (G8.2 ⟨#[],rfl,rfl,fun i x hx=>by simp at hx⟩)) (Ext.refl _ _ _ _)
  ·split at h
   ·next g args hi =>
    split at h
    ·next v H' orc2 ob2 hc =>
     cases h
     obtain ⟨fo,xs,ats,fs,cs,ho,hfo,hok,rfl⟩:=pF hi
     have hT1:=(hfin hob).conc hT
     obtain ⟨ys,us,hfv,hat⟩:=args_at (T:=T1) ho hfo (fun x _=>EZ hT1 x)
     unfold wpList
     rw [hwant hob]
     simp only [if_true]
     left
     refine upon_enter' (mq ho hfv hok) ((hcall _ _ _ _ _ _ _ _ hc (o6.1 hob).2 ρ O W _ hH hat).mono ?_)
     rintro e W' ⟨c,ρ',O',rfl,hv,hH',hE⟩
     exact ⟨c,rfl,hK ρ' O' _ W' hH' (jy (hT1.mono hE.still hE.sub) o.dst hv) hE⟩
    ·cases h
   ·split at h
    ·next fx orc2 ob2 hfx =>
     split at h
     ·next hw =>
      cases h
      unfold wpList
      rw [hwant hob]
      simp only [if_true]
      left
      exact QH (Dv hfx (o6.1 hob).2) hw hH ((hfin hob).conc hT) hK
     ·cases h
    ·cases h
 ·cases h
theorem EM {ext:List FuncId} {call:Z5} (hcall:cz P call) {all:List Oper} {Q:Exit→Act→World→Prop}:∀ {l:List Oper} {s s' : Sg} {orc orc' : List Value} {ob:List Prop},Gm P ext call all l s orc=some (s',orc',ob)→J3 ob→∀ {ρ:A8} {O:Nat→Prop} {a:Act} {W:World},HConc ρ O s.H W→TConc ρ O s.T a W →
  (∀ ρ' O' a' W',HConc ρ' O' s'.H W' → TConc ρ' O' s'.T a' W' → Ext ρ O s.H W ρ' O' s'.H W' → Q .normal a' W')→wpList P all.toArray Q l a W
 | [],s,s',orc,orc',ob,h,_,ρ,O,a,W,hH,hT,hK=>by
  simp only [Gm,Option.some.injEq,Prod.mk.injEq] at h
  obtain ⟨rfl,-,-⟩:=h
  exact hK ρ O a W hH hT (Ext.refl _ _ _ _)
 | o::r,s,s',orc,orc',ob,h,hob,ρ,O,a,W,hH,hT,hK=>by
  simp only [Gm] at h
  split at h
  ·next s1 orc1 ob1 h1 =>
   split at h
   ·next s2 orc2 ob2 h2 =>
    cases h
    obtain ⟨hb1,hb2⟩:=o6.1 hob
    exact XU hcall h1 hb1 hH hT fun ρ' O' a' W' hH' hT' hE=>EM hcall h2 hb2 hH' hT' fun ρ'' O'' a'' W'' hH'' hT'' hE' => hK ρ'' O'' a'' W'' hH'' hT'' (hE.trans hE' hH)
   ·cases h
  ·cases h
end
end
section
open Go.RowKit
def Clo (l:List Oper) (L:Array Bool):Prop:=∀ (k:Nat) (o:Oper),l[k]? = some o→L.getD k false=true→∀ e∈o.after,Region.binds .any e=true→L.getD e.on false=true
def Rdy (l:List Oper) (L:Array Bool) (q:Nat):Prop:=∀ (o:Oper),l[q]? = some o→∀ e∈o.after,Region.binds .any e=true→L.getD e.on false=true
theorem rQ {L:Array Bool} {i j:Nat} (hi:i<L.size):(L.setIfInBounds i true).getD j false=(decide (j=i)||L.getD j false):=by
 by_cases e:j=i
 ·subst e;simp [Array.getD,hi]
 ·by_cases hj:j<L.size
  ·simp [Array.getD,hj,Array.getElem_setIfInBounds,Ne.symm e,e]
  ·simp [Array.getD,hj,e]
theorem Clo.set {l:List Oper} {L:Array Bool} {i:Nat} (h:Clo l L) (hi:i<L.size) (hw:Rdy l L i):Clo l (L.setIfInBounds i true):=by
 intro k o hk hl e he hb
 rw [rQ hi] at hl ⊢
 by_cases e1:k=i
 ·subst e1
  rw [hw o hk e he hb];simp
 ·simp only [e1,decide_false,Bool.false_or] at hl
  rw [h k o hk hl e he hb];simp
def RP (l:List Oper) (p q:Nat):Prop:=∀ L,Clo l L→Rdy l L q→L.getD p false=true
theorem AP {acc:List Nat} {p:Nat}:∀ (es:List Edge) (s:Nat),(es.foldl (fun s e=>if Region.binds .any e then s ||| 2 ^ e.on ||| acc.getD e.on 0 else s) s).testBit p=true→s.testBit p=true∨∃ e∈es,Region.binds .any e=true∧(p=e.on∨(acc.getD e.on 0).testBit p=true)
 | [],s,h=>.inl h
 | e::r,s,h=>by
  rcases AP r _ h with h1 | ⟨e',h1,h2⟩
  ·by_cases hb:Region.binds .any e=true
   ·simp only [hb,if_true,Nat.testBit_or,Bool.or_eq_true] at h1
    rcases h1 with (h1 | h1) | h1
    ·exact .inl h1
    ·refine .inr ⟨e,by simp,hb,.inl ?_⟩
     rw [Nat.testBit_two_pow] at h1
     simpa using (of_decide_eq_true h1).symm
    ·exact .inr ⟨e,by simp,hb,.inr h1⟩
   ·simp only [hb,Bool.false_eq_true,if_false] at h1
    exact .inl h1
  ·exact .inr ⟨e',by simp [h1],h2⟩
theorem uu {l:List Oper}:∀ (r pre:List Oper) (acc:List Nat),l=pre++r→acc.length=pre.length→(∀ q p,(acc.getD q 0).testBit p=true→RP l p q)→∀ q p,((Iu r acc).getD q 0).testBit p=true→RP l p q
 | [],_,acc,_,_,h,q,p,hb=>h q p hb
 | o::r,pre,acc,hl,hlen,h,q,p,hb=>by
  refine uu r (pre++[o]) _ (by simp [hl]) (by simp [hlen]) (fun q p hb=>?_) q p hb
  by_cases e1:q<acc.length
  ·rw [List.getD_eq_getElem?_getD,List.getElem?_append_left e1,← List.getD_eq_getElem?_getD] at hb;exact h q p hb
  ·by_cases e2:q=acc.length
   ·subst e2
    rw [List.getD_eq_getElem?_getD,List.getElem?_append_right (Nat.le_refl _)] at hb
    simp only [Nat.sub_self,List.getElem?_cons_zero,Option.getD_some] at hb
    rcases AP _ _ hb with h1 | ⟨e,he,hbi,h1⟩
    ·simp at h1
    ·intro L hc hr
     have ho:l[acc.length]? = some o:=by rw [hl,hlen];simp
     have h2:=hr o ho e (Array.mem_toList_iff.1 he) hbi
     rcases h1 with rfl | h1
     ·exact h2
     ·exact h e.on p h1 L hc fun o' ho' e' he' hb' => hc e.on o' ho' h2 e' he' hb'
   ·rw [List.getD_eq_getElem?_getD,List.getElem?_eq_none (by simp;omega)] at hb
    simp at hb
structure StepOk (P:Program) (bd:Nat) (all:List Oper) (o:Oper) (s s' : Sg) (run:Bool) (T1:List Value) (fx:Fx) (rc:Rc):Prop where
 want:∀ (ρ:A8) (O:Nat→Prop) (W:World) (a:Act),(∀ t∈rc.rt,∀ v,s.T[t]? = some v→∃ c,a.tmps[t]? = some c∧Rp ρ O W v c)→Region.wanted o (yielded all.toArray a.tmps)=run
 fin:Finer s.T T1
 act:run=true→iy P bd o (eo T1) (look s.H) s.H.length fx.nx fx.rd fx.wr fx.v
 skip:run=false→fx.v = .tuple #[]∧fx.wr=[]
 wr:zt s.H fx.wr fx.nx=true
 rt:∀ t,.tmp t∈o.op.operands→t∈rc.rt
 wt:rc.wt=o.dst.toList
 rd:rc.rd=fx.rd
 wd:rc.wd=fx.wr.map (·.1)
 nxt:s' = ⟨qM T1 o.dst fx.v,Y0 s.H fx.wr fx.nx⟩
section
variable {P:Program}
theorem nu {ρ ρ' : A8} {O:Nat→Prop} {W:World} {bd:Nat} {v c:Value} (hs:∀ i p,i<bd→ρ' i=some p→ρ i=some p) (h:Rp ρ' O W v c) (hl:ltA bd v=true):Rp ρ O W v c:=by
 obtain ⟨_ | d,h⟩:=h
 ·exact h.elim
 ·refine ⟨d+1,?_⟩
  match v,hl with
  | .pointer (some a),hl=>obtain ⟨g,k,j,h1,h2⟩:=h;exact ⟨g,k,j,hs _ _ (by simpa [ltA,Nat.blt_eq] using hl) h1,h2⟩
  | .pointer none,_=>exact h
  | .slice (some a) _ _,hl=>obtain ⟨g,k,j,h1,h2⟩:=h;exact ⟨g,k,j,hs _ _ (by simpa [ltA,Nat.blt_eq] using hl) h1,h2⟩
  | .slice none _ _,_=>exact h
  | .bool _,_=>exact h
  | .int _ _,_=>exact h
  | .string _,_=>exact h
  | .nilFunc,_=>exact h
  | .nilIface,_=>exact h
  | .iface t x,hl =>
   rcases h with h | h | h | h | ⟨rfl,-⟩
   ·exact .inl h
   ·exact .inr (.inl h)
   ·exact .inr (.inr (.inl h))
   ·exact .inr (.inr (.inr (.inl h)))
   ·simp [ltA] at hl
  | .float _ _,_=>exact h.elim
  | .complex _ _ _,_=>exact h.elim
  | .map none,_=>exact h
  | .map (some i),hl=>obtain ⟨g,h1,h2⟩:=h;exact ⟨g,hs _ _ (by simpa [ltA,Nat.blt_eq] using hl) h1,h2⟩
  | .chan _,_=>exact h.elim
theorem TY {ρ ρ' : A8} {O:Nat→Prop} {W:World} {bd:Nat} {v c:Value} (hs:∀ i p,i<bd→ρ' i=some p→ρ i=some p) (h:Rp ρ' O W v c) (hl:ltF bd v=true):Rp ρ O W v c:=by
 have all:∀ {xs ys:Array Value},AtAll (Rp ρ' O W) xs ys→xs.toList.all (ltA bd)=true→AtAll (Rp ρ O W) xs ys:=fun ha hl =>
  ⟨ha.1,fun i x hx=>let ⟨y,hy,h1⟩:=ha.2 i x hx;⟨y,hy,nu hs h1 (List.all_eq_true.1 hl x (by simpa using Array.mem_of_getElem? hx))⟩⟩
 unfold ltF at hl
 split at hl
 ·obtain ⟨ys,us,rfl,h1,h2⟩:=U6.1 h
  simp only [Bool.and_eq_true] at hl
  exact U6.2 ⟨ys,us,rfl,all h1 hl.1,all h2 hl.2⟩
 ·exact nu hs h hl
theorem Md {bd:Nat} {v:Value} {H' : List (Option Blk)} {b:Blk} (h:GI bd v H' = some b):∃ j,v = .map (some j)∧look H' j=some b∧b.isMap=true∧bd≤j∧∀ el∈b.els,∀ i u,el = .agg #[.int .i64 i,u]→ltF bd u=true:=by
 unfold GI at h
 split at h
 ·next j =>
  split at h
  ·next b' hb =>
   split at h
   ·next hc =>
    cases h
    simp only [Bool.and_eq_true,Nat.ble_eq] at hc
    refine ⟨j,rfl,hb,hc.1.1,hc.1.2,fun el hel i u e=>?_⟩
    have:=List.all_eq_true.1 hc.2 el hel
    rw [e] at this
    simp at this
    exact this.2
   ·cases h
  ·cases h
 ·cases h
theorem Kh {bd:Nat} {H' : List (Option Blk)}:∀ {l s:List Value},SN bd H' l=some s→s.length=l.length∧∀ (i:Nat) (u:Value),s[i]? = some u→∃ v,l[i]? = some v∧a1H bd H' v=some u
 | [],s,h=>by simp only [SN,Option.some.injEq] at h;subst h;exact ⟨rfl,fun i u hu=>by simp at hu⟩
 | v::r,s,h=>by
  simp only [SN] at h
  split at h
  ·next u s' h1 h2 =>
   cases h
   obtain ⟨h3,h4⟩:=Kh h2
   refine ⟨by simp [h3],fun i x hx=>?_⟩
   cases i with
   | zero=>simp at hx;subst hx;exact ⟨v,rfl,h1⟩
   | succ i=>exact h4 i x (by simpa using hx)
  ·cases h
theorem Mh {ρ ρ' : A8} {O O' : Nat→Prop} {W W' : World} {bd:Nat} {H' : List (Option Blk)} {v u c:Value} (h:GZ bd v H' = some u) (hs:∀ i p,i<bd→ρ' i=some p→ρ i=some p) (hst:Still O' W' O W') (hlow:Low O W)
  (hhp:∀ i,HAt ρ' O' W' i (look H' i)) (hfr:∀ j p,bd≤j→ρ' j=some p→W.heap.size≤p.1) (hr:Rp ρ' O' W' v c):Rp ρ O W' u c:=by
 unfold GZ at h
 split at h
 ·next fn fs cs =>
  split at h
  ·next hfs =>
   obtain ⟨l,hl,rfl⟩:=Option.map_eq_some_iff.1 h
   obtain ⟨ys,us,rfl,h1,h2⟩:=U6.1 hr
   obtain ⟨h3,h4⟩:=Kh hl
   refine U6.2 ⟨ys,us,rfl,⟨h1.1,fun i x hx=>?_⟩,⟨by rw [h2.1];simpa using h3.symm,fun i x hx=>?_⟩⟩
   ·obtain ⟨y,hy,hxy⟩:=h1.2 i x hx
    exact ⟨y,hy,(nu hs hxy (List.all_eq_true.1 hfs x (by simpa using Array.mem_of_getElem? hx))).mono hst (Sub.refl _)⟩
   ·obtain ⟨x0,hx0,ho⟩:=h4 i x (by simpa using hx)
    obtain ⟨y,hy,hxy⟩:=h2.2 i x0 (by simpa using hx0)
    refine ⟨y,hy,?_⟩
    unfold a1H at ho
    split at ho
    ·next hlt=>cases ho;exact (nu hs hxy hlt).mono hst (Sub.refl _)
    ·split at ho
     ·next j _ =>
      split at ho
      ·next b hb =>
       split at ho
       ·next el hel =>
        split at ho
        ·next hc =>
         cases ho
         simp only [Bool.and_eq_true,Nat.ble_eq] at hc
         obtain ⟨⟨hbj,hmap⟩,hall⟩:=hc
         obtain ⟨g,k,j',h5,h6,rfl⟩:=V8.1 hxy
         cases h6
         have h7:=hhp j
         rw [hb] at h7
         obtain ⟨g',hg',-,hB⟩:=h7
         have h5' : ρ' j=some (g,k):=h5
         rw [h5'] at hg';cases hg'
         have hge:W.heap.size≤g:=hfr j _ hbj h5'
         obtain ⟨-,hcr⟩:=hB.cells (by simpa using hmap) (n:=0) (el:=el) (by rw [hel];rfl)
         refine zD.2 ⟨g,_,rfl,hB.lt,fun hO=>by have:=hlow g hO;omega,fun n x hx=>?_⟩
         obtain ⟨w,hw,hxw⟩:=hcr n x (by simpa using hx)
         exact ⟨w,hw,(TY hs hxw (List.all_eq_true.1 hall x (by simpa using Array.mem_of_getElem? (by simpa using hx)))).mono hst (Sub.refl _)⟩
        ·cases ho
       ·cases ho
      ·cases ho
     ·cases ho
  ·cases h
 ·cases h
theorem Nv {ρ ρ' : A8} {O O' : Nat→Prop} {W W' : World} {bd:Nat} {H' : List (Option Blk)} {v u c:Value} {ob:List Prop} (h:GV bd v H' = some (u,ob)) (hob:J3 ob) (hlow:Low O W) (hOO:∀ g,O g→O' g)
  (hhp:∀ i,HAt ρ' O' W' i (look H' i)) (hfr:∀ j p,bd≤j→ρ' j=some p→W.heap.size≤p.1) (hr:Rp ρ' O' W' v c):Rp ρ O W' u c:=by
 have key:∀ {is:List Nat} {a b:Value},is.all (fun i=>Nat.ble bd i)=true→Rp nowhere (N9 ρ' O' is) W' a b→Rp ρ O W' a b:=fun {is a b} his h1 =>
  h1.mono ⟨Nat.le_refl _,fun g _ hn=>⟨fun hO=>hn ⟨hOO g hO,fun i hi k hk=>by
   have h2:=hfr i _ (by have:=List.all_eq_true.1 his i hi;simpa [Nat.ble_eq] using this) hk
   have h3:=hlow g hO
   simp at h2;omega⟩,rfl⟩,Shp.of_same fun _ _=>rfl⟩ (I8 _)
 unfold GV at h
 split at h
 ·next xs =>
  split at h
  ·next ys is ob' hl =>
   split at h
   ·next his =>
    cases h
    obtain ⟨zs,rfl,ha⟩:=G8.1 hr
    have:=bW (H:=look H') (ys:=zs.toList) (fun v v' c is ob=>gV) hl hob (by simpa using ha) (fun i _=>hhp i)
    refine G8.2 ⟨zs,rfl,⟨by simpa using this.1,fun i x hx=>?_⟩⟩
    obtain ⟨y,hy,hxy⟩:=this.2 i x hx
    exact ⟨y,by simpa using hy,key his hxy⟩
   ·cases h
  ·cases h
 ·split at h
  ·next u' is ob' hl =>
   split at h
   ·next his=>cases h;exact key his (gV hl hob hr (fun i _=>hhp i))
   ·cases h
  ·cases h
theorem ZL {ρ ρ' : A8} {O:Nat→Prop} {W:World} {bd:Nat} {v c:Value} (hs:∀ i p,i<bd→ρ' i=some p→ρ i=some p) (h:Rp ρ' O W v c) (hl:ltV bd v=true):Rp ρ O W v c:=by
 have all:∀ {xs ys:Array Value} {R R' : Value→Value→Prop} {f:Value→Bool},AtAll R xs ys→xs.toList.all f=true→(∀ x y,R x y→f x=true→R' x y)→AtAll R' xs ys:=fun ha hl hr =>
  ⟨ha.1,fun i x hx=>let ⟨y,hy,h1⟩:=ha.2 i x hx;⟨y,hy,hr x y h1 (List.all_eq_true.1 hl x (by simpa using Array.mem_of_getElem? hx))⟩⟩
 unfold ltV at hl
 split at hl
 ·obtain ⟨ys,rfl,ha⟩:=R9.1 h
  exact R9.2 ⟨ys,rfl,all ha hl fun _ _ h1 h2=>nu hs h1 h2⟩
 ·obtain ⟨ys,rfl,ha⟩:=G8.1 h
  refine G8.2 ⟨ys,rfl,all ha hl fun x y h1 h2=>?_⟩
  split at h2
  ·obtain ⟨zs,rfl,ha'⟩:=R9.1 h1
   exact R9.2 ⟨zs,rfl,all ha' h2 fun _ _ h3 h4=>nu hs h3 h4⟩
  ·exact nu hs h1 h2
 ·exact nu hs h hl
theorem JY (hide:List Nat) (bd:Nat) (H:List (Option Blk)):bd≤(frz hide bd H).length∧H.length≤(frz hide bd H).length:=by
 simp [frz];omega
theorem eQ {hide:List Nat} {bd:Nat} {H:List (Option Blk)} {i:Nat} {b:Blk} (h:look (frz hide bd H) i=some b):b.w=false∧∃ b0,look H i=some b0∧b={ b0 with w:=false }:=by
 unfold frz at h
 rw [FQ] at h
 unfold look at h ⊢
 rw [List.getElem?_map,List.getElem?_zipIdx] at h
 cases hi:H[i]? with
 | none=>rw [hi] at h;simp at h
 | some x =>
  rw [hi] at h
  simp only [Option.map_some,Nat.zero_add] at h
  split at h
  ·cases h
  ·cases x with
   | none=>simp at h
   | some b0=>simp only [Option.map_some,Option.some.injEq] at h;subst h;exact ⟨rfl,b0,rfl,rfl⟩
theorem lL {H:List (Option Blk)} {i:Nat} {b:Blk} (h:look H i=some b):i∈kF H:=by
 unfold look at h
 split at h
 ·next x hx =>
  subst h
  refine List.mem_filterMap.2 ⟨(some b,i),List.mk_mem_zipIdx_iff_getElem?.2 hx,rfl⟩
 ·cases h
theorem a2E {ρ:A8} {O:Nat→Prop} {W:World} {i:Nat} {b:Blk} (h:HAt ρ O W i (some b)) (w:Bool):HAt ρ O W i (some { b with w:=w }):=h
theorem Ud {call:Z5} (hcall:cz P call) {ext:List FuncId} {bd bits:Nat} {recs:List Rc} {o:Oper} {T:List Value} {g:FuncId} {args:List Value} {H:List (Option Blk)} {orc orc' : List Value} {fx:Fx} {ob:List Prop}
  (hi:Ez P ext o T=some (g,args)) (h:Sn call bd bits recs g args H orc=some (fx,orc',ob)) (hob:J3 ob):iy P bd o (eo T) (look H) H.length fx.nx fx.rd fx.wr fx.v:=by
 unfold Sn at h
 simp only at h
 split at h
 ·next v H' orc1 ob1 hc =>
  obtain ⟨fo,xs,ats,fs,cs,ho,hfo,hok,rfl⟩:=pF hi
  have key:J3 ob1→∀ (K:Act→World→Prop) (Q:Exit→Act→World→Prop) (ρ:A8) (O:Nat→Prop) (a:Act) (W:World),Low O W→(∀ x∈o.op.operands,Rp ρ O W (eo T x) (a.eval x))→(∀ i∈kF (frz (hidden bits recs) bd H),HAt ρ O W i (look H i))→(∀ i,bd≤i→ρ i=none)→YH ρ (look H) (kF (frz (hidden bits recs) bd H)) →
    (∀ c ρ' O' W',Rp ρ' O' W' v c→HConc ρ' O' H' W' → Ext ρ O (frz (hidden bits recs) bd H) W ρ' O' H' W' → (∀ g,g<W.heap.size→W'.heap[g]? = W.heap[g]?)→(∀ g,O g→O' g)→(∀ i p,i<bd→ρ' i=some p→ρ i=some p)→K (a.put o.dst c) W')→o.wp P a W K Q:=by
   intro hob K Q ρ O a W hlow he hrd hbd hinj hK
   obtain ⟨ys,us,hfv,hat⟩:=args_at (T:=T) ho hfo he
   have hH:HConc ρ O (frz (hidden bits recs) bd H) W:=by
    refine ⟨hlow,fun i hi=>hbd i (Nat.le_trans (JY _ _ _).1 hi),fun i=>?_,fun i j b b' g k k' h1 h2 h3 h4=>?_⟩
    ·cases hlk:look (frz (hidden bits recs) bd H) i with
     | none=>trivial
     | some b =>
      obtain ⟨-,b0,hb0,rfl⟩:=eQ hlk
      have:=hrd i (lL hlk)
      rw [hb0] at this
      exact a2E this false
    ·obtain ⟨-,b0,hb0,-⟩:=eQ h1
     obtain ⟨-,b1,hb1,-⟩:=eQ h2
     exact hinj i (lL h1) j (lL h2) b0 b1 g k k' hb0 hb1 h3 h4
   refine upon_enter' (mq ho hfv hok) ((hcall _ _ _ _ _ _ _ _ hc hob ρ O W _ hH hat).mono ?_)
   rintro e W' ⟨c,ρ',O',rfl,hv,hH',hE⟩
   have hno:∀ g,g<W.heap.size→W'.heap[g]? = W.heap[g]? := fun g hg=>hE.blk g hg fun i b hb hw=>by rw [(eQ hb).1] at hw;cases hw
   refine ⟨c,rfl,hK c ρ' O' W' hv hH' hE hno (fun g hO=>?_) (fun i p hib hp=>?_)⟩
   ·by_cases hid:∀ i b,look (frz (hidden bits recs) bd H) i=some b→∀ k,ρ i≠some (g,k)
    ·exact hE.keepO g hO hid
    ·simp only [Classical.not_forall] at hid
     obtain ⟨i,b,hb,k,hk⟩:=hid
     have hk' : ρ i=some (g,k):=Classical.not_not.1 hk
     have h1:=hE.keep i b hb (eQ hb).1
     have h2:=hH'.hp i
     rw [h1] at h2
     obtain ⟨g',hg',hO',-⟩:=h2
     rw [hE.sub _ _ hk'] at hg';cases hg';exact hO'
   ·rcases hE.new i p hp with h1 | ⟨h1,-⟩
    ·exact h1
    ·have:=(JY (hidden bits recs) bd H).1;omega
  split at h
  ·next hl =>
   cases h
   intro ρ O a W K Q hlow he hrd _ _ hbd hinj hK
   refine key hob K Q ρ O a W hlow he hrd hbd hinj fun c ρ' O' W' hv hH' hE hno hOO hlt=>?_
   exact hK c ρ O W' ((ZL hlt hv hl).mono ⟨Nat.le_refl _,fun g _ hn=>⟨fun hO=>hn (hOO g hO),rfl⟩,Shp.of_same fun _ _=>rfl⟩ (Sub.refl _)) (fun p hp=>by cases hp) ⟨Sub.refl _,fun _ _ h=>.inl h,⟨hE.still.size,fun g hg hO=>⟨hO,hno g hg⟩,hE.still.shp⟩,fun g hO=>Nat.lt_of_lt_of_le (hlow g hO) hE.still.size,fun _ h _=>h,hE.str,fun g hg _=>hno g hg⟩
  ·split at h
   ·next b hmo =>
    cases h
    obtain ⟨j,rfl,hlk,hmap,hbj,hels⟩:=Md hmo
    intro ρ O a W K Q hlow he hrd _ hf hbd hinj hK
    refine key hob K Q ρ O a W hlow he hrd hbd hinj fun c ρ' O' W' hv hH' hE hno hOO hlt=>?_
    obtain ⟨g,hg,rfl⟩:=je.1 hv
    have hhp:=hH'.hp j
    rw [hlk] at hhp
    obtain ⟨g1,hg1,hOg,hB⟩:=hhp
    rw [hg] at hg1
    have hk0:b.k=0:=by simp [Blk.isMap] at hmap;exact hmap.1
    rw [hk0] at hg1
    cases hg1
    have hfresh:W.heap.size≤g:=by
     rcases hE.new j _ hg with h1 | ⟨-,h1 | ⟨m,bm,km,h1,h2,-⟩⟩
     ·rw [hbd j hbj] at h1;cases h1
     ·simpa using h1
     ·rw [(eQ h1).1] at h2;cases h2
    have hnx:ρ H.length=none:=hf _ (Nat.le_refl _) (by simp)
    have hsub:Sub ρ (fun i=>if i=H.length then some (g,0) else ρ i):=fun i p hp=>by
     show (if i=H.length then some (g,0) else ρ i)=some p
     by_cases e:i=H.length
     ·subst e;rw [hnx] at hp;cases hp
     ·rw [if_neg e];exact hp
    have hstO:Still O' W' (fun x=>O x∨x=g) W' := ⟨Nat.le_refl _,fun x _ hn=>⟨fun hO=>hn (hO.elim (hOO x) (fun e=>e ▸ hOg)),rfl⟩,Shp.of_same fun _ _=>rfl⟩
    refine hK _ (fun i=>if i=H.length then some (g,0) else ρ i) (fun x=>O x∨x=g) W' (je.2 ⟨g,by simp,rfl⟩) (fun p hp=>?_) ⟨hsub,fun i p hp=>?_,⟨hE.still.size,fun x hx hO=>⟨fun h=>h.elim hO (fun e=>by omega),hno x hx⟩,hE.still.shp⟩,fun x hx=>?_,fun _ h _=>.inl h,hE.str,fun x hx _=>hno x hx⟩
    ·simp only [List.mem_singleton] at hp
     subst hp
     obtain ⟨l,h1,h2,h3⟩:=(af hmap).1 hB
     refine ⟨g,by simp [hk0],.inr rfl,(af hmap).2 ⟨l,h1,h2,fun el hel=>?_⟩⟩
     obtain ⟨i,u,c,h4,h5,h6⟩:=h3 el hel
     refine ⟨i,u,c,h4,h5,?_⟩
     show Rp (b.mpm fun i=>if i=H.length then some (g,0) else ρ i) _ _ _ _
     unfold Blk.mpm at h6 ⊢
     split
     ·next e=>rw [e] at h6;exact (TY hlt h6 (hels el hel i u h4)).mono hstO hsub
     ·next e=>rw [e] at h6;exact h6.mono hstO (Sub.refl _)
    ·have hp' : (if i=H.length then some (g,0) else ρ i)=some p:=hp
     by_cases e:i=H.length
     ·rw [if_pos e] at hp';cases hp';exact .inr ⟨by omega,by simp [e],.inl hfresh⟩
     ·rw [if_neg e] at hp';exact .inl hp'
    ·rcases hx with hx | rfl
     ·exact Nat.lt_of_lt_of_le (hlow x hx) hE.still.size
     ·exact hB.lt
   ·split at h
    ·next u hfo =>
     cases h
     intro ρ O a W K Q hlow he hrd _ _ hbd hinj hK
     refine key hob K Q ρ O a W hlow he hrd hbd hinj fun c ρ' O' W' hv hH' hE hno hOO hlt=>?_
     have hst:Still O' W' O W' := ⟨Nat.le_refl _,fun g _ hn=>⟨fun hO=>hn (hOO g hO),rfl⟩,Shp.of_same fun _ _=>rfl⟩
     have hfr:∀ j p,bd≤j→ρ' j=some p→W.heap.size≤p.1:=fun j p hj hp=>by
      rcases hE.new j _ hp with h1 | ⟨-,h1 | ⟨m,bm,km,h1,h2,-⟩⟩
      ·rw [hbd j hj] at h1;cases h1
      ·simpa using h1
      ·rw [(eQ h1).1] at h2;cases h2
     exact hK c ρ O W' (Mh hfo hlt hst hlow hH'.hp hfr hv) (fun p hp=>by cases hp) ⟨Sub.refl _,fun _ _ h=>.inl h,⟨hE.still.size,fun g hg hO=>⟨hO,hno g hg⟩,hE.still.shp⟩,fun g hO=>Nat.lt_of_lt_of_le (hlow g hO) hE.still.size,fun _ h _=>h,hE.str,fun g hg _=>hno g hg⟩
    ·split at h
     ·next u ob2 hro =>
      cases h
      obtain ⟨hob1,hob2⟩:=o6.1 hob
      intro ρ O a W K Q hlow he hrd _ _ hbd hinj hK
      refine key hob1 K Q ρ O a W hlow he hrd hbd hinj fun c ρ' O' W' hv hH' hE hno hOO hlt=>?_
      have hfr:∀ j p,bd≤j→ρ' j=some p→W.heap.size≤p.1:=fun j p hj hp=>by
       rcases hE.new j _ hp with h1 | ⟨-,h1 | ⟨m,bm,km,h1,h2,-⟩⟩
       ·rw [hbd j hj] at h1;cases h1
       ·simpa using h1
       ·rw [(eQ h1).1] at h2;cases h2
      exact hK c ρ O W' (Nv hro hob2 hlow hOO hH'.hp hfr hv) (fun p hp=>by cases hp) ⟨Sub.refl _,fun _ _ h=>.inl h,⟨hE.still.size,fun g hg hO=>⟨hO,hno g hg⟩,hE.still.shp⟩,fun g hO=>Nat.lt_of_lt_of_le (hlow g hO) hE.still.size,fun _ h _=>h,hE.str,fun g hg _=>hno g hg⟩
     ·cases h
 ·cases h
theorem oQ {call:Z5} (hcall:cz P call) {ext:List FuncId} {bd:Nat} {all:List Oper} {bits:List Nat}:∀ {l:List Oper} {recs:List Rc} {s s' : Sg} {orc orc' : List Value} {ob:List Prop},Ha P ext call bd all bits l recs s orc=some (s',orc',ob)→J3 ob →
  ∃ (S:Nat→Sg) (F:Nat→Fx) (R:Nat→Rc) (run:Nat→Bool) (T1:Nat→List Value),S recs.length=s∧S (recs.length+l.length)=s' ∧ (∀ p x,recs[p]? = some x→R p=x) ∧
   ∀ k o,l[k]? = some o→StepOk P bd all o (S (recs.length+k)) (S (recs.length+k+1)) (run (recs.length+k)) (T1 (recs.length+k)) (F (recs.length+k)) (R (recs.length+k)) ∧
    ∀ p,p<recs.length+k→(bits.getD (recs.length+k) 0).testBit p=true∨ky (R p) (R (recs.length+k))=true
 | [],recs,s,s',orc,orc',ob,h,_=>by
  simp only [Ha,Option.some.injEq,Prod.mk.injEq] at h
  obtain ⟨rfl,-,-⟩:=h
  exact ⟨fun _=>s,fun _=>⟨gN,[],[],0⟩,fun p=>recs.getD p ⟨[],[],[],[]⟩,fun _=>true,fun _=>[],rfl,rfl,fun p x hx=>by simp [List.getD_eq_getElem?_getD,hx],fun k o hk=>by simp at hk⟩
 | o::r,recs,s,s',orc,orc',ob,h,hob=>by
  simp only [Ha] at h
  split at h
  ·next run0 T10 orc1 ob1 hg =>
   split at h
   ·next fx orc2 ob2 hfx =>
    split at h
    ·next hc =>
     split at h
     ·next s2 orc3 ob3 hrec =>
      cases h
      simp only [Bool.and_eq_true] at hc
      obtain ⟨hb1,hb23⟩:=o6.1 hob
      obtain ⟨hb2,hb3⟩:=o6.1 hb23
      obtain ⟨S,F,R,run,T1,h1,h2,h3,h4⟩:=oQ hcall hrec hb3
      have hlen:(recs++[(⟨xB all o++yJ o,o.dst.toList,fx.rd,fx.wr.map (·.1)⟩:Rc)]).length=recs.length+1:=by simp
      rw [hlen] at h1 h2 h4
      have hR:R recs.length=⟨xB all o++yJ o,o.dst.toList,fx.rd,fx.wr.map (·.1)⟩:=h3 _ _ (by simp)
      have hstep:StepOk P bd all o s ⟨qM T10 o.dst fx.v,Y0 s.H fx.wr fx.nx⟩ run0 T10 fx ⟨xB all o++yJ o,o.dst.toList,fx.rd,fx.wr.map (·.1)⟩:=by
       refine ⟨fun ρ O W a ht=>lZ (ρ:=ρ) (O:=O) (W:=W) hg hb1 fun t htm v hv=>ht t (by simp [htm]) v hv,pM hg hb1,fun hr=>?_,fun hr=>?_,hc.1,fun t ht=>?_,rfl,rfl,rfl,rfl⟩
       ·subst hr
        simp only at hfx
        split at hfx
        ·next g args hi=>exact Ud hcall hi hfx hb2
        ·exact Dv hfx hb2
       ·subst hr
        simp only at hfx
        cases hfx;exact ⟨rfl,rfl⟩
       ·refine List.mem_append_right _ (List.mem_filterMap.2 ⟨.tmp t,Array.mem_toList_iff.2 ht,rfl⟩)
      refine ⟨fun k=>if k=recs.length then s else S k,fun k=>if k=recs.length then fx else F k,R,fun k=>if k=recs.length then run0 else run k,fun k=>if k=recs.length then T10 else T1 k,by simp,?_,fun p x hx=>h3 p x ?_,fun k o' hk=>?_⟩
      ·simp only [List.length_cons]
       rw [if_neg (by omega),show recs.length+(r.length+1)=recs.length+1+r.length by omega]
       exact h2
      ·rw [List.getElem?_append_left (List.getElem?_eq_some_iff.1 hx).1];exact hx
      ·cases k with
       | zero =>
        simp only [List.getElem?_cons_zero,Option.some.injEq] at hk
        subst hk
        simp only [Nat.add_zero,if_true,show ¬ recs.length+1=recs.length by omega,if_false]
        rw [h1,hR]
        refine ⟨hstep,fun p hp=>?_⟩
        have h5:=List.all_eq_true.1 hc.2 (recs[p],p) (List.mk_mem_zipIdx_iff_getElem?.2 (List.getElem?_eq_getElem hp))
        rw [h3 p recs[p] (by rw [List.getElem?_append_left hp];exact List.getElem?_eq_getElem hp)]
        simpa using h5
       | succ k =>
        have hk' : r[k]? = some o' := by simpa using hk
        have h5:=h4 k o' hk'
        rw [show recs.length+1+k=recs.length+(k+1) by omega] at h5
        simp only [show ¬ recs.length+(k+1)=recs.length by omega,show ¬ recs.length+(k+1)+1=recs.length by omega,if_false]
        exact h5
     ·cases h
    ·cases h
   ·cases h
  ·cases h
end
end
end Go.Proofs.YtfogkllejkmpdaaGreat
