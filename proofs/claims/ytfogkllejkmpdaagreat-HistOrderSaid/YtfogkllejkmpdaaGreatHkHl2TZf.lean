/- The statement HistOrder of the landed program: true of every configuration and every script. -/
import Derived.Test.YtfogkllejkmpdaaGreatZf19
import Derived.Test.YtfogkllejkmpdaaGreatZf11
import Derived.Test.YtfogkllejkmpdaaGreatZf18
namespace Go.Proofs.YtfogkllejkmpdaaGreat
set_option linter.unusedVariables false
set_option linter.unusedSimpArgs false
set_option maxRecDepth 100000
abbrev qL5:=j4 Tryz.prog (j3 Tryz.prog 22 0)
abbrev qL10:=j4 Tryz.prog (j3 Tryz.prog 5 2)
section
open Go.ChangeShapes Go.WideShapes Go.ChangeAt Go.RowKit
def fiT (l:List En) (m:List Int) (i:Int):List (Nat×Value):=[(1,K5 l),(2,l5 m),(3,pt 0),(7,.int .i64 i)]
def pR (o:Op) (l:List En) (m:List Int) (i:Int):Sg:=⟨mkT 48 (fiT l m i),[bO o]⟩
def XT (o:Op) (i:Int):Sg:=⟨mkT 48 [(6,.int .i64 i)],[bO o]⟩
section
variable {o:Op} {l:List En} {m:List Int} {i:Nat} {e:En} {a:Int} {x:Exit} {S:Sg}
variable (hi:i<l.length) (hj:i<m.length) (hm:l.length≤10000) (he:IxP ((l.map enT).toArray) (i:Int) (enT e)) (ha:IxP ((m.map (Value.int .i64 ·)).toArray) (i:Int) (.int .i64 a))
include hi hj hm he ha
theorem a2F (h1:(e.th==o.th)=false) (hL:qL5 (pR o l m (i+1)) x S):qL5 (pR o l m i) x S :=
 have _:=ha;j5 mixed (fuel:=9) (n:=3) (im:=[0]) (keep:=[1,2,3,7]) (ext:=[]) (orc:=[.bool true,.bool true,enT e,.bool false]) (an (K8 hi)<|an (K8 hj)<|an he<|an h1<|an (M9 hi (by omega)) trivial) (by kernel_rfl) hL
theorem a1Y (h1:(e.th==o.th)=true) (h2:(e.ki != 9)=false) (hL:qL5 (pR o l m (i+1)) x S):qL5 (pR o l m i) x S :=
 have _:=ha;j5 mixed (fuel:=9) (n:=3) (im:=[0]) (keep:=[1,2,3,7]) (ext:=[]) (orc:=[.bool true,.bool true,enT e,.bool true,enT e,.bool false]) (an (K8 hi)<|an (K8 hj)<|an he<|an h1<|an he<|an h2<|an (M9 hi (by omega)) trivial) (by kernel_rfl) hL
theorem a2R (h1:(e.th==o.th)=true) (h2:(e.ki != 9)=true) (h3:decide (o.be<a)=false) (hL:qL5 (pR o l m (i+1)) x S):qL5 (pR o l m i) x S :=
 j5 mixed (fuel:=9) (n:=3) (im:=[0]) (keep:=[1,2,3,7]) (ext:=[]) (orc:=[.bool true,.bool true,enT e,.bool true,enT e,.bool true,.int .i64 a,.bool false]) (an (K8 hi)<|an (K8 hj)<|an he<|an h1<|an he<|an h2<|an ha<|an h3<|an (M9 hi (by omega)) trivial) (by kernel_rfl) hL
theorem a0N (h1:(e.th==o.th)=true) (h2:(e.ki != 9)=true) (h3:decide (o.be<a)=true):qL5 (pR o l m i) .ret (XT o i) :=
 have _:=hm;o5 mixed (fuel:=9) (n:=3) (im:=[0]) (keep:=[6]) (ext:=[]) (orc:=[.bool true,.bool true,enT e,.bool true,enT e,.bool true,.int .i64 a,.bool true]) (an (K8 hi)<|an (K8 hj)<|an he<|an h1<|an he<|an h2<|an ha<|an h3 trivial) (by intro e;cases e) (by kernel_rfl)
end
theorem Za {o:Op} {T:List (Nat×En)} (hm:T.length≤10000):∀ (d i:Nat),T.length - i=d→i≤T.length →
  (i+(T.drop i).findIdx (iF o)<T.length∧qL5 (pR o (T.map Prod.snd) (atN T) i) .ret (XT o ((i+(T.drop i).findIdx (iF o):Nat):Int))) ∨
  (i+(T.drop i).findIdx (iF o)=T.length∧qL5 (pR o (T.map Prod.snd) (atN T) i) (.exit 0) (pR o (T.map Prod.snd) (atN T) T.length))
 | 0,i,hd,hi=>by
  have:i=T.length:=by omega
  subst this
  rw [List.drop_length]
  exact .inr ⟨rfl,o5 mixed (fuel:=9) (n:=3) (im:=[0]) (keep:=[1,2,3,7]) (ext:=[]) (orc:=[.bool false]) (an (show decide ((T.length:Int)<(T.map Prod.snd).length)=false by simp) trivial) (by intro e;cases e) (by kernel_rfl)⟩
 | d+1,i,hd,hi' => by
  have hi:i<T.length:=by omega
  have ih:=Za (o:=o) hm d (i+1) (by omega) (by omega)
  rw [List.drop_eq_getElem_cons hi,List.findIdx_cons]
  obtain ⟨⟨a,e⟩,hT⟩:∃ q,T[i]=q:=⟨_,rfl⟩
  have hil:i<(T.map Prod.snd).length:=by simpa using hi
  have hia:i<(atN T).length:=by simpa [atN] using hi
  have he:IxP (((T.map Prod.snd).map enT).toArray) (i:Int) (enT e):=⟨by omega,by simp [hi,hT]⟩
  have ha:IxP (((atN T).map (Value.int .i64 ·)).toArray) (i:Int) (.int .i64 (a:Int)):=⟨by omega,by simp [atN,hi,hT]⟩
  have hml:(T.map Prod.snd).length≤10000:=by simpa using hm
  rw [hT]
  have next:iF o (a,e)=false→(∀ {x:Exit} {S:Sg},qL5 (pR o (T.map Prod.snd) (atN T) (i+1)) x S→qL5 (pR o (T.map Prod.snd) (atN T) i) x S) →
    (i+(bif iF o (a,e) then 0 else (T.drop (i+1)).findIdx (iF o)+1)<T.length∧qL5 (pR o (T.map Prod.snd) (atN T) i) .ret (XT o ((i+(bif iF o (a,e) then 0 else (T.drop (i+1)).findIdx (iF o)+1):Nat):Int))) ∨
    (i+(bif iF o (a,e) then 0 else (T.drop (i+1)).findIdx (iF o)+1)=T.length∧qL5 (pR o (T.map Prod.snd) (atN T) i) (.exit 0) (pR o (T.map Prod.snd) (atN T) T.length)):=fun h0 go=>by
   rw [h0,cond_false,show i+((T.drop (i+1)).findIdx (iF o)+1)=i+1+(T.drop (i+1)).findIdx (iF o) by omega]
   rcases ih with ⟨h,hL⟩ | ⟨h,hL⟩
   ·exact .inl ⟨h,go hL⟩
   ·exact .inr ⟨h,go hL⟩
  cases h1:e.th==o.th
  case false=>exact next (by unfold iF;rw [h1];rfl) (a2F hil hia hml he ha h1)
  cases h2:e.ki != 9
  case false=>exact next (by unfold iF;rw [h1,h2];rfl) (a1Y hil hia hml he ha h1 h2)
  cases h3:decide (o.be<(a:Int))
  case false=>exact next (by unfold iF;rw [h1,h2];simpa using h3) (a2R hil hia hml he ha h1 h2 h3)
  have h0:iF o (a,e)=true:=by unfold iF;rw [h1,h2];simpa using h3
  rw [h0,cond_true]
  exact .inl ⟨hi,a0N hil hia hml he ha h1 h2 h3⟩
theorem EK {o:Op} {T:List (Nat×En)} (hm:T.length≤10000):AC Tryz.prog 22 [opT o,K5 (T.map Prod.snd),l5 (atN T)] (.int .i64 (xL o T)):=by
 have hL:=Za (o:=o) hm T.length 0 rfl (by omega)
 rw [List.drop_zero,Nat.zero_add] at hL
 change (xL o T<T.length∧j4 _ _ _ _ (XT o ((xL o T:Nat):Int)))∨(xL o T=T.length∧_) at hL
 rcases hL with ⟨-,hL⟩ | ⟨e,hL⟩
 ·generalize xL o T=k at hL ⊢
  exact d9 mixed (fuel:=9) (n:=3) (ext:=[]) (orc:=[oL [0] [1,2,3,7] (-1) [(6,.int .i64 k)] [bO o]]) (an hL trivial) (by kernel_rfl)
 ·rw [e,show ((T.length:Nat):Int)=((T.map Prod.snd).length:Nat) by simp]
  rw [show ((T.length:Nat):Int)=((T.map Prod.snd).length:Nat) by simp] at hL
  generalize T.map Prod.snd=l at hL ⊢
  exact d9 mixed (fuel:=9) (n:=3) (ext:=[]) (orc:=[oL [0] [1,2,3,7] 0 (fiT l (atN T) l.length) [bO o]]) (an hL trivial) (by kernel_rfl)
def h1T (l:List En) (m:List Int) (O:List Op) (i:Int):List (Nat×Value):=[(5,vD true),(6,K5 l),(7,l5 m),(8,jR O),(9,.int .i64 i)]
def a3i (l:List En) (m:List Int) (O:List Op) (i:Int):Sg:=⟨mkT 96 (h1T l m O i),[]⟩
def h2T (l:List En) (m:List Int) (O:List Op) (i:Int):List (Nat×Value):=[(5,vD true),(6,K5 l),(7,l5 m),(8,jR O),(10,.int .i64 i)]
def a3c (l:List En) (m:List Int) (O:List Op) (i:Int):Sg:=⟨mkT 96 (h2T l m O i),[]⟩
def h3T (l:List En) (m:List Int) (O:List Op) (i k:Int):List (Nat×Value):=h2T l m O i++[(11,.int .i64 k)]
def EG (l:List En) (m:List Int) (O:List Op) (i k:Int):Sg:=⟨mkT 96 (h3T l m O i k),[]⟩
theorem ixM {m:List Int} {i:Nat} (h:i<m.length):IxP ((m.map (Value.int .i64 ·)).toArray) (i:Int) (.int .i64 m[i]):=⟨by omega,by simp [h]⟩
theorem Zn {l:List En} {m:List Int} {O:List Op} (hp:m.Pairwise (·<·)) (hm:m.length≤10000):∀ (k i:Nat),m.length - i=k→1≤i→i≤max m.length 1→j4 Tryz.prog (j3 Tryz.prog 5 0) (a3i l m O i) (.exit 0) (a3i l m O (max m.length 1:Nat))
 | 0,i,hk,h1,hi=>by
  have:i=max m.length 1:=by omega
  rw [← this]
  exact o5 mixed (fuel:=9) (n:=3) (im:=[]) (keep:=[5,6,7,8,9]) (ext:=[]) (orc:=[.bool false]) (an (show decide ((i:Int)<m.length)=false by simp;omega) trivial) (by intro e;cases e) (by kernel_rfl)
 | k+1,i,hk,h1,hi' => by
  have hi:i<m.length:=by omega
  have hj:i - 1<m.length:=by omega
  have ih:=Zn (l:=l) (O:=O) hp hm k (i+1) (by omega) (by omega) (by omega)
  have hlt:m[i - 1]<m[i]:=List.pairwise_iff_getElem.1 hp (i - 1) i hj hi (by omega)
  have d1:decide (m[i]≤m[i - 1])=false:=by simp;omega
  have hx:=ixM hi
  have hy:=ixM hj
  rw [show (((i - 1:Nat)):Int)=(i:Int) - 1 by omega] at hy
  exact j5 mixed (fuel:=9) (n:=3) (im:=[]) (keep:=[5,6,7,8,9]) (ext:=[]) (orc:=[.bool true,.int .i64 m[i],.int .i64 m[i - 1],.bool false]) (an (K8 hi)<|an hx<|an (show In64 ((i:Int) - 1) by constructor <;> omega)<|an hy<|an d1<|an (M9 hi (by omega)) trivial) (by kernel_rfl) ih
section
variable {l:List En} {m:List Int} {O:List Op} {i k:Nat} {x:Exit} {S:Sg}
variable (hk:k<O.length) (hi:i<O.length) (hm:O.length≤10000)
include hk hi hm
theorem VY (h1:decide (0≤O[i].en)=false) (hL:qL10 (EG l m O i (k+1)) x S):qL10 (EG l m O i k) x S :=
 j5 mixed (fuel:=9) (n:=3) (im:=[]) (keep:=[5,6,7,8,10,11]) (ext:=[22]) (orc:=[.bool true,opT O[i],.bool false]) (an (K8 hk)<|an (ixO hi)<|an h1<|an (M9 hk (by omega)) trivial) (by kernel_rfl) hL
theorem Xh (h1:decide (0≤O[i].en)=true) (h2:decide (O[i].en<O[k].be)=false) (hL:qL10 (EG l m O i (k+1)) x S):qL10 (EG l m O i k) x S :=
 j5 mixed (fuel:=9) (n:=3) (im:=[]) (keep:=[5,6,7,8,10,11]) (ext:=[22]) (orc:=[.bool true,opT O[i],.bool true,opT O[i],opT O[k],.bool false]) (an (K8 hk)<|an (ixO hi)<|an h1<|an (ixO hi)<|an (ixO hk)<|an h2<|an (M9 hk (by omega)) trivial) (by kernel_rfl) hL
theorem a2x {f g:Int} (h1:decide (0≤O[i].en)=true) (h2:decide (O[i].en<O[k].be)=true) (hf:AC Tryz.prog 22 [opT O[i],K5 l,l5 m] (.int .i64 f)) (hg:AC Tryz.prog 22 [opT O[k],K5 l,l5 m] (.int .i64 g)) (h3:decide (g≤f)=false)
  (hL:qL10 (EG l m O i (k+1)) x S):qL10 (EG l m O i k) x S :=
 j5 mixed (fuel:=9) (n:=3) (im:=[]) (keep:=[5,6,7,8,10,11]) (ext:=[22]) (orc:=[.bool true,opT O[i],.bool true,opT O[i],opT O[k],.bool true,opT O[i],.int .i64 f,opT O[k],.int .i64 g,.bool false])
  (an (K8 hk)<|an (ixO hi)<|an h1<|an (ixO hi)<|an (ixO hk)<|an h2<|an (ixO hi)<|an hf<|an (ixO hk)<|an hg<|an h3<|an (M9 hk (by omega)) trivial) (by kernel_rfl) hL
end
theorem YF {T:List (Nat×En)} {O:List Op} {i:Nat} (hi:i<O.length) (hm:O.length≤10000) (hT:T.length≤10000) (hp:T.Pairwise fun x y=>x.1<y.1) (hr:∀ o∈O,pG o T=true):∀ (d k:Nat),O.length - k=d→k≤O.length→qL10 (EG (T.map Prod.snd) (atN T) O i k) (.exit 4) (EG (T.map Prod.snd) (atN T) O i O.length)
 | 0,k,hd,hk=>by
  have:k=O.length:=by omega
  subst this
  exact o5 mixed (fuel:=9) (n:=3) (im:=[]) (keep:=[5,6,7,8,10,11]) (ext:=[22]) (orc:=[.bool false]) (an (aG O.length) trivial) (by intro e;cases e) (by kernel_rfl)
 | d+1,k,hd,hk' => by
  have hk:k<O.length:=by omega
  have ih:=YF hi hm hT hp hr d (k+1) (by omega) (by omega)
  cases h1:decide (0≤O[i].en)
  case false=>exact VY hk hi hm h1 ih
  cases h2:decide (O[i].en<O[k].be)
  case false=>exact Xh hk hi hm h1 h2 ih
  have h0:0≤O[i].en:=of_decide_eq_true h1
  have hne:T.filter (au O[i])≠[]:=by
   have:=hr O[i] (List.getElem_mem hi)
   rw [SY] at this
   simp only [Bool.and_eq_true,Bool.or_eq_true,beq_iff_eq,decide_eq_true_eq] at this
   intro e
   unfold Uo at this
   rw [e] at this
   rcases this.2 with h | ⟨-,h⟩
   ·simp at h
   ·omega
  have hlt:=a0P hp h0 hne (of_decide_eq_true h2)
  exact a2x hk hi hm h1 h2 (EK hT) (EK hT) (by simp;omega) ih
theorem Zb {T:List (Nat×En)} {O:List Op} (hm:O.length≤10000) (hT:T.length≤10000) (hp:T.Pairwise fun x y=>x.1<y.1) (hr:∀ o∈O,pG o T=true):∀ (d i:Nat),O.length - i=d→i≤O.length→j4 Tryz.prog (j3 Tryz.prog 5 1) (a3c (T.map Prod.snd) (atN T) O i) (.exit 2) (a3c (T.map Prod.snd) (atN T) O O.length)
 | 0,i,hd,hi=>by
  have:i=O.length:=by omega
  subst this
  exact o5 mixed (fuel:=9) (n:=3) (im:=[]) (keep:=[5,6,7,8,10]) (ext:=[]) (orc:=[.bool false]) (an (aG O.length) trivial) (by intro e;cases e) (by kernel_rfl)
 | d+1,i,hd,hi' => by
  have hi:i<O.length:=by omega
  have ih:=Zb hm hT hp hr d (i+1) (by omega) (by omega)
  have hI:=YF hi hm hT hp hr O.length 0 rfl (by omega)
  exact j5 mixed (fuel:=9) (n:=3) (im:=[]) (keep:=[5,6,7,8,10]) (ext:=[]) (orc:=[.bool true,oL [] [5,6,7,8,10,11] 4 (h3T (T.map Prod.snd) (atN T) O i O.length) []]) (an (K8 hi)<|an hI<|an (M9 hi (by omega)) trivial) (by kernel_rfl) ih
theorem rO {c:Cf} {raw:List (List Int)} (hc:c.ok) (hr:∀ l∈raw,∀ n∈l,In64 n) (hm:raw.length≤100):(O3 c raw).length≤raw.length∧(opsOf c raw).length≤raw.length:=by
 constructor
 ·have h1:=sW (c:=c) (raw:=raw) (by omega)
  have h2:(dO c raw).lg.length≤raw.length:=by
   unfold dO
   cases hcf:cfB c
   ·exact Nat.zero_le _
   ·rw [if_pos rfl];exact (qE hc hcf hr (by omega)).lg
  rw [← h1] at h2
  unfold U9 at h2
  rwa [List.length_map] at h2
 ·unfold opsOf
  split
  ·exact qz raw (E5 c) 0
  ·simp
theorem ZQ {c:Cf} {raw:List (List Int)} (hm:raw.length≤100):(O3 c raw).Pairwise fun x y=>x.1<y.1:=by
 unfold O3
 split
 ·next h=>exact Iq raw 0 (dU h) (by omega)
 ·exact .nil
theorem Tu {c:Cf} {raw:List (List Int)} (hm:raw.length≤100):∀ o∈opsOf c raw,pG o (O3 c raw)=true:=by
 unfold opsOf O3
 split
 ·next h=>exact fun o ho=>Ah (dU h) (by omega) ho
 ·intro o ho;cases ho
theorem Cr (hlin:∀ {c:Cf} {raw:List (List Int)},c.ok→(∀ l∈raw,∀ n∈l,In64 n)→raw.length≤100→AC Tryz.prog 19 [cfT c,eG raw] (.bool (oD c raw))) {c:Cf} {raw:List (List Int)} (hc:c.ok) (hr:∀ l∈raw,∀ n∈l,In64 n) (hm:raw.length≤maxLen):AC Tryz.prog 5 [cfT c,eG raw] (.bool true):=by
 cases hF:CF raw 60
 ·exact d9 mixed (fuel:=9) (n:=3) (ext:=[8,9,10,15,22]) (orc:=[vD true,vD false]) (an (U4 hlin)<|an (Z4 hF hm) trivial) (by kernel_rfl)
 ·have hl:=vK (m:=60) hF
  obtain ⟨t1,t2⟩:=rO hc hr (by omega)
  have ho:=tH hc hr (by omega)
  have hp:=CP hc hr (by omega)
  have hpw:=ZQ (c:=c) (raw:=raw) (by omega)
  have hR:=Tu (c:=c) (raw:=raw) (by omega)
  have hme:(atN (O3 c raw)).length=((O3 c raw).map Prod.snd).length:=by simp [atN]
  have hpm:(atN (O3 c raw)).Pairwise (·<·):=List.pairwise_map.2 (hpw.imp fun {a b} h=>by omega)
  have h1:=Zn (l:=(O3 c raw).map Prod.snd) (m:=atN (O3 c raw)) (O:=opsOf c raw) hpm (by rw [hme,List.length_map];omega) ((atN (O3 c raw)).length - 1) 1 rfl (by omega) (by omega)
  have h2:=Zb (T:=O3 c raw) (O:=opsOf c raw) (by omega) (by omega) hpw hR (opsOf c raw).length 0 rfl (by omega)
  change AC _ _ _ (.tuple #[K5 ((O3 c raw).map Prod.snd),l5 (atN (O3 c raw))]) at ho
  generalize (O3 c raw).map Prod.snd=l at ho h1 h2 hme
  generalize atN (O3 c raw)=m at ho h1 h2 hme
  generalize opsOf c raw=O at hp h1 h2
  exact d9 mixed (fuel:=9) (n:=3) (ext:=[8,9,10,15,22]) (orc:=[vD true,vD true,.tuple #[K5 l,l5 m],jR O,.bool false,oL [] [5,6,7,8,9] 0 (h1T l m O (max m.length 1:Nat)) [],oL [] [5,6,7,8,10] 2 (h2T l m O O.length) []])
   (an (U4 hlin)<|an (Z4 hF hm)<|an ho<|an hp<|an (show ((l.length:Int) != m.length)=false by simp [hme])<|an h1<|an h2 trivial) (by kernel_rfl)
end
section
open Go.ChangeShapes Go.WideShapes Go.ChangeAt Go.RowKit
theorem xc (c:Cf) (hc:c.ok) (raw:List Rw) (rawv:Value) (hraw:∀ x∈raw,x.ok) (hrawm:raw.length≤maxLen) (w:World) (hraws:RrAt w raw rawv) :
  Calls Tryz.prog 5 #[.agg c.cells.toArray,rawv] w fun e w' => e = .returned (.bool true)∧Kept w w' := by
 refine BS (Cr wh (c:=c) (raw:=raw.map Rw.l) hc (Lf hraw) (by simpa using hrawm)) (X7.2 ?_)
 exact ⟨_,_,rfl,ng.2 rfl,_,_,rfl,ww hraws,rfl⟩
theorem uk (os:Os) (started:os.Started) (H:Type) (enc:TypeId×Value→H) :
  ReturnsInHanded {} Tryz.checked os 5 .any (Rows.histOrderSpec.pre6 enc Tryz.prog Tryz.f5 Rows.histOrderRow.domain false) (Rows.histOrderSpec.post enc Tryz.prog Tryz.f5 false true false false):=by
 refine returnsInHanded_of_change (C:=Tryz.checked) own started (by kernel_rfl) Tryz.func5
  (ChangeSpec.witness6 (enc:=enc) (C:=Tryz.checked) false ⟨#[],#[.agg Cf.zero.toArray,.slice none 0 0],[]⟩ 8 (by kernel_rfl) (by kernel_rfl) (by kernel_rfl) (by kernel_rfl)) ?_
 intro W base args ds gs before hval0 hW hcnd _
 have hval:∀ (j:Nat) t v,Tryz.f5.params[j]? = some t→args[j]? = some v→Value.okWide Tryz.prog W .any base t v:=hval0
 have hW' := hW
 obtain ⟨p,q,hA0,hV,rfl,hfz,hnd⟩:=hW
 have hA:DataW.TrodAll enc Tryz.prog W 0 (fun _=>true) true Tryz.f5.params.toList args.toList ds p:=hA0
 rw [Tryz.params5] at hA hval
 obtain ⟨v0,vs0,d0,ds0,p0,q0,hargs,rfl,rfl,h0,r0⟩:=trodAll_cons hA
 obtain ⟨v1,vs1,d1,ds1,p1,q1,rfl,rfl,rfl,h1,r1⟩:=trodAll_cons r0
 obtain ⟨rfl,rfl,rfl⟩:=trodAll_nil r1
 obtain rfl:args=#[v0,v1]:=by cases args;simp_all
 obtain ⟨rfl,rfl⟩:=trodVars_none hV
 obtain ⟨ccs,rfl,crd⟩:=iL (g:=9) (l:=Cf.shape) Tryz.underlying23 (by kernel_rfl) (hval 0 23 v0 rfl rfl) h0
 obtain ⟨c,rfl,cok⟩:=Cf.of_read crd
 obtain ⟨raw,rawsl,rawok,rawml⟩:=vI (open_row (g:=9) (l:=Rw.shape) Tryz.underlying24 (by kernel_rfl) (hval 1 24 v1 rfl rfl) h1)
 clear hA0 hval0
 refine (xc c cok raw v1 rawok rawml W rawsl).mono fun e W' ⟨he,hg⟩=>?_
 subst he
 exact ⟨_,rfl,ql laid hW' rfl (by kernel_rfl) rfl Tryz.underlying4 rfl hg⟩
theorem histOrder_holds:Rows.HistOrderSaid :=
 OpenClaim.holds_of_wide 5 Tryz.f5 rfl rfl rfl rfl rfl rfl rfl ⟨rfl,rfl,rfl,rfl,rfl⟩ rfl rfl rfl rfl rfl (by kernel_rfl) Tryz.func5 (by kernel_rfl)
  (of_decide_eq_true (by kernel_rfl)) (by unfold Func.isWrapper;rw [if_neg (of_decide_eq_false (by kernel_rfl))];exact ⟨rfl,rfl⟩)
  (fun os started H enc _=>uk os started H enc)
end
end Go.Proofs.YtfogkllejkmpdaaGreat
