/- Texts merged: FxT, RgmT, RcHT, RcUT, StepHT, StepPT, StepCT, CaPT, EqLT, AcST, CaOT. -/
import Derived.Test.YtbckpadeamlidaaGreatZe4
import Derived.Test.YtbckpadeamlidaaGreatZe6
import Derived.Test.YtbckpadeamlidaaGreatZe14
import Derived.Test.YtbckpadeamlidaaGreatZe11
import Derived.Test.YtbckpadeamlidaaGreatZe12
import Derived.Laws.StructEq
import Derived.Test.YtbckpadeamlidaaGreatZe8
import Derived.Test.YtbckpadeamlidaaGreatZe10
namespace Go.Proofs.YtbckpadeamlidaaGreat
set_option linter.unusedVariables false
set_option linter.unusedSimpArgs false
set_option maxRecDepth 100000
section
open Go.RowKit
structure KX (R:World→World→Prop) where
 p:Value→World→Prop
 k:∀ {v:Value} {W W' : World},p v W→R W W' → p v W'
def KX.eq (R:World→World→Prop) (u:Value):KX R:=⟨fun v _=>v=u,fun h _=>h⟩
def KX.tt (R:World→World→Prop):KX R:=⟨fun _ _=>True,fun _ _=>trivial⟩
def FX (R:World→World→Prop) (Fs:List (KX R)) (i:Nat) (v:Value) (W:World):Prop:=(Fs.getD i (KX.tt R)).p v W
structure FactsX (R:World→World→Prop) (D:List (Option Nat)) (F:Nat→Value→World→Prop) (a:Act) (w:World) (done:Nat→Bool) (b:Act) (W:World):Prop where
 kept:R w W
 defers:b.defers=a.defers
 size:b.tmps.size=a.tmps.size
 rest:∀ t,some t∉D→b.tmps[t]? = a.tmps[t]?
 fact:∀ i d,D[i]? = some d→done i=true→∃ v,(∀ t,d=some t→b.tmps[t]? = some v)∧F i v W
theorem FactsX.did {R:World→World→Prop} {D:List (Option Nat)} {F:Nat→Value→World→Prop} {a b:Act} {w W:World} {done:Nat→Bool} (h:FactsX R D F a w done b W) (i:Nat) (hi:D[i]? = some none) (hd:done i=true):∃ v,F i v W:=by
 obtain ⟨v,_,hF⟩:=h.fact i _ hi hd
 exact ⟨v,hF⟩
theorem FactsX.lit {R:World→World→Prop} {D:List (Option Nat)} {F:Nat→Value→World→Prop} {a b:Act} {w W:World} {done:Nat→Bool} (h:FactsX R D F a w done b W) {n:Nat} (hn:a.tmps.size=n) (hd:a.defers=[]) :
  ∃ f:Nat→Value,b=⟨(tab f n []).toArray,[]⟩∧∀ t,b.tmps.getD t undef=f t :=
 ⟨fun t=>b.tmps.getD t undef,by rw [tab_eq,List.append_nil];exact act_lit (h.size.trans hn) (h.defers.trans hd),fun _=>rfl⟩
def onceB (D:List (Option Nat)):Bool:=(List.range D.length).all fun i=>(List.range D.length).all fun j=>i==j||D.getD i none==none || !(D.getD i none==D.getD j none)
theorem once_spec {D:List (Option Nat)} (h:onceB D=true) {i j d:Nat} (hi:D[i]? = some (some d)) (hj:D[j]? = some (some d)):i=j:=by
 have hil:=(List.getElem?_eq_some_iff.1 hi).1
 have hjl:=(List.getElem?_eq_some_iff.1 hj).1
 have h1:=List.all_eq_true.1 (List.all_eq_true.1 h i (List.mem_range.2 hil)) j (List.mem_range.2 hjl)
 simpa [List.getD_eq_getElem?_getD,hi,hj] using h1
section
variable {P:Program} {Q:Exit→Act→World→Prop}
end
def OutG (X:List Nat) (G:World→Prop) (W W' : World):Prop:=Out X W W' ∧ (Below W.heap.size W W' ∨ G W')
theorem OutG.of {X:List Nat} {G:World→Prop} {W W' : World} (h:Below W.heap.size W W'):OutG X G W W' := ⟨Out.of_kept h,.inl h⟩
theorem OutG.trans {X:List Nat} {G:World→Prop} (hG:∀ {W W' : World},G W→Below W.heap.size W W' → G W') {W1 W2 W3:World} (h:OutG X G W1 W2) (k:OutG X G W2 W3):OutG X G W1 W3:=by
 refine ⟨h.1.trans k.1 (fun _ h=>.inl h),?_⟩
 rcases k.2 with k2 | k2
 ·rcases h.2 with h2 | h2
  ·exact .inl (h2.trans (k2.mono h2.size))
  ·exact .inr (hG h2 k2)
 ·exact .inr k2
def KX.out {X:List Nat} {G:World→Prop} (p:Value→World→Prop) (k:∀ {v W W'},p v W→Out X W W' → p v W'):KX (OutG X G):=⟨p,fun h hk=>k h hk.1⟩
def KX.here {X:List Nat} {G:World→Prop} (hG:∀ {W W' : World},G W→Below W.heap.size W W' → G W'):KX (OutG X G):=⟨fun _ W=>G W,fun h hk=>by rcases hk.2 with h2 | h2;(exact hG h h2);exact h2⟩
end
section
open Go.RowKit
structure Rm (N:Nat) (W W' : World):Prop where
 tape:W'.tape=W.tape
 os:W'.os=W.os
 output:W'.output=W.output
 size:W.heap.size≤W'.heap.size
 low:∀ g:Nat,g<N→W'.heap[g]? = W.heap[g]?
 cels:∀ (g:Nat) (arr:Array Value) (ty:TypeId) (fz:Nat×Nat),W.heap[g]? = some (.cells arr ty fz)→W'.heap[g]? = W.heap[g]?
theorem Rm.of {N:Nat} {W W' : World} (h:Below W.heap.size W W') (hN:N≤W.heap.size):Rm N W W' :=
 ⟨h.tape,h.os,h.output,h.size,fun g hg=>h.block g (by omega),fun g arr ty fz hg=>h.block g (Array.getElem?_eq_some_iff.1 hg).1⟩
theorem Rm.trans {N:Nat} {A B C:World} (h:Rm N A B) (k:Rm N B C):Rm N A C :=
 ⟨k.tape.trans h.tape,k.os.trans h.os,k.output.trans h.output,Nat.le_trans h.size k.size,fun g hg=>(k.low g hg).trans (h.low g hg),fun g arr ty fz hg=>(k.cels g arr ty fz ((h.cels g arr ty fz hg).trans hg)).trans (h.cels g arr ty fz hg)⟩
theorem Rm.kept {N:Nat} {W W' : World} (h:Rm N W W') (hN:W.heap.size=N):Kept W W' := { tape:=h.tape,os:=h.os,output:=h.output,size:=h.size,block:=fun g hg=>h.low g (by omega) }
structure FactsM (N:Nat) (D:List (Option Nat)) (F:Nat→Value→World→Prop) (a:Act) (w:World) (done:Nat→Bool) (b:Act) (W:World):Prop where
 kept:Rm N w W
 defers:b.defers=a.defers
 size:b.tmps.size=a.tmps.size
 rest:∀ t,some t∉D→b.tmps[t]? = a.tmps[t]?
 fact:∀ i d,D[i]? = some d→done i=true→∃ v,(∀ t,d=some t→b.tmps[t]? = some v)∧F i v W
structure MapM (N:Nat) (F:Nat→Value→World→Prop) (ins:List (Nat×Int×Nat)) (dm:Nat) (done:Nat→Bool) (b:Act) (W:World) (mb:Nat) (l:List (Int×Value)):Prop where
 here:b.tmps[dm]? = some (.map (some mb))
 ge:N≤mb
 map:IMap W mb l
 nodup:(l.map (·.1)).Nodup
 from_:∀ d∈l,∃ r∈ins,done r.1=true∧d.1=r.2.1∧F r.2.2 d.2 W
 all:∀ r∈ins,done r.1=true→∃ d∈l,d.1=r.2.1
theorem getD_set_self' {listed:Array Bool} {i:Nat} (h:i<listed.size):(listed.setIfInBounds i true).getD i false=true:=by simp [Array.getD,h]
theorem getD_set_other' {listed:Array Bool} {i j:Nat} (h:j≠i):(listed.setIfInBounds i true).getD j false=listed.getD j false:=by
 by_cases hj:j<listed.size
 ·simp [Array.getD,hj,Array.getElem_setIfInBounds,Ne.symm h]
 ·simp [Array.getD,hj]
section
variable {P:Program} {Q:Exit→Act→World→Prop} {mty kt et:TypeId}
theorem wp_region_mp {id:Nat} {a:Act} {w:World} {l:List Oper} (N n:Nat) (D:List (Option Nat)) (F:Nat→Value→World→Prop) (dm:Nat) (ins:List (Nat×Int×Nat)) (hNw:w.heap.size=N)
  (hu:P.underlying mty=some (.map kt et)) (hd:P.underlying kt=some (.int .i64))
  (hm:P.follows .mixedOrders=true) (ha:acyc l=true) (htl:tailB l n=true) (hn:n≤l.length) (hD:(l.take n).map (·.dst)=D) (hN:onceB D=true) (hsz:∀ d,some d∈D→d<a.tmps.size)
  (hg:(l.take n).all (fun o=>o.guard.isNone)=true) (hmono:∀ i v W W',F i v W→Rm N W W' → F i v W')
  (hmk:∃ o,l[0]? = some o∧o.op = .makeMap mty none∧o.dst=some dm) (hF0:∀ v W,F 0 v W)
  (hins:∀ r∈ins,r.1<n∧r.1≠0∧∃ o d,l[r.1]? = some o∧o.dst=none∧o.op = .insert mty (.tmp dm) (.const (.int .i64 r.2.1)) (.tmp d)∧D[r.2.2]? = some (some d)∧r.2.2<n∧waitB l r.1 0=true∧waitB l r.1 r.2.2=true∧∀ v W,F r.1 v W)
  (hk1:(ins.map (·.1)).Nodup) (hk2:(ins.map (·.2.1)).Nodup)
  (hstep:∀ i o,l[i]? = some o→i<n→i≠0→(∀ r∈ins,r.1≠i)→∀ b W,FactsM N D F a w (fun j=>o.after.toList.any fun e=>Region.binds .any e&&e.on==j) b W →
   ∀ K:Act→World→Prop,(∀ v W',F i v W' → Below W.heap.size W W' → K (b.put o.dst v) W')→o.wp P b W K Q)
  (hend:∀ b W mb m,FactsM N D F a w (fun _=>true) b W→MapM N F ins dm (fun _=>true) b W mb m→wpList P l.toArray Q (l.drop n) b W) (h0n:0<n):(Code.region id l.toArray true).wp P Q a w:=by
 have hln:(l.take n).length=n:=by simp;omega
 have hlen:D.length=n:=by rw [← hD,List.length_map,hln]
 have htk:∀ {i:Nat},i<n→(l.take n)[i]? = l[i]? := fun hi=>List.getElem?_take_of_lt hi
 have hdst:∀ (i:Nat) o,i<n→l[i]? = some o→D[i]? = some o.dst:=fun i o hin hi=>by
  rw [← hD,List.getElem?_map,htk hin,hi];rfl
 have hinj:∀ r∈ins,∀ r' ∈ ins,r.1=r'.1→r=r' := fun r hr r' hr' e=>by
  obtain ⟨i,hi⟩:=List.getElem?_of_mem hr
  obtain ⟨j,hj⟩:=List.getElem?_of_mem hr'
  have e1:(ins.map (·.1))[i]? = some r.1:=by simp [hi]
  have e2:(ins.map (·.1))[j]? = some r.1:=by simp [hj,e]
  have:i=j:=(List.getElem?_inj (List.getElem?_eq_some_iff.1 e1).1 hk1).1 (e1.trans e2.symm)
  subst this
  rw [hi] at hj;exact Option.some.inj hj
 have hinj2:∀ r∈ins,∀ r' ∈ ins,r.2.1=r'.2.1→r=r' := fun r hr r' hr' e=>by
  obtain ⟨i,hi⟩:=List.getElem?_of_mem hr
  obtain ⟨j,hj⟩:=List.getElem?_of_mem hr'
  have e1:(ins.map (·.2.1))[i]? = some r.2.1:=by simp [hi]
  have e2:(ins.map (·.2.1))[j]? = some r.2.1:=by simp [hj,e]
  have:i=j:=(List.getElem?_inj (List.getElem?_eq_some_iff.1 e1).1 hk2).1 (e1.trans e2.symm)
  subst this
  rw [hi] at hj;exact Option.some.inj hj
 refine wp_region_inv (fun listed b W=>Closed l listed∧(((∀ i,n≤i→i<l.length→listed.getD i false=false)∧FactsM N D F a w (fun i=>decide (i<n)&&listed.getD i false) b W ∧
   (listed.getD 0 false=true→∃ mb m,MapM N F ins dm (fun i=>listed.getD i false) b W mb m)∧(listed.getD 0 false=false→∀ r∈ins,listed.getD r.1 false=false)) ∨
   ∃ m,n<m∧(∀ i,i<l.length→listed.getD i false=decide (i<m))∧wpList P l.toArray Q (l.drop m) b W)) hm ha ?_ ?_ ?_
 ·refine ⟨fun k o hk hl=>by
   have:k<l.length:=(List.getElem?_eq_some_iff.1 hk).1
   simp [Array.getD,this] at hl,.inl ⟨fun i _ hi=>?_,⟨⟨rfl,rfl,rfl,Nat.le_refl _,fun _ _=>rfl,fun _ _ _ _ _=>rfl⟩,rfl,rfl,fun _ _=>rfl,fun i d hi h=>?_⟩,fun h=>?_,fun _ r hr=>?_⟩⟩
  ·simp [Array.getD,hi]
  ·simp only [Bool.and_eq_true,decide_eq_true_eq] at h
   have:i<l.length:=by omega
   simp [Array.getD,this] at h
  ·have:0<l.length:=by omega
   simp [Array.getD,this] at h
  ·have:r.1<l.length:=by have:=(hins r hr).1;omega
   simp [Array.getD,this]
 ·intro listed b W i o hs hI hi hnl hw
  have hil:i<l.length:=(List.getElem?_eq_some_iff.1 hi).1
  have hnl' : listed.getD i false=false:=by
   have h1:i<listed.size:=by omega
   simpa [Array.getD,h1] using hnl
  obtain ⟨hC,hI⟩:=hI
  have hC' := hC.set hi hw
  have hset:∀ j,j≠i→(listed.setIfInBounds i true).getD j false=listed.getD j false:=fun j hj=>getD_set_other' hj
  have hself:(listed.setIfInBounds i true).getD i false=true:=getD_set_self' (by omega)
  rcases hI with ⟨hT,hF,hM,hM0⟩ | ⟨m,hnm,hL,hwp⟩
  ·by_cases hin:i<n
   ·have hdo:=hdst i o hin hi
    have hgo:o.guard=none:=by
     have:=List.all_eq_true.1 hg o (List.mem_of_getElem? ((htk hin).trans hi))
     simpa using this
    have hTn:∀ j,n≤j→j<l.length→(listed.setIfInBounds i true).getD j false=false:=fun j hj1 hj2=>by
     rw [hset j (by omega)];exact hT j hj1 hj2
    -- the facts behind one more
    have hnext:∀ v W',F i v W' → Rm N W W' → FactsM N D F a w (fun i' => decide (i' < n)&&(listed.setIfInBounds i true).getD i' false) (b.put o.dst v) W' := fun v W' hFv hB=>by
     have hother:∀ j dj,D[j]? = some dj→(decide (j<n)&&(listed.setIfInBounds i true).getD j false)=true→j≠i→∃ u,(∀ t,dj=some t→b.tmps[t]? = some u)∧F j u W' := fun j dj hj hdone hji=>by
      simp only [Bool.and_eq_true,decide_eq_true_eq] at hdone
      have h4:listed.getD j false=true:=by rw [← hset j hji];exact hdone.2
      obtain ⟨u,hu,hFu⟩:=hF.fact j dj hj (by simp [h4,hdone.1])
      exact ⟨u,hu,hmono _ _ _ _ hFu hB⟩
     cases hod:o.dst with
     | none =>
      rw [hod] at hdo
      refine ⟨hF.kept.trans hB,hF.defers,hF.size,hF.rest,fun j dj hj hdone=>?_⟩
      by_cases hji:j=i
      ·subst hji
       rw [hdo] at hj;cases hj
       exact ⟨v,fun t ht=>(by cases ht),hFv⟩
      ·exact hother j dj hj hdone hji
     | some d =>
      rw [hod] at hdo
      have hdm:some d∈D:=List.mem_of_getElem? hdo
      have hdb:d<b.tmps.size:=by rw [hF.size];exact hsz d hdm
      refine ⟨hF.kept.trans hB,hF.defers,by simpa [Act.put] using hF.size,fun t ht=>?_,fun j dj hj hdone=>?_⟩
      ·have hne:t≠d:=fun h=>ht (h ▸ hdm)
       rw [← hF.rest t ht]
       simp [Act.put,Array.getElem?_setIfInBounds,Ne.symm hne]
      ·by_cases hji:j=i
       ·subst hji
        rw [hdo] at hj;cases hj
        exact ⟨v,fun t ht=>(by cases ht;simp [Act.put,hdb]),hFv⟩
       ·obtain ⟨u,hu,hFu⟩:=hother j dj hj hdone hji
        refine ⟨u,fun t ht=>?_,hFu⟩
        subst ht
        have hne:t≠d:=fun h=>hji (by subst h;exact once_spec hN hj hdo)
        simpa [Act.put,Array.getElem?_setIfInBounds,Ne.symm hne] using hu t rfl
    obtain ⟨om,hom,hopm,hdstm⟩:=hmk
    have hD0:D[0]? = some (some dm):=by rw [← hdstm];exact hdst 0 om h0n hom
    have hNW:N≤W.heap.size:=by rw [← hNw];exact hF.kept.size
    have hi' : l.toArray[i]? = some o:=by simpa using hi
    have wpo:o.wp P b W (fun b' W' => Closed l (listed.setIfInBounds i true)∧(((∀ j,n≤j→j<l.length→(listed.setIfInBounds i true).getD j false=false)∧FactsM N D F a w (fun j=>decide (j<n)&&(listed.setIfInBounds i true).getD j false) b' W' ∧
      ((listed.setIfInBounds i true).getD 0 false=true→∃ mb m,MapM N F ins dm (fun j=>(listed.setIfInBounds i true).getD j false) b' W' mb m)∧((listed.setIfInBounds i true).getD 0 false=false→∀ r∈ins,(listed.setIfInBounds i true).getD r.1 false=false)) ∨
      ∃ m,n<m∧(∀ j,j<l.length→(listed.setIfInBounds i true).getD j false=decide (j<m))∧wpList P l.toArray Q (l.drop m) b' W')) Q:=by
     by_cases hi0:i=0
     ·subst hi0
      obtain rfl:om=o:=Option.some.inj (hom.symm.trans hi)
      have hrun:(execOp b.eval om).run P W = .ok (.value (.map (some W.heap.size))) (W.alloc (.map #[] 0)):=by simp [execOp,hopm,run_makeMap]
      unfold Oper.wp
      rw [hrun]
      have hB:Rm N W (W.alloc (.map #[] 0)):=Rm.of ((show Below W.heap.size W W from ⟨rfl,rfl,rfl,Nat.le_refl _,fun _ _=>rfl⟩).alloc (Nat.le_refl _) _) hNW
      have hnx:=hnext (.map (some W.heap.size)) _ (hF0 _ _) hB
      refine ⟨hC',.inl ⟨hTn,hnx,fun _=>⟨W.heap.size,[],⟨?_,hNW,IMap.made W,by simp,fun d hd=>(by cases hd),fun r hr hdone=>?_⟩⟩,fun h=>?_⟩⟩
      ·obtain ⟨v,hv,-⟩:=hnx.fact 0 _ hD0 (by simp [h0n,hself])
       rw [hdstm]
       have hdb:dm<b.tmps.size:=by rw [hF.size];exact hsz dm (List.mem_of_getElem? hD0)
       simp [Act.put,hdb]
      ·rw [hset r.1 (hins r hr).2.1,hM0 hnl' r hr] at hdone;cases hdone
      ·rw [hself] at h;cases h
     ·have h00:(listed.setIfInBounds i true).getD 0 false=listed.getD 0 false:=hset 0 (Ne.symm hi0)
      by_cases hr:∃ r∈ins,r.1=i
      ·obtain ⟨r,hr,rfl⟩:=hr
       obtain ⟨-,-,o',d,ho',hdn,hop,hDs,hsn,hw0,hws,hFi⟩:=hins r hr
       obtain rfl:o' = o:=Option.some.inj (ho'.symm.trans hi)
       obtain ⟨e0,he0,hb0,hon0⟩:=waitB_spec hw0 hi
       obtain ⟨e1,he1,hb1,hon1⟩:=waitB_spec hws hi
       have hd0:listed.getD 0 false=true:=hon0 ▸ hw e0 he0 hb0
       have hds:listed.getD r.2.2 false=true:=hon1 ▸ hw e1 he1 hb1
       obtain ⟨mb,m,hMM⟩:=hM hd0
       obtain ⟨v,hv,hFv⟩:=hF.fact r.2.2 _ hDs (by simp [hsn,hds])
       have hv' := hv d rfl
       have hnk:∀ d' ∈ m,d'.1≠r.2.1:=fun d' hd' e=>by
        obtain ⟨r',hr',hdone,hk,-⟩:=hMM.from_ d' hd'
        have:=hinj2 r' hr' r hr (hk.symm.trans e)
        subst this
        rw [hnl'] at hdone;cases hdone
       obtain ⟨es,ck,hrun,hmap,hoth,-⟩:=imap_put2 (P:=P) hu hd hMM.map r.2.1 v hnk
       have hrun' : (execOp b.eval o').run P W = .ok .skip { W with heap:=W.heap.setIfInBounds mb (.map es ck) }:=by
        have h1:b.eval (.tmp dm) = .map (some mb):=by simp [Act.eval,hMM.here]
        have h2:b.eval (.tmp d)=v:=by simp [Act.eval,hv']
        have h3:b.eval (.const (.int .i64 r.2.1)) = .int .i64 r.2.1:=rfl
        simp [execOp,hop,h1,h2,h3,hrun]
       have hmbl:=hMM.map.lt
       have hB:Rm N W { W with heap:=W.heap.setIfInBounds mb (.map es ck) }:=⟨rfl,rfl,rfl,by simp,fun g hg' => hoth g (by have:=hMM.ge;omega),fun g arr ty fz hgc=>by
        have hne:g≠mb:=fun e=>by
         subst e
         obtain ⟨es,ck,hm1⟩:=hMM.map
         rw [hm1.obj] at hgc;cases hgc
        exact hoth g hne⟩
       unfold Oper.wp
       rw [hrun']
       have hnx:=hnext undef _ (hFi _ _) hB
       refine ⟨hC',.inl ⟨hTn,hnx,fun _=>⟨mb,m++[(r.2.1,v)],⟨by show (b.put o'.dst undef).tmps[dm]? = _;rw [hdn];exact hMM.here,hMM.ge,hmap,?_,fun d' hd' => ?_,fun r' hr' hdone=>?_⟩⟩,fun h=>?_⟩⟩
       ·rw [List.map_append]
        refine List.nodup_append.2 ⟨hMM.nodup,by simp,fun p hp q hq=>?_⟩
        simp only [List.map_cons,List.map_nil,List.mem_singleton] at hq
        subst hq
        obtain ⟨d',hd',rfl⟩:=List.mem_map.1 hp
        exact hnk d' hd'
       ·rcases List.mem_append.1 hd' with hd' | hd'
        ·obtain ⟨r',hr',hdone,hk,hFd⟩:=hMM.from_ d' hd'
         refine ⟨r',hr',?_,hk,hmono _ _ _ _ hFd hB⟩
         by_cases e:r'.1=r.1
         ·rw [e];exact hself
         ·rw [hset r'.1 e];exact hdone
        ·simp only [List.mem_singleton] at hd'
         subst hd'
         exact ⟨r,hr,hself,rfl,hmono _ _ _ _ hFv hB⟩
       ·by_cases e:r'.1=r.1
        ·have:=hinj r' hr' r hr e
         subst this
         exact ⟨(r'.2.1,v),by simp,rfl⟩
        ·rw [hset r'.1 e] at hdone
         obtain ⟨d',hd',hk⟩:=hMM.all r' hr' hdone
         exact ⟨d',List.mem_append_left _ hd',hk⟩
       ·rw [h00,hd0] at h;cases h
      ·have hno:∀ r∈ins,r.1≠i:=fun r hr' e=>hr ⟨r,hr',e⟩
       refine hstep i o hi hin hi0 hno b W ⟨hF.kept,hF.defers,hF.size,hF.rest,fun j dj hj hdone=>by
        obtain ⟨e,he,h2⟩:=List.any_eq_true.1 hdone
        simp only [Bool.and_eq_true,beq_iff_eq] at h2
        have h3:=hw e (Array.mem_toList_iff.1 he) h2.1
        rw [h2.2] at h3
        have hjl:j<n:=by rw [← hlen];exact (List.getElem?_eq_some_iff.1 hj).1
        exact hF.fact j dj hj (by simp [h3,hjl])⟩ _ fun v W' hFv hBl=>?_
       have hB:=Rm.of hBl hNW
       have hnx:=hnext v W' hFv hB
       refine ⟨hC',.inl ⟨hTn,hnx,fun h=>?_,fun h r hr' => ?_⟩⟩
       ·rw [h00] at h
        obtain ⟨mb,m,hMM⟩:=hM h
        refine ⟨mb,m,?_,hMM.ge,hMM.map.kept hBl,hMM.nodup,fun d' hd' => ?_,fun r' hr' hdone=>?_⟩
        ·cases hod:o.dst with
         | none=>exact hMM.here
         | some d =>
          have hne:d≠dm:=fun e=>by
           subst e
           rw [hod] at hdo
           exact hi0 (once_spec hN hdo hD0)
          simpa [Act.put,Array.getElem?_setIfInBounds,hne] using hMM.here
        ·obtain ⟨r',hr',hdone,hk,hFd⟩:=hMM.from_ d' hd'
         exact ⟨r',hr',by rw [hset r'.1 (hno r' hr')];exact hdone,hk,hmono _ _ _ _ hFd hB⟩
        ·rw [hset r'.1 (hno r' hr')] at hdone
         exact hMM.all r' hr' hdone
       ·rw [h00] at h
        rw [hset r.1 (hno r hr')]
        exact hM0 h r hr'
    unfold wpOp
    simp only [hi',Region.wanted,hgo,if_true]
    left
    exact wpo
   ·have hall:∀ j,j<i→listed.getD j false=true:=fun j hj=>tail_waits' htl hi (by omega) hj hC hw
    have hie:i=n:=by
     rcases Nat.lt_or_ge n i with h | h
     ·have h1:=hall n h
      rw [hT n (Nat.le_refl _) (by omega)] at h1
      cases h1
     ·omega
    subst hie
    obtain ⟨mb,m,hMM⟩:=hM (hall 0 h0n)
    have h1:=hend b W mb m ⟨hF.kept,hF.defers,hF.size,hF.rest,fun j dj hj _=>hF.fact j dj hj (by
     have hjl:j<i:=by rw [← hlen];exact (List.getElem?_eq_some_iff.1 hj).1
     simp [hjl,hall j hjl])⟩ ⟨hMM.here,hMM.ge,hMM.map,hMM.nodup,fun d hd' => let ⟨r,hr,_,hk,hFd⟩:=hMM.from_ d hd';⟨r,hr,rfl,hk,hFd⟩,fun r hr _=>hMM.all r hr (hall r.1 (hins r hr).1)⟩
    have hdr:l.drop i=o::l.drop (i+1):=by
     rw [List.drop_eq_getElem_cons hil]
     congr 1
     exact (List.getElem?_eq_some_iff.1 hi).2
    rw [hdr] at h1
    refine wpOp_mono (fun a' w' h' => ⟨hC',.inr ⟨i+1,by omega,fun j hj=>?_,h'⟩⟩) (wpOp_of_list hi h1)
    have hjs:j<listed.size:=by omega
    by_cases hji:j=i
    ·subst hji;simp [Array.getD,hjs]
    ·by_cases hlt:j<i
     ·have h4:=hall j hlt
      have:j<i+1:=by omega
      simpa [Array.getD,hjs,Array.getElem_setIfInBounds,Ne.symm hji,this] using h4
     ·have h4:=hT j (by omega) hj
      have:¬ j<i+1:=by omega
      simpa [Array.getD,hjs,Array.getElem_setIfInBounds,Ne.symm hji,this] using h4
  ·have hin:m≤i:=by
    have:=hL i hil
    rw [hnl'] at this
    simpa using this.symm
   have hie:i=m:=by
    rcases Nat.lt_or_ge m i with h | h
    ·have h1:=tail_waits' htl hi (by omega) h hC hw
     rw [hL m (by omega)] at h1
     simp at h1
    ·omega
   subst hie
   have hdr:l.drop i=o::l.drop (i+1):=by
    rw [List.drop_eq_getElem_cons hil]
    congr 1
    exact (List.getElem?_eq_some_iff.1 hi).2
   rw [hdr] at hwp
   refine wpOp_mono (fun a' w' h' => ⟨hC',.inr ⟨i+1,by omega,fun j hj=>?_,h'⟩⟩) (wpOp_of_list hi hwp)
   have hjs:j<listed.size:=by omega
   have h4:=hL j hj
   by_cases hji:j=i
   ·subst hji;simp [Array.getD,hjs]
   ·have h5:decide (j<i+1)=decide (j<i):=by
     by_cases h:j<i <;> simp [h] <;> omega
    rw [h5]
    simpa [Array.getD,hjs,Array.getElem_setIfInBounds,Ne.symm hji] using h4
 ·intro b W hI
  rcases hI.2 with ⟨hT,hF,hM,-⟩ | ⟨m,hnm,hL,hwp⟩
  ·have hnl:n=l.length:=by
    rcases Nat.lt_or_ge n l.length with h | h
    ·have:=hT n (Nat.le_refl _) h
     simp [Array.getD,h] at this
    ·omega
   have hall:∀ j,j<l.length→(Array.replicate l.length true).getD j false=true:=fun j hj=>by simp [Array.getD,hj]
   obtain ⟨mb,m,hMM⟩:=hM (hall 0 (by omega))
   have h1:=hend b W mb m ⟨hF.kept,hF.defers,hF.size,hF.rest,fun j dj hj _=>hF.fact j dj hj (by
    have hjl:j<n:=by rw [← hlen];exact (List.getElem?_eq_some_iff.1 hj).1
    simp [hjl,hall j (by omega)])⟩ ⟨hMM.here,hMM.ge,hMM.map,hMM.nodup,fun d hd' => let ⟨r,hr,_,hk,hFd⟩:=hMM.from_ d hd';⟨r,hr,rfl,hk,hFd⟩,fun r hr _=>hMM.all r hr (hall r.1 (by have:=(hins r hr).1;omega))⟩
   rw [hnl,List.drop_length] at h1
   exact h1
  ·have hml:l.length≤m:=by
    rcases Nat.lt_or_ge m l.length with h | h
    ·have:=hL m h
     simp [Array.getD,h] at this
    ·exact h
   rw [List.drop_of_length_le hml] at hwp
   exact hwp
end
end
section
open Go.RowKit
def rgD:List (Option Nat):=[some 7,some 8,some 9,some 10,some 11,none,some 12,some 13,none,some 14,some 15,none,some 16,some 17,none,some 18,some 19,some 20,some 21,none,some 22,some 23,some 24,some 25,none,some 26,some 27,some 28,some 29,none,some 30,some 31,none,some 32,some 33,none]
def rgIns:List (Nat×Int×Nat):=[(5,0,4),(8,1,7),(11,2,10),(14,3,13),(19,4,18),(24,5,23),(29,6,28),(32,7,31),(35,8,34)]
noncomputable def rgL:List Oper:=match regOf Tryz.prog 211 0 with
 | .region _ ops _=>ops.toList
 | _=>[]
noncomputable def rgI:Nat:=match regOf Tryz.prog 211 0 with
 | .region id _ _=>id
 | _=>0
theorem rg_is:regOf Tryz.prog 211 0 = .region rgI rgL.toArray true:=by kernel_rfl
noncomputable def rgO (i:Nat):Oper:=rgL.getD i ⟨none,.move (.const undef),0,"",#[],none⟩
def CloR (N:Nat) (bp c:Value) (g:Nat) (k:Int) (v:Value) (W:World):Prop:=∃ (b1 b3:Nat) (t1 t3:TypeId),v = .func (.func 235) #[] #[.pointer (some ⟨b1,0,none⟩),bp,.pointer (some ⟨b3,0,none⟩)]∧N≤b1∧N≤b3 ∧
 W.heap[b1]? = some (.cells #[.func (.func g) #[c] #[]] t1 (0,0))∧W.heap[b3]? = some (.cells #[.int .i64 k] t3 (0,0))
def cloX (N:Nat) (bp c:Value) (g:Nat) (k:Int):KX (Rm N):=⟨fun v W=>CloR N bp c g k v W,fun ⟨b1,b3,t1,t3,h1,h2,h3,h4,h5⟩ hR=>⟨b1,b3,t1,t3,h1,h2,h3,(hR.cels _ _ _ _ h4).trans h4,(hR.cels _ _ _ _ h5).trans h5⟩⟩
def rgF (N:Nat) (bp c V3:Value):List (KX (Rm N)):=[KX.tt _,KX.eq _ V3,KX.eq _ c,KX.eq _ (.func (.func 237) #[c] #[]),cloX N bp c 237 1,KX.tt _,KX.eq _ c,KX.eq _ (.func (.func 238) #[c] #[]),KX.tt _,KX.eq _ c,KX.eq _ (.func (.func 239) #[c] #[]),KX.tt _,KX.eq _ c,KX.eq _ (.func (.func 240) #[c] #[]),KX.tt _,KX.eq _ V3,KX.eq _ c,KX.eq _ (.func (.func 241) #[c] #[]),cloX N bp c 241 6,KX.tt _,KX.eq _ V3,KX.eq _ c,KX.eq _ (.func (.func 242) #[c] #[]),cloX N bp c 242 7,KX.tt _,KX.eq _ V3,KX.eq _ c,KX.eq _ (.func (.func 243) #[c] #[]),cloX N bp c 243 9,KX.tt _,KX.eq _ c,KX.eq _ (.func (.func 244) #[c] #[]),KX.tt _,KX.eq _ c,KX.eq _ (.func (.func 245) #[c] #[]),KX.tt _]
theorem steps1_any (g:Nat) (c p:Value) (k:Int) (w:World):Calls Tryz.prog 234 #[.func (.func g) #[c] #[],.int .i64 k,p] w fun e w' => e = .returned (.func (.func 235) #[] #[.pointer (some ⟨w.heap.size,0,none⟩),p,.pointer (some ⟨w.heap.size+1,0,none⟩)]) ∧
  w' = (w.alloc (.cells #[.func (.func g) #[c] #[]] 1)).alloc (.cells #[.int .i64 k] 3):=by
 go_enter Tryz.func234,Tryz.ntmps234
 go_wp2
 go_ret
 exact ⟨rfl,rfl⟩
section
variable {P:Program} {Q:Exit→Act→World→Prop}
theorem st_val {o:Oper} {b:Act} {W:World} {K:Act→World→Prop} {v:Value} (hr:(execOp b.eval o).run P W = .ok (.value v) W) (hK:K (b.put o.dst v) W):o.wp P b W K Q:=by unfold Oper.wp;rw [hr];exact hK
theorem ld1 {o:Oper} {b:Act} {W:World} {t:TypeId} {x:Nat} {g:Nat} {u:Value} (ho:o.op = .load t (.tmp x)) (ht:tyRow P t=some false) (hx:b.tmps[x]? = some (.pointer (some ⟨g,0,none⟩))) (hu:W.cell? ⟨g,0,none⟩=some u):(execOp b.eval o).run P W = .ok (.value u) W:=by
 have h1:b.eval (.tmp x) = .pointer (some ⟨g,0,none⟩):=by simp [Act.eval,hx]
 have h2:(loadVar t ⟨g,0,none⟩).run P W = .ok u W:=by unfold loadVar;simp [Sem.run_bind,run_row ht,hu]
 simp [execOp,ho,h1,Instr.loadAt,Instr.sureAddr,Sem.run_bind,h2]
end
theorem st_clo {Q:Exit→Act→World→Prop} {o:Oper} {b:Act} {W:World} {K:Act→World→Prop} {x y N:Nat} {g:Nat} {k:Int} {c bp V3:Value} {ats:Array TypeId} (ho:o.op = .call { callee:=.value (.tmp x),args:=#[.tmp y,.const (.int .i64 k)],argTypes:=ats }) (hx:b.tmps[x]? = some V3) (hy:b.tmps[y]? = some (.func (.func g) #[c] #[])) (hV:V3 = .func (.func 234) #[] #[bp]) (hN:N≤W.heap.size)
  (hK:∀ v W',CloR N bp c g k v W' → Below W.heap.size W W' → K (b.put o.dst v) W'):o.wp Tryz.prog b W K Q:=by
 have h1:b.eval (.tmp x) = .func (.func 234) #[] #[bp]:=by simp [Act.eval,hx,hV]
 have h2:b.eval (.tmp y) = .func (.func g) #[c] #[]:=by simp [Act.eval,hy]
 have h3:b.eval (.const (.int .i64 k)) = .int .i64 k:=rfl
 have hrun:=run_call (P:=Tryz.prog) (W:=W) (f:=b.eval) ho h1 (by kernel_rfl)
 refine upon_enter' hrun ?_
 have e:(#[]++#[Operand.tmp y,.const (.int .i64 k)].map b.eval++#[bp]:Array Value)=#[.func (.func g) #[c] #[],.int .i64 k,bp]:=by simp [h2,h3]
 rw [e]
 refine (steps1_any g c bp k W).mono ?_
 rintro e' W' ⟨rfl,rfl⟩
 have hB:Below W.heap.size W ((W.alloc (.cells #[.func (.func g) #[c] #[]] 1)).alloc (.cells #[.int .i64 k] 3)):=by
  have h0:Below W.heap.size W (W.alloc (.cells #[.func (.func g) #[c] #[]] 1)):=(show Below W.heap.size W W from ⟨rfl,rfl,rfl,Nat.le_refl _,fun _ _=>rfl⟩).alloc (Nat.le_refl _) _
  exact h0.alloc h0.size _
 have a1:=MapKept.heap_alloc W (.cells #[.func (.func g) #[c] #[]] 1)
 have a2:=MapKept.heap_alloc (W.alloc (.cells #[.func (.func g) #[c] #[]] 1)) (.cells #[.int .i64 k] 3)
 have hsz:(W.alloc (.cells #[.func (.func g) #[c] #[]] 1)).heap.size=W.heap.size+1:=World.size_alloc _ _
 refine ⟨_,rfl,hK _ _ ⟨W.heap.size,W.heap.size+1,1,3,rfl,hN,by omega,?_,?_⟩ hB⟩
 ·rw [a2.2 _ (by omega)];exact a1.1
 ·rw [← hsz];exact a2.1
theorem rg_ins:∀ r∈rgIns,r.1<36∧r.1≠0∧∃ o d,rgL[r.1]? = some o∧o.dst=none∧o.op = .insert 213 (.tmp 7) (.const (.int .i64 r.2.1)) (.tmp d)∧rgD[r.2.2]? = some (some d)∧r.2.2<36∧waitB rgL r.1 0=true∧waitB rgL r.1 r.2.2=true∧∀ (N:Nat) (bp c V3 v:Value) (W:World),FX (Rm N) (rgF N bp c V3) r.1 v W:=by
 intro r hr
 simp only [rgIns,List.mem_cons,List.not_mem_nil,or_false] at hr
 rcases hr with rfl | rfl | rfl | rfl | rfl | rfl | rfl | rfl | rfl
 ·exact ⟨by decide,by decide,rgO 5,11,by kernel_rfl,by kernel_rfl,by kernel_rfl,rfl,by decide,by kernel_rfl,by kernel_rfl,fun _ _ _ _ _ _=>trivial⟩
 ·exact ⟨by decide,by decide,rgO 8,13,by kernel_rfl,by kernel_rfl,by kernel_rfl,rfl,by decide,by kernel_rfl,by kernel_rfl,fun _ _ _ _ _ _=>trivial⟩
 ·exact ⟨by decide,by decide,rgO 11,15,by kernel_rfl,by kernel_rfl,by kernel_rfl,rfl,by decide,by kernel_rfl,by kernel_rfl,fun _ _ _ _ _ _=>trivial⟩
 ·exact ⟨by decide,by decide,rgO 14,17,by kernel_rfl,by kernel_rfl,by kernel_rfl,rfl,by decide,by kernel_rfl,by kernel_rfl,fun _ _ _ _ _ _=>trivial⟩
 ·exact ⟨by decide,by decide,rgO 19,21,by kernel_rfl,by kernel_rfl,by kernel_rfl,rfl,by decide,by kernel_rfl,by kernel_rfl,fun _ _ _ _ _ _=>trivial⟩
 ·exact ⟨by decide,by decide,rgO 24,25,by kernel_rfl,by kernel_rfl,by kernel_rfl,rfl,by decide,by kernel_rfl,by kernel_rfl,fun _ _ _ _ _ _=>trivial⟩
 ·exact ⟨by decide,by decide,rgO 29,29,by kernel_rfl,by kernel_rfl,by kernel_rfl,rfl,by decide,by kernel_rfl,by kernel_rfl,fun _ _ _ _ _ _=>trivial⟩
 ·exact ⟨by decide,by decide,rgO 32,31,by kernel_rfl,by kernel_rfl,by kernel_rfl,rfl,by decide,by kernel_rfl,by kernel_rfl,fun _ _ _ _ _ _=>trivial⟩
 ·exact ⟨by decide,by decide,rgO 35,33,by kernel_rfl,by kernel_rfl,by kernel_rfl,rfl,by decide,by kernel_rfl,by kernel_rfl,fun _ _ _ _ _ _=>trivial⟩
theorem rg_steps {Q:Exit→Act→World→Prop} {N gb:Nat} {a:Act} {w:World} {bp c V3:Value} (hN:w.heap.size=N) (ha1:a.tmps[1]? = some (.pointer (some ⟨gb,0,none⟩))) (ha3:a.tmps[3]? = some V3) (hV3:V3 = .func (.func 234) #[] #[bp]) (hgb:∃ arr ty,w.heap[gb]? = some (.cells arr ty (0,0))∧arr[0]? = some c) :
  ∀ i o,rgL[i]? = some o→i<36→i≠0→(∀ r∈rgIns,r.1≠i)→∀ b W,FactsM N rgD (FX (Rm N) (rgF N bp c V3)) a w (fun j=>o.after.toList.any fun e=>Region.binds .any e&&e.on==j) b W →
   ∀ K:Act→World→Prop,(∀ v W',FX (Rm N) (rgF N bp c V3) i v W' → Below W.heap.size W W' → K (b.put o.dst v) W')→o.wp Tryz.prog b W K Q:=by
 have h1:∀ b:Act,(∀ t,some t∉rgD→b.tmps[t]? = a.tmps[t]?)→b.tmps[1]? = some (.pointer (some ⟨gb,0,none⟩)):=fun b h=>(h 1 (by decide)).trans ha1
 have h3:∀ b:Act,(∀ t,some t∉rgD→b.tmps[t]? = a.tmps[t]?)→b.eval (.tmp 3)=V3:=fun b h=>by simp [Act.eval,(h 3 (by decide)).trans ha3]
 have hc:∀ W,Rm N w W→W.cell? ⟨gb,0,none⟩=some c:=fun W h=>by
  obtain ⟨arr,ty,e1,e2⟩:=hgb
  have:=(h.cels _ _ _ _ e1).trans e1
  simp [World.cell?,this,e2]
 intro i o hi hin hi0 hno b W hF K hK
 have hcase:i=1∨i=2∨i=3∨i=4∨i=6∨i=7∨i=9∨i=10∨i=12∨i=13∨i=15∨i=16∨i=17∨i=18∨i=20∨i=21∨i=22∨i=23∨i=25∨i=26∨i=27∨i=28∨i=30∨i=31∨i=33∨i=34:=by
  have e:=fun r hr=>hno r hr
  simp only [rgIns,List.mem_cons,List.not_mem_nil,or_false,forall_eq_or_imp,forall_eq] at e
  omega
 rcases hcase with rfl | rfl | rfl | rfl | rfl | rfl | rfl | rfl | rfl | rfl | rfl | rfl | rfl | rfl | rfl | rfl | rfl | rfl | rfl | rfl | rfl | rfl | rfl | rfl | rfl | rfl
 ·obtain rfl:rgO 1=o:=Option.some.inj ((show rgL[1]? = some (rgO 1) by kernel_rfl).symm.trans hi)
  exact st_val (v:=V3) (by simp [execOp,show (rgO 1).op = .move (.tmp 3) by kernel_rfl,h3 b hF.rest]) (hK _ _ rfl (Below.refl _ _))
 ·obtain rfl:rgO 2=o:=Option.some.inj ((show rgL[2]? = some (rgO 2) by kernel_rfl).symm.trans hi)
  exact st_val (v:=c) (ld1 (show (rgO 2).op = .load 210 (.tmp 1) by kernel_rfl) (by kernel_rfl) (h1 b hF.rest) (hc W hF.kept)) (hK _ _ rfl (Below.refl _ _))
 ·obtain rfl:rgO 3=o:=Option.some.inj ((show rgL[3]? = some (rgO 3) by kernel_rfl).symm.trans hi)
  obtain ⟨va,hva,hFa⟩:=hF.fact 2 _ (show rgD[2]? = some (some 9) from rfl) (by kernel_rfl)
  have hea:=hva _ rfl
  have hFa' : va=c:=hFa
  subst hFa'
  exact st_val (v:=.func (.func 237) #[va] #[]) (by simp [execOp,show (rgO 3).op = .makeFunc (.func 237) #[.tmp 9] #[] by kernel_rfl,Instr.makeFunc,Act.eval,hea]) (hK _ _ rfl (Below.refl _ _))
 ·obtain rfl:rgO 4=o:=Option.some.inj ((show rgL[4]? = some (rgO 4) by kernel_rfl).symm.trans hi)
  obtain ⟨va,hva,hFa⟩:=hF.fact 1 _ (show rgD[1]? = some (some 8) from rfl) (by kernel_rfl)
  have hea:=hva _ rfl
  obtain ⟨vb,hvb,hFb⟩:=hF.fact 3 _ (show rgD[3]? = some (some 10) from rfl) (by kernel_rfl)
  have heb:=hvb _ rfl
  have hFa' : va=V3:=hFa
  have hFb' : vb = .func (.func 237) #[c] #[]:=hFb
  rw [hFa'] at hea
  rw [hFb'] at heb
  exact st_clo (g:=237) (k:=1) (show (rgO 4).op = .call { callee:=.value (.tmp 8),args:=#[.tmp 10,.const (.int .i64 1)],argTypes:=#[1,3] } by kernel_rfl) hea heb hV3 (hN ▸ hF.kept.size) (fun v W' h=>hK v W' h)
 ·obtain rfl:rgO 6=o:=Option.some.inj ((show rgL[6]? = some (rgO 6) by kernel_rfl).symm.trans hi)
  exact st_val (v:=c) (ld1 (show (rgO 6).op = .load 210 (.tmp 1) by kernel_rfl) (by kernel_rfl) (h1 b hF.rest) (hc W hF.kept)) (hK _ _ rfl (Below.refl _ _))
 ·obtain rfl:rgO 7=o:=Option.some.inj ((show rgL[7]? = some (rgO 7) by kernel_rfl).symm.trans hi)
  obtain ⟨va,hva,hFa⟩:=hF.fact 6 _ (show rgD[6]? = some (some 12) from rfl) (by kernel_rfl)
  have hea:=hva _ rfl
  have hFa' : va=c:=hFa
  subst hFa'
  exact st_val (v:=.func (.func 238) #[va] #[]) (by simp [execOp,show (rgO 7).op = .makeFunc (.func 238) #[.tmp 12] #[] by kernel_rfl,Instr.makeFunc,Act.eval,hea]) (hK _ _ rfl (Below.refl _ _))
 ·obtain rfl:rgO 9=o:=Option.some.inj ((show rgL[9]? = some (rgO 9) by kernel_rfl).symm.trans hi)
  exact st_val (v:=c) (ld1 (show (rgO 9).op = .load 210 (.tmp 1) by kernel_rfl) (by kernel_rfl) (h1 b hF.rest) (hc W hF.kept)) (hK _ _ rfl (Below.refl _ _))
 ·obtain rfl:rgO 10=o:=Option.some.inj ((show rgL[10]? = some (rgO 10) by kernel_rfl).symm.trans hi)
  obtain ⟨va,hva,hFa⟩:=hF.fact 9 _ (show rgD[9]? = some (some 14) from rfl) (by kernel_rfl)
  have hea:=hva _ rfl
  have hFa' : va=c:=hFa
  subst hFa'
  exact st_val (v:=.func (.func 239) #[va] #[]) (by simp [execOp,show (rgO 10).op = .makeFunc (.func 239) #[.tmp 14] #[] by kernel_rfl,Instr.makeFunc,Act.eval,hea]) (hK _ _ rfl (Below.refl _ _))
 ·obtain rfl:rgO 12=o:=Option.some.inj ((show rgL[12]? = some (rgO 12) by kernel_rfl).symm.trans hi)
  exact st_val (v:=c) (ld1 (show (rgO 12).op = .load 210 (.tmp 1) by kernel_rfl) (by kernel_rfl) (h1 b hF.rest) (hc W hF.kept)) (hK _ _ rfl (Below.refl _ _))
 ·obtain rfl:rgO 13=o:=Option.some.inj ((show rgL[13]? = some (rgO 13) by kernel_rfl).symm.trans hi)
  obtain ⟨va,hva,hFa⟩:=hF.fact 12 _ (show rgD[12]? = some (some 16) from rfl) (by kernel_rfl)
  have hea:=hva _ rfl
  have hFa' : va=c:=hFa
  subst hFa'
  exact st_val (v:=.func (.func 240) #[va] #[]) (by simp [execOp,show (rgO 13).op = .makeFunc (.func 240) #[.tmp 16] #[] by kernel_rfl,Instr.makeFunc,Act.eval,hea]) (hK _ _ rfl (Below.refl _ _))
 ·obtain rfl:rgO 15=o:=Option.some.inj ((show rgL[15]? = some (rgO 15) by kernel_rfl).symm.trans hi)
  exact st_val (v:=V3) (by simp [execOp,show (rgO 15).op = .move (.tmp 3) by kernel_rfl,h3 b hF.rest]) (hK _ _ rfl (Below.refl _ _))
 ·obtain rfl:rgO 16=o:=Option.some.inj ((show rgL[16]? = some (rgO 16) by kernel_rfl).symm.trans hi)
  exact st_val (v:=c) (ld1 (show (rgO 16).op = .load 210 (.tmp 1) by kernel_rfl) (by kernel_rfl) (h1 b hF.rest) (hc W hF.kept)) (hK _ _ rfl (Below.refl _ _))
 ·obtain rfl:rgO 17=o:=Option.some.inj ((show rgL[17]? = some (rgO 17) by kernel_rfl).symm.trans hi)
  obtain ⟨va,hva,hFa⟩:=hF.fact 16 _ (show rgD[16]? = some (some 19) from rfl) (by kernel_rfl)
  have hea:=hva _ rfl
  have hFa' : va=c:=hFa
  subst hFa'
  exact st_val (v:=.func (.func 241) #[va] #[]) (by simp [execOp,show (rgO 17).op = .makeFunc (.func 241) #[.tmp 19] #[] by kernel_rfl,Instr.makeFunc,Act.eval,hea]) (hK _ _ rfl (Below.refl _ _))
 ·obtain rfl:rgO 18=o:=Option.some.inj ((show rgL[18]? = some (rgO 18) by kernel_rfl).symm.trans hi)
  obtain ⟨va,hva,hFa⟩:=hF.fact 15 _ (show rgD[15]? = some (some 18) from rfl) (by kernel_rfl)
  have hea:=hva _ rfl
  obtain ⟨vb,hvb,hFb⟩:=hF.fact 17 _ (show rgD[17]? = some (some 20) from rfl) (by kernel_rfl)
  have heb:=hvb _ rfl
  have hFa' : va=V3:=hFa
  have hFb' : vb = .func (.func 241) #[c] #[]:=hFb
  rw [hFa'] at hea
  rw [hFb'] at heb
  exact st_clo (g:=241) (k:=6) (show (rgO 18).op = .call { callee:=.value (.tmp 18),args:=#[.tmp 20,.const (.int .i64 6)],argTypes:=#[1,3] } by kernel_rfl) hea heb hV3 (hN ▸ hF.kept.size) (fun v W' h=>hK v W' h)
 ·obtain rfl:rgO 20=o:=Option.some.inj ((show rgL[20]? = some (rgO 20) by kernel_rfl).symm.trans hi)
  exact st_val (v:=V3) (by simp [execOp,show (rgO 20).op = .move (.tmp 3) by kernel_rfl,h3 b hF.rest]) (hK _ _ rfl (Below.refl _ _))
 ·obtain rfl:rgO 21=o:=Option.some.inj ((show rgL[21]? = some (rgO 21) by kernel_rfl).symm.trans hi)
  exact st_val (v:=c) (ld1 (show (rgO 21).op = .load 210 (.tmp 1) by kernel_rfl) (by kernel_rfl) (h1 b hF.rest) (hc W hF.kept)) (hK _ _ rfl (Below.refl _ _))
 ·obtain rfl:rgO 22=o:=Option.some.inj ((show rgL[22]? = some (rgO 22) by kernel_rfl).symm.trans hi)
  obtain ⟨va,hva,hFa⟩:=hF.fact 21 _ (show rgD[21]? = some (some 23) from rfl) (by kernel_rfl)
  have hea:=hva _ rfl
  have hFa' : va=c:=hFa
  subst hFa'
  exact st_val (v:=.func (.func 242) #[va] #[]) (by simp [execOp,show (rgO 22).op = .makeFunc (.func 242) #[.tmp 23] #[] by kernel_rfl,Instr.makeFunc,Act.eval,hea]) (hK _ _ rfl (Below.refl _ _))
 ·obtain rfl:rgO 23=o:=Option.some.inj ((show rgL[23]? = some (rgO 23) by kernel_rfl).symm.trans hi)
  obtain ⟨va,hva,hFa⟩:=hF.fact 20 _ (show rgD[20]? = some (some 22) from rfl) (by kernel_rfl)
  have hea:=hva _ rfl
  obtain ⟨vb,hvb,hFb⟩:=hF.fact 22 _ (show rgD[22]? = some (some 24) from rfl) (by kernel_rfl)
  have heb:=hvb _ rfl
  have hFa' : va=V3:=hFa
  have hFb' : vb = .func (.func 242) #[c] #[]:=hFb
  rw [hFa'] at hea
  rw [hFb'] at heb
  exact st_clo (g:=242) (k:=7) (show (rgO 23).op = .call { callee:=.value (.tmp 22),args:=#[.tmp 24,.const (.int .i64 7)],argTypes:=#[1,3] } by kernel_rfl) hea heb hV3 (hN ▸ hF.kept.size) (fun v W' h=>hK v W' h)
 ·obtain rfl:rgO 25=o:=Option.some.inj ((show rgL[25]? = some (rgO 25) by kernel_rfl).symm.trans hi)
  exact st_val (v:=V3) (by simp [execOp,show (rgO 25).op = .move (.tmp 3) by kernel_rfl,h3 b hF.rest]) (hK _ _ rfl (Below.refl _ _))
 ·obtain rfl:rgO 26=o:=Option.some.inj ((show rgL[26]? = some (rgO 26) by kernel_rfl).symm.trans hi)
  exact st_val (v:=c) (ld1 (show (rgO 26).op = .load 210 (.tmp 1) by kernel_rfl) (by kernel_rfl) (h1 b hF.rest) (hc W hF.kept)) (hK _ _ rfl (Below.refl _ _))
 ·obtain rfl:rgO 27=o:=Option.some.inj ((show rgL[27]? = some (rgO 27) by kernel_rfl).symm.trans hi)
  obtain ⟨va,hva,hFa⟩:=hF.fact 26 _ (show rgD[26]? = some (some 27) from rfl) (by kernel_rfl)
  have hea:=hva _ rfl
  have hFa' : va=c:=hFa
  subst hFa'
  exact st_val (v:=.func (.func 243) #[va] #[]) (by simp [execOp,show (rgO 27).op = .makeFunc (.func 243) #[.tmp 27] #[] by kernel_rfl,Instr.makeFunc,Act.eval,hea]) (hK _ _ rfl (Below.refl _ _))
 ·obtain rfl:rgO 28=o:=Option.some.inj ((show rgL[28]? = some (rgO 28) by kernel_rfl).symm.trans hi)
  obtain ⟨va,hva,hFa⟩:=hF.fact 25 _ (show rgD[25]? = some (some 26) from rfl) (by kernel_rfl)
  have hea:=hva _ rfl
  obtain ⟨vb,hvb,hFb⟩:=hF.fact 27 _ (show rgD[27]? = some (some 28) from rfl) (by kernel_rfl)
  have heb:=hvb _ rfl
  have hFa' : va=V3:=hFa
  have hFb' : vb = .func (.func 243) #[c] #[]:=hFb
  rw [hFa'] at hea
  rw [hFb'] at heb
  exact st_clo (g:=243) (k:=9) (show (rgO 28).op = .call { callee:=.value (.tmp 26),args:=#[.tmp 28,.const (.int .i64 9)],argTypes:=#[1,3] } by kernel_rfl) hea heb hV3 (hN ▸ hF.kept.size) (fun v W' h=>hK v W' h)
 ·obtain rfl:rgO 30=o:=Option.some.inj ((show rgL[30]? = some (rgO 30) by kernel_rfl).symm.trans hi)
  exact st_val (v:=c) (ld1 (show (rgO 30).op = .load 210 (.tmp 1) by kernel_rfl) (by kernel_rfl) (h1 b hF.rest) (hc W hF.kept)) (hK _ _ rfl (Below.refl _ _))
 ·obtain rfl:rgO 31=o:=Option.some.inj ((show rgL[31]? = some (rgO 31) by kernel_rfl).symm.trans hi)
  obtain ⟨va,hva,hFa⟩:=hF.fact 30 _ (show rgD[30]? = some (some 30) from rfl) (by kernel_rfl)
  have hea:=hva _ rfl
  have hFa' : va=c:=hFa
  subst hFa'
  exact st_val (v:=.func (.func 244) #[va] #[]) (by simp [execOp,show (rgO 31).op = .makeFunc (.func 244) #[.tmp 30] #[] by kernel_rfl,Instr.makeFunc,Act.eval,hea]) (hK _ _ rfl (Below.refl _ _))
 ·obtain rfl:rgO 33=o:=Option.some.inj ((show rgL[33]? = some (rgO 33) by kernel_rfl).symm.trans hi)
  exact st_val (v:=c) (ld1 (show (rgO 33).op = .load 210 (.tmp 1) by kernel_rfl) (by kernel_rfl) (h1 b hF.rest) (hc W hF.kept)) (hK _ _ rfl (Below.refl _ _))
 ·obtain rfl:rgO 34=o:=Option.some.inj ((show rgL[34]? = some (rgO 34) by kernel_rfl).symm.trans hi)
  obtain ⟨va,hva,hFa⟩:=hF.fact 33 _ (show rgD[33]? = some (some 32) from rfl) (by kernel_rfl)
  have hea:=hva _ rfl
  have hFa' : va=c:=hFa
  subst hFa'
  exact st_val (v:=.func (.func 245) #[va] #[]) (by simp [execOp,show (rgO 34).op = .makeFunc (.func 245) #[.tmp 32] #[] by kernel_rfl,Instr.makeFunc,Act.eval,hea]) (hK _ _ rfl (Below.refl _ _))
def rgAll:List Nat:=[4,7,8,9,10,11,12,13,14,15,16,17,18,19,20,21,22,23,24,25,26,27,28,29,30,31,32,33,34]
section
variable {ρ:PMap} {O:Nat→Prop} {W:World} {x:Nat}
theorem rp_met (g:Nat) {c v:Value} (hx:Rp ρ O W (pt x) c) (h:v = .func (.func g) #[c] #[]):Rp ρ O W (vMet x g) v :=
 rp_func.2 ⟨#[c],#[],h,⟨rfl,fun i y hy=>by
  match i,hy with
  | 0,hy=>simp at hy;subst hy;exact ⟨c,rfl,hx⟩
  | i+1,hy=>simp at hy⟩,rfl,fun i y hy=>by simp at hy⟩
theorem rp_clo {N g:Nat} {k:Int} {c v bp pb:Value} (hx:Rp ρ O W (pt x) c) (hp:Rp ρ O W pb bp) (hge:∀ g,N≤g→O g→∃ es ck,W.heap[g]? = some (.map es ck)) (h:CloR N bp c g k v W):Rp ρ O W (vClo x pb g k) v:=by
 obtain ⟨b1,b3,t1,t3,rfl,h1,h3,h4,h5⟩:=h
 have no:∀ (b:Nat) arr ty,N≤b→W.heap[b]? = some (.cells arr ty (0,0))→¬ O b:=fun b arr ty hb he hO=>by
  obtain ⟨es,ck,hm⟩:=hge b hb hO
  rw [he] at hm;cases hm
 have l1:b1<W.heap.size:=(Array.getElem?_eq_some_iff.1 h4).1
 have l3:b3<W.heap.size:=(Array.getElem?_eq_some_iff.1 h5).1
 refine rp_func.2 ⟨#[],#[.pointer (some ⟨b1,0,none⟩),bp,.pointer (some ⟨b3,0,none⟩)],rfl,⟨rfl,fun i y hy=>by simp at hy⟩,rfl,fun i y hy=>?_⟩
 match i,hy with
 | 0,hy =>
  simp at hy;subst hy
  refine ⟨_,rfl,rp_fz.2 ⟨b1,0,rfl,l1,no b1 _ _ h1 h4,fun j y hy=>?_⟩⟩
  match j,hy with
  | 0,hy=>simp at hy;subst hy;exact ⟨_,by simp [World.cell?,h4],rp_met g hx rfl⟩
  | j+1,hy=>simp at hy
 | 1,hy=>simp at hy;subst hy;exact ⟨bp,rfl,hp⟩
 | 2,hy =>
  simp at hy;subst hy
  refine ⟨_,rfl,rp_fz.2 ⟨b3,0,rfl,l3,no b3 _ _ h3 h5,fun j y hy=>?_⟩⟩
  match j,hy with
  | 0,hy=>simp at hy;subst hy;exact ⟨_,by simp [World.cell?,h5],rp_int.2 rfl⟩
  | j+1,hy=>simp at hy
 | i+3,hy=>simp at hy
end
theorem rgD_all (d:Nat) (h:some d∈rgD):d∈rgAll∧d<44:=by
 have:=List.all_eq_true.1 (show rgD.all (fun x=>match x with | some d=>rgAll.contains d&&Nat.blt d 44 | none=>true)=true by decide) _ h
 simpa [Nat.blt_eq] using this
theorem rg_inj:∀ r∈rgIns,∀ r' ∈ rgIns,r'.2.1=r.2.1→r' = r:=by decide
theorem reg_steps (x b:Nat):RegM Tryz.prog (regOf Tryz.prog 211 0) 44 [(1,pt b),(3,.func (.func 234) #[] #[pt b])] [(b,⟨true,false,1,1,[pt x]⟩)] rgAll 4 (els9 x (pt b)):=by
 intro ρ O a W Q hl hdf hsz hT hH hK
 obtain ⟨c1,ha1,hr1⟩:=hT (1,pt b) (by simp)
 obtain ⟨V3,ha3,hr3⟩:=hT (3,.func (.func 234) #[] #[pt b]) (by simp)
 obtain ⟨gb,kb,jb,hgb,hj,rfl⟩:=rp_ptr.1 hr1
 cases hj
 obtain ⟨us,ws,rfl,hus,hws⟩:=rp_func.1 hr3
 obtain ⟨bp,hbp0,hbp⟩:=hws.2 0 (pt b) rfl
 obtain ⟨gb2,kb2,jb2,hgb2,hj2,rfl⟩:=rp_ptr.1 hbp
 cases hj2
 have e2:some (gb,kb)=some (gb2,kb2):=hgb.symm.trans hgb2
 cases e2
 have hu0:us=#[]:=Array.eq_empty_of_size_eq_zero hus.1
 have hw0:ws=#[.pointer (some ⟨gb,0 * kb+0,none⟩)]:=by
  have hs:=hws.1
  apply Array.ext
  ·simpa using hs
  ·intro i h1 h2
   have:i=0:=by simp at h2;exact h2
   subst this
   rw [Array.getElem?_eq_getElem h1] at hbp0
   exact Option.some.inj hbp0
 subst hu0 hw0
 have ez:0 * kb+0=0:=by omega
 rw [ez] at ha1 ha3
 have hh:=hH (b,⟨true,false,1,1,[pt x]⟩) (by simp)
 obtain ⟨gb3,hgb3,hOb,hB⟩:=hh
 have e3:some (gb,kb)=some (gb3,1):=hgb.symm.trans hgb3
 cases e3
 obtain ⟨arr,ty,hheap,-,hel⟩:=(blk_cells rfl).1 hB
 obtain ⟨-,hcells⟩:=hel 0 (pt x) rfl
 obtain ⟨c,hc,hrc⟩:=hcells 0 (pt x) rfl
 have hc0:arr[0]? = some c:=hc
 have hrx:∀ (O' : Nat→Prop) (W' : World),Rp ρ O' W' (pt x) c:=fun O' W' => rp_ptr.2 (rp_ptr.1 hrc)
 have hrb:∀ (O' : Nat→Prop) (W' : World),Rp ρ O' W' (pt b) (.pointer (some ⟨gb,0,none⟩)):=fun O' W' => rp_ptr.2 ⟨gb,1,0,hgb,rfl,rfl⟩
 rw [rg_is]
 refine wp_region_mp (P:=Tryz.prog) (mty:=213) W.heap.size 36 rgD (FX (Rm W.heap.size) (rgF W.heap.size (.pointer (some ⟨gb,0,none⟩)) c (.func (.func 234) #[] #[.pointer (some ⟨gb,0,none⟩)]))) 7 rgIns rfl (kt:=3) (et:=1) (by kernel_rfl) (by kernel_rfl) mixed (by kernel_rfl) (by kernel_rfl) (by rw [show rgL.length=38 by kernel_rfl];decide) (by kernel_rfl) (by kernel_rfl)
  (fun d hd=>?_) (by kernel_rfl) (fun i _ _ _ h hk=>(((rgF W.heap.size (.pointer (some ⟨gb,0,none⟩)) c (.func (.func 234) #[] #[.pointer (some ⟨gb,0,none⟩)])).getD i (KX.tt _))).k h hk) ⟨rgO 0,by kernel_rfl,by kernel_rfl,by kernel_rfl⟩ (fun _ _=>trivial)
  (fun r hr=>let ⟨h1,h2,o,d,h3,h4,h5,h6,h7,h8,h9,h10⟩:=rg_ins r hr;⟨h1,h2,o,d,h3,h4,h5,h6,h7,h8,h9,h10 _ _ _ _⟩) (by decide) (by decide) (rg_steps rfl ha1 ha3 rfl ⟨arr,ty,hheap,hc0⟩) ?_ (by decide)
 ·rw [hsz]
  exact (rgD_all d hd).2
 ·intro b' W' mb m hF hM
  have hl36:rgL.drop 36=[rgO 36,rgO 37]:=by kernel_rfl
  rw [hl36]
  have hmt:b'.tmps[7]? = some (.map (some mb)):=hM.here
  have e1:(execOp b'.eval (rgO 36)).run Tryz.prog W' = .ok (.value (.map (some mb))) W' := by simp [execOp,show (rgO 36).op = .move (.tmp 7) by kernel_rfl,Act.eval,hmt]
  have hsz' : b'.tmps.size=44:=hF.size.trans hsz
  have e2:(execOp (b'.put (some 34) (.map (some mb))).eval (rgO 37)).run Tryz.prog W' = .ok (.value (.map (some mb))) W' := by simp [execOp,show (rgO 37).op = .assign (.tmp 34) by kernel_rfl,Act.eval,Act.put,hsz']
  simp only [wpList,Region.wanted,show (rgO 36).guard=none by kernel_rfl,show (rgO 37).guard=none by kernel_rfl,if_true]
  refine .inl (st_val e1 ?_)
  rw [show (rgO 36).dst=some 34 by kernel_rfl]
  refine .inl (st_val e2 ?_)
  rw [show (rgO 37).dst=some 4 by kernel_rfl]
  have hkept:=hF.kept.kept rfl
  have hge:∀ g,W.heap.size≤g→(O g∨g=mb)→∃ es ck,W'.heap[g]? = some (.map es ck):=fun g hg hO=>by
   rcases hO with hO | rfl
   ·have:=hl g hO;omega
   ·obtain ⟨es,ck,hm⟩:=hM.map;exact ⟨es,ck,hm.obj⟩
  refine hK _ W' mb (hF.defers.trans hdf) (by simp [Act.put,hsz']) (fun t ht=>?_) (by simp [Act.put,hsz']) hM.ge hkept ⟨m,⟨hM.map,hM.nodup⟩,fun d hd=>?_,fun el hel=>?_⟩
  ·have h34:t≠34:=fun e=>ht (by subst e;decide)
   have h4:t≠4:=fun e=>ht (by subst e;decide)
   have hD:some t∉rgD:=fun h=>ht (rgD_all t h).1
   rw [← hF.rest t hD]
   simp [Act.put,Array.getElem?_setIfInBounds,Ne.symm h34,Ne.symm h4]
  ·obtain ⟨r,hr,-,hk,-⟩:=hM.from_ d hd
   rw [hk]
   simp only [rgIns,List.mem_cons,List.not_mem_nil,or_false] at hr
   rcases hr with rfl | rfl | rfl | rfl | rfl | rfl | rfl | rfl | rfl
   all_goals exact ⟨_,by simp only [els9,vEn];simp only [List.mem_cons,Value.agg.injEq];simp;rfl⟩
  ·have row:∀ r∈rgIns,∃ v,(r.2.1,v)∈m∧FX (Rm W.heap.size) (rgF W.heap.size (.pointer (some ⟨gb,0,none⟩)) c (.func (.func 234) #[] #[.pointer (some ⟨gb,0,none⟩)])) r.2.2 v W' := fun r hr=>by
    obtain ⟨d,hd,hk⟩:=hM.all r hr rfl
    obtain ⟨r',hr',-,hk',hFd⟩:=hM.from_ d hd
    have:r' = r:=by
     have e:r'.2.1=r.2.1:=hk'.symm.trans hk
     exact rg_inj r hr r' hr' e
    subst this
    obtain ⟨i,v⟩:=d
    simp only at hk
    subst hk
    exact ⟨v,hd,hFd⟩
   have hx:=hrx (fun g=>O g∨g=mb) W'
   have hp:=hrb (fun g=>O g∨g=mb) W'
   simp only [els9,List.mem_cons,List.not_mem_nil,or_false] at hel
   rcases hel with rfl | rfl | rfl | rfl | rfl | rfl | rfl | rfl | rfl
   ·obtain ⟨v,hv,hFv⟩:=row (5,0,4) (by decide)
    exact ⟨0,_,v,rfl,hv,rp_clo (g:=237) (k:=1) hx hp hge hFv⟩
   ·obtain ⟨v,hv,hFv⟩:=row (8,1,7) (by decide)
    exact ⟨1,_,v,rfl,hv,rp_met 238 hx hFv⟩
   ·obtain ⟨v,hv,hFv⟩:=row (11,2,10) (by decide)
    exact ⟨2,_,v,rfl,hv,rp_met 239 hx hFv⟩
   ·obtain ⟨v,hv,hFv⟩:=row (14,3,13) (by decide)
    exact ⟨3,_,v,rfl,hv,rp_met 240 hx hFv⟩
   ·obtain ⟨v,hv,hFv⟩:=row (19,4,18) (by decide)
    exact ⟨4,_,v,rfl,hv,rp_clo (g:=241) (k:=6) hx hp hge hFv⟩
   ·obtain ⟨v,hv,hFv⟩:=row (24,5,23) (by decide)
    exact ⟨5,_,v,rfl,hv,rp_clo (g:=242) (k:=7) hx hp hge hFv⟩
   ·obtain ⟨v,hv,hFv⟩:=row (29,6,28) (by decide)
    exact ⟨6,_,v,rfl,hv,rp_clo (g:=243) (k:=9) hx hp hge hFv⟩
   ·obtain ⟨v,hv,hFv⟩:=row (32,7,31) (by decide)
    exact ⟨7,_,v,rfl,hv,rp_met 244 hx hFv⟩
   ·obtain ⟨v,hv,hFv⟩:=row (35,8,34) (by decide)
    exact ⟨8,_,v,rfl,hv,rp_met 245 hx hFv⟩
end
section
open Go.RowKit
section
variable {s:St} {i m o:Int}
theorem ve_many (h:decide (o<min m 1000)=false):LoopP Tryz.prog (loopOf Tryz.prog 195 0) (hdV s i m o s.th.length) (.exit 0) (hdV s i m o s.th.length):=loop_end mixed (fuel:=9) (n:=12) (im:=[0,1,2,3,4]) (keep:=[2,6,8,9,10]) (ext:=[19,181,58]) (orc:=[.bool false]) (an h trivial) (by intro e;cases e) (by kernel_rfl)
theorem ve_check (h:decide (o<min m 1000)=true) (hB:stB s=false) (ho:s.ok):LoopP Tryz.prog (loopOf Tryz.prog 195 0) (hdV s i m o s.th.length) (.exit 0) (hdV s i m o s.th.length):=loop_end mixed (fuel:=9) (n:=12) (im:=[0,1,2,3,4]) (keep:=[2,6,8,9,10]) (ext:=[19,181,58]) (orc:=[.bool true,vD false]) (an h<|an (len_map (f:=thT) s.th)<|an (ac_pcheck hB ho) trivial) (by intro e;cases e) (by kernel_rfl)
theorem ve_low (h:decide (o<min m 1000)=true) (hB:stB s=true) (ho:s.ok) (hi:decide (i<0)=true):LoopP Tryz.prog (loopOf Tryz.prog 195 0) (hdV s i m o s.th.length) (.exit 0) (hdV s i m o s.th.length):=loop_end mixed (fuel:=9) (n:=12) (im:=[0,1,2,3,4]) (keep:=[2,6,8,9,10]) (ext:=[19,181,58]) (orc:=[.bool true,vD true,.bool true]) (an h<|an (len_map (f:=thT) s.th)<|an (ac_pcheck hB ho)<|an hi trivial) (by intro e;cases e) (by kernel_rfl)
theorem ve_high (h:decide (o<min m 1000)=true) (hB:stB s=true) (ho:s.ok) (hi:decide (i<0)=false) (hj:decide ((s.th.length:Int)≤i)=true):LoopP Tryz.prog (loopOf Tryz.prog 195 0) (hdV s i m o s.th.length) (.exit 0) (hdV s i m o s.th.length):=loop_end mixed (fuel:=9) (n:=12) (im:=[0,1,2,3,4]) (keep:=[2,6,8,9,10]) (ext:=[19,181,58]) (orc:=[.bool true,vD true,.bool false,.bool true]) (an h<|an (len_map (f:=thT) s.th)<|an (ac_pcheck hB ho)<|an hi<|an hj trivial) (by intro e;cases e) (by kernel_rfl)
variable {n:Nat}
theorem ve_runs (h:decide (o<min m 1000)=true) (hB:stB s=true) (ho:s.ok) (hn:n<s.th.length) (hr:(thRuns (gth s.th n).st==0)=false):LoopP Tryz.prog (loopOf Tryz.prog 195 0) (hdV s n m o s.th.length) (.exit 0) (hdV s n m o s.th.length):=loop_end mixed (fuel:=9) (n:=12) (im:=[0,1,2,3,4]) (keep:=[2,6,8,9,10]) (ext:=[19,181,58]) (orc:=[.bool true,vD true,.bool false,.bool false,thT (gth s.th n),.int .i64 (thRuns (gth s.th n).st),.bool false])
 (an h<|an (len_map (f:=thT) s.th)<|an (ac_pcheck hB ho)<|an (show decide ((n:Int)<0)=false by simp)<|an (show decide ((s.th.length:Int)≤n)=false by simp;omega)<|an (idT hn)<|an (elT hn)<|an (ac_pruns (t:=gth s.th n) rfl)<|an hr trivial) (by intro e;cases e) (by kernel_rfl)
theorem ve_side (h:decide (o<min m 1000)=true) (hB:stB s=true) (ho:s.ok) (hn:n<s.th.length) (hr:thRuns (gth s.th n).st=0) (hs:(opSide (gth s.th n).ki==2)=false):LoopP Tryz.prog (loopOf Tryz.prog 195 0) (hdV s n m o s.th.length) (.exit 0) (hdV s n m o s.th.length):=loop_end mixed (fuel:=9) (n:=12) (im:=[0,1,2,3,4]) (keep:=[2,6,8,9,10]) (ext:=[19,181,58]) (orc:=[.bool true,vD true,.bool false,.bool false,thT (gth s.th n),.int .i64 0,.nilFunc,thT (gth s.th n),.int .i64 (opSide (gth s.th n).ki),.bool false])
 (an h<|an (len_map (f:=thT) s.th)<|an (ac_pcheck hB ho)<|an (show decide ((n:Int)<0)=false by simp)<|an (show decide ((s.th.length:Int)≤n)=false by simp;omega)<|an (idT hn)<|an (elT hn)<|an (ac_pruns (t:=gth s.th n) hr)<|an (idT hn)<|an (elT hn)<|an (ac_pside (gth s.th n).ki)<|an hs trivial) (by intro e;cases e) (by kernel_rfl)
theorem ve_not (ho:s.ok) (hr:runsB s i 2=false):LoopP Tryz.prog (loopOf Tryz.prog 195 0) (hdV s i m o s.th.length) (.exit 0) (hdV s i m o s.th.length):=by
 cases h:decide (o<min m 1000)
 ·exact ve_many h
 ·cases hB:stB s
  ·exact ve_check h hB ho
  ·by_cases h0:i<0
   ·exact ve_low h hB ho (by simp [h0])
   ·by_cases h1:(s.th.length:Int)≤i
    ·exact ve_high h hB ho (by simp;omega) (by simp [h1])
    ·obtain ⟨n,rfl⟩:∃ n:Nat,i=n:=⟨i.toNat,by omega⟩
     have hn:n<s.th.length:=by omega
     have hr' : ¬ ((gth s.th n).st=1∧opSide (gth s.th n).ki=2):=fun e=>by
      have:runsB s n 2=true:=runs_iff.2 ⟨has_of hB hn,by simpa using e⟩
      rw [hr] at this;cases this
     by_cases hs:thRuns (gth s.th n).st=0
     ·refine ve_side h hB ho hn hs (bne_of fun e=>hr' ⟨?_,e⟩)
      have h2:=runs_not hs
      have h3:=gth_ok hB hn
      generalize gth s.th n=t at h2 h3
      obtain ⟨st,ki,va,un,pc,re,se,tr,la,rs,go⟩:=t
      rw [thB_iff] at h3
      simp only at h2 ⊢
      omega
     ·exact ve_runs h hB ho hn (bne_of hs)
theorem vsteps_lp (k:Nat):∀ {s:St} {o:Int},Vk s→0≤o→(min m 1000 - o).toNat=k→s.lg.length+k≤900000→s.ok→LoopP Tryz.prog (loopOf Tryz.prog 195 0) (hdV s i m o s.th.length) (.exit 0) (hdV (recvK s i k).1 i m (o+(recvK s i k).2) (recvK s i k).1.th.length):=by
 induction k with
 | zero =>
  intro s o _ _ hk _ _
  simp only [recvK]
  rw [show o+((0:Nat):Int)=o by omega]
  exact ve_many (by simp;omega)
 | succ k ih =>
  intro s o hv h0 hk hl ho
  cases hr:runsB s i 2
  ·have:recvK s i (k+1)=(s,0):=by simp [recvK,hr]
   rw [this]
   show LoopP Tryz.prog (loopOf Tryz.prog 195 0) (hdV s i m o s.th.length) (.exit 0) (hdV s i m (o+((0:Nat):Int)) s.th.length)
   rw [show o+((0:Nat):Int)=o by omega]
   exact ve_not ho hr
  ·obtain ⟨h1,h2,h3⟩:=runs_iff.1 hr
   obtain ⟨hB,hi0,hi1⟩:=has_iff.1 h1
   obtain ⟨n,rfl⟩:∃ n:Nat,i=n:=⟨i.toNat,by omega⟩
   have hn:n<s.th.length:=by omega
   rw [Int.toNat_natCast] at h2 h3
   have hs1:(gth s.th n).st≠0:=by omega
   have e:recvK s n (k+1)=((recvK (recvN s n) n k).1,(recvK (recvN s n) n k).2+1):=by simp only [recvK,hr,if_true,recvS_is hr]
   rw [e]
   have hB' := recvN_stB hB hn hs1
   have hv' := recvN_vk hv hB hn hs1
   have hl' : (recvN s n).lg.length≤s.lg.length+1:=by rcases (recvN_lgOk (s:=s) (n:=n)).1 with h | ⟨x,h⟩ <;> rw [h] <;> simp
   refine step_lv (s:=s) (n:=n) ⟨by simp;omega,hB,ho,hn,h2,h3,by omega,by constructor <;> omega⟩ fun N hN=>?_
   have:=ih (s:=recvN s n) (o:=o+1) hv' (by omega) (by omega) (by omega) (ok_of hB' hv' (by omega))
   rw [hN]
   rw [show o+(((recvK (recvN s n) n k).2+1:Nat):Int)=o+1+((recvK (recvN s n) n k).2:Int) by omega]
   exact this
end
theorem ac_vsteps0 {s u:St} {i m o:Int} (hL:LoopP Tryz.prog (loopOf Tryz.prog 195 0) (hdV s i m 0 s.th.length) (.exit 0) (hdV u i m o u.th.length)) (ho:s.ok) (hf:s.fit) (ht:s.th≠[]):AC Tryz.prog 195 [stT s,.int .i64 i,.int .i64 m] (.tuple #[stT u,.int .i64 o]) :=
 ac_path mixed (ext:=[42]) (fuel:=9) (n:=9) (orc:=[.iface 1000004 (.func (.yield 18) #[.agg (stL s),.int .i64 11] #[]),oR [1,3] [6] rgAll 4 (els9 5 (pt 6)),.nilFunc,.nilFunc,.nilFunc,.nilFunc,
  oL [5,4,1,6,7] [2,6,8,9,10] 0 [(2,.int .i64 m),(6,pt 2),(8,pt 0),(9,.map (some 4)),(10,.int .i64 o)] [bX u i u.th.length,bT u.th u.th.length,bZ,bBx 0,bMp 0 (pt 3)]])
  (an (ao_keep (neg_no s) ho hf ht)<|an (reg_steps 5 6)<|an (show In64 (9+1) by constructor <;> decide)<|an (show In64 (9+1+1) by constructor <;> decide)<|an (show In64 (9+1+1+1) by constructor <;> decide)<|an hL<|an (len_map (f:=thT) u.th) trivial) (by kernel_rfl)
theorem ac_vsteps {s:St} {i m:Int} (ho:s.ok) (hf:s.fit) (ht:s.th≠[]) (hl:s.lg.length≤800000):AC Tryz.prog 195 [stT s,.int .i64 i,.int .i64 m] (.tuple #[stT (recvK s i (min m 1000).toNat).1,.int .i64 (recvK s i (min m 1000).toNat).2]):=by
 have h:=vsteps_lp (i:=i) (m:=m) (min m 1000 - 0).toNat (s:=s) (o:=0) (.of ho) (Int.le_refl _) rfl (by omega) ho
 rw [show min m 1000 - 0=min m 1000 by omega,Int.zero_add] at h
 exact ac_vsteps0 h ho hf ht
theorem ac_vsteps_nil {s:St} {i m:Int} (h:s.th=[]) (ho:s.ok) (hf:s.fit):AC Tryz.prog 195 [stT s,.int .i64 i,.int .i64 m] (.tuple #[stT s,.int .i64 0]):=by
 cases hm:decide ((0:Int)<min m 1000)
 ·exact ac_path mixed (ext:=[42,19]) (fuel:=9) (n:=9) (orc:=[stT s,oR [1,3] [5] rgAll 4 (els9 4 (pt 5)),.nilFunc,.nilFunc,.nilFunc,.nilFunc,.bool false])
   (an (ac_keep (neg_no s) ho hf)<|an (reg_steps 4 5)<|an (show In64 (9+1) by constructor <;> decide)<|an (show In64 (9+1+1) by constructor <;> decide)<|an (show In64 (9+1+1+1) by constructor <;> decide)<|an hm trivial) (by kernel_rfl)
 ·exact ac_path mixed (ext:=[42,19]) (fuel:=9) (n:=9) (orc:=[stT s,oR [1,3] [5] rgAll 4 (els9 4 (pt 5)),.nilFunc,.nilFunc,.nilFunc,.nilFunc,.bool true,vD false])
   (an (ac_keep (neg_no s) ho hf)<|an (reg_steps 4 5)<|an (show In64 (9+1) by constructor <;> decide)<|an (show In64 (9+1+1) by constructor <;> decide)<|an (show In64 (9+1+1+1) by constructor <;> decide)<|an hm<|an (ac_pcheck (nil_no h) ho) trivial) (by kernel_rfl)
theorem recvK_no {s:St} {i:Int} (h:stB s=false) (k:Nat):recvK s i k=(s,0):=by
 cases k with
 | zero=>rfl
 | succ k=>simp [recvK,runsB,hasB,h]
theorem recvK_1 (s:St) (i:Int):(recvK s i 1).1=recvS s i:=by
 cases h:runsB s i 2 <;> simp [recvK,h,recvS]
theorem ac_vst {s:St} {i m:Int} (ho:s.ok) (hf:s.fit) (hl:s.lg.length≤800000):AC Tryz.prog 195 [stT s,.int .i64 i,.int .i64 m] (.tuple #[stT (recvK s i (min m 1000).toNat).1,.int .i64 (recvK s i (min m 1000).toNat).2]):=by
 by_cases h:s.th=[]
 ·rw [recvK_no (nil_no h)];exact ac_vsteps_nil h ho hf
 ·exact ac_vsteps ho hf h hl
theorem ac_vstep {s:St} {i:Int} (ho:s.ok) (hf:s.fit) (hl:s.lg.length≤800000):AC Tryz.prog 183 [stT s,.int .i64 i] (stT (recvS s i)):=by
 rw [← recvK_1]
 exact ac_path mixed (ext:=[195]) (fuel:=9) (n:=3) (orc:=[.tuple #[stT (recvK s i 1).1,.int .i64 (recvK s i 1).2]]) (an (ac_vst (i:=i) (m:=1) ho hf hl) trivial) (by kernel_rfl)
end
section
open Go.RowKit
theorem app_more {α:Type} {f:α→Value} (l k:List α) (hm:l.length+k.length≤1000000):AppP (l++k).length ((l++k).map f) l.length (l.map f) k.length (k.map f):=⟨by simp,by simp,by omega⟩
def kOf {x k:Int} (_:x=k):Value:=.int .i64 k
def SideAt (s:St) (n:Nat) (a:St):Prop:=(opSide (gth s.th n).ki=1∧AC Tryz.prog 182 [stT (s.toLg []),.int .i64 n] (stT a))∨(opSide (gth s.th n).ki=2∧AC Tryz.prog 183 [stT (s.toLg []),.int .i64 n] (stT a))∨(opSide (gth s.th n).ki=3∧AC Tryz.prog 184 [stT (s.toLg []),.int .i64 n] (stT a))
section
variable {s a:St} {n:Nat} {l:List Int} {m o j i N:Int} {x:Exit} {S:Sg} {b:Bool}
end
end
section
open Go.RowKit
theorem ok_lg {s:St} (h:s.ok):(s.toLg []).ok:={ h with lg:=by show (0:Nat)≤maxLen;decide }
section
variable {s a:St} {n:Nat} {i:Int}
theorem pk_cfg_o (ho:s.ok) (hf:s.fit) (hl:s.lg≠[]) (hB:stB s=false):AC Tryz.prog 78 [stT s,.int .i64 i] (.tuple #[stT s,.int .i64 20]) :=
 ac_path mixed (ext:=pkX) (fuel:=9) (n:=6) (orc:=[.iface 1000004 (.func (.yield 19) #[.agg (stL s),.int .i64 5] #[]),vD false,.nilFunc]) (an (ao_keepL (neg_no s) ho hf hl)<|an (len_map (f:=enT) s.lg)<|an (ac_pcheck hB ho)<|an (len_map (f:=enT) s.lg) trivial) (by kernel_rfl)
theorem pk_low_o (ho:s.ok) (hf:s.fit) (hl:s.lg≠[]) (hB:stB s=true) (h0:decide (i<0)=true):AC Tryz.prog 78 [stT s,.int .i64 i] (.tuple #[stT s,.int .i64 123]) :=
 ac_path mixed (ext:=pkX) (fuel:=9) (n:=6) (orc:=[.iface 1000004 (.func (.yield 19) #[.agg (stL s),.int .i64 5] #[]),vD true,.bool true,.nilFunc]) (an (ao_keepL (neg_no s) ho hf hl)<|an (len_map (f:=enT) s.lg)<|an (ac_pcheck hB ho)<|an h0<|an (len_map (f:=enT) s.lg) trivial) (by kernel_rfl)
theorem pk_high_o (ho:s.ok) (hf:s.fit) (hl:s.lg≠[]) (hB:stB s=true) (h0:decide (i<0)=false) (h1:decide ((s.th.length:Int)≤i)=true):AC Tryz.prog 78 [stT s,.int .i64 i] (.tuple #[stT s,.int .i64 123]) :=
 ac_path mixed (ext:=pkX) (fuel:=9) (n:=6) (orc:=[.iface 1000004 (.func (.yield 19) #[.agg (stL s),.int .i64 5] #[]),vD true,.bool false,.bool true,.nilFunc]) (an (ao_keepL (neg_no s) ho hf hl)<|an (len_map (f:=enT) s.lg)<|an (ac_pcheck hB ho)<|an h0<|an h1<|an (len_map (f:=enT) s.lg) trivial) (by kernel_rfl)
theorem pk_runs_o (ho:s.ok) (hf:s.fit) (hl:s.lg≠[]) (hB:stB s=true) (hn:n<s.th.length) (rs:(thRuns (gth s.th n).st==0)=false):AC Tryz.prog 78 [stT s,.int .i64 n] (.tuple #[stT s,.int .i64 (thRuns (gth s.th n).st)]) :=
 ac_path mixed (ext:=pkX) (fuel:=9) (n:=6) (orc:=[.iface 1000004 (.func (.yield 19) #[.agg (stL s),.int .i64 5] #[]),vD true,.bool false,.bool false,thT (gth s.th n),.int .i64 (thRuns (gth s.th n).st),.bool false]) (an (ao_keepL (neg_no s) ho hf hl)<|an (len_map (f:=enT) s.lg)<|an (ac_pcheck hB ho)<|an (show decide ((n:Int)<0)=false by simp)<|an (show decide ((s.th.length:Int)≤n)=false by have:=hn;simp;omega)<|an (ixT hn)<|an (ac_pruns (t:=gth s.th n) rfl)<|an rs<|an (len_map (f:=enT) s.lg) trivial) (by kernel_rfl)
theorem pk_cfg_n (ho:s.ok) (hf:s.fit) (hl:s.lg=[]) (hB:stB s=false):AC Tryz.prog 78 [stT s,.int .i64 i] (.tuple #[stT (s.toLg []),.int .i64 20]) :=
 ac_path mixed (ext:=pkX) (fuel:=9) (n:=6) (orc:=[.agg (stN s),vD false,.nilFunc]) (an (ac_keepN (neg_no s) ho hf hl)<|an (ac_pcheck (s:=s.toLg []) hB (ok_lg ho))<|trivial) (by kernel_rfl)
theorem pk_low_n (ho:s.ok) (hf:s.fit) (hl:s.lg=[]) (hB:stB s=true) (h0:decide (i<0)=true):AC Tryz.prog 78 [stT s,.int .i64 i] (.tuple #[stT (s.toLg []),.int .i64 123]) :=
 ac_path mixed (ext:=pkX) (fuel:=9) (n:=6) (orc:=[.agg (stN s),vD true,.bool true,.nilFunc]) (an (ac_keepN (neg_no s) ho hf hl)<|an (ac_pcheck (s:=s.toLg []) hB (ok_lg ho))<|an h0<|trivial) (by kernel_rfl)
theorem pk_high_n (ho:s.ok) (hf:s.fit) (hl:s.lg=[]) (hB:stB s=true) (h0:decide (i<0)=false) (h1:decide ((s.th.length:Int)≤i)=true):AC Tryz.prog 78 [stT s,.int .i64 i] (.tuple #[stT (s.toLg []),.int .i64 123]) :=
 ac_path mixed (ext:=pkX) (fuel:=9) (n:=6) (orc:=[.agg (stN s),vD true,.bool false,.bool true,.nilFunc]) (an (ac_keepN (neg_no s) ho hf hl)<|an (ac_pcheck (s:=s.toLg []) hB (ok_lg ho))<|an h0<|an h1<|trivial) (by kernel_rfl)
theorem pk_runs_n (ho:s.ok) (hf:s.fit) (hl:s.lg=[]) (hB:stB s=true) (hn:n<s.th.length) (rs:(thRuns (gth s.th n).st==0)=false):AC Tryz.prog 78 [stT s,.int .i64 n] (.tuple #[stT (s.toLg []),.int .i64 (thRuns (gth s.th n).st)]) :=
 ac_path mixed (ext:=pkX) (fuel:=9) (n:=6) (orc:=[.agg (stN s),vD true,.bool false,.bool false,thT (gth s.th n),.int .i64 (thRuns (gth s.th n).st),.bool false]) (an (ac_keepN (neg_no s) ho hf hl)<|an (ac_pcheck (s:=s.toLg []) hB (ok_lg ho))<|an (show decide ((n:Int)<0)=false by simp)<|an (show decide ((s.th.length:Int)≤n)=false by have:=hn;simp;omega)<|an (ixT hn)<|an (ac_pruns (t:=gth s.th n) rfl)<|an rs<|trivial) (by kernel_rfl)
theorem pk_ok_o (ho:s.ok) (hf:s.fit) (hl:s.lg≠[]) (hB:stB s=true) (hn:n<s.th.length) (rs:thRuns (gth s.th n).st=0) (hs:SideAt s n a) (hm:s.lg.length+a.lg.length≤1000000):AC Tryz.prog 78 [stT s,.int .i64 n] (.tuple #[stT (a.toLg (s.lg++a.lg)),.int .i64 0]):=by
 rcases hs with ⟨sd,st⟩ | ⟨sd,st⟩ | ⟨sd,st⟩ <;> exact ac_path mixed (ext:=pkX) (fuel:=9) (n:=6) (orc:=[.iface 1000004 (.func (.yield 19) #[.agg (stL s),.int .i64 5] #[]),vD true,.bool false,.bool false,thT (gth s.th n),.int .i64 0,.nilFunc,thT (gth s.th n),kOf sd,stT a,rowE (s.lg++a.lg)]) (an (ao_keepL (neg_no s) ho hf hl)<|an (len_map (f:=enT) s.lg)<|an (ac_pcheck hB ho)<|an (show decide ((n:Int)<0)=false by simp)<|an (show decide ((s.th.length:Int)≤n)=false by have:=hn;simp;omega)<|an (ixT hn)<|an (ac_pruns (t:=gth s.th n) rs)<|an (ixT hn)<|an (sd ▸ ac_pside (gth s.th n).ki)<|an st<|an (allK_E a.lg)<|an (lenE s.lg)<|an (app_more (f:=enT) s.lg a.lg hm)<|an (len_map (f:=enT) (s.lg++a.lg)) trivial) (by kernel_rfl)
theorem pk_ok_f (ho:s.ok) (hf:s.fit) (hl:s.lg=[]) (hB:stB s=true) (hn:n<s.th.length) (rs:thRuns (gth s.th n).st=0) (hs:SideAt s n a) (ha:a.lg≠[]) (hm:a.lg.length≤1000000):AC Tryz.prog 78 [stT s,.int .i64 n] (.tuple #[stT a,.int .i64 0]):=by
 rcases hs with ⟨sd,st⟩ | ⟨sd,st⟩ | ⟨sd,st⟩ <;> exact ac_path mixed (ext:=pkX) (fuel:=9) (n:=6) (orc:=[.agg (stN s),vD true,.bool false,.bool false,thT (gth s.th n),.int .i64 0,.nilFunc,thT (gth s.th n),kOf sd,stT a,rowE a.lg]) (an (ac_keepN (neg_no s) ho hf hl)<|an (ac_pcheck (s:=s.toLg []) hB (ok_lg ho))<|an (show decide ((n:Int)<0)=false by simp)<|an (show decide ((s.th.length:Int)≤n)=false by have:=hn;simp;omega)<|an (ixT hn)<|an (ac_pruns (t:=gth s.th n) rs)<|an (ixT hn)<|an (sd ▸ ac_pside (gth s.th n).ki)<|an st<|an (allK_E a.lg)<|an (app_nil (f:=enT) ha hm)<|an (len_map (f:=enT) a.lg) trivial) (by kernel_rfl)
theorem pk_ok_n (ho:s.ok) (hf:s.fit) (hl:s.lg=[]) (hB:stB s=true) (hn:n<s.th.length) (rs:thRuns (gth s.th n).st=0) (hs:SideAt s n a) (ha:a.lg.length=0):AC Tryz.prog 78 [stT s,.int .i64 n] (.tuple #[stT (a.toLg []),.int .i64 0]):=by
 rcases hs with ⟨sd,st⟩ | ⟨sd,st⟩ | ⟨sd,st⟩ <;> exact ac_path mixed (ext:=pkX) (fuel:=9) (n:=6) (orc:=[.agg (stN s),vD true,.bool false,.bool false,thT (gth s.th n),.int .i64 0,.nilFunc,thT (gth s.th n),kOf sd,stT a,.slice none 0 0]) (an (ac_keepN (neg_no s) ho hf hl)<|an (ac_pcheck (s:=s.toLg []) hB (ok_lg ho))<|an (show decide ((n:Int)<0)=false by simp)<|an (show decide ((s.th.length:Int)≤n)=false by have:=hn;simp;omega)<|an (ixT hn)<|an (ac_pruns (t:=gth s.th n) rs)<|an (ixT hn)<|an (sd ▸ ac_pside (gth s.th n).ki)<|an st<|an (allK_E a.lg)<|an ha<|trivial) (by kernel_rfl)
end
end
section
open Go.RowKit
theorem lg_self {s:St} (h:s.lg=[]):s.toLg []=s:=by
 obtain ⟨cf,hd,tl,md,sl,sn,rc,fe,fl,ee,el,nw,th,lg⟩:=s
 cases h
 rfl
theorem fit_lg {s:St} (h:s.fit):(s.toLg []).fit:={ h with lg:=Nat.zero_le _ }
theorem in_side {s:St} {n:Nat} (hB:stB s=true) (hn:n<s.th.length) (rs:thRuns (gth s.th n).st=0):opSide (gth s.th n).ki=1∨opSide (gth s.th n).ki=2∨opSide (gth s.th n).ki=3:=by
 have h2:=runs_not rs
 have h3:=gth_ok hB hn
 have:=side_is (gth s.th n).ki
 generalize gth s.th n=t at h2 h3 this
 obtain ⟨st,ki,va,un,pc,re,se,tr,la,rs,go⟩:=t
 rw [thB_iff] at h3
 simp only at h2 this ⊢
 omega
theorem step_at {s:St} {n:Nat} (hB:stB s=true) (ho:s.ok) (hf:s.fit) (hn:n<s.th.length) (rs:thRuns (gth s.th n).st=0) :
  SideAt s n (stepD (s.toLg []) n):=by
 have o' := ok_lg ho
 have f' := fit_lg hf
 have l' : (s.toLg []).lg.length≤800000:=by show (0:Nat)≤_;omega
 rcases in_side hB hn rs with h | h | h
 ·refine .inl ⟨h,?_⟩
  have e:stepD (s.toLg []) n=sendS (s.toLg []) n:=by unfold stepD;exact if_pos h
  rw [e];exact ac_pstep o' f' l'
 ·refine .inr (.inl ⟨h,?_⟩)
  have e:stepD (s.toLg []) n=recvS (s.toLg []) n:=by
   unfold stepD
   rw [if_neg (show ¬ opSide (gth (s.toLg []).th ((n:Nat):Int).toNat).ki=1 from fun e=>by have e' : opSide (gth s.th n).ki=1:=e;omega)]
   exact if_pos h
  rw [e];exact ac_vstep o' f' l'
 ·refine .inr (.inr ⟨h,?_⟩)
  have e:stepD (s.toLg []) n=closeS (s.toLg []) n:=by
   unfold stepD
   rw [if_neg (show ¬ opSide (gth (s.toLg []).th ((n:Nat):Int).toNat).ki=1 from fun e=>by have e' : opSide (gth s.th n).ki=1:=e;omega)]
   exact if_neg fun e=>by have e' : opSide (gth s.th n).ki=2:=e;omega
  rw [e];exact ac_cstep o' f' l'
theorem step_tells {s:St} (hB:stB s=true) (ho:s.ok) (i:Int):(stepD (s.toLg []) i).lg.length≤1:=by
 have:=(stepD_wk (wk_lg (N:=s.lg.length) ⟨hB,.of ho,Nat.le_refl _⟩) (by omega) i).l
 omega
theorem stepS_own {s:St} {i:Int}:stepS s i=(stepD (s.toLg []) i).toLg (s.lg++(stepD (s.toLg []) i).lg):=rfl
theorem stepS_fst {s:St} {i:Int} (h:s.lg=[]):stepS s i=stepD (s.toLg []) i:=by
 unfold stepS;rw [h];rfl
theorem pickE_cfg {s:St} (h:stB s=false) (i:Int):pickE s i=20:=if_pos h
theorem pickE_out {s:St} (h:stB s=true) {i:Int} (hi:i<0∨(s.th.length:Int)≤i):pickE s i=123:=by
 unfold pickE;rw [if_neg (by simp [h]),if_pos hi]
theorem pickE_in {s:St} (h:stB s=true) {n:Nat} (hn:n<s.th.length):pickE s n=thRuns (gth s.th n).st:=by
 unfold pickE;rw [if_neg (by simp [h]),if_neg (by omega)];rfl
theorem pickS_not {s:St} {i e:Int} (h:pickE s i=e) (he:e≠0):pickS s i=s:=pick_no (by rw [h];exact he)
theorem ac_pick {s:St} {i:Int} (ho:s.ok) (hf:s.fit) (hm:s.lg.length≤900000):AC Tryz.prog 78 [stT s,.int .i64 i] (.tuple #[stT (pickS s i),.int .i64 (pickE s i)]):=by
 cases hB:stB s
 ·rw [pickS_not (pickE_cfg hB i) (by decide),pickE_cfg hB i]
  by_cases hl:s.lg=[]
  ·have:=pk_cfg_n (i:=i) ho hf hl hB
   rwa [lg_self hl] at this
  ·exact pk_cfg_o ho hf hl hB
 ·by_cases h0:i<0
  ·rw [pickS_not (pickE_out hB (.inl h0)) (by decide),pickE_out hB (.inl h0)]
   by_cases hl:s.lg=[]
   ·have:=pk_low_n (i:=i) ho hf hl hB (by simp [h0])
    rwa [lg_self hl] at this
   ·exact pk_low_o ho hf hl hB (by simp [h0])
  ·by_cases h1:(s.th.length:Int)≤i
   ·rw [pickS_not (pickE_out hB (.inr h1)) (by decide),pickE_out hB (.inr h1)]
    by_cases hl:s.lg=[]
    ·have:=pk_high_n (i:=i) ho hf hl hB (by simp;omega) (by simp [h1])
     rwa [lg_self hl] at this
    ·exact pk_high_o ho hf hl hB (by simp;omega) (by simp [h1])
   ·obtain ⟨n,rfl⟩:∃ n:Nat,i=n:=⟨i.toNat,by omega⟩
    have hn:n<s.th.length:=by omega
    have he:=pickE_in hB hn
    by_cases rs:thRuns (gth s.th n).st=0
    ·have he0:pickE s n=0:=he.trans rs
     have ht:=step_tells hB ho n
     rw [pick_yes he0,he0]
     by_cases hl:s.lg=[]
     ·rw [stepS_fst hl]
      by_cases ha:(stepD (s.toLg []) n).lg=[]
      ·have ha' : (stepD (s.toLg []) n).lg.length=0:=by rw [ha];rfl
       have e:=lg_self ha
       have:=pk_ok_n ho hf hl hB hn rs (step_at hB ho hf hn rs) ha';rwa [e] at this
      ·exact pk_ok_f ho hf hl hB hn rs (step_at hB ho hf hn rs) ha (by omega)
     ·rw [stepS_own]
      exact pk_ok_o ho hf hl hB hn rs (step_at hB ho hf hn rs) (by omega)
    ·rw [pickS_not he rs,he]
     by_cases hl:s.lg=[]
     ·have:=pk_runs_n ho hf hl hB hn (bne_of rs)
      rwa [lg_self hl] at this
     ·exact pk_runs_o ho hf hl hB hn (bne_of rs)
def hP (s:St) (b:Bool):List (Option Blk):=match s.lg with
 | []=>hN s b
 | _=>hO s b
section
variable {s:St} {l:List Int} {o m N:Int} {x:Exit} {S:Sg}
end
end
section
open Go.ChangeShapes Go.WideShapes Go.ChangeAt Go.RowKit
def knB (k:Int):Bool:=opB k||(k==10||k==11)
def upB (m n:Int):Bool:=decide (0≤n)&&decide (n≤m)
def bareC (x:Ca):Ca:=if x.ki=11 then ⟨x.ki,0,x.va,0⟩ else if x.ki=10 then ⟨x.ki,x.th,0,0⟩ else ⟨x.ki,x.th,if opSide x.ki=1 then x.va else 0,if opTimed x.ki=true then x.un else 0⟩
instance caEq:DecidableEq Ca:=fun a b=>decidable_of_iff (a.ki=b.ki∧a.th=b.th∧a.va=b.va∧a.un=b.un) (by cases a;cases b;simp)
theorem knB_iff {k:Int}:knB k=true↔(1≤k∧k≤8)∨k=10∨k=11:=by simp [knB,opB]
theorem upB_iff {m n:Int}:upB m n=true↔0≤n∧n≤m:=by simp [upB]
theorem bare_iff {x:Ca} (hk:knB x.ki=true):x=bareC x↔(x.ki=11→x.th=0∧x.un=0)∧(x.ki=10→x.va=0∧x.un=0)∧(4≤x.ki∧x.ki≤8→x.va=0)∧(x.ki≠3→x.ki≠6→x.ki≤8→x.un=0):=by
 obtain ⟨k,t,v,u⟩:=x
 have hk:=knB_iff.1 hk
 simp only at hk
 have h:k=1∨k=2∨k=3∨k=4∨k=5∨k=6∨k=7∨k=8∨k=10∨k=11:=by omega
 rcases h with rfl | rfl | rfl | rfl | rfl | rfl | rfl | rfl | rfl | rfl <;> simp [bareC,opSide,opTimed]
theorem ca_code (x:Ca):caE x=if knB x.ki=false then 190 else if (!decide (x=bareC x))=true then 190 else if upB 15 x.th=false then 190 else if upB 1099511627776 x.un=false then 50 else if x.ki=11∧upB 1099511627776 x.va=false then 50 else 0:=by
 cases hk:knB x.ki
 ·have:=mt knB_iff.2 (by rw [hk];decide)
  simp only [if_pos]
  unfold caE
  rw [if_pos (by omega)]
 ·have h1:=knB_iff.1 hk
  simp only [Bool.true_eq_false,if_false]
  cases hb:decide (x=bareC x)
  ·have h2:=mt (bare_iff hk).2 (by simpa using hb)
   simp only [Bool.not_false,if_pos]
   unfold caE
   split
   ·rfl
   ·split
    ·rfl
    ·rw [if_pos (by omega)]
  ·have h2:=(bare_iff hk).1 (by simpa using hb)
   simp only [Bool.not_true,Bool.false_eq_true,if_false]
   cases ht:upB 15 x.th
   ·have:=mt upB_iff.2 (by rw [ht];decide)
    simp only [if_pos]
    unfold caE
    rw [if_pos (by omega)]
   ·have h3:=upB_iff.1 ht
    simp only [Bool.true_eq_false,if_false]
    unfold caE
    rw [if_neg (by omega),if_neg (by omega),if_neg (by omega)]
    cases hu:upB 1099511627776 x.un
    ·have:=mt upB_iff.2 (by rw [hu];decide)
     simp only [if_pos]
     rw [if_pos (by omega)]
    ·have h4:=upB_iff.1 hu
     simp only [Bool.true_eq_false,if_false]
     cases hv:upB 1099511627776 x.va
     ·have:=mt upB_iff.2 (by rw [hv];decide)
      simp only [and_true]
      by_cases e:x.ki=11
      ·rw [if_pos e,if_pos (by omega)]
      ·rw [if_neg e,if_neg (by omega)]
     ·have h5:=upB_iff.1 hv
      simp only [Bool.true_eq_false,and_false,if_false]
      rw [if_neg (by omega)]
theorem caq_equal (a b:Ca) (w:World):(Op.equal 35 (caT a) (caT b)).run Tryz.prog w = .ok (decide (a=b)) w:=by
 have hu:=Tryz.underlying35
 have h3:=Tryz.underlying3
 have hp:Tryz.prog.stoodInHeld 35=false:=by kernel_rfl
 have e:decide (a=b)=(a.ki==b.ki&&(a.th==b.th&&(a.va==b.va&&a.un==b.un))):=by
  rw [Bool.eq_iff_iff];cases a;cases b;simp
 rw [e]
 unfold caT Op.equal Op.maxDepth
 rw [run_equalIn_struct w 9999 _ _ _ (by unfold Program.fieldsOf;rw [hu]) hp]
 unfold Program.fieldsOf
 rw [hu]
 cases c0:(a.ki==b.ki)
 ·simp [Op.eqFields,part,isAgg,run_underlying h3,run_equalIn_int _ _ _ _ _ _ _ h3,c0]
 cases c1:(a.th==b.th)
 ·simp [Op.eqFields,part,isAgg,run_underlying h3,run_equalIn_int _ _ _ _ _ _ _ h3,c0,c1]
 cases c2:(a.va==b.va)
 ·simp [Op.eqFields,part,isAgg,run_underlying h3,run_equalIn_int _ _ _ _ _ _ _ h3,c0,c1,c2]
 cases c3:(a.un==b.un)
 ·simp [Op.eqFields,part,isAgg,run_underlying h3,run_equalIn_int _ _ _ _ _ _ _ h3,c0,c1,c2,c3]
 simp [Op.eqFields,part,isAgg,run_underlying h3,run_equalIn_int _ _ _ _ _ _ _ h3,c0,c1,c2,c3]
theorem ask_cneq (x y:Ca) {r:Bool} (h:(!decide (x=y))=r) (a b:Operand):AskP Tryz.prog (.binOp .neq 35 a b 35) [caT x,caT y] (.bool r) :=
 ask_bin (fun a b W=>(guard_agg (by kernel_rfl) a b _ _ W).1) (fun W=>by
  have h' := caq_equal x y W
  have hu:=Tryz.underlying35
  unfold caT at h'
  simp [binOp,h',run_underlying hu,Result.andThen,← h]) a b
theorem ac_cknown {k:Int} {b:Bool} (hb:knB k=b):AC Tryz.prog 28 [.int .i64 k] (.bool b):=by
 rw [← hb];unfold knB
 cases h1:opB k
 ·cases h2:k==10
  ·exact ac_path mixed (ext:=[57,58,59]) (fuel:=9) (n:=6) (orc:=[vD false,.bool false]) (an (ac_ocheck h1)<|an h2 trivial) (by kernel_rfl)
  ·exact ac_path mixed (ext:=[57,58,59]) (fuel:=9) (n:=6) (orc:=[vD false,.bool true]) (an (ac_ocheck h1)<|an h2 trivial) (by kernel_rfl)
 ·exact ac_path mixed (ext:=[57,58,59]) (fuel:=9) (n:=6) (orc:=[vD true]) (an (ac_ocheck h1) trivial) (by kernel_rfl)
theorem ac_cupto {m n:Int} {b:Bool} (hb:upB m n=b):AC Tryz.prog 30 [.int .i64 m,.int .i64 n] (.bool b):=by
 rw [← hb];unfold upB
 cases h1:decide (0≤n)
 ·exact ac_path mixed (ext:=[57,58,59]) (fuel:=9) (n:=6) (orc:=[.bool false]) (an h1 trivial) (by kernel_rfl)
 ·exact ac_path mixed (ext:=[57,58,59]) (fuel:=9) (n:=6) (orc:=[.bool true]) (an h1 trivial) (by kernel_rfl)
theorem ac_cbare (x:Ca):AC Tryz.prog 29 [caT x] (caT (bareC x)):=by
 unfold bareC
 cases h1:x.ki==11
 ·rw [if_neg (by simpa using h1)]
  cases h2:x.ki==10
  ·rw [if_neg (by simpa using h2)]
   cases h3:opSide x.ki != 1
   ·rw [if_pos (by simpa using h3)]
    cases h4:opTimed x.ki
    ·exact ac_path mixed (ext:=[57,58,59]) (fuel:=9) (n:=6) (orc:=[.bool false,.bool false,.int .i64 (opSide x.ki),.bool false,vD false]) (an h1<|an h2<|an (ac_pside x.ki)<|an h3<|an (ac_otimed h4) trivial) (by kernel_rfl)
    ·exact ac_path mixed (ext:=[57,58,59]) (fuel:=9) (n:=6) (orc:=[.bool false,.bool false,.int .i64 (opSide x.ki),.bool false,vD true]) (an h1<|an h2<|an (ac_pside x.ki)<|an h3<|an (ac_otimed h4) trivial) (by kernel_rfl)
   ·rw [if_neg (by simpa using h3)]
    cases h4:opTimed x.ki
    ·exact ac_path mixed (ext:=[57,58,59]) (fuel:=9) (n:=6) (orc:=[.bool false,.bool false,.int .i64 (opSide x.ki),.bool true,vD false]) (an h1<|an h2<|an (ac_pside x.ki)<|an h3<|an (ac_otimed h4) trivial) (by kernel_rfl)
    ·exact ac_path mixed (ext:=[57,58,59]) (fuel:=9) (n:=6) (orc:=[.bool false,.bool false,.int .i64 (opSide x.ki),.bool true,vD true]) (an h1<|an h2<|an (ac_pside x.ki)<|an h3<|an (ac_otimed h4) trivial) (by kernel_rfl)
  ·rw [if_pos (by simpa using h2)]
   exact ac_path mixed (ext:=[57,58,59]) (fuel:=9) (n:=6) (orc:=[.bool false,.bool true]) (an h1<|an h2 trivial) (by kernel_rfl)
 ·rw [if_pos (by simpa using h1)]
  exact ac_path mixed (ext:=[57,58,59]) (fuel:=9) (n:=6) (orc:=[.bool true]) (an h1 trivial) (by kernel_rfl)
theorem ac_pcae (x:Ca):AC Tryz.prog 14 [caT x] (.int .i64 (caE x)):=by
 rw [ca_code]
 cases h1:knB x.ki
 ·exact ac_path mixed (ext:=[28,29,30]) (fuel:=9) (n:=6) (orc:=[vD false]) (an (ac_cknown h1) trivial) (by kernel_rfl)
 cases h2 : !decide (x=bareC x)
 ·cases h3:upB 15 x.th
  ·exact ac_path mixed (ext:=[28,29,30]) (fuel:=9) (n:=6) (orc:=[vD true,caT (bareC x),.bool false,.nilFunc,vD false]) (an (ac_cknown h1)<|an (ac_cbare x)<|an (ask_cneq x (bareC x) h2 (.tmp 9) (.tmp 11))<|an (ac_cupto h3) trivial) (by kernel_rfl)
  cases h4:upB 1099511627776 x.un
  ·exact ac_path mixed (ext:=[28,29,30]) (fuel:=9) (n:=6) (orc:=[vD true,caT (bareC x),.bool false,.nilFunc,vD true,vD false]) (an (ac_cknown h1)<|an (ac_cbare x)<|an (ask_cneq x (bareC x) h2 (.tmp 9) (.tmp 11))<|an (ac_cupto h3)<|an (ac_cupto h4) trivial) (by kernel_rfl)
  cases h5:x.ki==11
  ·rw [if_neg (c:=x.ki=11∧_) (by simp at h5;simp [h5])]
   exact ac_path mixed (ext:=[28,29,30]) (fuel:=9) (n:=6) (orc:=[vD true,caT (bareC x),.bool false,.nilFunc,vD true,vD true,.bool false]) (an (ac_cknown h1)<|an (ac_cbare x)<|an (ask_cneq x (bareC x) h2 (.tmp 9) (.tmp 11))<|an (ac_cupto h3)<|an (ac_cupto h4)<|an h5 trivial) (by kernel_rfl)
  cases h6:upB 1099511627776 x.va
  ·rw [if_pos (c:=x.ki=11∧_) (by simpa using h5)]
   exact ac_path mixed (ext:=[28,29,30]) (fuel:=9) (n:=6) (orc:=[vD true,caT (bareC x),.bool false,.nilFunc,vD true,vD true,.bool true,vD false]) (an (ac_cknown h1)<|an (ac_cbare x)<|an (ask_cneq x (bareC x) h2 (.tmp 9) (.tmp 11))<|an (ac_cupto h3)<|an (ac_cupto h4)<|an h5<|an (ac_cupto h6) trivial) (by kernel_rfl)
  ·rw [if_neg (c:=x.ki=11∧_) (by simp)]
   exact ac_path mixed (ext:=[28,29,30]) (fuel:=9) (n:=6) (orc:=[vD true,caT (bareC x),.bool false,.nilFunc,vD true,vD true,.bool true,vD true]) (an (ac_cknown h1)<|an (ac_cbare x)<|an (ask_cneq x (bareC x) h2 (.tmp 9) (.tmp 11))<|an (ac_cupto h3)<|an (ac_cupto h4)<|an h5<|an (ac_cupto h6) trivial) (by kernel_rfl)
 ·exact ac_path mixed (ext:=[28,29,30]) (fuel:=9) (n:=6) (orc:=[vD true,caT (bareC x),.bool true,.nilFunc]) (an (ac_cknown h1)<|an (ac_cbare x)<|an (ask_cneq x (bareC x) h2 (.tmp 9) (.tmp 11)) trivial) (by kernel_rfl)
theorem ac_cdec (l:List Int):AC Tryz.prog 10 [rowI l] (.tuple #[caT (deC l),.int .i64 (deE l)]):=by by_cases h:l.length=4;(match l,h with | [a,b,c,d],_=>(obtain ⟨i0,i1,i2,i3⟩:=ixC4 a b c d;have hc:=ac_pcae ⟨a,b,c,d⟩;rw [(de_code a b c d).1,(de_code a b c d).2];by_cases he:caE ⟨a,b,c,d⟩=0;(rw [he] at hc ⊢;exact ac_path mixed (ext:=[14]) (fuel:=9) (n:=3) (orc:=[.nilFunc,.int .i64 a,.int .i64 b,.int .i64 c,.int .i64 d,.int .i64 0,.nilFunc]) (an i0<|an i1<|an i2<|an i3<|an hc trivial) (by kernel_rfl));(rw [if_neg he];exact ac_path mixed (ext:=[14]) (fuel:=9) (n:=3) (orc:=[.nilFunc,.int .i64 a,.int .i64 b,.int .i64 c,.int .i64 d,.int .i64 (caE ⟨a,b,c,d⟩),.bool true]) (an i0<|an i1<|an i2<|an i3<|an hc<|an (show (caE ⟨a,b,c,d⟩ != 0)=true by simpa using he) trivial) (by kernel_rfl))));(have e:deE l=190:=if_neg h;rw [e,de_no (by rw [e];decide)];exact ac_path mixed (ext:=[14]) (fuel:=9) (n:=3) (orc:=[.bool true]) (an (show ((l.length:Int) != 4)=true by simp;omega) trivial) (by kernel_rfl))
theorem ac_cenc (x:Ca):AC Tryz.prog 18 [caT x] (rowI x.nums) :=
 ac_path mixed (ext:=[]) (fuel:=9) (n:=3) (orc:=[]) (an (⟨rfl,rfl⟩:LenP 4 4 (x.nums.map (Value.int .i64 ·))) trivial) (by kernel_rfl)
theorem ac_cdo {s r:St} {x:Ca} {E:Int} (h:caDo s x E r) (hk:TkK s):AC Tryz.prog 12 [stT s,caT x] (.tuple #[stT r,.int .i64 E]):=by
 have hc:=ac_pcae x
 have hf:=hk.fit
 have hl:=hk.few.lg
 rcases h with ⟨he,rfl,rfl⟩ | ⟨he,hi,rfl,rfl⟩ | ⟨he,hi,rfl,rfl⟩ | ⟨he,h1,h2,h⟩
 ·exact ac_path mixed (ext:=[14,78,79,77,42]) (fuel:=9) (n:=6) (orc:=[.int .i64 (caE x),.bool true,stT r]) (an hc<|an (show (caE x != 0)=true by simpa using he)<|an (ac_keep (no_one r) hk.ok hf) trivial) (by kernel_rfl)
 ·rw [he] at hc
  obtain ⟨ki,th,va,un⟩:=x
  obtain rfl:ki=10:=hi
  exact ac_path mixed (ext:=[14,78,79,77,42]) (fuel:=9) (n:=6) (orc:=[.int .i64 0,.nilFunc,.tuple #[stT (pickS s th),.int .i64 (pickE s th)]]) (an hc<|an (ac_pick (i:=th) hk.ok hf (by omega)) trivial) (by kernel_rfl)
 ·rw [he] at hc
  have hv:In64 x.va:=by have:=ca_iff.1 he;constructor <;> omega
  obtain ⟨ki,th,va,un⟩:=x
  obtain rfl:ki=11:=hi
  exact ac_path mixed (ext:=[14,78,79,77,42]) (fuel:=9) (n:=6) (orc:=[.int .i64 0,.nilFunc,.tuple #[stT (tickS s va),rowI (tickI s va),.int .i64 (tickE s va)]]) (an hc<|an (ac_ptick (n:=va) hk hv) trivial) (by kernel_rfl)
 ·have hb:=ca_bd he
  have hi:=ca_iff.1 he
  rw [he] at hc
  have h:=beg_wrap h ⟨hb.2.2.2.2.1,hb.2.2.2.2.2⟩
  obtain ⟨ki,th,va,un⟩:=x
  simp only at h1 h2 hi
  have hk8:ki=1∨ki=2∨ki=3∨ki=4∨ki=5∨ki=6∨ki=7∨ki=8:=by omega
  clear h1 h2 hi hb he
  rcases hk8 with rfl | rfl | rfl | rfl | rfl | rfl | rfl | rfl
  all_goals exact ac_path mixed (ext:=[14,78,79,77,42]) (fuel:=9) (n:=6) (orc:=[.int .i64 0,.nilFunc,.iface 1000014 (.int .i64 (IntKind.i64.wrap (s.nw+un))),.tuple #[stT r,.int .i64 E]]) (an hc<|an (ask_add (t:=3) s.nw un (.tmp 14) (.tmp 16))<|an (ac_pinvoke h hk.ok hf) trivial) (by kernel_rfl)
end
section
open Go.ChangeShapes Go.WideShapes Go.ChangeAt Go.RowKit
set_option maxHeartbeats 1000000 in
theorem sl_equal (a b:Slo) (w:World):(Op.equal 76 (.agg #[.int .i64 a.st,.int .i64 a.vl]) (.agg #[.int .i64 b.st,.int .i64 b.vl])).run Tryz.prog w = .ok (decide (a=b)) w:=by
 have hu:=Tryz.underlying76
 have h3:=Tryz.underlying3
 have h4:=Tryz.underlying4
 have hp:Tryz.prog.stoodInHeld 76=false:=by kernel_rfl
 have hc:Tryz.prog.info? 3=_:=rfl
 have hd:Tryz.prog.info? 4=_:=rfl
 have e:decide (a=b)=(a.st==b.st&&(a.vl==b.vl)):=by
  rw [Bool.eq_iff_iff];cases a;cases b;simp [and_assoc]
 rw [e]
 unfold Op.equal Op.maxDepth
 rw [run_equalIn_struct w 9999 _ _ _ (by unfold Program.fieldsOf;rw [hu]) hp]
 unfold Program.fieldsOf
 rw [hu]
 cases c0:(a.st==b.st)
 ·simp [Op.eqFields,part,isAgg,run_underlying h3,run_underlying h4,run_equalIn_int _ _ _ _ _ _ _ h3,run_equalIn_bool _ _ _ _ _ h4,c0]
 cases c1:(a.vl==b.vl)
 ·simp [Op.eqFields,part,isAgg,run_underlying h3,run_underlying h4,run_equalIn_int _ _ _ _ _ _ _ h3,run_equalIn_bool _ _ _ _ _ h4,c0,c1]
 simp [Op.eqFields,part,isAgg,run_underlying h3,run_underlying h4,run_equalIn_int _ _ _ _ _ _ _ h3,run_equalIn_bool _ _ _ _ _ h4,c0,c1]
theorem sl_neq (a b:Slo) (w:World):(binOp .neq 76 (.agg #[.int .i64 a.st,.int .i64 a.vl]) (.agg #[.int .i64 b.st,.int .i64 b.vl])).run Tryz.prog w = .ok (.bool (!decide (a=b))) w:=by
 have h:=sl_equal a b w
 have hu:=Tryz.underlying76
 simp [binOp,h,run_underlying hu,Result.andThen]
end
section
open Go.RowKit
def gI (l:List Int) (i:Nat):Int:=l.getD i 0
theorem gI_eq {l:List Int} {i:Nat} (h:i<l.length):gI l i=l[i]:=by simp [gI,h]
theorem ixI' {l:List Int} {i:Nat} (h:i<l.length):IxP ((l.map (Value.int .i64 ·)).toArray) (i:Int) (.int .i64 (gI l i)):=⟨by omega,by simp [gI_eq h,h]⟩
theorem ixS {l:List Slo} {i:Nat} (h:i<l.length):IxP ((l.map slT).toArray) (i:Int) (slT (gs l i)):=⟨by omega,by simp [gs_eq h,h]⟩
def hdI2 (a b:List Int) (i:Int):Sg:=⟨mkT 26 [(0,rowI a),(1,rowI b),(5,.int .i64 i)],[]⟩
def hdN2:Sg:=⟨mkT 26 [(4,vD false)],[]⟩
section
variable {a b:List Int}
theorem in_yes (hl:a.length=b.length) (hm:a.length≤1000000):∀ (k i:Nat),a.length - i=k→i≤a.length→a.drop i=b.drop i→LoopP Tryz.prog (loopOf Tryz.prog 39 0) (hdI2 a b i) (.exit 0) (hdI2 a b a.length)
 | 0,i,hk,hi,_=>by
  have:i=a.length:=by omega
  subst this
  exact loop_end mixed (fuel:=9) (n:=3) (im:=[]) (keep:=[0,1,5]) (ext:=[]) (orc:=[.bool false]) (an (show decide ((a.length:Int)<a.length)=false by simp) trivial) (by intro e;cases e) (by kernel_rfl)
 | k+1,i,hk,hi,he=>by
  have ha:i<a.length:=by omega
  have hb:i<b.length:=by omega
  rw [List.drop_eq_getElem_cons ha,List.drop_eq_getElem_cons hb] at he
  have h1:gI a i=gI b i:=by rw [gI_eq ha,gI_eq hb];exact (List.cons.inj he).1
  have ih:=in_yes hl hm k (i+1) (by omega) (by omega) (List.cons.inj he).2
  rw [show ((i+1:Nat):Int)=(i:Int)+1 by omega] at ih
  exact loop_more mixed (fuel:=9) (n:=3) (im:=[]) (keep:=[0,1,5]) (ext:=[]) (orc:=[.bool true,.int .i64 (gI a i),.int .i64 (gI b i),.bool false])
   (an (show decide ((i:Int)<a.length)=true by simp;omega)<|an (ixI' ha)<|an (ixI' hb)<|an (show (gI a i != gI b i)=false by simp [h1])<|an (show In64 ((i:Int)+1) by constructor <;> omega) trivial) (by kernel_rfl) ih
theorem in_no (hl:a.length=b.length) (hm:a.length≤1000000):∀ (k i:Nat),a.length - i=k→i≤a.length→a.drop i≠b.drop i→LoopP Tryz.prog (loopOf Tryz.prog 39 0) (hdI2 a b i) .ret hdN2
 | 0,i,hk,hi,he=>absurd (by rw [List.drop_eq_nil_of_le (by omega),List.drop_eq_nil_of_le (by omega)]) he
 | k+1,i,hk,hi,he=>by
  have ha:i<a.length:=by omega
  have hb:i<b.length:=by omega
  by_cases h1:gI a i=gI b i
  ·have ih:=in_no hl hm k (i+1) (by omega) (by omega) (fun e=>he (by rw [List.drop_eq_getElem_cons ha,List.drop_eq_getElem_cons hb,e,← gI_eq ha,← gI_eq hb,h1]))
   rw [show ((i+1:Nat):Int)=(i:Int)+1 by omega] at ih
   exact loop_more mixed (fuel:=9) (n:=3) (im:=[]) (keep:=[0,1,5]) (ext:=[]) (orc:=[.bool true,.int .i64 (gI a i),.int .i64 (gI b i),.bool false])
    (an (show decide ((i:Int)<a.length)=true by simp;omega)<|an (ixI' ha)<|an (ixI' hb)<|an (show (gI a i != gI b i)=false by simp [h1])<|an (show In64 ((i:Int)+1) by constructor <;> omega) trivial) (by kernel_rfl) ih
  ·exact loop_end mixed (fuel:=9) (n:=3) (im:=[]) (keep:=[4]) (ext:=[]) (orc:=[.bool true,.int .i64 (gI a i),.int .i64 (gI b i),.bool true])
    (an (show decide ((i:Int)<a.length)=true by simp;omega)<|an (ixI' ha)<|an (ixI' hb)<|an (show (gI a i != gI b i)=true by simpa using h1) trivial) (by intro e;cases e) (by kernel_rfl)
theorem ac_ints {r:Bool} (hr:decide (a=b)=r) (hm:a.length≤1000000):AC Tryz.prog 39 [rowI a,rowI b] (.bool r):=by
 subst hr
 by_cases hl:a.length=b.length
 ·by_cases h:a=b
  ·rw [show decide (a=b)=true by simp [h]]
   exact ac_path mixed (ext:=[]) (fuel:=9) (n:=3) (orc:=[.bool false,oL [] [0,1,5] 0 [(0,rowI a),(1,rowI b),(5,.int .i64 a.length)] []])
    (an (show ((a.length:Int) != b.length)=false by simp [hl])<|an (in_yes hl hm a.length 0 rfl (by omega) (by simpa using h)) trivial) (by kernel_rfl)
  ·rw [show decide (a=b)=false by simp [h]]
   exact ac_path mixed (ext:=[]) (fuel:=9) (n:=3) (orc:=[.bool false,oL [] [0,1,5] (-1) [(4,vD false)] []])
    (an (show ((a.length:Int) != b.length)=false by simp [hl])<|an (in_no hl hm a.length 0 rfl (by omega) (by simpa using h)) trivial) (by kernel_rfl)
 ·rw [show decide (a=b)=false by simp;intro e;exact hl (by rw [e])]
  exact ac_path mixed (ext:=[]) (fuel:=9) (n:=3) (orc:=[.bool true]) (an (show ((a.length:Int) != b.length)=true by simp;omega) trivial) (by kernel_rfl)
end
theorem ask_sl (s t:Slo) {r:Bool} (h:(!decide (s=t))=r) (x y:Operand):AskP Tryz.prog (.binOp .neq 76 x y 76) [slT s,slT t] (.bool r) :=
 ask_bin (fun x y W=>(guard_agg (by kernel_rfl) x y _ _ W).1) (fun W=>by rw [← h];exact sl_neq s t W) x y
def hdTg (a b:St) (n i:Int):Sg:=⟨mkT 96 [(2,pt 0),(3,pt 1),(5,.int .i64 n),(6,.int .i64 i)],[some ⟨true,false,20,1,[stT a]⟩,some ⟨true,false,20,1,[stT b]⟩]⟩
theorem diffL_drop {l m:List Slo} {i:Nat} (h1:i<l.length) (h2:i<m.length):diffL (l.drop i) (m.drop i)=(if gs l i=gs m i then 0 else 1)+diffL (l.drop (i+1)) (m.drop (i+1)):=by
 rw [List.drop_eq_getElem_cons h1,List.drop_eq_getElem_cons h2,gs_eq h1,gs_eq h2];rfl
theorem tg_lp {a b:St} (hl:a.sl.length=b.sl.length) (hm:a.sl.length≤1000):∀ (k i n:Nat),a.sl.length - i=k→i≤a.sl.length→n≤1000+i→LoopP Tryz.prog (loopOf Tryz.prog 20 0) (hdTg a b n i) (.exit 0) (hdTg a b (n+diffL (a.sl.drop i) (b.sl.drop i):Nat) a.sl.length)
 | 0,i,n,hk,hi,_=>by
  have:i=a.sl.length:=by omega
  subst this
  rw [List.drop_length,show diffL [] (b.sl.drop a.sl.length)=0 from by simp [diffL],Nat.add_zero]
  exact loop_end mixed (fuel:=9) (n:=3) (im:=[0,1]) (keep:=[2,3,5,6]) (ext:=[]) (orc:=[.bool false]) (an (show decide ((a.sl.length:Int)<a.sl.length)=false by simp) trivial) (by intro e;cases e) (by kernel_rfl)
 | k+1,i,n,hk,hi,hn=>by
  have h1:i<a.sl.length:=by omega
  have h2:i<b.sl.length:=by omega
  rw [diffL_drop h1 h2]
  by_cases hs:gs a.sl i=gs b.sl i
  ·have ih:=tg_lp hl hm k (i+1) n (by omega) (by omega) (by omega)
   rw [if_pos hs,Nat.zero_add]
   rw [show ((i+1:Nat):Int)=(i:Int)+1 by omega] at ih
   exact loop_more mixed (fuel:=9) (n:=3) (im:=[0,1]) (keep:=[2,3,5,6]) (ext:=[]) (orc:=[.bool true,.bool true,slT (gs a.sl i),slT (gs b.sl i),.bool false,.bool false])
    (an (show decide ((i:Int)<a.sl.length)=true by simp;omega)<|an (show decide ((i:Int)<b.sl.length)=true by simp;omega)<|an (ixS h1)<|an (ixS h2)<|an (ask_sl (gs a.sl i) (gs b.sl i) (r:=false) (by simp [hs]) (.tmp 32) (.tmp 37))<|an (rfl:false=false)<|an (show In64 ((i:Int)+1) by constructor <;> omega) trivial) (by kernel_rfl) ih
  ·have ih:=tg_lp hl hm k (i+1) (n+1) (by omega) (by omega) (by omega)
   rw [if_neg hs,← Nat.add_assoc]
   rw [show ((i+1:Nat):Int)=(i:Int)+1 by omega,show ((n+1:Nat):Int)=(n:Int)+1 by omega] at ih
   exact loop_more mixed (fuel:=9) (n:=3) (im:=[0,1]) (keep:=[2,3,5,6]) (ext:=[]) (orc:=[.bool true,.bool true,slT (gs a.sl i),slT (gs b.sl i),.bool true,.bool true])
    (an (show decide ((i:Int)<a.sl.length)=true by simp;omega)<|an (show decide ((i:Int)<b.sl.length)=true by simp;omega)<|an (ixS h1)<|an (ixS h2)<|an (ask_sl (gs a.sl i) (gs b.sl i) (r:=true) (by simp [hs]) (.tmp 32) (.tmp 37))<|an (rfl:true=true)<|an (show In64 ((n:Int)+1) by constructor <;> omega)<|an (show In64 ((i:Int)+1) by constructor <;> omega) trivial) (by kernel_rfl) ih
section
variable {a b:St} (hl:a.sl.length=b.sl.length) (hm:a.sl.length≤1000) (hx:a.sn.length≤1000000∧a.rc.length≤1000000∧a.fl.length≤1000000∧a.el.length≤1000000)
include hl hm hx
theorem tg_0 (hw:(!decide ((⟨a.hd,a.tl,a.md⟩:Wo3)=⟨b.hd,b.tl,b.md⟩))=false) (hsn:decide (a.sn=b.sn)=true) (hrc:decide (a.rc=b.rc)=true) (hfe:(a.fe != b.fe)=false) (hfl:decide (a.fl=b.fl)=true) (hee:(a.ee != b.ee)=false) (hel:decide (a.el=b.el)=true):AC Tryz.prog 20 [stT a,stT b] (.int .i64 (((0+diffL a.sl b.sl:Nat):Int))) :=
 ac_path mixed (ext:=[39]) (fuel:=9) (n:=3) (orc:=[.bool false,.nilFunc,oL [0,1] [2,3,5,6] 0 [(2,pt 0),(3,pt 1),(5,.int .i64 ((0+diffL a.sl b.sl:Nat):Int)),(6,.int .i64 a.sl.length)] (hdTg a b 0 0).H,vD true,vD true,.bool false,vD true,.bool false,vD true])
  (an (ask_wn (q:=false) hw (.tmp 8) (.tmp 10))<|an (tg_lp hl hm a.sl.length 0 0 rfl (by omega) (by omega))<|an (ac_ints (r:=true) hsn (by omega))<|an (ac_ints (r:=true) hrc (by omega))<|an (show (a.fe != b.fe)=false from hfe)<|an (ac_ints (r:=true) hfl (by omega))<|an (show (a.ee != b.ee)=false from hee)<|an (ac_ints (r:=true) hel (by omega)) trivial) (by kernel_rfl)
theorem tg_w (hw:(!decide ((⟨a.hd,a.tl,a.md⟩:Wo3)=⟨b.hd,b.tl,b.md⟩))=true) (hsn:decide (a.sn=b.sn)=true) (hrc:decide (a.rc=b.rc)=true) (hfe:(a.fe != b.fe)=false) (hfl:decide (a.fl=b.fl)=true) (hee:(a.ee != b.ee)=false) (hel:decide (a.el=b.el)=true):AC Tryz.prog 20 [stT a,stT b] (.int .i64 (((1+diffL a.sl b.sl:Nat):Int))) :=
 ac_path mixed (ext:=[39]) (fuel:=9) (n:=3) (orc:=[.bool true,.nilFunc,oL [0,1] [2,3,5,6] 0 [(2,pt 0),(3,pt 1),(5,.int .i64 ((1+diffL a.sl b.sl:Nat):Int)),(6,.int .i64 a.sl.length)] (hdTg a b 0 0).H,vD true,vD true,.bool false,vD true,.bool false,vD true])
  (an (ask_wn (q:=true) hw (.tmp 8) (.tmp 10))<|an (show In64 ((0:Int)+1) by decide)<|an (tg_lp hl hm a.sl.length 0 1 rfl (by omega) (by omega))<|an (ac_ints (r:=true) hsn (by omega))<|an (ac_ints (r:=true) hrc (by omega))<|an (show (a.fe != b.fe)=false from hfe)<|an (ac_ints (r:=true) hfl (by omega))<|an (show (a.ee != b.ee)=false from hee)<|an (ac_ints (r:=true) hel (by omega)) trivial) (by kernel_rfl)
theorem tg_sn (hd:diffL a.sl b.sl≤1000) (hw:(!decide ((⟨a.hd,a.tl,a.md⟩:Wo3)=⟨b.hd,b.tl,b.md⟩))=false) (hsn:decide (a.sn=b.sn)=false) (hrc:decide (a.rc=b.rc)=true) (hfe:(a.fe != b.fe)=false) (hfl:decide (a.fl=b.fl)=true) (hee:(a.ee != b.ee)=false) (hel:decide (a.el=b.el)=true):AC Tryz.prog 20 [stT a,stT b] (.int .i64 (((0+diffL a.sl b.sl:Nat):Int)+1)) :=
 ac_path mixed (ext:=[39]) (fuel:=9) (n:=3) (orc:=[.bool false,.nilFunc,oL [0,1] [2,3,5,6] 0 [(2,pt 0),(3,pt 1),(5,.int .i64 ((0+diffL a.sl b.sl:Nat):Int)),(6,.int .i64 a.sl.length)] (hdTg a b 0 0).H,vD false,vD true,.bool false,vD true,.bool false,vD true])
  (an (ask_wn (q:=false) hw (.tmp 8) (.tmp 10))<|an (tg_lp hl hm a.sl.length 0 0 rfl (by omega) (by omega))<|an (ac_ints (r:=false) hsn (by omega))<|an (show In64 (((0+diffL a.sl b.sl:Nat):Int)+1) by constructor <;> omega)<|an (ac_ints (r:=true) hrc (by omega))<|an (show (a.fe != b.fe)=false from hfe)<|an (ac_ints (r:=true) hfl (by omega))<|an (show (a.ee != b.ee)=false from hee)<|an (ac_ints (r:=true) hel (by omega)) trivial) (by kernel_rfl)
theorem tg_rc (hd:diffL a.sl b.sl≤1000) (hw:(!decide ((⟨a.hd,a.tl,a.md⟩:Wo3)=⟨b.hd,b.tl,b.md⟩))=false) (hsn:decide (a.sn=b.sn)=true) (hrc:decide (a.rc=b.rc)=false) (hfe:(a.fe != b.fe)=false) (hfl:decide (a.fl=b.fl)=true) (hee:(a.ee != b.ee)=false) (hel:decide (a.el=b.el)=true):AC Tryz.prog 20 [stT a,stT b] (.int .i64 (((0+diffL a.sl b.sl:Nat):Int)+1)) :=
 ac_path mixed (ext:=[39]) (fuel:=9) (n:=3) (orc:=[.bool false,.nilFunc,oL [0,1] [2,3,5,6] 0 [(2,pt 0),(3,pt 1),(5,.int .i64 ((0+diffL a.sl b.sl:Nat):Int)),(6,.int .i64 a.sl.length)] (hdTg a b 0 0).H,vD true,vD false,.bool false,vD true,.bool false,vD true])
  (an (ask_wn (q:=false) hw (.tmp 8) (.tmp 10))<|an (tg_lp hl hm a.sl.length 0 0 rfl (by omega) (by omega))<|an (ac_ints (r:=true) hsn (by omega))<|an (ac_ints (r:=false) hrc (by omega))<|an (show In64 (((0+diffL a.sl b.sl:Nat):Int)+1) by constructor <;> omega)<|an (show (a.fe != b.fe)=false from hfe)<|an (ac_ints (r:=true) hfl (by omega))<|an (show (a.ee != b.ee)=false from hee)<|an (ac_ints (r:=true) hel (by omega)) trivial) (by kernel_rfl)
theorem tg_fe (hd:diffL a.sl b.sl≤1000) (hw:(!decide ((⟨a.hd,a.tl,a.md⟩:Wo3)=⟨b.hd,b.tl,b.md⟩))=false) (hsn:decide (a.sn=b.sn)=true) (hrc:decide (a.rc=b.rc)=true) (hfe:(a.fe != b.fe)=true) (hee:(a.ee != b.ee)=false) (hel:decide (a.el=b.el)=true):AC Tryz.prog 20 [stT a,stT b] (.int .i64 (((0+diffL a.sl b.sl:Nat):Int)+1)) :=
 ac_path mixed (ext:=[39]) (fuel:=9) (n:=3) (orc:=[.bool false,.nilFunc,oL [0,1] [2,3,5,6] 0 [(2,pt 0),(3,pt 1),(5,.int .i64 ((0+diffL a.sl b.sl:Nat):Int)),(6,.int .i64 a.sl.length)] (hdTg a b 0 0).H,vD true,vD true,.bool true,.bool false,vD true])
  (an (ask_wn (q:=false) hw (.tmp 8) (.tmp 10))<|an (tg_lp hl hm a.sl.length 0 0 rfl (by omega) (by omega))<|an (ac_ints (r:=true) hsn (by omega))<|an (ac_ints (r:=true) hrc (by omega))<|an (show (a.fe != b.fe)=true from hfe)<|an (show In64 (((0+diffL a.sl b.sl:Nat):Int)+1) by constructor <;> omega)<|an (show (a.ee != b.ee)=false from hee)<|an (ac_ints (r:=true) hel (by omega)) trivial) (by kernel_rfl)
theorem tg_fl (hd:diffL a.sl b.sl≤1000) (hw:(!decide ((⟨a.hd,a.tl,a.md⟩:Wo3)=⟨b.hd,b.tl,b.md⟩))=false) (hsn:decide (a.sn=b.sn)=true) (hrc:decide (a.rc=b.rc)=true) (hfe:(a.fe != b.fe)=false) (hfl:decide (a.fl=b.fl)=false) (hee:(a.ee != b.ee)=false) (hel:decide (a.el=b.el)=true):AC Tryz.prog 20 [stT a,stT b] (.int .i64 (((0+diffL a.sl b.sl:Nat):Int)+1)) :=
 ac_path mixed (ext:=[39]) (fuel:=9) (n:=3) (orc:=[.bool false,.nilFunc,oL [0,1] [2,3,5,6] 0 [(2,pt 0),(3,pt 1),(5,.int .i64 ((0+diffL a.sl b.sl:Nat):Int)),(6,.int .i64 a.sl.length)] (hdTg a b 0 0).H,vD true,vD true,.bool false,vD false,.bool false,vD true])
  (an (ask_wn (q:=false) hw (.tmp 8) (.tmp 10))<|an (tg_lp hl hm a.sl.length 0 0 rfl (by omega) (by omega))<|an (ac_ints (r:=true) hsn (by omega))<|an (ac_ints (r:=true) hrc (by omega))<|an (show (a.fe != b.fe)=false from hfe)<|an (ac_ints (r:=false) hfl (by omega))<|an (show In64 (((0+diffL a.sl b.sl:Nat):Int)+1) by constructor <;> omega)<|an (show (a.ee != b.ee)=false from hee)<|an (ac_ints (r:=true) hel (by omega)) trivial) (by kernel_rfl)
theorem tg_ee (hd:diffL a.sl b.sl≤1000) (hw:(!decide ((⟨a.hd,a.tl,a.md⟩:Wo3)=⟨b.hd,b.tl,b.md⟩))=false) (hsn:decide (a.sn=b.sn)=true) (hrc:decide (a.rc=b.rc)=true) (hfe:(a.fe != b.fe)=false) (hfl:decide (a.fl=b.fl)=true) (hee:(a.ee != b.ee)=true):AC Tryz.prog 20 [stT a,stT b] (.int .i64 (((0+diffL a.sl b.sl:Nat):Int)+1)) :=
 ac_path mixed (ext:=[39]) (fuel:=9) (n:=3) (orc:=[.bool false,.nilFunc,oL [0,1] [2,3,5,6] 0 [(2,pt 0),(3,pt 1),(5,.int .i64 ((0+diffL a.sl b.sl:Nat):Int)),(6,.int .i64 a.sl.length)] (hdTg a b 0 0).H,vD true,vD true,.bool false,vD true,.bool true])
  (an (ask_wn (q:=false) hw (.tmp 8) (.tmp 10))<|an (tg_lp hl hm a.sl.length 0 0 rfl (by omega) (by omega))<|an (ac_ints (r:=true) hsn (by omega))<|an (ac_ints (r:=true) hrc (by omega))<|an (show (a.fe != b.fe)=false from hfe)<|an (ac_ints (r:=true) hfl (by omega))<|an (show (a.ee != b.ee)=true from hee)<|an (show In64 (((0+diffL a.sl b.sl:Nat):Int)+1) by constructor <;> omega) trivial) (by kernel_rfl)
theorem tg_el (hd:diffL a.sl b.sl≤1000) (hw:(!decide ((⟨a.hd,a.tl,a.md⟩:Wo3)=⟨b.hd,b.tl,b.md⟩))=false) (hsn:decide (a.sn=b.sn)=true) (hrc:decide (a.rc=b.rc)=true) (hfe:(a.fe != b.fe)=false) (hfl:decide (a.fl=b.fl)=true) (hee:(a.ee != b.ee)=false) (hel:decide (a.el=b.el)=false):AC Tryz.prog 20 [stT a,stT b] (.int .i64 (((0+diffL a.sl b.sl:Nat):Int)+1)) :=
 ac_path mixed (ext:=[39]) (fuel:=9) (n:=3) (orc:=[.bool false,.nilFunc,oL [0,1] [2,3,5,6] 0 [(2,pt 0),(3,pt 1),(5,.int .i64 ((0+diffL a.sl b.sl:Nat):Int)),(6,.int .i64 a.sl.length)] (hdTg a b 0 0).H,vD true,vD true,.bool false,vD true,.bool false,vD false])
  (an (ask_wn (q:=false) hw (.tmp 8) (.tmp 10))<|an (tg_lp hl hm a.sl.length 0 0 rfl (by omega) (by omega))<|an (ac_ints (r:=true) hsn (by omega))<|an (ac_ints (r:=true) hrc (by omega))<|an (show (a.fe != b.fe)=false from hfe)<|an (ac_ints (r:=true) hfl (by omega))<|an (show (a.ee != b.ee)=false from hee)<|an (ac_ints (r:=false) hel (by omega))<|an (show In64 (((0+diffL a.sl b.sl:Nat):Int)+1) by constructor <;> omega) trivial) (by kernel_rfl)
theorem ac_things (h:thingsN a b≤1):∃ v:Int,v≤1∧AC Tryz.prog 20 [stT a,stT b] (.int .i64 v):=by
 unfold thingsN oneI at h
 have hd:diffL a.sl b.sl≤1000:=by omega
 have cast:(((0+diffL a.sl b.sl:Nat):Int))=(diffL a.sl b.sl:Int):=by omega
 by_cases cw:(a.hd,a.tl,a.md)=(b.hd,b.tl,b.md)
 ·have hw:(!decide ((⟨a.hd,a.tl,a.md⟩:Wo3)=⟨b.hd,b.tl,b.md⟩))=false:=by simp only [Prod.mk.injEq] at cw;simp [cw.1,cw.2.1,cw.2.2]
  by_cases csn:a.sn=b.sn
  ·by_cases crc:a.rc=b.rc
   ·by_cases cfe:a.fe=b.fe
    ·by_cases cfl:a.fl=b.fl
     ·by_cases cee:a.ee=b.ee
      ·by_cases cel:a.el=b.el
       ·refine ⟨_,?_,tg_0 hl hm hx hw (by simp [csn]) (by simp [crc]) (by simp [cfe]) (by simp [cfl]) (by simp [cee]) (by simp [cel])⟩
        simp only [cw,csn,crc,cfe,cfl,cee,cel,and_self,if_true] at h;omega
       ·refine ⟨_,?_,tg_el hl hm hx hd hw (by simp [csn]) (by simp [crc]) (by simp [cfe]) (by simp [cfl]) (by simp [cee]) (by simp [cel])⟩
        simp only [cw,csn,crc,cfe,cfl,cee,cel,and_self,and_false,if_true,if_false] at h;omega
      ·refine ⟨_,?_,tg_ee hl hm hx hd hw (by simp [csn]) (by simp [crc]) (by simp [cfe]) (by simp [cfl]) (by simp [cee])⟩
       simp only [cw,csn,crc,cfe,cfl,cee,and_self,false_and,if_true,if_false] at h;omega
     ·refine ⟨_,?_,tg_fl hl hm hx hd hw (by simp [csn]) (by simp [crc]) (by simp [cfe]) (by simp [cfl]) ?_ ?_⟩
      ·simp only [cw,csn,crc,cfe,cfl,and_false,if_true,if_false] at h;omega
      ·by_cases cee:a.ee=b.ee
       ·simp [cee]
       ·simp only [cw,csn,crc,cfe,cfl,cee,and_false,false_and,if_true,if_false] at h;omega
      ·by_cases cel:a.el=b.el
       ·simp [cel]
       ·simp only [cw,csn,crc,cfe,cfl,cel,and_false,if_true,if_false] at h;omega
    ·refine ⟨_,?_,tg_fe hl hm hx hd hw (by simp [csn]) (by simp [crc]) (by simp [cfe]) ?_ ?_⟩
     ·simp only [cw,csn,crc,cfe,false_and,if_true,if_false] at h;omega
     ·by_cases cee:a.ee=b.ee
      ·simp [cee]
      ·simp only [cw,csn,crc,cfe,cee,false_and,if_true,if_false] at h;omega
     ·by_cases cel:a.el=b.el
      ·simp [cel]
      ·simp only [cw,csn,crc,cfe,cel,and_false,false_and,if_true,if_false] at h;omega
   ·by_cases c1:a.fe=b.fe∧a.fl=b.fl
    ·by_cases c2:a.ee=b.ee∧a.el=b.el
     ·refine ⟨_,?_,tg_rc hl hm hx hd hw (by simp [csn]) (by simp [crc]) (by simp [c1.1]) (by simp [c1.2]) (by simp [c2.1]) (by simp [c2.2])⟩
      simp only [cw,csn,crc,c1,c2,and_self,if_true,if_false] at h;omega
     ·simp only [cw,csn,crc,c1,c2,and_self,if_true,if_false] at h;omega
    ·simp only [cw,csn,crc,c1,if_true,if_false] at h;omega
  ·by_cases crc:a.rc=b.rc
   ·by_cases c1:a.fe=b.fe∧a.fl=b.fl
    ·by_cases c2:a.ee=b.ee∧a.el=b.el
     ·refine ⟨_,?_,tg_sn hl hm hx hd hw (by simp [csn]) (by simp [crc]) (by simp [c1.1]) (by simp [c1.2]) (by simp [c2.1]) (by simp [c2.2])⟩
      simp only [cw,csn,crc,c1,c2,and_self,if_true,if_false] at h;omega
     ·simp only [cw,csn,crc,c1,c2,and_self,if_true,if_false] at h;omega
    ·simp only [cw,csn,crc,c1,if_true,if_false] at h;omega
   ·simp only [cw,csn,crc,if_true,if_false] at h;omega
 ·have hw:(!decide ((⟨a.hd,a.tl,a.md⟩:Wo3)=⟨b.hd,b.tl,b.md⟩))=true:=by simp only [Prod.mk.injEq] at cw;simp;omega
  by_cases csn:a.sn=b.sn
  ·by_cases crc:a.rc=b.rc
   ·by_cases c1:a.fe=b.fe∧a.fl=b.fl
    ·by_cases c2:a.ee=b.ee∧a.el=b.el
     ·refine ⟨_,?_,tg_w hl hm hx hw (by simp [csn]) (by simp [crc]) (by simp [c1.1]) (by simp [c1.2]) (by simp [c2.1]) (by simp [c2.2])⟩
      simp only [cw,csn,crc,c1,c2,and_self,if_true,if_false] at h;omega
     ·simp only [cw,csn,crc,c1,c2,and_self,if_true,if_false] at h;omega
    ·simp only [cw,csn,crc,c1,if_true,if_false] at h;omega
   ·simp only [cw,csn,crc,if_true,if_false] at h;omega
  ·simp only [cw,csn,if_true,if_false] at h;omega
end
end
section
open Go.RowKit
def cL:Cf:=⟨1,2,0,0,0,0,false⟩
def tL:Th:=⟨1,3,7,9,0,0,0,0,false,0,0⟩
def sL:St:=newSt cL
def aL:St:=tickS sL 4
def bL:St:=aL.setTh 1 tL
def cLs:St:=pickS bL 1
theorem cL_b:cfB cL=true:=by decide
theorem sL_b:stB sL=true:=new_stB cL_b
theorem aL_b:stB aL=true:=(tick_stB sL 4).trans sL_b
theorem bL_b:stB bL=true:=by kernel_rfl
theorem cL_in:cL.ok:=by simp [cL,Cf.ok,In64]
theorem sL_in:sL.ok:=ok_of sL_b ⟨cL_in,by decide,by decide⟩ (by decide)
theorem ca_eql (x:Ca) (w:World):(Op.equal 35 (caT x) (caT x)).run Tryz.prog w = .ok true w:=by
 have hu:=Tryz.underlying35
 have h3:=Tryz.underlying3
 have hp:Tryz.prog.stoodInHeld 35=false:=by kernel_rfl
 unfold caT Op.equal Op.maxDepth
 rw [run_equalIn_struct w 9999 _ _ _ (by unfold Program.fieldsOf;rw [hu]) hp]
 unfold Program.fieldsOf
 rw [hu]
 simp [Op.eqFields,part,isAgg,run_underlying h3,run_equalIn_int _ _ _ _ _ _ _ h3]
theorem ask_ca (x:Ca) (a b:Operand):AskP Tryz.prog (.binOp .eql 35 a b 35) [caT x,caT x] (.bool true) :=
 ask_bin (fun a b W=>(guard_agg (by kernel_rfl) a b _ _ W).2) (fun W=>by
  have h:=ca_eql x W
  have hu:=Tryz.underlying35
  unfold caT at h
  simp [binOp,h,run_underlying hu,Result.andThen]) a b
theorem wL:Wk sL 0:=⟨sL_b,.of sL_in,by decide⟩
theorem wLa:Wk aL 0:=tick_wk wL 4
theorem wLb:Wk bL 0:=⟨bL_b,⟨wLa.v.cf,wLa.v.sl,fun t ht=>by
 rcases List.mem_or_eq_of_mem_set ht with h | rfl
 ·exact wLa.v.th t h
 ·exact ⟨by decide,by decide⟩⟩,wLa.l⟩
theorem wkL {s:St} {N:Nat} (h:Wk s N) (hN:N≤200):TkK s:=⟨h.ok (by omega),h.few (by omega)⟩
theorem l_e4:tickE sL 4=0:=by kernel_rfl
theorem l_nw:aL.nw=4:=by kernel_rfl
theorem l_may:opMay aL.cf.th aL.cf.si 1 3=0:=by kernel_rfl
theorem l_la:aL.th.length=2:=by kernel_rfl
theorem l_st:(gth aL.th 1).st=0:=by kernel_rfl
theorem l_lb:bL.th.length=2:=by kernel_rfl
theorem l_lc:cLs.th.length=2:=by kernel_rfl
theorem l_p1:pickE bL 1=0:=by kernel_rfl
theorem l_p0:pickE bL 0=121:=by kernel_rfl
theorem l_un:(gth bL.th 1).un=9:=by kernel_rfl
theorem l_pc:(gth cLs.th 1).pc=1:=by kernel_rfl
theorem v_aL:caDo sL ⟨11,0,4,0⟩ 0 aL:=.inr (.inr (.inl ⟨by decide,rfl,l_e4.symm,rfl⟩))
theorem v_bL:caDo aL ⟨3,1,7,5⟩ 0 bL:=.inr (.inr (.inr ⟨by decide,by decide,by decide,.inr (.inr ⟨aL_b,l_may,1,tL,rfl,by rw [l_la];decide,by
 show thBeg (gth aL.th 1) 3 7 (aL.nw+5) 0 tL
 rw [l_nw];exact beg_ok_t (t:=gth aL.th 1) (v:=7) (u:=9) l_st (by decide) (by decide) (by decide),rfl⟩)⟩))
theorem v_cL:caDo bL ⟨10,1,0,0⟩ 0 cLs:=.inr (.inl ⟨by decide,rfl,l_p1.symm,rfl⟩)
theorem v_dL:caDo bL ⟨10,0,0,0⟩ 121 bL:=.inr (.inl ⟨by decide,rfl,l_p0.symm,(pick_no (by rw [l_p0];decide)).symm⟩)
theorem dec_ok {l:List Int} (h:deE l=0):AC Tryz.prog 10 [rowI l] (.tuple #[caT (numCa l),.int .i64 0]):=by
 have:=ac_cdec l
 rwa [h,(de_ok h).2.1] at this
theorem dec_no {l:List Int} {e:Int} (h:deE l=e) (he:e≠0):AC Tryz.prog 10 [rowI l] (.tuple #[caT ca0,.int .i64 e]):=by
 have:=ac_cdec l
 rwa [h,de_no (by rw [h];exact he)] at this
def alX:List FuncId:=[22,10,12,18,17]
theorem al_path {s a b c:St} (h0:AC Tryz.prog 22 [cfT ⟨1,2,0,0,0,0,false⟩] (.tuple #[stT s,.int .i64 0])) (h1:AC Tryz.prog 12 [stT s,caT ⟨11,0,4,0⟩] (.tuple #[stT a,.int .i64 0])) (h2:AC Tryz.prog 12 [stT a,caT ⟨3,1,7,5⟩] (.tuple #[stT b,.int .i64 0])) (h3:AC Tryz.prog 12 [stT b,caT ⟨10,1,0,0⟩] (.tuple #[stT c,.int .i64 0])) (h4:AC Tryz.prog 12 [stT b,caT ⟨10,0,0,0⟩] (.tuple #[stT b,.int .i64 121]))
  (lb:b.th.length=2) (lc:c.th.length=2) (c1:a.nw=4) (c2:(gth b.th 1).un=9) (c3:(gth c.th 1).pc=1):AC Tryz.prog 8 [] (.bool true) :=
 ac_path mixed (ext:=alX) (fuel:=9) (n:=6) (orc:=[.tuple #[stT s,.int .i64 0],.tuple #[caT ⟨3,1,7,5⟩,.int .i64 0],.tuple #[caT ca0,.int .i64 190],.tuple #[caT ca0,.int .i64 190],.tuple #[caT ca0,.int .i64 50],.tuple #[caT ca0,.int .i64 190],.tuple #[stT a,.int .i64 0],.tuple #[stT b,.int .i64 0],.tuple #[stT c,.int .i64 0],.tuple #[stT b,.int .i64 121],
   .bool false,.bool false,.nilFunc,.bool true,.nilFunc,.nilFunc,.nilFunc,.nilFunc,.nilFunc,.nilFunc,.bool true,.nilFunc,thT (gth b.th 1),.bool true,.nilFunc,thT (gth c.th 1),.bool true,.nilFunc,rowI [3,1,7,5],vD true])
  (an h0<|an (⟨rfl,rfl⟩:LenP 4 4 ([3,1,7,5].map (Value.int .i64 ·)))<|an (dec_ok (l:=[3,1,7,5]) (by decide))<|an (⟨rfl,rfl⟩:LenP 3 3 ([3,1,7].map (Value.int .i64 ·)))<|an (dec_no (l:=[3,1,7]) (e:=190) (by decide) (by decide))<|an (⟨rfl,rfl⟩:LenP 4 4 ([9,1,0,0].map (Value.int .i64 ·)))<|an (dec_no (l:=[9,1,0,0]) (e:=190) (by decide) (by decide))<|an (⟨rfl,rfl⟩:LenP 4 4 ([3,1,7,-5].map (Value.int .i64 ·)))<|an (dec_no (l:=[3,1,7,-5]) (e:=50) (by decide) (by decide))<|an (⟨rfl,rfl⟩:LenP 4 4 ([4,1,7,0].map (Value.int .i64 ·)))<|an (dec_no (l:=[4,1,7,0]) (e:=190) (by decide) (by decide)) <|
   an h1<|an h2<|an h3<|an h4<|an (show ((b.th.length:Int) != 2)=false by rw [lb];rfl)<|an (show ((c.th.length:Int) != 2)=false by rw [lc];rfl)<|an (ask_ca ⟨3,1,7,5⟩ (.tmp 88) (.tmp 89))<|an (show (a.nw==4)=true by rw [c1];rfl)<|an (ixT (l:=b.th) (n:=1) (by omega))<|an (show ((gth b.th 1).un==9)=true by rw [c2];rfl) <|
   an (ixT (l:=c.th) (n:=1) (by omega))<|an (show ((gth c.th 1).pc==1)=true by rw [c3];rfl)<|an (ac_cenc ⟨3,1,7,5⟩)<|an (⟨rfl,rfl⟩:LenP 4 4 ([3,1,7,5].map (Value.int .i64 ·)))<|an (ac_rints [3,1,7,5] (by decide)) trivial) (by kernel_rfl)
theorem ac_awakeL:AC Tryz.prog 8 [] (.bool true) :=
 al_path (ac_pnew cL_b) (ac_cdo v_aL (wkL wL (by omega))) (ac_cdo v_bL (wkL wLa (by omega))) (ac_cdo v_cL (wkL wLb (by omega))) (ac_cdo v_dL (wkL wLb (by omega))) l_lb l_lc l_nw l_un l_pc
theorem beg_wk {s r:St} {i k v u:Int} {N:Nat} (h:stBeg s i k v u 0 r) (ho:s.ok) (hv:In64 v) (hl:s.lg.length≤N):Wk r N:=by
 obtain ⟨hB,n,t,-,hn,ht,rfl⟩:=beg_yes h
 have w:Wk s N:=⟨hB,.of ho,hl⟩
 refine ⟨th_stB hB (thBeg_ok ht (gth_ok hB hn)),⟨w.v.cf,w.v.sl,fun y hy=>?_⟩,hl⟩
 rcases List.mem_or_eq_of_mem_set hy with h | rfl
 ·exact w.v.th y h
 ·rcases ht with ⟨-,h0,-⟩ | ⟨-,-,h0,-⟩ | ⟨-,-,-,-,rfl⟩ | ⟨-,-,-,-,h0,-⟩ | ⟨-,-,-,-,-,rfl⟩
  ·cases h0
  ·cases h0
  ·exact ⟨hv,by show In64 0;decide⟩
  ·cases h0
  ·exact ⟨hv,by show In64 0;decide⟩
theorem caDo_wk {s r:St} {x:Ca} {E:Int} {N:Nat} (h:caDo s x E r) (hx:x.ok) (ho:s.ok) (hw:s.few) (hl:s.lg.length≤N) (hN:N≤900):r.few∧r.lg.length≤N+1∧r.ok:=by
 by_cases hE:E=0
 ·subst hE
  have key:Wk r (N+1):=by
   rcases h with ⟨he,h0,-⟩ | ⟨-,-,h0,rfl⟩ | ⟨-,-,h0,rfl⟩ | ⟨-,-,-,h⟩
   ·exact absurd h0.symm he
   ·obtain ⟨n,-,hB,-⟩:=pick_iff.1 h0.symm
    exact pick_wk ⟨hB,.of ho,hl⟩ _
   ·have w:=tick_wk (N:=N) ⟨(tickE_ok h0.symm).1,.of ho,hl⟩ x.va
    exact ⟨w.b,w.v,by have:=w.l;omega⟩
   ·have w:=beg_wk (N:=N) h ho hx.2.2.1 hl
    exact ⟨w.b,w.v,by have:=w.l;omega⟩
  exact ⟨key.few (by omega),key.l,key.ok (by omega)⟩
 ·rw [caDo_no h hE];exact ⟨hw,by omega,ho⟩
end
end Go.Proofs.YtbckpadeamlidaaGreat
