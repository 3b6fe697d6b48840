/- The statement HistOps of the landed program: true of every configuration and every script. -/
import Derived.Test.YtfogkllejkmpdaaGreatZf19
import Derived.Test.YtfogkllejkmpdaaGreatZf11
import Derived.Test.YtfogkllejkmpdaaGreatZf18
namespace Go.Proofs.YtfogkllejkmpdaaGreat
set_option linter.unusedVariables false
set_option linter.unusedSimpArgs false
set_option maxRecDepth 100000
section
open Go.ChangeShapes Go.WideShapes Go.ChangeAt Go.RowKit
section
variable {o:Op} {l:List En} {m:List Int} {i:Nat} {e:En} {a:Int} {x:Exit} {S:Sg}
variable (hi:i<l.length) (hj:i<m.length) (hm:l.length≤10000) (he:IxP ((l.map enT).toArray) (i:Int) (enT e)) (ha:IxP ((m.map (Value.int .i64 ·)).toArray) (i:Int) (.int .i64 a))
include hi hj hm he ha
end
section
variable {l:List En} {m:List Int} {O:List Op} {i k:Nat} {x:Exit} {S:Sg}
variable (hk:k<O.length) (hi:i<O.length) (hm:O.length≤10000)
include hk hi hm
end
theorem rO {c:Cf} {raw:List (List Int)} (hc:c.ok) (hr:∀ l∈raw,∀ n∈l,In64 n) (hm:raw.length≤100):(O3 c raw).length≤raw.length∧(opsOf c raw).length≤raw.length:=by
 constructor
 ·have h1:=sW (c:=c) (raw:=raw) (by omega)
  have h2:(dO c raw).lg.length≤raw.length:=by
   unfold dO
   cases hcf:cfB c
   ·exact Nat.zero_le _
   ·rw [if_pos rfl];exact (qE hc hcf hr (by omega)).lg
  rw [← h1] at h2
  unfold U9 at h2
  rwa [List.length_map] at h2
 ·unfold opsOf
  split
  ·exact qz raw (E5 c) 0
  ·simp
end
abbrev qL11:=j4 Tryz.prog (j3 Tryz.prog 6 1)
abbrev qL12:=j4 Tryz.prog (j3 Tryz.prog 6 0)
section
open Go.ChangeShapes Go.WideShapes Go.ChangeAt Go.RowKit
def o1T (O:List Op) (e i:Int):List (Nat×Value):=[(5,vD true),(6,jR O),(7,pt 0),(8,.int .i64 e),(9,.int .i64 i)]
def Dp (s:St) (O:List Op) (e i:Int):Sg:=⟨mkT 135 (o1T O e i),[bS s]⟩
def o2T (O:List Op) (e i k:Int):List (Nat×Value):=o1T O e i++[(10,pt 1),(11,.int .i64 k)]
def xD (s:St) (o:Op) (O:List Op) (e i k:Int):Sg:=⟨mkT 135 (o2T O e i k),[bS s,bO o]⟩
section
variable {s:St} {O:List Op} {e:Int} {i k:Nat} {o p:Op} {x:Exit} {S:Sg}
variable (hk:k<O.length) (hm:O.length≤10000) (hp:IxP ((O.map opT).toArray) (k:Int) (opT p)) (hL:qL11 (xD s o O e i (k+1)) x S)
include hk hm hp hL
theorem a0C (h1:(p.th==o.th)=false):qL11 (xD s o O e i k) x S :=
 j5 mixed (fuel:=9) (n:=3) (im:=[0,1]) (keep:=[5,6,7,8,9,10,11]) (ext:=[]) (orc:=[.bool true,opT p,.bool false]) (an (K8 hk)<|an hp<|an h1<|an (M9 hk (by omega)) trivial) (by kernel_rfl) hL
theorem a1O (h1:(p.th==o.th)=true) (h2:decide (o.en<0)=false) (h3:decide (p.be≤o.en)=false):qL11 (xD s o O e i k) x S :=
 j5 mixed (fuel:=9) (n:=3) (im:=[0,1]) (keep:=[5,6,7,8,9,10,11]) (ext:=[]) (orc:=[.bool true,opT p,.bool true,.bool false,opT p,.bool false]) (an (K8 hk)<|an hp<|an h1<|an h2<|an hp<|an h3<|an (M9 hk (by omega)) trivial) (by kernel_rfl) hL
end
theorem Ym {s:St} {O:List Op} {e:Int} {i:Nat} (hi:i<O.length) (hm:O.length≤10000) (hp:O.Pairwise fun o p=>o.be<p.be∧(p.th=o.th→0≤o.en∧o.en<p.be)):∀ (d k:Nat),O.length - k=d→i+1≤k→k≤O.length →
  qL11 (xD s O[i] O e i k) (.exit 2) (xD s O[i] O e i O.length)
 | 0,k,hd,h0,hk=>by
  have:k=O.length:=by omega
  subst this
  exact o5 mixed (fuel:=9) (n:=3) (im:=[0,1]) (keep:=[5,6,7,8,9,10,11]) (ext:=[]) (orc:=[.bool false]) (an (aG O.length) trivial) (by intro e;cases e) (by kernel_rfl)
 | d+1,k,hd,h0,hk' => by
  have hk:k<O.length:=by omega
  have ih:=Ym (s:=s) (e:=e) hi hm hp d (k+1) (by omega) (by omega) (by omega)
  have h:=List.pairwise_iff_getElem.1 hp i k hi hk (by omega)
  cases h1:O[k].th==O[i].th
  ·exact a0C hk hm (ixO hk) ih h1
  ·have h2:=h.2 (by simpa using h1)
   exact a1O hk hm (ixO hk) ih h1 (by simp;omega) (by simp;omega)
section
variable {s:St} {O:List Op} {e:Int} {i:Nat} {o p:Op} {t:Th} {x:Exit} {S:Sg}
variable (hi:i<O.length) (hm:O.length≤10000) (ho:IxP ((O.map opT).toArray) (i:Int) (opT o)) (g1:decide (o.th<0)=false) (g2:decide ((s.th.length:Int)≤o.th)=false)
variable (hI:qL11 (xD s o O e i (i+1)) (.exit 2) (xD s o O e i O.length)) (hL:qL12 (Dp s O e (i+1)) x S)
include hi hm ho g1 g2 hI hL
theorem a2m (h0:decide (0<(i:Int))=false) (h2:decide (0≤o.en)=false) (h3:decide (o.en<0)=true) (ht:IxP ((s.th.map thT).toArray) o.th (thT t)) (h4:(t.st==0)=false):qL12 (Dp s O e i) x S :=
 j5 mixed (fuel:=9) (n:=3) (keep:=[5,6,7,8,9]) (ext:=[]) (im:=[2]) (orc:=[.bool true,opT o,.bool false,.bool false,.bool false,.bool false,.bool true,thT t,.bool false,oL [0,1] [5,6,7,8,9,10,11] 2 (o2T O e i O.length) [bS s,bO o]])
  (an (K8 hi)<|an (ho)<|an (h0)<|an (g1)<|an (g2)<|an (h2)<|an (h3)<|an (ht)<|an (h4)<|an (M9 hi (by omega))<|an (hI)<|an (M9 hi (by omega)) trivial) (by kernel_rfl) hL
theorem a2g (h0:decide (0<(i:Int))=false) (h2:decide (0≤o.en)=true) (h3:decide (o.en≤o.be)=false) (h4:(o.re==0)=false) (h5:decide (o.en<0)=false):qL12 (Dp s O e i) x S :=
 j5 mixed (fuel:=9) (n:=3) (keep:=[5,6,7,8,9]) (ext:=[]) (im:=[2]) (orc:=[.bool true,opT o,.bool false,.bool false,.bool false,.bool true,.bool false,.bool false,.bool false,oL [0,1] [5,6,7,8,9,10,11] 2 (o2T O e i O.length) [bS s,bO o]])
  (an (K8 hi)<|an (ho)<|an (h0)<|an (g1)<|an (g2)<|an (h2)<|an (h3)<|an (h4)<|an (h5)<|an (M9 hi (by omega))<|an (hI)<|an (M9 hi (by omega)) trivial) (by kernel_rfl) hL
theorem a2y (h0:decide (0<(i:Int))=true) (hp:IxP ((O.map opT).toArray) ((i:Int) - 1) (opT p)) (h1:decide (o.be≤p.be)=false) (h2:decide (0≤o.en)=false) (h3:decide (o.en<0)=true) (ht:IxP ((s.th.map thT).toArray) o.th (thT t)) (h4:(t.st==0)=false):qL12 (Dp s O e i) x S :=
 j5 mixed (fuel:=9) (n:=3) (keep:=[5,6,7,8,9]) (ext:=[]) (im:=[2]) (orc:=[.bool true,opT o,.bool true,opT p,.bool false,.bool false,.bool false,.bool false,.bool true,thT t,.bool false,oL [0,1] [5,6,7,8,9,10,11] 2 (o2T O e i O.length) [bS s,bO o]])
  (an (K8 hi)<|an (ho)<|an (h0)<|an (show In64 ((i:Int) - 1) by constructor <;> omega)<|an (hp)<|an (h1)<|an (g1)<|an (g2)<|an (h2)<|an (h3)<|an (ht)<|an (h4)<|an (M9 hi (by omega))<|an (hI)<|an (M9 hi (by omega)) trivial) (by kernel_rfl) hL
theorem a2V (h0:decide (0<(i:Int))=true) (hp:IxP ((O.map opT).toArray) ((i:Int) - 1) (opT p)) (h1:decide (o.be≤p.be)=false) (h2:decide (0≤o.en)=true) (h3:decide (o.en≤o.be)=false) (h4:(o.re==0)=false) (h5:decide (o.en<0)=false):qL12 (Dp s O e i) x S :=
 j5 mixed (fuel:=9) (n:=3) (keep:=[5,6,7,8,9]) (ext:=[]) (im:=[2]) (orc:=[.bool true,opT o,.bool true,opT p,.bool false,.bool false,.bool false,.bool true,.bool false,.bool false,.bool false,oL [0,1] [5,6,7,8,9,10,11] 2 (o2T O e i O.length) [bS s,bO o]])
  (an (K8 hi)<|an (ho)<|an (h0)<|an (show In64 ((i:Int) - 1) by constructor <;> omega)<|an (hp)<|an (h1)<|an (g1)<|an (g2)<|an (h2)<|an (h3)<|an (h4)<|an (h5)<|an (M9 hi (by omega))<|an (hI)<|an (M9 hi (by omega)) trivial) (by kernel_rfl) hL
end
def a2Z (s:St) (o:Op):Prop:=∃ j:Nat,o.th=j∧j<s.th.length∧(o.en<0∧(gth s.th j).st≠0∨0≤o.be∧o.be<o.en∧1≤o.re)
theorem Zd {s:St} {O:List Op} {e:Int} (hm:O.length≤10000) (hf:∀ o∈O,a2Z s o) (hp:O.Pairwise fun o p=>o.be<p.be∧(p.th=o.th→0≤o.en∧o.en<p.be)):∀ (d i:Nat),O.length - i=d→i≤O.length →
  qL12 (Dp s O e i) (.exit 0) (Dp s O e O.length)
 | 0,i,hd,hi=>by
  have:i=O.length:=by omega
  subst this
  exact o5 mixed (fuel:=9) (n:=3) (keep:=[5,6,7,8,9]) (ext:=[]) (im:=[0]) (orc:=[.bool false]) (an (aG O.length) trivial) (by intro e;cases e) (by kernel_rfl)
 | d+1,i,hd,hi' => by
  have hi:i<O.length:=by omega
  have hL:=Zd (e:=e) hm hf hp d (i+1) (by omega) (by omega)
  have hI:=Ym (s:=s) (e:=e) hi hm hp (O.length - (i+1)) (i+1) rfl (by omega) (by omega)
  have ho:=ixO hi
  obtain ⟨j,f1,f2,f3⟩:=hf _ (List.getElem_mem hi)
  have g1:decide (O[i].th<0)=false:=by simp;omega
  have g2:decide ((s.th.length:Int)≤O[i].th)=false:=by simp;omega
  by_cases h0:i=0
  ·have h0' : decide (0<(i:Int))=false:=by simp;omega
   rcases f3 with ⟨a,b⟩ | ⟨a,b,c⟩
   ·exact a2m hi hm ho g1 g2 hI hL h0' (by simp;omega) (by simpa using a) (by rw [f1];exact ixT f2) (by simpa using b)
   ·exact a2g hi hm ho g1 g2 hI hL h0' (by simp;omega) (by simp;omega) (by simp;omega) (by simp;omega)
  ·have h0' : decide (0<(i:Int))=true:=by simp;omega
   have hj:i - 1<O.length:=by omega
   have hq:=ixO hj
   rw [show (((i - 1:Nat)):Int)=(i:Int) - 1 by omega] at hq
   have h:=(List.pairwise_iff_getElem.1 hp (i - 1) i hj hi (by omega)).1
   rcases f3 with ⟨a,b⟩ | ⟨a,b,c⟩
   ·exact a2y hi hm ho g1 g2 hI hL h0' hq (by simp;omega) (by simp;omega) (by simpa using a) (by rw [f1];exact ixT f2) (by simpa using b)
   ·exact a2V hi hm ho g1 g2 hI hL h0' hq (by simp;omega) (by simp;omega) (by simp;omega) (by simp;omega) (by simp;omega)
theorem Vw {c:Cf} {raw:List (List Int)} (hm:raw.length≤100):∀ o∈opsOf c raw,a2Z (dO c raw) o:=by
 unfold opsOf
 split
 ·next h =>
  intro o ho
  rw [Ki h]
  obtain ⟨j,a,b,c1,-,d⟩:=Hl (dU h) (by omega) ho
  refine ⟨j,a,by rw [Qw raw (dU h) (by omega)];exact b,?_⟩
  rcases d with ⟨d,-,-,-,e,-⟩ | ⟨d,-,e,-⟩
  ·exact .inl ⟨d,e⟩
  ·exact .inr ⟨c1,d,e⟩
 ·intro o ho;cases ho
theorem ZA {c:Cf} {raw:List (List Int)} (hm:raw.length≤100):(opsOf c raw).Pairwise fun o p=>o.be<p.be∧(p.th=o.th→0≤o.en∧o.en<p.be):=by
 unfold opsOf
 split
 ·next h=>exact UA raw 0 (dU h) (by omega)
 ·exact .nil
theorem Ig (hlin:∀ {c:Cf} {raw:List (List Int)},c.ok→(∀ l∈raw,∀ n∈l,In64 n)→raw.length≤100→AC Tryz.prog 19 [cfT c,eG raw] (.bool (oD c raw))) {c:Cf} {raw:List (List Int)} (hc:c.ok) (hr:∀ l∈raw,∀ n∈l,In64 n) (hm:raw.length≤maxLen):AC Tryz.prog 6 [cfT c,eG raw] (.bool true):=by
 cases hF:CF raw 60
 ·exact d9 mixed (fuel:=9) (n:=3) (ext:=[8,9,15,23]) (orc:=[vD true,vD false]) (an (U4 hlin)<|an (Z4 hF hm) trivial) (by kernel_rfl)
 ·have hl:=vK (m:=60) hF
  obtain ⟨t1,t2⟩:=rO hc hr (by omega)
  have hp:=CP hc hr (by omega)
  have hq:=Ey hc hr (show raw.length≤900 by omega)
  have h1:=Zd (s:=dO c raw) (O:=opsOf c raw) (e:=wZ c) (by omega) (Vw (by omega)) (ZA (by omega)) (opsOf c raw).length 0 rfl (by omega)
  have he:((wZ c==0)=true)∨((wZ c==0)=false∧(((opsOf c raw).length:Int)==0)=true):=by
   unfold wZ opsOf
   cases cfB c
   ·exact .inr ⟨rfl,rfl⟩
   ·exact .inl rfl
  generalize wZ c=e at hq h1 he
  generalize dO c raw=s at hq h1
  generalize opsOf c raw=O at hp h1 he
  rcases he with he | ⟨he,hz⟩
  ·exact d9 mixed (fuel:=9) (n:=3) (ext:=[8,9,15,23]) (orc:=[vD true,vD true,jR O,.tuple #[stT s,.int .i64 e],oL [1] [5,6,7,8,9] 0 (o1T O e O.length) [bS s],.bool true])
    (an (U4 hlin)<|an (Z4 hF hm)<|an hp<|an hq<|an h1<|an he trivial) (by kernel_rfl)
  ·exact hz ▸ d9 mixed (fuel:=9) (n:=3) (ext:=[8,9,15,23]) (g:=6) (args:=[cfT c,eG raw]) (r:=.bool ((O.length:Int)==0)) (orc:=[vD true,vD true,jR O,.tuple #[stT s,.int .i64 e],oL [1] [5,6,7,8,9] 0 (o1T O e O.length) [bS s],.bool false])
    (an (U4 hlin)<|an (Z4 hF hm)<|an hp<|an hq<|an h1<|an he trivial) (by kernel_rfl)
end
section
open Go.ChangeShapes Go.WideShapes Go.ChangeAt Go.RowKit
theorem CJ (c:Cf) (hc:c.ok) (raw:List Rw) (rawv:Value) (hraw:∀ x∈raw,x.ok) (hrawm:raw.length≤maxLen) (w:World) (hraws:RrAt w raw rawv) :
  Calls Tryz.prog 6 #[.agg c.cells.toArray,rawv] w fun e w' => e = .returned (.bool true)∧Kept w w' := by
 refine BS (Ig wh (c:=c) (raw:=raw.map Rw.l) hc (Lf hraw) (by simpa using hrawm)) (X7.2 ?_)
 exact ⟨_,_,rfl,ng.2 rfl,_,_,rfl,ww hraws,rfl⟩
theorem xJ (os:Os) (started:os.Started) (H:Type) (enc:TypeId×Value→H) :
  ReturnsInHanded {} Tryz.checked os 6 .any (Rows.histOpsSpec.pre6 enc Tryz.prog Tryz.f6 Rows.histOpsRow.domain false) (Rows.histOpsSpec.post enc Tryz.prog Tryz.f6 false true false false):=by
 refine returnsInHanded_of_change (C:=Tryz.checked) own started (by kernel_rfl) Tryz.func6
  (ChangeSpec.witness6 (enc:=enc) (C:=Tryz.checked) false ⟨#[],#[.agg Cf.zero.toArray,.slice none 0 0],[]⟩ 8 (by kernel_rfl) (by kernel_rfl) (by kernel_rfl) (by kernel_rfl)) ?_
 intro W base args ds gs before hval0 hW hcnd _
 have hval:∀ (j:Nat) t v,Tryz.f6.params[j]? = some t→args[j]? = some v→Value.okWide Tryz.prog W .any base t v:=hval0
 have hW' := hW
 obtain ⟨p,q,hA0,hV,rfl,hfz,hnd⟩:=hW
 have hA:DataW.TrodAll enc Tryz.prog W 0 (fun _=>true) true Tryz.f6.params.toList args.toList ds p:=hA0
 rw [Tryz.params6] at hA hval
 obtain ⟨v0,vs0,d0,ds0,p0,q0,hargs,rfl,rfl,h0,r0⟩:=trodAll_cons hA
 obtain ⟨v1,vs1,d1,ds1,p1,q1,rfl,rfl,rfl,h1,r1⟩:=trodAll_cons r0
 obtain ⟨rfl,rfl,rfl⟩:=trodAll_nil r1
 obtain rfl:args=#[v0,v1]:=by cases args;simp_all
 obtain ⟨rfl,rfl⟩:=trodVars_none hV
 obtain ⟨ccs,rfl,crd⟩:=iL (g:=9) (l:=Cf.shape) Tryz.underlying23 (by kernel_rfl) (hval 0 23 v0 rfl rfl) h0
 obtain ⟨c,rfl,cok⟩:=Cf.of_read crd
 obtain ⟨raw,rawsl,rawok,rawml⟩:=vI (open_row (g:=9) (l:=Rw.shape) Tryz.underlying24 (by kernel_rfl) (hval 1 24 v1 rfl rfl) h1)
 clear hA0 hval0
 refine (CJ c cok raw v1 rawok rawml W rawsl).mono fun e W' ⟨he,hg⟩=>?_
 subst he
 exact ⟨_,rfl,ql laid hW' rfl (by kernel_rfl) rfl Tryz.underlying4 rfl hg⟩
theorem histOps_holds:Rows.HistOpsSaid :=
 OpenClaim.holds_of_wide 6 Tryz.f6 rfl rfl rfl rfl rfl rfl rfl ⟨rfl,rfl,rfl,rfl,rfl⟩ rfl rfl rfl rfl rfl (by kernel_rfl) Tryz.func6 (by kernel_rfl)
  (of_decide_eq_true (by kernel_rfl)) (by unfold Func.isWrapper;rw [if_neg (of_decide_eq_false (by kernel_rfl))];exact ⟨rfl,rfl⟩)
  (fun os started H enc _=>xJ os started H enc)
end
end Go.Proofs.YtfogkllejkmpdaaGreat
