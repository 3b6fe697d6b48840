/- The statement HistPairs of the landed program: true of every configuration and every script. -/
import Derived.Test.YtfogkllejkmpdaaGreatZf19
import Derived.Test.YtfogkllejkmpdaaGreatZf11
import Derived.Test.YtfogkllejkmpdaaGreatZf18
namespace Go.Proofs.YtfogkllejkmpdaaGreat
set_option linter.unusedVariables false
set_option linter.unusedSimpArgs false
set_option maxRecDepth 100000
section
open Go.ChangeShapes Go.WideShapes Go.ChangeAt Go.RowKit
section
variable {o:Op} {l:List En} {m:List Int} {i:Nat} {e:En} {a:Int} {x:Exit} {S:Sg}
variable (hi:i<l.length) (hj:i<m.length) (hm:l.length≤10000) (he:IxP ((l.map enT).toArray) (i:Int) (enT e)) (ha:IxP ((m.map (Value.int .i64 ·)).toArray) (i:Int) (.int .i64 a))
include hi hj hm he ha
end
section
variable {l:List En} {m:List Int} {O:List Op} {i k:Nat} {x:Exit} {S:Sg}
variable (hk:k<O.length) (hi:i<O.length) (hm:O.length≤10000)
include hk hi hm
end
theorem rO {c:Cf} {raw:List (List Int)} (hc:c.ok) (hr:∀ l∈raw,∀ n∈l,In64 n) (hm:raw.length≤100):(O3 c raw).length≤raw.length∧(opsOf c raw).length≤raw.length:=by
 constructor
 ·have h1:=sW (c:=c) (raw:=raw) (by omega)
  have h2:(dO c raw).lg.length≤raw.length:=by
   unfold dO
   cases hcf:cfB c
   ·exact Nat.zero_le _
   ·rw [if_pos rfl];exact (qE hc hcf hr (by omega)).lg
  rw [← h1] at h2
  unfold U9 at h2
  rwa [List.length_map] at h2
 ·unfold opsOf
  split
  ·exact qz raw (E5 c) 0
  ·simp
end
section
open Go.ChangeShapes Go.WideShapes Go.ChangeAt Go.RowKit
def o1T (O:List Op) (e i:Int):List (Nat×Value):=[(5,vD true),(6,jR O),(7,pt 0),(8,.int .i64 e),(9,.int .i64 i)]
def Dp (s:St) (O:List Op) (e i:Int):Sg:=⟨mkT 135 (o1T O e i),[bS s]⟩
def o2T (O:List Op) (e i k:Int):List (Nat×Value):=o1T O e i++[(10,pt 1),(11,.int .i64 k)]
def xD (s:St) (o:Op) (O:List Op) (e i k:Int):Sg:=⟨mkT 135 (o2T O e i k),[bS s,bO o]⟩
section
variable {s:St} {O:List Op} {e:Int} {i k:Nat} {o p:Op} {x:Exit} {S:Sg}
variable (hk:k<O.length) (hm:O.length≤10000) (hp:IxP ((O.map opT).toArray) (k:Int) (opT p)) (hL:j4 Tryz.prog (j3 Tryz.prog 6 1) (xD s o O e i (k+1)) x S)
include hk hm hp hL
end
section
variable {s:St} {O:List Op} {e:Int} {i:Nat} {o p:Op} {t:Th} {x:Exit} {S:Sg}
variable (hi:i<O.length) (hm:O.length≤10000) (ho:IxP ((O.map opT).toArray) (i:Int) (opT o)) (g1:decide (o.th<0)=false) (g2:decide ((s.th.length:Int)≤o.th)=false)
variable (hI:j4 Tryz.prog (j3 Tryz.prog 6 1) (xD s o O e i (i+1)) (.exit 2) (xD s o O e i O.length)) (hL:j4 Tryz.prog (j3 Tryz.prog 6 0) (Dp s O e (i+1)) x S)
include hi hm ho g1 g2 hI hL
end
end
abbrev qL9:=j4 Tryz.prog (j3 Tryz.prog 7 0)
abbrev qL15:=j4 Tryz.prog (j3 Tryz.prog 7 1)
section
open Go.ChangeShapes Go.WideShapes Go.ChangeAt Go.RowKit
theorem QS (es:List En):(inL es).length≤es.length:=List.length_filterMap_le _ _
theorem a1o:st0.ok:=by
 constructor <;> simp [st0,Cf.ok,In64,cf0,maxLen]
theorem a2N (l:List Int) {k:Nat} (h:k≤l.length):Eo (l.drop k).length ((l.drop k).map (Value.int .i64 ·)) l.length (l.map (Value.int .i64 ·)) k l.length:=by
 refine ⟨by omega,by omega,by omega,by simp;omega,?_⟩
 rw [Int.toNat_natCast,← List.map_drop,List.take_of_length_le (by simp)]
def q1T (L:List En) (ps:List (Nat×Nat)) (e:Int) (acc:List Int) (i:Int):List (Nat×Value):=[(5,vD true),(6,K5 L),(8,kX ps),(9,vD true),(10,pt 0),(11,.int .i64 e),(12,a3j 1 acc),(13,.int .i64 i)]
def zq (s:St) (L:List En) (ps:List (Nat×Nat)) (e:Int) (acc:List Int) (i:Int):Sg:=⟨mkT 183 (q1T L ps e acc i),bS s::a1Z acc⟩
def q2T (L:List En) (ps:List (Nat×Nat)) (e:Int) (acc:List Int) (i:Int):List (Nat×Value):=[(5,vD true),(6,K5 L),(8,kX ps),(9,vD true),(10,pt 0),(11,.int .i64 e),(12,a3j 1 acc),(14,.int .i64 i)]
def IK (s:St) (L:List En) (ps:List (Nat×Nat)) (e:Int) (acc:List Int) (i:Int):Sg:=⟨mkT 183 (q2T L ps e acc i),bS s::a1Z acc⟩
section
variable {s:St} {L:List En} {ps:List (Nat×Nat)} {E:Int} {acc:List Int} {i:Nat} {e:En} {x:Exit} {S:Sg}
variable (hi:i<L.length) (hm:L.length≤10000) (he:IxP ((L.map enT).toArray) (i:Int) (enT e))
include hi hm he
theorem a2O (h1:F5 e.ki=false) (hL:qL9 (zq s L ps E acc (i+1)) x S):qL9 (zq s L ps E acc i) x S:=by
 cases acc with
 | nil=>exact j5 mixed (fuel:=9) (n:=3) (keep:=[5,6,8,9,10,11,12,13]) (ext:=[24]) (im:=[0]) (orc:=[.bool true,enT e,vD false]) (an (K8 hi)<|an he<|an (h1 ▸ dN e.ki)<|an (M9 hi (by omega)) trivial) (by kernel_rfl) hL
 | cons a l=>exact j5 mixed (fuel:=9) (n:=3) (keep:=[5,6,8,9,10,11,12,13]) (ext:=[24]) (im:=[0,1]) (orc:=[.bool true,enT e,vD false]) (an (K8 hi)<|an he<|an (h1 ▸ dN e.ki)<|an (M9 hi (by omega)) trivial) (by kernel_rfl) hL
theorem a0A (h1:F5 e.ki=true) (h2:(e.re==1)=false) (hL:qL9 (zq s L ps E acc (i+1)) x S):qL9 (zq s L ps E acc i) x S:=by
 cases acc with
 | nil=>exact j5 mixed (fuel:=9) (n:=3) (keep:=[5,6,8,9,10,11,12,13]) (ext:=[24]) (im:=[0]) (orc:=[.bool true,enT e,vD true,enT e,.bool false]) (an (K8 hi)<|an he<|an (h1 ▸ dN e.ki)<|an he<|an h2<|an (M9 hi (by omega)) trivial) (by kernel_rfl) hL
 | cons a l=>exact j5 mixed (fuel:=9) (n:=3) (keep:=[5,6,8,9,10,11,12,13]) (ext:=[24]) (im:=[0,1]) (orc:=[.bool true,enT e,vD true,enT e,.bool false]) (an (K8 hi)<|an he<|an (h1 ▸ dN e.ki)<|an he<|an h2<|an (M9 hi (by omega)) trivial) (by kernel_rfl) hL
theorem a2J (ha:acc.length≤10000) (h1:F5 e.ki=true) (h2:(e.re==1)=true) (hL:qL9 (zq s L ps E (acc++[e.va]) (i+1)) x S):qL9 (zq s L ps E acc i) x S:=by
 cases acc with
 | nil=>exact j5 mixed (fuel:=9) (n:=3) (keep:=[5,6,8,9,10,11,12,13]) (ext:=[24]) (im:=[0,2]) (orc:=[.bool true,enT e,vD true,enT e,.bool true,enT e,l5 ([]++[e.va])]) (an (K8 hi)<|an he<|an (h1 ▸ dN e.ki)<|an he<|an h2<|an he<|an (rfl:(1:Nat)=1)<|an (N8 [e.va])<|an (gm (f:=(Value.int .i64 ·)) e.va)<|an (M9 hi (by omega)) trivial) (by kernel_rfl) hL
 | cons a l=>exact j5 mixed (fuel:=9) (n:=3) (keep:=[5,6,8,9,10,11,12,13]) (ext:=[24]) (im:=[0,3]) (orc:=[.bool true,enT e,vD true,enT e,.bool true,enT e,l5 ((a::l)++[e.va])]) (an (K8 hi)<|an he<|an (h1 ▸ dN e.ki)<|an he<|an h2<|an he<|an (rfl:(1:Nat)=1)<|an (N8 [e.va])<|an (show (a::l).length=((a::l).map (Value.int .i64 ·)).length by simp)<|an (bU (f:=(Value.int .i64 ·)) (a::l) e.va (by omega))<|an (M9 hi (by omega)) trivial) (by kernel_rfl) hL
end
theorem PM {s:St} {L:List En} {ps:List (Nat×Nat)} {E:Int} (hm:L.length≤10000):∀ (d i:Nat),L.length - i=d→i≤L.length→qL9 (zq s L ps E (inL (L.take i)) i) (.exit 0) (zq s L ps E (inL L) L.length)
 | 0,i,hd,hi=>by
  have:i=L.length:=by omega
  subst this
  rw [List.take_length]
  generalize inL L=acc
  cases acc with
  | nil=>exact o5 mixed (fuel:=9) (n:=3) (keep:=[5,6,8,9,10,11,12,13]) (ext:=[24]) (im:=[0]) (orc:=[.bool false]) (an (aG L.length) trivial) (by intro e;cases e) (by kernel_rfl)
  | cons a l=>exact o5 mixed (fuel:=9) (n:=3) (keep:=[5,6,8,9,10,11,12,13]) (ext:=[24]) (im:=[0,1]) (orc:=[.bool false]) (an (aG L.length) trivial) (by intro e;cases e) (by kernel_rfl)
 | d+1,i,hd,hi' => by
  have hi:i<L.length:=by omega
  have ih:=PM (s:=s) (ps:=ps) (E:=E) hm d (i+1) (by omega) (by omega)
  have he:IxP ((L.map enT).toArray) (i:Int) (enT L[i]):=⟨by omega,by simp [hi]⟩
  have hl:=QS (L.take i)
  rw [List.length_take] at hl
  rw [List.take_succ_eq_append_getElem hi,Pg] at ih
  generalize inL (L.take i)=acc at ih hl ⊢
  generalize inL L=all at ih ⊢
  cases h1:F5 L[i].ki
  ·rw [h1,Bool.false_and,if_neg (by decide),List.append_nil] at ih
   exact a2O hi hm he h1 ih
  ·cases h2:L[i].re==1
   ·rw [h1,show decide (L[i].re=1)=false by simpa using h2,Bool.and_false,if_neg (by decide),List.append_nil] at ih
    exact a0A hi hm he h1 h2 ih
   ·rw [h1,show decide (L[i].re=1)=true by simpa using h2,Bool.and_true,if_pos rfl] at ih
    exact a2J hi hm he (by omega) h1 h2 ih
section
variable {s:St} {L:List En} {ps:List (Nat×Nat)} {E:Int} {acc:List Int} {i:Nat} {e f:En} {p q:Nat×Nat} {x:Exit} {S:Sg}
variable (hi:i<ps.length) (hm:ps.length≤10000) (hp:IxP ((ps.map twT).toArray) (i:Int) (twT p)) (he:IxP ((L.map enT).toArray) (p.1:Int) (enT e)) (hf:IxP ((L.map enT).toArray) (p.2:Int) (enT f))
variable (g1:decide ((p.2:Int)≤p.1)=false) (g2:decide ((p.1:Int)<0)=false) (g3:decide ((L.length:Int)≤p.2)=false) (g4:(e.va != f.go)=false)
variable (hL:qL15 (IK s L ps E acc (i+1)) x S)
include hi hm hp he hf g1 g2 g3 g4 hL
theorem Ru (h0:decide (0<(i:Int))=false):qL15 (IK s L ps E acc i) x S:=by
 cases acc with
 | nil=>exact j5 mixed (fuel:=9) (n:=3) (keep:=[5,6,8,9,10,11,12,14]) (ext:=[]) (im:=[0]) (orc:=[.bool true,twT p,twT p,.bool false,twT p,.bool false,twT p,.bool false,twT p,enT e,twT p,enT f,.bool false,.bool false]) (an (K8 hi)<|an hp<|an hp<|an g1<|an hp<|an g2<|an hp<|an g3<|an hp<|an he<|an hp<|an hf<|an g4<|an h0<|an (M9 hi (by omega)) trivial) (by kernel_rfl) hL
 | cons a l=>exact j5 mixed (fuel:=9) (n:=3) (keep:=[5,6,8,9,10,11,12,14]) (ext:=[]) (im:=[0,1]) (orc:=[.bool true,twT p,twT p,.bool false,twT p,.bool false,twT p,.bool false,twT p,enT e,twT p,enT f,.bool false,.bool false]) (an (K8 hi)<|an hp<|an hp<|an g1<|an hp<|an g2<|an hp<|an g3<|an hp<|an he<|an hp<|an hf<|an g4<|an h0<|an (M9 hi (by omega)) trivial) (by kernel_rfl) hL
theorem XW (h0:decide (0<(i:Int))=true) (hq:IxP ((ps.map twT).toArray) ((i:Int) - 1) (twT q)) (k1:decide ((p.1:Int)≤q.1)=false) (k2:decide ((p.2:Int)≤q.2)=false):qL15 (IK s L ps E acc i) x S:=by
 have d1:In64 ((i:Int) - 1):=by constructor <;> omega
 cases acc with
 | nil=>exact j5 mixed (fuel:=9) (n:=3) (keep:=[5,6,8,9,10,11,12,14]) (ext:=[]) (im:=[0]) (orc:=[.bool true,twT p,twT p,.bool false,twT p,.bool false,twT p,.bool false,twT p,enT e,twT p,enT f,.bool false,.bool true,twT p,twT q,.bool false,twT p,twT q,.bool false]) (an (K8 hi)<|an hp<|an hp<|an g1<|an hp<|an g2<|an hp<|an g3<|an hp<|an he<|an hp<|an hf<|an g4<|an h0<|an hp<|an d1<|an hq<|an k1<|an hp<|an d1<|an hq<|an k2<|an (M9 hi (by omega)) trivial) (by kernel_rfl) hL
 | cons a l=>exact j5 mixed (fuel:=9) (n:=3) (keep:=[5,6,8,9,10,11,12,14]) (ext:=[]) (im:=[0,1]) (orc:=[.bool true,twT p,twT p,.bool false,twT p,.bool false,twT p,.bool false,twT p,enT e,twT p,enT f,.bool false,.bool true,twT p,twT q,.bool false,twT p,twT q,.bool false]) (an (K8 hi)<|an hp<|an hp<|an g1<|an hp<|an g2<|an hp<|an g3<|an hp<|an he<|an hp<|an hf<|an g4<|an h0<|an hp<|an d1<|an hq<|an k1<|an hp<|an d1<|an hq<|an k2<|an (M9 hi (by omega)) trivial) (by kernel_rfl) hL
end
structure PsOk (L:List En) (ps:List (Nat×Nat)) (acc:List Int):Prop where
 one:∀ x∈ps,x.1<x.2∧x.2<L.length∧∃ e f,L[x.1]? = some e∧L[x.2]? = some f∧e.va=f.go
 up:ps.Pairwise fun x y=>x.1<y.1∧x.2<y.2
 len:ps.length≤acc.length
theorem Pv {s:St} {L:List En} {ps:List (Nat×Nat)} {E:Int} {acc:List Int} (hm:ps.length≤10000) (h:PsOk L ps acc):∀ (d i:Nat),ps.length - i=d→i≤ps.length→qL15 (IK s L ps E acc i) (.exit 2) (IK s L ps E acc ps.length)
 | 0,i,hd,hi=>by
  have:i=ps.length:=by omega
  subst this
  cases acc with
  | nil=>exact o5 mixed (fuel:=9) (n:=3) (keep:=[5,6,8,9,10,11,12,14]) (ext:=[]) (im:=[0]) (orc:=[.bool false]) (an (aG ps.length) trivial) (by intro e;cases e) (by kernel_rfl)
  | cons a l=>exact o5 mixed (fuel:=9) (n:=3) (keep:=[5,6,8,9,10,11,12,14]) (ext:=[]) (im:=[0,1]) (orc:=[.bool false]) (an (aG ps.length) trivial) (by intro e;cases e) (by kernel_rfl)
 | d+1,i,hd,hi' => by
  have hi:i<ps.length:=by omega
  have ih:=Pv (s:=s) (E:=E) hm h d (i+1) (by omega) (by omega)
  have hp:=VT hi
  obtain ⟨c1,c2,e,f,c3,c4,c5⟩:=h.one _ (List.getElem_mem hi)
  have he:IxP ((L.map enT).toArray) (ps[i].1:Int) (enT e):=⟨by omega,by simp [c3]⟩
  have hf:IxP ((L.map enT).toArray) (ps[i].2:Int) (enT f):=⟨by omega,by simp [c4]⟩
  have g1:decide ((ps[i].2:Int)≤ps[i].1)=false:=by simp;omega
  have g2:decide ((ps[i].1:Int)<0)=false:=by simp
  have g3:decide ((L.length:Int)≤ps[i].2)=false:=by simp;omega
  have g4:(e.va != f.go)=false:=by simp [c5]
  by_cases h0:i=0
  ·exact Ru hi hm hp he hf g1 g2 g3 g4 ih (by simp;omega)
  ·have hj:i - 1<ps.length:=by omega
   have hq:=VT hj
   rw [show (((i - 1:Nat)):Int)=(i:Int) - 1 by omega] at hq
   have hlt:=List.pairwise_iff_getElem.1 h.up (i - 1) i hj hi (by omega)
   exact XW hi hm hp he hf g1 g2 g3 g4 ih (by simp;omega) hq (by simp;omega) (by simp;omega)
theorem QY (hlin:∀ {c:Cf} {raw:List (List Int)},c.ok→(∀ l∈raw,∀ n∈l,In64 n)→raw.length≤100→AC Tryz.prog 19 [cfT c,eG raw] (.bool (oD c raw))) {c:Cf} {raw:List (List Int)} {s:St} {L:List En} {at_:List Int} {ps:List (Nat×Nat)} {E:Int} {q:Qu} {acc:List Int} (hm:raw.length≤maxLen) (hF:CF raw 60=true)
  (ho:AC Tryz.prog 10 [cfT c,eG raw] (.tuple #[K5 L,l5 at_])) (hp:AC Tryz.prog 12 [K5 L] (.tuple #[kX ps,.bool true]))
  (hq:AC Tryz.prog 23 [cfT c,eG raw] (.tuple #[stT s,.int .i64 E])) (hQ:AC Tryz.prog 25 [stT s] (quT q)) (hl:acc.length≤10000) (hk:ps.length≤acc.length)
  (h1:qL9 (zq s L ps E [] 0) (.exit 0) (zq s L ps E acc L.length)) (h2:qL15 (IK s L ps E acc 0) (.exit 2) (IK s L ps E acc ps.length))
  (he:(E != 0)=true∧((L.length:Int)==0)=true∨(E != 0)=false∧q.vals=acc.drop ps.length):AC Tryz.prog 7 [cfT c,eG raw] (.bool true):=by
 have hle:decide ((acc.length:Int)<ps.length)=false:=by simp;omega
 cases acc with
 | nil =>
  rcases he with ⟨e1,e2⟩ | ⟨e1,e2⟩
  ·exact d9 mixed (fuel:=9) (n:=3) (ext:=[8,9,10,12,23,25,18]) (orc:=[vD true,vD true,.tuple #[K5 L,l5 at_],.tuple #[kX ps,vD true],.tuple #[stT s,.int .i64 E],oL [1] [5,6,8,9,10,11,12,13] 0 (q1T L ps E [] L.length) [bS s],oL [2] [5,6,8,9,10,11,12,14] 2 (q2T L ps E [] ps.length) [bS s],.bool false,quT q,.bool true,.bool true]) (an (U4 hlin)<|an (Z4 hF hm)<|an ho<|an hp<|an hq<|an h1<|an h2<|an hle<|an hQ<|an e1<|an e2 trivial) (by kernel_rfl)
  ·have hI:AC Tryz.prog 18 [l5 q.vals,l5 (([]:List Int).drop ps.length)] (.bool true):=by
    rw [e2];exact wN _ (by rw [List.length_drop];omega)
   exact d9 mixed (fuel:=9) (n:=3) (ext:=[8,9,10,12,23,25,18]) (orc:=[vD true,vD true,.tuple #[K5 L,l5 at_],.tuple #[kX ps,vD true],.tuple #[stT s,.int .i64 E],oL [1] [5,6,8,9,10,11,12,13] 0 (q1T L ps E [] L.length) [bS s],oL [2] [5,6,8,9,10,11,12,14] 2 (q2T L ps E [] ps.length) [bS s],.bool false,quT q,.bool false,l5 (([]:List Int).drop ps.length),vD true]) (an (U4 hlin)<|an (Z4 hF hm)<|an ho<|an hp<|an hq<|an h1<|an h2<|an hle<|an hQ<|an e1<|an (a2N ([]:List Int) hk)<|an (N8 ([]:List Int))<|an hI trivial) (by kernel_rfl)
 | cons a l =>
  rcases he with ⟨e1,e2⟩ | ⟨e1,e2⟩
  ·exact d9 mixed (fuel:=9) (n:=3) (ext:=[8,9,10,12,23,25,18]) (orc:=[vD true,vD true,.tuple #[K5 L,l5 at_],.tuple #[kX ps,vD true],.tuple #[stT s,.int .i64 E],oL [1] [5,6,8,9,10,11,12,13] 0 (q1T L ps E (a::l) L.length) [bS s,bIx (a::l)],oL [2,3] [5,6,8,9,10,11,12,14] 2 (q2T L ps E (a::l) ps.length) [bS s,bIx (a::l)],.bool false,quT q,.bool true,.bool true]) (an (U4 hlin)<|an (Z4 hF hm)<|an ho<|an hp<|an hq<|an h1<|an h2<|an hle<|an hQ<|an e1<|an e2 trivial) (by kernel_rfl)
  ·have hI:AC Tryz.prog 18 [l5 q.vals,l5 ((a::l).drop ps.length)] (.bool true):=by
    rw [e2];exact wN _ (by rw [List.length_drop];omega)
   exact d9 mixed (fuel:=9) (n:=3) (ext:=[8,9,10,12,23,25,18]) (orc:=[vD true,vD true,.tuple #[K5 L,l5 at_],.tuple #[kX ps,vD true],.tuple #[stT s,.int .i64 E],oL [1] [5,6,8,9,10,11,12,13] 0 (q1T L ps E (a::l) L.length) [bS s,bIx (a::l)],oL [2,3] [5,6,8,9,10,11,12,14] 2 (q2T L ps E (a::l) ps.length) [bS s,bIx (a::l)],.bool false,quT q,.bool false,l5 ((a::l).drop ps.length),vD true]) (an (U4 hlin)<|an (Z4 hF hm)<|an ho<|an hp<|an hq<|an h1<|an h2<|an hle<|an hQ<|an e1<|an (l7 (f:=(Value.int .i64 ·)) (a::l))<|an (a2N (a::l) hk)<|an (N8 (a::l))<|an hI trivial) (by kernel_rfl)
theorem BL (hlin:∀ {c:Cf} {raw:List (List Int)},c.ok→(∀ l∈raw,∀ n∈l,In64 n)→raw.length≤100→AC Tryz.prog 19 [cfT c,eG raw] (.bool (oD c raw))) {c:Cf} {raw:List (List Int)} (hc:c.ok) (hr:∀ l∈raw,∀ n∈l,In64 n) (hm:raw.length≤maxLen):AC Tryz.prog 7 [cfT c,eG raw] (.bool true):=by
 cases hF:CF raw 60
 ·exact d9 mixed (fuel:=9) (n:=3) (ext:=[8,9,10,12,23,25,18]) (orc:=[vD true,vD false]) (an (U4 hlin)<|an (Z4 hF hm) trivial) (by kernel_rfl)
 ·have hl:=vK (m:=60) hF
  obtain ⟨t1,-⟩:=rO hc hr (show raw.length≤100 by omega)
  have hLl:(U9 c raw).length≤10000:=by unfold U9;rw [List.length_map];omega
  have ho:=tH hc hr (show raw.length≤100 by omega)
  have hq:=Ey hc hr (show raw.length≤900 by omega)
  have hp:=sO (l:=U9 c raw) hLl
  have hLg:=sW (c:=c) (raw:=raw) (by omega)
  have hal:=QS (U9 c raw)
  cases hcf:cfB c
  ·have e0:dO c raw=st0:=by unfold dO;rw [if_neg (by simp [hcf])]
   have e1:U9 c raw=[]:=by rw [hLg,e0];rfl
   have e2:wZ c=20:=by unfold wZ;rw [if_neg (by simp [hcf])]
   rw [e1] at ho hp
   rw [e0,e2] at hq
   have h1:=PM (s:=st0) (L:=[]) (ps:=[]) (E:=20) (by decide) 0 0 rfl (by decide)
   have h2:=Pv (s:=st0) (L:=[]) (ps:=[]) (E:=20) (acc:=[]) (by decide) ⟨fun x hx=>(by cases hx),List.Pairwise.nil,by decide⟩ 0 0 rfl (by decide)
   exact QY hlin (ps:=[]) (acc:=[]) hm hF ho hp hq (tC rfl a1o) (by decide) (by decide) h1 h2 (.inl ⟨rfl,rfl⟩)
  ·obtain ⟨ps,r1,-,r3,r4,r5,r6⟩:=MQ hcf (raw:=raw) (by omega)
   have e0:=Ki hcf raw
   have e2:wZ c=0:=by unfold wZ;rw [if_pos hcf]
   rw [← e0,← hLg] at r1 r3 r5
   rw [← e0] at r6
   rw [show (dO c raw).lg=U9 c raw from hLg.symm] at r6
   rw [show uy (U9 c raw)=ps by unfold uy;rw [r1];rfl,show tL (U9 c raw)=true by unfold tL;rw [r1];rfl] at hp
   rw [e2] at hq
   have hok:(dO c raw).ok:=by rw [e0];exact (qE hc hcf hr (by omega)).ok
   have hps:PsOk (U9 c raw) ps (inL (U9 c raw)):=⟨fun x hx=>let ⟨a,b,e,f,c3,c4,_,_,c5⟩:=r3 x hx;⟨a,b,e,f,c3,c4,c5⟩,r4,r5⟩
   have h1:=PM (s:=dO c raw) (L:=U9 c raw) (ps:=ps) (E:=0) hLl (U9 c raw).length 0 rfl (by omega)
   have h2:=Pv (s:=dO c raw) (L:=U9 c raw) (ps:=ps) (E:=0) (acc:=inL (U9 c raw)) (by omega) hps ps.length 0 rfl (by omega)
   exact QY hlin hm hF ho hp hq (tC rfl hok) (by omega) r5 h1 h2 (.inr ⟨rfl,r6⟩)
end
section
open Go.ChangeShapes Go.WideShapes Go.ChangeAt Go.RowKit
theorem yo (c:Cf) (hc:c.ok) (raw:List Rw) (rawv:Value) (hraw:∀ x∈raw,x.ok) (hrawm:raw.length≤maxLen) (w:World) (hraws:RrAt w raw rawv) :
  Calls Tryz.prog 7 #[.agg c.cells.toArray,rawv] w fun e w' => e = .returned (.bool true)∧Kept w w' := by
 refine BS (BL wh (c:=c) (raw:=raw.map Rw.l) hc (Lf hraw) (by simpa using hrawm)) (X7.2 ?_)
 exact ⟨_,_,rfl,ng.2 rfl,_,_,rfl,ww hraws,rfl⟩
theorem tq (os:Os) (started:os.Started) (H:Type) (enc:TypeId×Value→H) :
  ReturnsInHanded {} Tryz.checked os 7 .any (Rows.histPairsSpec.pre6 enc Tryz.prog Tryz.f7 Rows.histPairsRow.domain false) (Rows.histPairsSpec.post enc Tryz.prog Tryz.f7 false true false false):=by
 refine returnsInHanded_of_change (C:=Tryz.checked) own started (by kernel_rfl) Tryz.func7
  (ChangeSpec.witness6 (enc:=enc) (C:=Tryz.checked) false ⟨#[],#[.agg Cf.zero.toArray,.slice none 0 0],[]⟩ 8 (by kernel_rfl) (by kernel_rfl) (by kernel_rfl) (by kernel_rfl)) ?_
 intro W base args ds gs before hval0 hW hcnd _
 have hval:∀ (j:Nat) t v,Tryz.f7.params[j]? = some t→args[j]? = some v→Value.okWide Tryz.prog W .any base t v:=hval0
 have hW' := hW
 obtain ⟨p,q,hA0,hV,rfl,hfz,hnd⟩:=hW
 have hA:DataW.TrodAll enc Tryz.prog W 0 (fun _=>true) true Tryz.f7.params.toList args.toList ds p:=hA0
 rw [Tryz.params7] at hA hval
 obtain ⟨v0,vs0,d0,ds0,p0,q0,hargs,rfl,rfl,h0,r0⟩:=trodAll_cons hA
 obtain ⟨v1,vs1,d1,ds1,p1,q1,rfl,rfl,rfl,h1,r1⟩:=trodAll_cons r0
 obtain ⟨rfl,rfl,rfl⟩:=trodAll_nil r1
 obtain rfl:args=#[v0,v1]:=by cases args;simp_all
 obtain ⟨rfl,rfl⟩:=trodVars_none hV
 obtain ⟨ccs,rfl,crd⟩:=iL (g:=9) (l:=Cf.shape) Tryz.underlying23 (by kernel_rfl) (hval 0 23 v0 rfl rfl) h0
 obtain ⟨c,rfl,cok⟩:=Cf.of_read crd
 obtain ⟨raw,rawsl,rawok,rawml⟩:=vI (open_row (g:=9) (l:=Rw.shape) Tryz.underlying24 (by kernel_rfl) (hval 1 24 v1 rfl rfl) h1)
 clear hA0 hval0
 refine (yo c cok raw v1 rawok rawml W rawsl).mono fun e W' ⟨he,hg⟩=>?_
 subst he
 exact ⟨_,rfl,ql laid hW' rfl (by kernel_rfl) rfl Tryz.underlying4 rfl hg⟩
theorem histPairs_holds:Rows.HistPairsSaid :=
 OpenClaim.holds_of_wide 7 Tryz.f7 rfl rfl rfl rfl rfl rfl rfl ⟨rfl,rfl,rfl,rfl,rfl⟩ rfl rfl rfl rfl rfl (by kernel_rfl) Tryz.func7 (by kernel_rfl)
  (of_decide_eq_true (by kernel_rfl)) (by unfold Func.isWrapper;rw [if_neg (of_decide_eq_false (by kernel_rfl))];exact ⟨rfl,rfl⟩)
  (fun os started H enc _=>tq os started H enc)
end
end Go.Proofs.YtfogkllejkmpdaaGreat
