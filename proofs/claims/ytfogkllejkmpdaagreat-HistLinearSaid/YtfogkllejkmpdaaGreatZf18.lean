/- Texts merged: PpCT, HbWT, HbTT, HbST, FifoRT, FifoWT, FifoPT, FifoQT, FifoLT, FifoMT, FifoNT, TailT, FifoOT, FifoTT. -/
import Derived.Test.YtfogkllejkmpdaaGreatZf17
import Derived.Test.YtfogkllejkmpdaaGreatZf9
import Derived.Test.YtfogkllejkmpdaaGreatZf5
import Derived.Test.YtfogkllejkmpdaaGreatZf7
import Derived.LoopTactic
import Derived.Lib.Hide
import Derived.Deep.AppendSrc
import Derived.Lib.SmallJoins
import Derived.RegionTactic
import Derived.ChangeAlike
import Derived.Deep.RegionHeld3
import Derived.Deep.RegionLaw
import Derived.Laws.StructEq
import Derived.WideKeyRuns
import Derived.MapKept
import Derived.Carry
import Derived.Test.YtfogkllejkmpdaaGreatZf1
import Derived.StillTail
import Derived.Laws.CopyOwn
import Derived.Deep.OwnRows
namespace Go.Proofs.YtfogkllejkmpdaaGreat
set_option linter.unusedVariables false
set_option linter.unusedSimpArgs false
set_option maxRecDepth 100000
section
open Go.RowKit
theorem gI {a:St} {l:List En} (h:a.lg=l):a.toLg l=a:=by subst h;rfl
theorem sQ (s:St) (l:List Int):((deE l != 0)=true∧D5 s l=(s,deE l))∨((deE l != 0)=false∧D5 s l=((doF (s.toLg []) (deC l)).1.toLg (s.lg++(doF (s.toLg []) (deC l)).1.lg),(doF (s.toLg []) (deC l)).2)):=by
 by_cases h:deE l=0
 ·refine .inr ⟨by simp [h],?_⟩
  have:=a0W s l
  have e:D5 (s.toLg []) l=doF (s.toLg []) (deC l):=by unfold D5;rw [if_pos h]
  rw [e] at this
  exact Prod.ext this.1 this.2
 ·refine .inl ⟨by simpa using h,?_⟩
  unfold D5;rw [if_neg h]
theorem Yy {N:Nat} {s:St} (h:Kp N s):TkK (s.toLg []):=⟨{ h.ok with lg:=by show (0:Nat)≤maxLen;decide },{ h.few with lg:=by show (0:Nat)≤1000;omega }⟩
theorem Me {a b:List En} (h:a≠[]):a++b≠[]:=by simp [h]
def plL (s:St) (raw:List (List Int)) (i:Nat):Sg:=match s.lg with
 | []=>Cg s raw i
 | _=>Ch s raw i
theorem Bc {s:St} (h:s.lg=[]) (raw:List (List Int)) (i:Nat):plL s raw i=Cg s raw i:=by unfold plL;rw [h]
theorem zL {s:St} (h:s.lg≠[]) (raw:List (List Int)) (i:Nat):plL s raw i=Ch s raw i:=by
 unfold plL;split
 ·next e=>exact absurd e h
 ·rfl
theorem WE {s:St} {raw:List (List Int)} {i N:Nat} {e:Exit} {S:Sg} (hi:i<raw.length) (hr:raw.length≤100000) (h:Kp N s) (hN:N≤900) (hq:∀ n∈raw[i],In64 n) (hL:qL4 (plL (D5 s raw[i]).1 raw (i+1)) e S):qL4 (plL s raw i) e S:=by
 have k1:=(Li h hq hN).lg
 have h0:=h.lg
 rcases sQ s raw[i] with ⟨e0,hp⟩ | ⟨e0,hp⟩
 ·rw [hp] at hL
  by_cases hl:s.lg=[]
  ·rw [Bc hl] at hL ⊢;exact XP hi hr e0 hL
  ·rw [zL hl] at hL ⊢;exact UR hi hr e0 hL
 ·have hx:=Rf (bB (s.toLg []) (deC raw[i])) (Yy h)
  rw [hp] at hL k1
  generalize doF (s.toLg []) (deC raw[i])=p at hx hL k1
  obtain ⟨a,E⟩:=p
  have k2:s.lg.length+a.lg.length≤N+1:=by
   have k3:(s.lg++a.lg).length≤N+1:=k1
   rwa [List.length_append] at k3
  have k4:a.lg.length≤1000000:=by omega
  have k5:s.lg.length+a.lg.length≤1000000:=by omega
  by_cases hl:s.lg=[]
  ·rw [Bc hl]
   have e1:a.toLg (s.lg++a.lg)=a:=gI (by rw [hl];rfl)
   by_cases ha:a.lg=[]
   ·rw [Bc (by show s.lg++a.lg=[];rw [hl,ha];rfl)] at hL
    refine Xt hi hr e0 hx (by rw [ha];rfl) ?_
    rw [e1] at hL
    rwa [gI ha]
   ·simp only [e1] at hL
    rw [zL ha] at hL
    exact Vi hi hr e0 hx ha k4 hL
  ·rw [zL hl]
   rw [zL (Me hl)] at hL
   exact Vm hi hr e0 hx k5 hL
theorem Yq {raw:List (List Int)} (hr:∀ l∈raw,∀ n∈l,In64 n) (hm:raw.length≤900):∀ (k i:Nat) {s:St},raw.length - i=k→i≤raw.length→Kp i s→qL4 (plL s raw i) (.exit 0) (plL (A7 s (raw.drop i)) raw raw.length)
 | 0,i,s,hk,hi,h=>by
  have:i=raw.length:=by omega
  subst this
  rw [List.drop_length]
  show qL4 (plL s raw raw.length) (.exit 0) (plL s raw raw.length)
  by_cases hl:s.lg=[]
  ·rw [Bc hl];exact MI
  ·rw [zL hl];exact NK
 | k+1,i,s,hk,hi',h=>by
  have hi:i<raw.length:=by omega
  have hq:=hr _ (List.getElem_mem hi)
  have ih:=Yq hr hm k (i+1) (by omega) (by omega) (Li h hq (by omega))
  rw [List.drop_eq_getElem_cons hi,show A7 s (raw[i]::raw.drop (i+1))=A7 (D5 s raw[i]).1 (raw.drop (i+1)) from rfl]
  exact WE hi (by omega) h (by omega) hq ih
theorem Ey {c:Cf} {raw:List (List Int)} (hc:c.ok) (hr:∀ l∈raw,∀ n∈l,In64 n) (hm:raw.length≤900):AC Tryz.prog 23 [cfT c,eG raw] (.tuple #[stT (dO c raw),.int .i64 (wZ c)]):=by
 unfold dO wZ
 cases h:cfB c
 ·rw [if_neg (by simp),if_neg (by simp)]
  exact d9 mixed (ext:=[35,76,77]) (fuel:=9) (n:=6) (orc:=[.tuple #[stT st0,.int .i64 20],.nilFunc]) (an (oU h) trivial) (by kernel_rfl)
 ·rw [if_pos rfl,if_pos rfl]
  have hL:=Yq hr hm raw.length 0 (s:=E5 c) rfl (by omega) (Cq hc h)
  rw [List.drop_zero,Bc (s:=E5 c) rfl] at hL
  have hn:=UH h
  generalize A7 (E5 c) raw=u at hL ⊢
  by_cases hl:u.lg=[]
  ·rw [Bc hl] at hL
   have:=d9 mixed (ext:=[35,76,77]) (fuel:=9) (n:=6) (g:=23) (args:=[cfT c,eG raw]) (r:=.tuple #[stT (u.toLg []),.int .i64 0]) (orc:=[.tuple #[.agg (stN (E5 c)),.int .i64 0],.nilFunc,oL [4,3] [2,6,8,22,23,24] 0 (a0L 0 plF raw raw.length) [bSt u qy,bZr]]) (an hn<|an hL trivial) (by kernel_rfl)
   rwa [gI hl] at this
  ·rw [zL hl] at hL
   exact d9 mixed (ext:=[35,76,77]) (fuel:=9) (n:=6) (orc:=[.tuple #[.agg (stN (E5 c)),.int .i64 0],.nilFunc,oL [4,3] [2,6,8,22,23,24] 0 (a0L 0 plF raw raw.length) [bSt u (uB 2 u.lg.length),bZr,bLg u.lg]]) (an hn<|an hL<|an (l7 (f:=enT) u.lg) trivial) (by kernel_rfl)
end
section
open Go.RowKit
def bxN (u x:St) (l:List Int):St:=if deE l=0 then (doF (u.toLg []) (deC l)).1 else x
def bxS:St→St→List (List Int)→St
 | _,x,[]=>x
 | u,x,l::r=>bxS (D5 u l).1 (bxN u x l) r
def hbS (x:St) (o:List Op) (T:List (Nat×En)) (raw:List (List Int)) (i:Nat):Sg:=match o,T with
 | [],_=>hbN x raw i
 | o,[]=>hbO x (aP 0 o) o raw i
 | o,T=>hbL x (aP 0 o) o (T.map Prod.snd) (atN T) raw i
theorem wY (x:St) (T:List (Nat×En)) (raw:List (List Int)) (i:Nat):hbS x [] T raw i=hbN x raw i:=rfl
theorem lq {o:List Op} (h:o≠[]) (x:St) (raw:List (List Int)) (i:Nat):hbS x o [] raw i=hbO x (aP 0 o) o raw i:=by
 cases o with
 | nil=>exact absurd rfl h
 | cons=>rfl
theorem lm {o:List Op} {T:List (Nat×En)} (h:o≠[]) (hT:T≠[]) (x:St) (raw:List (List Int)) (i:Nat):hbS x o T raw i=hbL x (aP 0 o) o (T.map Prod.snd) (atN T) raw i:=by
 cases o with
 | nil=>exact absurd rfl h
 | cons=>cases T with
  | nil=>exact absurd rfl hT
  | cons=>rfl
theorem Ql (T:List (Nat×En)) (i:Nat) (e:En):atN (T++[(i,e)])=atN T++[(i:Int)]∧(T++[(i,e)]).map Prod.snd=T.map Prod.snd++[e]:=by simp [atN]
theorem a0R {u x:St} {o:List Op} {T:List (Nat×En)} {raw:List (List Int)} {i:Nat} {ex:Exit} {S:Sg} (hi:i<raw.length) (hr:raw.length≤900) (hk:Kp i u) (hI:Inv u) (hx:x.toLg []=u.toLg []) (hO:OpnI o u) (ho:o.length≤i) (hT:T.length≤i) (h1:o=[]→T=[])
  (hL:qL3 (hbS (bxN u x raw[i]) (o.map (aC u (D5 u raw[i]).1 i raw[i])++if V9 u raw[i]=true then [bA (D6 raw[i]) i none] else []) (T++((D5 u raw[i]).1.lg.drop u.lg.length).map fun e=>(i,e)) raw (i+1)) ex S):qL3 (hbS x o T raw i) ex S:=by
 have hr' : raw.length≤100000:=by omega
 have hat:(atN T).length=T.length:=by simp [atN]
 have hsn:(T.map Prod.snd).length=T.length:=by simp
 rcases sQ u raw[i] with ⟨e0,hp⟩ | ⟨e0,hp⟩
 ·-- it isn't decoded
  have hne:(D5 u raw[i]).2≠0:=by rw [hp];simpa using e0
  have hb:V9 u raw[i]=false:=by unfold V9;rw [beq_false_of_ne hne];rfl
  have he:∀ j,Y8 u j raw[i]=false:=fun j=>by unfold Y8;rw [beq_false_of_ne hne];rfl
  have hone:(D5 u raw[i]).1=u:=by rw [hp]
  rw [hone,rf hb he,List.drop_length,List.map_nil,List.append_nil,show bxN u x raw[i]=x by unfold bxN;rw [if_neg (by simpa using e0)]] at hL
  by_cases q:o=[]
  ·subst q;rw [wY] at hL ⊢;exact Vv hi hr' e0 hL
  ·by_cases qT:T=[]
   ·subst qT;rw [lq q] at hL ⊢;exact Wh hi hr' e0 hL
   ·rw [lm q qT] at hL ⊢;exact Va hi hr' e0 hL
 ·have hd:AC Tryz.prog 77 [stT (x.toLg []),caT (deC raw[i])] (.tuple #[stT (doF (u.toLg []) (deC raw[i])).1,.int .i64 (doF (u.toLg []) (deC raw[i])).2]):=by rw [hx];exact Rf (bB (u.toLg []) (deC raw[i])) (Yy hk)
  have hbx:bxN u x raw[i]=(doF (u.toLg []) (deC raw[i])).1:=by unfold bxN;rw [if_pos (by simpa using e0)]
  rw [hbx] at hL
  generalize doF (u.toLg []) (deC raw[i])=p at hd hL hp
  obtain ⟨a,E⟩:=p
  have hone:(D5 u raw[i]).1=a.toLg (u.lg++a.lg):=by rw [hp]
  rw [hone] at hL
  have hlg:(a.toLg (u.lg++a.lg)).lg=u.lg++a.lg:=rfl
  have hdr:(a.toLg (u.lg++a.lg)).lg.drop u.lg.length=a.lg:=by rw [hlg,List.drop_left]
  by_cases hE:E=0
  ·subst hE
   have h0:((0:Int) != 0)=false:=rfl
   have h00:(D5 u raw[i]).2=0:=by rw [hp]
   have hkd:=JQ hI h00 hone
   simp only [hdr] at hL
   have lg0:(a.toLg (u.lg++a.lg)).lg=u.lg→a.toLg []=a:=fun e=>gI (by
    have e2:(u.lg++a.lg).length=u.lg.length:=congrArg List.length e
    rw [List.length_append] at e2
    exact List.length_eq_zero_iff.1 (by omega))
   rcases hkd with ⟨hb,hop,hg,he,n,hn,hnl,hns⟩ | ⟨hb,hop,hk10,hg,he⟩ | ⟨hb,hop,hk10,n,hn,hnl,hns,he,hg⟩
   ·-- something begins
    have ha:=lg0 hg
    have hal:a.lg=[]:=by rw [← ha];rfl
    rw [Vh hb he,hal,List.map_nil,List.append_nil,show D6 raw[i]=deC raw[i] from ((uN (by simpa using e0)).2.1).symm,← ha] at hL
    rw [← ha] at hd
    have hc:=J7 hop
    have hput:=VQ (i:=i) hO hnl hns (deC raw[i]) hn
    by_cases q:o=[]
    ·subst q
     rw [h1 rfl,lq (by simp)] at hL
     rw [wY]
     exact a0u hi hr' e0 hd h0 hc hput hL
    ·by_cases qT:T=[]
     ·subst qT
      rw [lq (by simp)] at hL
      rw [lq q]
      exact a1K hi hr' e0 hd h0 hc hput (by omega) hL
     ·rw [lm (by simp) qT] at hL
      rw [lm q qT]
      exact a0E hi hr' e0 hd h0 hc hput (by omega) hL
   ·-- time
    have ha:=lg0 hg
    have hal:a.lg=[]:=by rw [← ha];rfl
    rw [rf hb he,hal,List.map_nil,List.append_nil,← ha] at hL
    rw [← ha] at hd
    have hc:=J7 hop
    by_cases q:o=[]
    ·subst q;rw [wY] at hL ⊢;exact Yf hi hr' e0 hd h0 hc hk10 hL
    ·by_cases qT:T=[]
     ·subst qT;rw [lq q] at hL ⊢;exact XB hi hr' e0 hd h0 hc hk10 hL
     ·rw [lm q qT] at hL ⊢;exact VO hi hr' e0 hd h0 hc hk10 hL
   ·-- a pick
    have hc:=J7 hop
    obtain ⟨k0,y0,hk0,-⟩:=(hO.act n hnl).1 hns
    have q:o≠[]:=fun e=>by subst e;simp at hk0
    have hth:(a.toLg (u.lg++a.lg)).th=a.th:=rfl
    have hal:a.th.length=u.th.length:=by rw [← hth,← hone];exact kL hI _
    have ht:IxP (a.th.map thT).toArray (deC raw[i]).th (thT (gth a.th n)):=by
     rw [hn]
     exact ⟨by omega,by
      rw [Int.toNat_natCast]
      have:n<a.th.length:=by omega
      simp [gth,this,List.getD]⟩
    by_cases hst:(gth a.th n).st=0
    ·have hlg0:(a.toLg (u.lg++a.lg)).lg=u.lg:=by
      rcases hg with hg | ⟨hs,-⟩
      ·exact hg
      ·have:((gth a.th n).st != 0)=true:=hs
       rw [hst] at this;cases this
     have ha:=lg0 hlg0
     have hal:a.lg=[]:=by rw [← ha];rfl
     obtain ⟨k,y,hk1,hset,hf,hdl⟩:=VL (r:=a.toLg (u.lg++a.lg)) (i:=i) hO hnl hns hb he hst
     rw [hset,hth,hal,List.map_nil,List.append_nil,← ha] at hL
     rw [hth] at hdl
     rw [← ha] at hd ht hdl hst
     rw [← hn] at hf hdl
     have hq2:o.set k (enO y i (gth (a.toLg []).th n))≠[]:=fun e=>q (by have:=congrArg List.length e;simp at this;exact this)
     have hs0:((gth (a.toLg []).th n).st != 0)=false:=by rw [hst];rfl
     by_cases qT:T=[]
     ·subst qT
      rw [lq hq2] at hL
      rw [lq q]
      exact ZI hi hr' e0 hd h0 hc hk10 ht hs0 hf hdl hk1 hL
     ·rw [lm hq2 qT] at hL
      rw [lm q qT]
      exact a1J hi hr' e0 hd h0 hc hk10 ht hs0 hf hdl hk1 hL
    ·have hs1:((gth a.th n).st != 0)=true:=by simpa using hst
     have he0:∀ j,Y8 u j raw[i]=false:=fun j=>by
      rw [he]
      by_cases ej:(n:Int)=j
      ·subst ej
       rw [Int.toNat_natCast]
       rw [show ((gth (a.toLg (u.lg++a.lg)).th n).st==0)=false from beq_false_of_ne hst];simp
      ·rw [beq_false_of_ne ej];rfl
     rw [rf hb he0] at hL
     rcases hg with hg | ⟨-,e,hg⟩
     ·have ha:=lg0 hg
      have hal:a.lg=[]:=by rw [← ha];rfl
      rw [hal,List.map_nil,List.append_nil,← ha] at hL
      rw [← ha] at hd ht hs1
      by_cases qT:T=[]
      ·subst qT;rw [lq q] at hL ⊢;exact Wm hi hr' e0 hd h0 hc hk10 ht hs1 hL
      ·rw [lm q qT] at hL ⊢;exact Vl hi hr' e0 hd h0 hc hk10 ht hs1 hL
     ·have hae:a.lg=[e]:=List.append_cancel_left (hlg.symm.trans hg)
      have ha:a.toLg [e]=a:=gI hae
      rw [hae,List.map_cons,List.map_nil,lm q (by simp),(Ql T i e).1,(Ql T i e).2,← ha] at hL
      rw [← ha] at hd ht hs1
      by_cases qT:T=[]
      ·subst qT;rw [lq q];exact Wx hi hr' e0 hd h0 hc hk10 ht hs1 hL
      ·rw [lm q qT];exact XZ hi hr' e0 hd h0 (by omega) (by omega) hc hk10 ht hs1 hL
  ·-- it is refused
   have hb:V9 u raw[i]=false:=by unfold V9;rw [hp,beq_false_of_ne hE];rfl
   have he:∀ j,Y8 u j raw[i]=false:=fun j=>by unfold Y8;rw [hp,beq_false_of_ne hE];rfl
   have hua:a.toLg (u.lg++a.lg)=u:=by rw [← hone];exact Ho (by rw [hp];exact hE)
   have hal:a.lg=[]:=by
    have e1:u.lg++a.lg=u.lg:=by rw [← hlg,hua]
    have e2:=congrArg List.length e1
    rw [List.length_append] at e2
    exact List.length_eq_zero_iff.1 (by omega)
   have ha:a.toLg []=a:=gI hal
   have h0:(E != 0)=true:=by simpa using hE
   rw [rf hb he,hdr,hal,List.map_nil,List.append_nil,← ha] at hL
   rw [← ha] at hd
   by_cases q:o=[]
   ·subst q;rw [wY] at hL ⊢;exact UZ hi hr' e0 hd h0 hL
   ·by_cases qT:T=[]
    ·subst qT;rw [lq q] at hL ⊢;exact XL hi hr' e0 hd h0 hL
    ·rw [lm q qT] at hL ⊢;exact WA hi hr' e0 hd h0 hL
theorem XG {u:St} (h:Inv u) (l:List Int):Inv (D5 u l).1:=by
 unfold D5;split
 ·exact yx h (bB _ _)
 ·exact h
theorem Zc {s0:St} {raw:List (List Int)} (hr:∀ l∈raw,∀ n∈l,In64 n) (hm:raw.length≤900):∀ (k i:Nat) {u x:St} {o:List Op} {T:List (Nat×En)},raw.length - i=k→i≤raw.length→Kp i u→Inv u→x.toLg []=u.toLg []→OpnI o u→o.length≤i→T.length≤i→(o=[]→T=[]) →
  u=A7 s0 (raw.take i)→o=lX s0 0 (raw.take i)→T=Z6 s0 0 (raw.take i)→qL3 (hbS x o T raw i) (.exit 0) (hbS (bxS u x (raw.drop i)) (lX s0 0 raw) (Z6 s0 0 raw) raw raw.length)∧(lX s0 0 raw=[]→Z6 s0 0 raw=[])
 | 0,i,u,x,o,T,hk,hi,_,_,_,_,_,_,h1,_,hoe,hte=>by
  have:i=raw.length:=by omega
  subst this
  rw [List.take_length] at hoe hte
  rw [List.drop_length,← hoe,← hte]
  refine ⟨?_,h1⟩
  show qL3 (hbS x o T raw raw.length) (.exit 0) (hbS x o T raw raw.length)
  by_cases q:o=[]
  ·subst q;rw [wY];exact Si
  ·by_cases qT:T=[]
   ·subst qT;rw [lq q];exact Uu
   ·rw [lm q qT];exact Tc
 | k+1,i,u,x,o,T,hk,hi',h,hI,hx,hO,ho,hT,h1,hue,hoe,hte=>by
  have hi:i<raw.length:=by omega
  have hq:=hr _ (List.getElem_mem hi)
  have htl:(raw.take i).length=i:=by rw [List.length_take];omega
  have hI2:=XG hI raw[i]
  have hlgd:=Ci (Js hI raw[i])
  have ih:=Zc (s0:=s0) hr hm k (i+1) (u:=(D5 u raw[i]).1) (x:=bxN u x raw[i]) (o:=o.map (aC u (D5 u raw[i]).1 i raw[i])++if V9 u raw[i]=true then [bA (D6 raw[i]) i none] else []) (T:=T++((D5 u raw[i]).1.lg.drop u.lg.length).map fun e=>(i,e)) (by omega) (by omega) (Li h hq (by omega)) hI2 ?_ (VD hI hO i raw[i]) ?_ ?_ ?_ ?_ ?_ ?_
  ·rw [List.drop_eq_getElem_cons hi]
   exact ⟨a0R hi hm h hI hx hO ho hT h1 ih.1,ih.2⟩
  ·unfold bxN
   rcases sQ u raw[i] with ⟨e0,hp⟩ | ⟨e0,hp⟩
   ·rw [if_neg (by simpa using e0),hp];exact hx
   ·rw [if_pos (by simpa using e0),hp];rfl
  ·rw [List.length_append,List.length_map];split <;> simp <;> omega
  ·rw [List.length_append,List.length_map];omega
  ·intro e
   obtain ⟨e1,e2⟩:=List.append_eq_nil_iff.1 e
   have e3:o=[]:=List.map_eq_nil_iff.1 e1
   rw [h1 e3]
   rw [List.nil_append,List.map_eq_nil_iff]
   have hb:V9 u raw[i]=false:=by
    cases hb:V9 u raw[i]
    ·rfl
    ·rw [hb,if_pos rfl] at e2;cases e2
   by_cases h0:(D5 u raw[i]).2=0
   ·rcases JQ hI h0 rfl with ⟨hb',-⟩ | ⟨-,-,-,hg,-⟩ | ⟨-,-,-,n,-,hnl,hns,-⟩
    ·rw [hb] at hb';cases hb'
    ·rw [hg,List.drop_length]
    ·obtain ⟨k0,y0,hk0,-⟩:=(hO.act n hnl).1 hns
     rw [e3] at hk0;simp at hk0
   ·rw [Ho h0,List.drop_length]
  ·rw [List.take_succ_eq_append_getElem hi,xZ,← hue];rfl
  ·rw [List.take_succ_eq_append_getElem hi,FJ,htl,← hue,← hoe,Nat.zero_add]
  ·rw [Uv hi,← hue,← hte]
def bkV (o:List Op) (T:List (Nat×En)):Value:=vEp [jR o,gN,K5 (T.map Prod.snd),l5 (atN T)]
theorem oP {c:Cf} {raw:List (List Int)} (hc:c.ok) (hr:∀ l∈raw,∀ n∈l,In64 n) (hm:raw.length≤900):AC Tryz.prog 26 [cfT c,eG raw] (bkV (opsOf c raw) (O3 c raw)):=by
 unfold opsOf O3
 cases h:cfB c
 ·rw [if_neg (by simp),if_neg (by simp)]
  exact rC mixed (ext:=[35,76,77,75]) (fuel:=9) (n:=6) (orc:=[.tuple #[stT st0,.int .i64 20],.nilFunc]) (an (oU h) trivial) (by kernel_rfl)
 ·rw [if_pos rfl,if_pos rfl]
  obtain ⟨hL,hcons⟩:=Zc (s0:=E5 c) hr hm raw.length 0 (u:=E5 c) (x:=E5 c) (o:=[]) (T:=[]) rfl (by omega) (Cq hc h) (Dq h) rfl (Wt c) (Nat.le_refl _) (Nat.le_refl _) (fun _=>rfl) rfl rfl rfl
  rw [List.drop_zero] at hL
  have hn:=Kt h
  generalize bxS (E5 c) (E5 c) raw=u at hL
  generalize lX (E5 c) 0 raw=o at hL hcons ⊢
  generalize Z6 (E5 c) 0 raw=T at hL hcons ⊢
  rw [wY] at hL
  by_cases q:o=[]
  ·subst q
   rw [wY] at hL
   rw [hcons rfl]
   exact rC mixed (ext:=[35,76,77,75]) (fuel:=9) (n:=6) (orc:=[.tuple #[stT (E5 c),.int .i64 0],.nilFunc,oL [2,3,4,1] [5,6,8,31,32,33] 0 (Nt raw raw.length) [bBk qy qy qy,bS u,bWr,bMq []]]) (an hn<|an hL trivial) (by kernel_rfl)
  ·by_cases qT:T=[]
   ·subst qT
    rw [lq q] at hL
    exact rC mixed (ext:=[35,76,77,75]) (fuel:=9) (n:=6) (orc:=[.tuple #[stT (E5 c),.int .i64 0],.nilFunc,oL [2,3,4,1] [5,6,8,31,32,33] 0 (Nt raw raw.length) [bBk (uB 4 o.length) qy qy,bS u,bWr,bMq (aP 0 o),bOq o]]) (an hn<|an hL<|an (l7 (f:=opT) o) trivial) (by kernel_rfl)
   ·rw [lm q qT] at hL
    exact rC mixed (ext:=[35,76,77,75]) (fuel:=9) (n:=6) (orc:=[.tuple #[stT (E5 c),.int .i64 0],.nilFunc,oL [2,3,4,1] [5,6,8,31,32,33] 0 (Nt raw raw.length) [bBk (uB 4 o.length) (uB 5 (T.map Prod.snd).length) (uB 6 (atN T).length),bS u,bWr,bMq (aP 0 o),bOq o,bLg (T.map Prod.snd),bIx (atN T)]]) (an hn<|an hL<|an (l7 (f:=opT) o)<|an (l7 (f:=enT) (T.map Prod.snd))<|an (l7 (f:=(Value.int .i64 ·)) (atN T)) trivial) (by kernel_rfl)
end
section
def Z9 (l:List Int) (t:Int):Nat:=(l.filter fun x=>decide (x<t)).length
theorem Et {l:List Int} {t:Int} (h:∀ x∈l,¬ x<t):Z9 l t=0:=by
 unfold Z9
 rw [List.filter_eq_nil_iff.2 (fun x hx=>by simpa using h x hx)];rfl
theorem qO (a:Int) (l:List Int) (t:Int):Z9 (a::l) t=(if a<t then 1 else 0)+Z9 l t:=by
 unfold Z9
 rw [List.filter_cons]
 by_cases h:a<t
 ·rw [if_pos (by simpa using h),if_pos h,List.length_cons];omega
 ·rw [if_neg (by simpa using h),if_neg h];omega
theorem GK (l:List Int) (t:Int):Z9 l t≤l.length:=List.length_filter_le _ _
theorem RH {t:Int}:∀ {l:List Int},l.Pairwise (·<·)→∀ (i:Nat) (hi:i<l.length),l[i]<t↔i<Z9 l t
 | [],_,i,hi=>by simp at hi
 | a::l,h,i,hi=>by
  obtain ⟨h1,h2⟩:=List.pairwise_cons.1 h
  rw [qO]
  by_cases ha:a<t
  ·rw [if_pos ha]
   cases i with
   | zero=>rw [List.getElem_cons_zero];exact ⟨fun _=>by omega,fun _=>ha⟩
   | succ i=>rw [List.getElem_cons_succ,RH h2 i (by simpa using hi)];omega
  ·rw [if_neg ha,Et (fun x hx=>by have:=h1 x hx;omega)]
   cases i with
   | zero=>simp [ha]
   | succ i =>
    have:=h1 _ (List.getElem_mem (show i<l.length by simpa using hi))
    rw [List.getElem_cons_succ]
    omega
def dB (t:Int) (x:Nat×En):Bool:=decide ((x.1:Int)<t)
theorem JN (t:Int):∀ {T:List (Nat×En)},T.Pairwise (fun x y=>x.1<y.1)→T.filter (dB t)=T.take (Z9 (atN T) t)∧T.filter (fun x=>!dB t x)=T.drop (Z9 (atN T) t)
 | [],_=>⟨rfl,rfl⟩
 | a::T,h=>by
  obtain ⟨h1,h2⟩:=List.pairwise_cons.1 h
  obtain ⟨i1,i2⟩:=JN t h2
  show _=(a::T).take (Z9 ((a.1:Int)::atN T) t)∧_=(a::T).drop (Z9 ((a.1:Int)::atN T) t)
  rw [qO]
  by_cases ha:(a.1:Int)<t
  ·have hb:dB t a=true:=by simpa [dB] using ha
   rw [if_pos ha,Nat.add_comm,List.take_succ_cons,List.drop_succ_cons,List.filter_cons_of_pos hb,List.filter_cons_of_neg (by simp [hb]),i1,i2]
   exact ⟨rfl,rfl⟩
  ·have hb:dB t a=false:=by simpa [dB] using ha
   have hl:Z9 (atN T) t=0:=Et fun x hx=>by
    obtain ⟨y,hy,rfl⟩:=List.mem_map.1 hx
    have:=h1 y hy
    omega
   rw [hl] at i1 i2 ⊢
   rw [if_neg ha,List.filter_cons_of_neg (by simp [hb]),List.filter_cons_of_pos (by simp [hb]),i1,i2]
   exact ⟨rfl,rfl⟩
theorem a2Y {T:List (Nat×En)} (h:T.Pairwise (fun x y=>x.1<y.1)):(atN T).Pairwise (·<·):=by
 unfold atN
 rw [List.pairwise_map]
 exact h.imp fun h=>by omega
def frN (o:Op) (T:List (Nat×En)):Nat:=Z9 (atN T) (o.be+1)
def toN (o:Op) (T:List (Nat×En)):Nat:=if o.en = -1 then T.length else Z9 (atN T) (o.en+1)
def lH (o:Op) (e:En):Bool:=e.th==o.th&&e.ki != 9
theorem low_mono {l:List Int} {s t:Int} (h:s≤t):Z9 l s≤Z9 l t:=by
 induction l with
 | nil=>exact Nat.le_refl _
 | cons a l ih=>rw [qO,qO];split <;> split <;> omega
theorem a2k {o:Op} (h:o.en = -1∨o.be<o.en) (T:List (Nat×En)):frN o T≤toN o T∧toN o T≤T.length:=by
 have hl:∀ t,Z9 (atN T) t≤T.length:=fun t=>by have:=GK (atN T) t;simpa [atN] using this
 unfold frN toN
 split
 ·exact ⟨hl _,Nat.le_refl _⟩
 ·exact ⟨low_mono (by omega),hl _⟩
theorem a1A {o:Op} {T:List (Nat×En)} (hT:T.Pairwise (fun x y=>x.1<y.1)) (h:o.en = -1∨(o.be<o.en∧0≤o.en)) :
  (((T.map Prod.snd).drop (frN o T)).take (toN o T - frN o T)).filter (lH o)=(T.filter (au o)).map Prod.snd:=by
 rw [← List.map_drop,← List.map_take,List.filter_map]
 congr 1
 have e1:=(JN (o.be+1) hT).2
 have hU:(T.filter fun x=>!dB (o.be+1) x).Pairwise (fun x y=>x.1<y.1):=hT.filter _
 have hm:∀ x:Nat×En,au o x=((lH o∘Prod.snd) x&&(!dB (o.be+1) x&&(decide (o.en<0)||decide ((x.1:Int)≤o.en)))):=fun x=>by
  unfold au lH dB
  rw [show (!decide ((x.1:Int)<o.be+1))=decide (o.be<(x.1:Int)) by rw [← decide_not];exact decide_eq_decide.2 (by omega)]
  simp only [Function.comp_apply]
  rw [Bool.and_assoc]
 rw [show frN o T=Z9 (atN T) (o.be+1) from rfl,← e1]
 rcases h with h | ⟨h,h0⟩
 ·have hall:(T.filter fun x=>!dB (o.be+1) x).take (toN o T - Z9 (atN T) (o.be+1))=T.filter fun x=>!dB (o.be+1) x:=by
   refine List.take_of_length_le ?_
   rw [e1,List.length_drop,show toN o T=T.length by unfold toN;rw [if_pos h]]
   exact Nat.le_refl _
  rw [hall,List.filter_filter]
  refine List.filter_congr fun x _=>?_
  rw [hm,show decide (o.en<0)=true by simp;omega]
  simp
 ·have hcount:toN o T - Z9 (atN T) (o.be+1)=Z9 (atN (T.filter fun x=>!dB (o.be+1) x)) (o.en+1):=by
   have e2:=(JN (o.be+1) hT).1
   have e3:Z9 (atN T) (o.en+1)=(T.filter (dB (o.en+1))).length:=by
    unfold Z9 atN
    rw [List.filter_map,List.length_map];rfl
   have e4:Z9 (atN T) (o.be+1)=(T.filter (dB (o.be+1))).length:=by
    unfold Z9 atN
    rw [List.filter_map,List.length_map];rfl
   have e5:Z9 (atN (T.filter fun x=>!dB (o.be+1) x)) (o.en+1)=((T.filter fun x=>!dB (o.be+1) x).filter (dB (o.en+1))).length:=by
    unfold Z9 atN
    rw [List.filter_map,List.length_map];rfl
   rw [show toN o T=Z9 (atN T) (o.en+1) by unfold toN;rw [if_neg (by omega)],e3,e4,e5]
   have:∀ l:List (Nat×En),(l.filter (dB (o.en+1))).length=(l.filter (dB (o.be+1))).length+((l.filter fun x=>!dB (o.be+1) x).filter (dB (o.en+1))).length:=fun l=>by
    induction l with
    | nil=>rfl
    | cons a l ih =>
     by_cases c1:dB (o.be+1) a=true
     ·have c2:dB (o.en+1) a=true:=by simp only [dB,decide_eq_true_eq] at c1 ⊢;omega
      rw [List.filter_cons_of_pos c2,List.filter_cons_of_pos c1,List.filter_cons_of_neg (by simp [c1]),List.length_cons,List.length_cons,ih];omega
     ·rw [List.filter_cons_of_neg c1 (l:=l),List.filter_cons_of_pos (p:=fun x=>!dB (o.be+1) x) (by simpa using c1)]
      by_cases c2:dB (o.en+1) a=true
      ·rw [List.filter_cons_of_pos c2,List.filter_cons_of_pos c2,List.length_cons,List.length_cons,ih];omega
      ·rw [List.filter_cons_of_neg c2,List.filter_cons_of_neg c2,ih]
   have:=this T
   omega
  rw [hcount,← (JN (o.en+1) hU).1,List.filter_filter,List.filter_filter]
  refine List.filter_congr fun x _=>?_
  rw [hm,show decide (o.en<0)=false by simp;omega,Bool.false_or,show dB (o.en+1) x=decide ((x.1:Int)≤o.en) from decide_eq_decide.2 (by omega)]
  cases (lH o∘Prod.snd) x <;> cases dB (o.be+1) x <;> cases decide ((x.1:Int)≤o.en) <;> rfl
end
section
open Go.RowKit
theorem OX (v:Int) (h0:0≤v) (h1:v≤9223372036854775807) (x:Operand):uj Tryz.prog (.convert 3 157 x) [.int .i64 v] (.int .u64 v):=by
 intro W o f ho hm
 have h:f x = .int .i64 v:=by simpa [ho,Op.operands] using hm
 have hu:=Tryz.underlying3
 have hv:=Tryz.underlying157
 have hw:IntKind.u64.wrap v=v:=by
  show (if (false&&decide (v % 2 ^ 64 ≥ 2 ^ (64 - 1)))=true then v % 2 ^ 64 - 2 ^ 64 else v % 2 ^ 64)=v
  rw [if_neg (by simp)]
  omega
 simp [execOp,ho,h,convert,run_underlying hu,run_underlying hv,Conv.intToInt,hw]
theorem a0p (v:Int) (h0:0≤v) (h1:v≤9223372036854775807) (x:Operand):uj Tryz.prog (.convert 157 3 x) [.int .u64 v] (.int .i64 v):=by
 intro W o f ho hm
 have h:f x = .int .u64 v:=by simpa [ho,Op.operands] using hm
 have hu:=Tryz.underlying3
 have hv:=Tryz.underlying157
 have hw:IntKind.i64.wrap v=v:=jc ⟨by omega,by omega⟩
 simp [execOp,ho,h,convert,run_underlying hu,run_underlying hv,Conv.intToInt,hw]
theorem Gl (v:Int) (h0:0≤v) (x:Operand):uj Tryz.prog (.binOp .shr 157 x (.const (.int .u64 1)) 157) [.int .u64 v,.int .u64 1] (.int .u64 (v / 2)):=by
 intro W o f ho hm
 obtain ⟨h1,h2⟩:=Gv hm
 have hu:=Tryz.underlying157
 simp [execOp,ho,h1,h2,eqGuard,binOp,shift_shr_any,IntKind.bits]
def a3g (l:List Int) (t lo hi:Int):Sg:=⟨mkT 54 [(0,l5 l),(1,.int .i64 t),(6,.int .i64 l.length),(7,.int .i64 lo),(8,.int .i64 hi)],[]⟩
theorem a2K {l:List Int} {i:Nat} (h:i<l.length):IxP ((l.map (Value.int .i64 ·)).toArray) (i:Int) (.int .i64 l[i]):=⟨by omega,by simp [h]⟩
theorem UK {l:List Int} {t:Int} (hs:l.Pairwise (·<·)) (hm:l.length≤1000000):∀ (k a b:Nat),b - a≤k→a≤Z9 l t→Z9 l t≤b→b≤l.length→j4 Tryz.prog (j3 Tryz.prog 84 0) (a3g l t a b) (.exit 0) (a3g l t (Z9 l t) (Z9 l t))
 | k,a,b,hk,ha,hb,hl=>by
  by_cases hab:a<b
  ·cases k with
   | zero=>omega
   | succ k =>
    have d0:decide ((a:Int)<b)=true:=by simpa using hab
    have e0:((a:Int)+b) / 2=((a+b) / 2:Nat):=by omega
    have hh:(a+b) / 2<l.length:=by omega
    have hlow:=RH (t:=t) hs ((a+b) / 2) hh
    have hu:=a0p (((a:Int)+b) / 2) (by omega) (by omega) (.tmp 20)
    have hx:=a2K hh
    have hne:(l[(a+b) / 2] != l[(a+b) / 2])=false:=by simp
    rw [← e0] at hx
    by_cases hc:l[(a+b) / 2]<t
    ·have ih:=UK (t:=t) hs hm k ((a+b) / 2+1) b (by omega) (by have:=hlow.1 hc;omega) hb hl
     rw [show (((a+b) / 2+1:Nat):Int)=((a:Int)+b) / 2+1 by omega] at ih
     have d1:decide (l[(a+b) / 2]<t)=true:=by simpa using hc
     generalize l[(a+b) / 2]=e at hx hne d1
     exact j5 mixed (fuel:=9) (n:=6) (im:=[]) (keep:=[0,1,6,7,8]) (ext:=[]) (orc:=[.bool true,.int .u64 (a+b),.iface 1000014 (.int .u64 (((a:Int)+b) / 2)),.int .i64 (((a:Int)+b) / 2),.int .i64 e,.bool false,.bool true]) (an d0<|an (show In64 ((a:Int)+b) by constructor <;> omega)<|an (OX ((a:Int)+b) (by omega) (by omega) (.tmp 18))<|an (Gl ((a:Int)+b) (by omega) (.tmp 19))<|an hu<|an hx<|an hne<|an d1<|an (show In64 (((a:Int)+b) / 2+1) by constructor <;> omega) trivial) (by kernel_rfl) ih
    ·have ih:=UK (t:=t) hs hm k a ((a+b) / 2) (by omega) ha (by have:=fun h=>hc (hlow.2 h);omega) (by omega)
     rw [← e0] at ih
     have d1:decide (l[(a+b) / 2]<t)=false:=by simpa using hc
     generalize l[(a+b) / 2]=e at hx hne d1
     exact j5 mixed (fuel:=9) (n:=6) (im:=[]) (keep:=[0,1,6,7,8]) (ext:=[]) (orc:=[.bool true,.int .u64 (a+b),.iface 1000014 (.int .u64 (((a:Int)+b) / 2)),.int .i64 (((a:Int)+b) / 2),.int .i64 e,.bool false,.bool false]) (an d0<|an (show In64 ((a:Int)+b) by constructor <;> omega)<|an (OX ((a:Int)+b) (by omega) (by omega) (.tmp 18))<|an (Gl ((a:Int)+b) (by omega) (.tmp 19))<|an hu<|an hx<|an hne<|an d1 trivial) (by kernel_rfl) ih
  ·have e1:a=Z9 l t:=by omega
   have e2:b=Z9 l t:=by omega
   rw [← e1]
   have e3:a=b:=by omega
   subst e3
   exact o5 mixed (fuel:=9) (n:=6) (im:=[]) (keep:=[0,1,6,7,8]) (ext:=[]) (orc:=[.bool false]) (an (show decide ((a:Int)<a)=false by simp) trivial) (by intro e;cases e) (by kernel_rfl)
theorem YJ {l:List Int} {t:Int} (hs:l.Pairwise (·<·)) (hm:l.length≤1000000):∃ b,AC Tryz.prog 84 [l5 l,.int .i64 t] (.tuple #[.int .i64 (Z9 l t),.bool b]):=by
 have hL:=UK (t:=t) hs hm l.length 0 l.length (by omega) (Nat.zero_le _) (GK _ _) (Nat.le_refl _)
 have hle:=GK l t
 generalize Z9 l t=k at hL hle
 by_cases hk:k<l.length
 ·have d0:decide ((k:Int)<l.length)=true:=by simpa using hk
  have hx:=a2K hk
  have hne:(l[k] != l[k])=false:=by simp
  cases hc:l[k]==t
  ·generalize l[k]=e at hx hne hc
   exact ⟨false,d9 mixed (fuel:=9) (n:=6) (ext:=[]) (orc:=[oL [] [0,1,6,7,8] 0 [(0,l5 l),(1,.int .i64 t),(6,.int .i64 l.length),(7,.int .i64 k),(8,.int .i64 k)] [],.bool true,.int .i64 e,.bool false,.int .i64 e,.bool false]) (an hL<|an d0<|an hx<|an hc<|an hx<|an hne trivial) (by kernel_rfl)⟩
  ·generalize l[k]=e at hx hne hc
   exact ⟨true,d9 mixed (fuel:=9) (n:=6) (ext:=[]) (orc:=[oL [] [0,1,6,7,8] 0 [(0,l5 l),(1,.int .i64 t),(6,.int .i64 l.length),(7,.int .i64 k),(8,.int .i64 k)] [],.bool true,.int .i64 e,.bool true]) (an hL<|an d0<|an hx<|an hc trivial) (by kernel_rfl)⟩
 ·have d0:decide ((k:Int)<l.length)=false:=by simp;omega
  exact ⟨false,d9 mixed (fuel:=9) (n:=6) (ext:=[]) (orc:=[oL [] [0,1,6,7,8] 0 [(0,l5 l),(1,.int .i64 t),(6,.int .i64 l.length),(7,.int .i64 k),(8,.int .i64 k)] [],.bool false]) (an hL<|an d0 trivial) (by kernel_rfl)⟩
section
variable {c:Cf} {raw:List (List Int)} (hc:c.ok) (hr:∀ l∈raw,∀ n∈l,In64 n) (hm:raw.length≤100)
include hc hr hm
theorem CP:AC Tryz.prog 15 [cfT c,eG raw] (jR (opsOf c raw)) :=
 d9 mixed (fuel:=9) (n:=6) (ext:=[26]) (orc:=[bkV (opsOf c raw) (O3 c raw)]) (an (oP hc hr (by omega)) trivial) (by kernel_rfl)
theorem tH:AC Tryz.prog 10 [cfT c,eG raw] (.tuple #[K5 (U9 c raw),l5 (a2P c raw)]) :=
 d9 mixed (fuel:=9) (n:=6) (ext:=[26]) (orc:=[bkV (opsOf c raw) (O3 c raw)]) (an (oP hc hr (by omega)) trivial) (by kernel_rfl)
end
end
section
open Go.ChangeShapes Go.WideShapes Go.ChangeAt Go.RowKit
end
section
open Go.ChangeShapes Go.WideShapes Go.ChangeAt Go.RowKit
def Ov (w:World) (base:Nat) (l:List Int) (p:Option Addr) (k:Nat):Prop :=
 ∃ g o cur,p=some ⟨g,o,none⟩∧base≤g∧w.heap[g]? = some (.cells cur 3 (0,0))∧l.length≤k∧k≤maxLen∧o+k≤cur.size∧∀ (i:Nat) (x:Int),l[i]? = some x→cur[o+i]? = some (Value.int .i64 x)
structure At (w:World) (base qb:Nat) (a:Qu) (p:Option Addr) (k:Nat):Prop where
 ge:base≤qb
 obj:w.heap[qb]? = some (.cells #[.slice p a.vals.length k,.int .i64 a.cap,.int .i64 a.pol,.int .i64 a.mode] 124 (0,0))
 own:Ov w base a.vals p k
 ne:∀ x,p=some x→x.block≠qb
structure Chg (qb:Nat) (p:Option Addr) (w w' : World):Prop where
 os:w'.os=w.os
 tape:w'.tape=w.tape
 output:w'.output=w.output
 size:w.heap.size≤w'.heap.size
 block:∀ j,j<w.heap.size→j≠qb→(∀ x,p=some x→j≠x.block)→w'.heap[j]? = w.heap[j]?
theorem Ov.len {w:World} {base:Nat} {l:List Int} {p:Option Addr} {k:Nat} (h:Ov w base l p k):l.length≤k:=by
 obtain ⟨_,_,_,_,_,_,h,_⟩:=h;exact h
theorem Ov.max {w:World} {base:Nat} {l:List Int} {p:Option Addr} {k:Nat} (h:Ov w base l p k):k≤maxLen:=by
 obtain ⟨_,_,_,_,_,_,_,h,_⟩:=h;exact h
theorem Ov.of_block {w w' : World} {base:Nat} {l:List Int} {p:Option Addr} {k:Nat} (h:Ov w base l p k) (hb:∀ x,p=some x→w'.heap[x.block]? = w.heap[x.block]?):Ov w' base l p k:=by
 obtain ⟨g,o,cur,rfl,h1,h2,h3⟩:=h
 exact ⟨g,o,cur,rfl,h1,(hb _ rfl).trans h2,h3⟩
theorem Ov.lt {w:World} {base:Nat} {l:List Int} {p:Option Addr} {k:Nat} (h:Ov w base l p k):∀ x,p=some x→base≤x.block∧x.block<w.heap.size:=by
 obtain ⟨g,o,cur,rfl,h1,h2,h3⟩:=h
 intro x hx;cases hx
 exact ⟨h1,(Array.getElem?_eq_some_iff.1 h2).1⟩
theorem Ov.kept {w w' : World} {base:Nat} {l:List Int} {p:Option Addr} {k:Nat} (h:Ov w base l p k) (hk:Below w.heap.size w w'):Ov w' base l p k :=
 h.of_block fun x hx=>hk.block _ (h.lt x hx).2
theorem Ov.sl {w:World} {base:Nat} {l:List Int} {p:Option Addr} {k:Nat} (h:Ov w base l p k):Sl w 1 Z8 l (.slice p l.length k):=by
 obtain ⟨g,o,cur,rfl,h1,h2,h3,h4,h5,h6⟩:=h
 refine ⟨some ⟨g,o,none⟩,k,rfl,h3,h4,(fun h=>by cases h),fun _=>⟨g,o,rfl,(Array.getElem?_eq_some_iff.1 h2).1,fun i x hx j hj=>?_⟩⟩
 obtain rfl:j=0:=by omega
 have:=h6 i x hx
 simp [World.cell?,h2,Z8,this]
theorem Ov.tail {w:World} {base:Nat} {v:Int} {r:List Int} {g o k:Nat} {x:Addr} (h:Ov w base (v::r) (some ⟨g,o,none⟩) k) (hx:1<k→x=⟨g,o+1,none⟩) (hx1:k≤1→x=⟨g,o,none⟩):Ov w base r (some x) (k - 1):=by
 obtain ⟨g,o,cur,hp,h1,h2,h3,h4,h5,h6⟩:=h
 cases hp
 simp only [List.length_cons] at h3
 by_cases hk:1<k
 ·rw [hx hk]
  exact ⟨g,o+1,cur,rfl,h1,h2,by omega,by omega,by omega,fun i y hy=>by
   have:=h6 (i+1) y (by simpa using hy);rw [← this];congr 1;omega⟩
 ·have:r=[]:=List.length_eq_zero_iff.1 (by omega)
  subst this
  rw [hx1 (by omega)]
  exact ⟨g,o,cur,rfl,h1,h2,by simp,by omega,by omega,fun i y hy=>by simp at hy⟩
theorem Ov.made {W:World} {base:Nat} {l:List Int} {cur:Array Value} {g k:Nat} (hb:base≤g) (hg:W.heap[g]? = some (.cells cur 3 (0,0))) (hl:l.length≤k) (hm:k≤maxLen) (hc:k≤cur.size) (h:∀ (i:Nat) (x:Int),l[i]? = some x→cur[i]? = some (Value.int .i64 x)):Ov W base l (some ⟨g,0,none⟩) k :=
 ⟨g,0,cur,rfl,hb,hg,hl,hm,by omega,fun i x hx=>by rw [Nat.zero_add];exact h i x hx⟩
theorem Chg.refl (qb:Nat) (p:Option Addr) (w:World):Chg qb p w w:=⟨rfl,rfl,rfl,Nat.le_refl _,fun _ _ _ _=>rfl⟩
theorem Chg.of_kept {qb:Nat} {p:Option Addr} {w w' : World} (h:Below w.heap.size w w'):Chg qb p w w' := ⟨h.os,h.tape,h.output,h.size,fun j hj _ _=>h.block j hj⟩
theorem Chg.after {qb:Nat} {p:Option Addr} {w w' w'' : World} (h:Below w.heap.size w w') (k:Chg qb p w' w''):Chg qb p w w'' :=
 ⟨k.os.trans h.os,k.tape.trans h.tape,k.output.trans h.output,Nat.le_trans h.size k.size,fun j hj h1 h2=>(k.block j (Nat.lt_of_lt_of_le hj h.size) h1 h2).trans (h.block j hj)⟩
theorem Chg.then {qb:Nat} {p:Option Addr} {w w' w'' : World} (k:Chg qb p w w') (h:Below w'.heap.size w' w''):Chg qb p w w'' :=
 ⟨h.os.trans k.os,h.tape.trans k.tape,h.output.trans k.output,Nat.le_trans k.size h.size,fun j hj h1 h2=>(h.block j (Nat.lt_of_lt_of_le hj k.size)).trans (k.block j hj h1 h2)⟩
theorem Chg.set {qb:Nat} {p:Option Addr} {w w' : World} (h:Chg qb p w w') {x:Addr} (hx:x.block=qb) (u:Value):Chg qb p w (w'.setCell x u) :=
 ⟨h.os,h.tape,h.output,by simpa using h.size,fun j hj h1 h2=>(Below.heap_setCell _ _ _ _ (by rw [hx];exact h1)).trans (h.block j hj h1 h2)⟩
theorem Chg.below {base qb:Nat} {p:Option Addr} {w0 w w' : World} (hb:Below base w0 w) (h:Chg qb p w w') (hq:base≤qb) (hp:∀ x,p=some x→base≤x.block) (hs:base≤w.heap.size):Below base w0 w' :=
 hb.trans ⟨h.os,h.tape,h.output,h.size,fun j hj=>h.block j (by omega) (by omega) (fun x hx=>by have:=hp x hx;omega)⟩
theorem At.kept {w w' : World} {base qb:Nat} {a:Qu} {p:Option Addr} {k:Nat} (h:At w base qb a p k) (hk:Below w.heap.size w w'):At w' base qb a p k :=
 ⟨h.ge,(hk.block _ (Array.getElem?_eq_some_iff.1 h.obj).1).trans h.obj,h.own.kept hk,h.ne⟩
theorem At.lt {w:World} {base qb:Nat} {a:Qu} {p:Option Addr} {k:Nat} (h:At w base qb a p k):qb<w.heap.size:=(Array.getElem?_eq_some_iff.1 h.obj).1
theorem At.cells {w:World} {base qb:Nat} {a:Qu} {p:Option Addr} {k:Nat} (h:At w base qb a p k) :
  (w.cell? ⟨qb,0,none⟩=some (.slice p a.vals.length k)∧w.cell? ⟨qb,1,none⟩=some (.int .i64 a.cap)∧w.cell? ⟨qb,2,none⟩=some (.int .i64 a.pol)∧w.cell? ⟨qb,3,none⟩=some (.int .i64 a.mode))∧∀ j,w.frozen? ⟨qb,j,none⟩=false :=
 ⟨⟨by simp [World.cell?,h.obj],by simp [World.cell?,h.obj],by simp [World.cell?,h.obj],by simp [World.cell?,h.obj]⟩,fun j=>by simp [World.frozen?,h.obj]⟩
theorem heap_set {w:World} {b i:Nat} {c:Array Value} {t:TypeId} {f:Nat×Nat} (h:w.heap[b]? = some (.cells c t f)) (v:Value):(w.setCell ⟨b,i,none⟩ v).heap[b]? = some (.cells (c.setIfInBounds i v) t f):=by
 simp [World.setCell,Array.getElem?_modify,h]
theorem At.setVals {w:World} {base qb:Nat} {a:Qu} {p q:Option Addr} {k m n:Nat} {l:List Int} (h:w.heap[qb]? = some (.cells #[.slice p n k,.int .i64 a.cap,.int .i64 a.pol,.int .i64 a.mode] 124 (0,0))) (hge:base≤qb) (ho:Ov w base l q m) (hq:∀ x,q=some x→x.block≠qb) :
  At (w.setCell ⟨qb,0,none⟩ (.slice q l.length m)) base qb (a.with l) q m :=
 ⟨hge,(heap_set h _).trans rfl,ho.of_block fun x hx=>Below.heap_setCell _ _ _ _ (hq x hx),hq⟩
theorem At.setMode {w:World} {base qb:Nat} {a:Qu} {p:Option Addr} {k:Nat} (m:Int) (h:At w base qb a p k):At (w.setCell ⟨qb,3,none⟩ (.int .i64 m)) base qb ⟨a.vals,a.cap,a.pol,m⟩ p k :=
 ⟨h.ge,(heap_set h.obj _).trans rfl,h.own.of_block fun x hx=>Below.heap_setCell _ _ _ _ (h.ne x hx),h.ne⟩
def Told (base qb:Nat) (p:Option Addr) (r:Qu×Bool) (w:World) (e:Ending) (w' : World):Prop :=
 e = .returned (.bool r.2)∧∃ p' k',At w' base qb r.1 p' k' ∧ Chg qb p w w' ∧ ∀ x,p' = some x→(∃ y,p=some y∧x.block=y.block)∨w.heap.size≤x.block
theorem Q9 {base qb:Nat} {a:Qu} {p:Option Addr} {k:Nat} {b:Bool} {w:World} {e:Ending} {w' : World} (hA:At w base qb a p k) (h:e = .returned (.bool b)∧Kept w w'):Told base qb p (a,b) w e w' :=
 ⟨h.1,p,k,hA.kept h.2,Chg.of_kept h.2,fun x hx=>.inl ⟨x,hx,rfl⟩⟩
section
variable {P:Program}
theorem yZ (w:World) (t ty:TypeId) (ht:P.underlying t=some (.slice 3)) (hinfo:(P.info? 3).map (fun i=>(i.zero,i.size,i.bytes))=some (some (.int .i64 0),1,8))
  {base:Nat} {l:List Int} {p:Option Addr} {k:Nat} (h:Ov w base l p k) (va:Int) (s:Addr) (c:Nat) (hs:w.cell? s=some (.int .i64 va)) (hm:l.length≤1000) (hbase:base≤w.heap.size) :
  ∃ p' k' w',(Builtin.append_ #[t,t] ty #[.slice p l.length k,.slice (some s) 1 c]).run P w = .ok (.slice p' (l.length+1) k') w' ∧ Ov w' base (l++[va]) p' k' ∧
   (∀ qb,Chg qb p w w')∧(∀ x,p' = some x→(∃ y,p=some y∧x.block=y.block)∨w.heap.size≤x.block):=by
 obtain ⟨i,hi,hz0,hz1,hz2⟩:=info_parts hinfo
 obtain ⟨g,o,cur,rfl,h1,h2,h3,h4,h5,h6⟩:=h
 have hsrc:Src P i.size t (.slice (some s) 1 c) 1 [.int .i64 va] w:=Src.ofSlice w ht s 1 c [.int .i64 va] (by rw [hz1];rfl) (fun j u hu=>by
  cases j with
  | zero=>simp at hu;subst hu;simpa [Addr.add] using hs
  | succ j=>simp at hu) (fun u hu=>by simp at hu;subst hu;rfl)
 have hlt:g<w.heap.size:=(Array.getElem?_eq_some_iff.1 h2).1
 by_cases hroom:l.length+1≤k
 ·have hin:o+l.length<cur.size:=by omega
  have hr:=run_append_room_src (P:=P) w t t ty 3 i ht hi g o l.length k (.slice (some s) 1 c) 1 [.int .i64 va] hsrc hroom
   (fun j hj=>by simp at hj;subst hj;rw [hz1];simp [World.cell?,h2,hin]) (fun j hj=>by simp [World.frozen?,h2])
  rw [hz1,Nat.mul_one] at hr
  refine ⟨_,_,_,hr,⟨g,o,cur.setIfInBounds (o+l.length) (.int .i64 va),rfl,h1,heap_set h2 _,by simpa using hroom,h4,by simpa using h5,fun i x hx=>?_⟩,fun qb=>⟨rfl,rfl,rfl,by show w.heap.size≤(World.setCell w _ _).heap.size;simp,fun j hj h1 h2=>Below.heap_setCell _ _ _ _ (by show j≠g;exact h2 _ rfl)⟩,fun x hx=>by cases hx;exact .inl ⟨_,rfl,rfl⟩⟩
  rw [Array.getElem?_setIfInBounds]
  by_cases hil:i<l.length
  ·rw [if_neg (by omega)]
   rw [List.getElem?_append_left hil] at hx
   exact h6 i x hx
  ·have:i=l.length:=by
    have:=(List.getElem?_eq_some_iff.1 hx).1
    simp at this;omega
   subst this
   simp at hx
   subst hx
   simp [hin]
 ·have hold:(Builtin.firstCells i.size l.length (.slice (some ⟨g,o,none⟩) l.length k)).run P w.drew = .ok (l.map (Value.int .i64)).toArray w.drew :=
   run_firstCells_some (P:=P) w.drew i.size l.length ⟨g,o,none⟩ l.length k (l.map (Value.int .i64)) (by rw [hz1];simp) (fun j v hv=>by
    simp only [List.getElem?_map,Option.map_eq_some_iff] at hv
    obtain ⟨x,hx,rfl⟩:=hv
    have hadd:(⟨g,o,none⟩:Addr).add j=⟨g,o+j,none⟩:=by unfold Addr.add;split <;> simp_all
    rw [hadd]
    show World.cell? w _=_
    simp [World.cell?,h2,h6 j x hx])
  have hr:=run_append_grow_src (P:=P) w t t ty 3 i (.int .i64 0) ht hi hz0 (some ⟨g,o,none⟩) l.length k (l.map (Value.int .i64)) hold (.slice (some s) 1 c) 1 [.int .i64 va] hsrc (by omega) (by omega) (growslice_fits (by omega) (by rw [hz2];omega))
  have hcap:=grownCap_ge w (l.length+1) k 3
  have hcm:=grownCap_le_maxLen w (l.length+1) k 3 (by unfold maxLen;omega)
  refine ⟨_,_,_,hr,Ov.made hbase (heap_alloc_new w.drew _) (by simpa using hcap) hcm ?_ ?_,fun qb=>⟨rfl,rfl,rfl,by simp,fun j hj _ _=>(by first | exact heap_alloc_old w.drew j _ hj | exact World.alloc_heap_old w.drew _ hj | exact Below.heap_alloc w.drew _ j hj)⟩,fun x hx=>by cases hx;exact .inr (Nat.le_refl _)⟩
  ·simp [Builtin.zeroCells,Value.cells];omega
  ·intro i x hx
   have hil:=(List.getElem?_eq_some_iff.1 hx).1
   simp only [List.length_append,List.length_singleton] at hil
   rw [Array.getElem?_append_left (by simpa using hil)]
   have:(List.map (Value.int .i64) l++[Value.int .i64 va])=(l++[va]).map (Value.int .i64):=by simp
   rw [List.getElem?_toArray]
   rw [this,List.getElem?_map,hx]
   rfl
end
end
section
open Go.ChangeShapes Go.WideShapes Go.ChangeAt Go.RowKit
def fq (k:Int):Int:=if F5 k then 1 else if I5 k then 4 else k
theorem yK (k:Int) (w:World):Calls Tryz.prog 24 #[.int .i64 k] w fun e w' => e = .returned (.bool (F5 k))∧Kept w w' := by
 go_enter Tryz.func24,Tryz.ntmps24
 go_wp2
 all_goals (go_ret;exact ⟨M7 (by first | (rw [Bool.eq_iff_iff];simp [F5];omega) | (simp [F5, *];done) | (simp [F5, *];omega) | (simp [F5, *];intros;omega)),by exact F6⟩)
theorem yY (k:Int) (w:World):Calls Tryz.prog 54 #[.int .i64 k] w fun e w' => e = .returned (.bool (I5 k))∧Kept w w' := by
 go_enter Tryz.func54,Tryz.ntmps54
 go_wp2
 all_goals (go_ret;exact ⟨M7 (by first | (rw [Bool.eq_iff_iff];simp [I5];omega) | (simp [I5, *];done) | (simp [I5, *];omega) | (simp [I5, *];intros;omega)),by exact F6⟩)
theorem zX (k:Int) (w:World):Calls Tryz.prog 137 #[.int .i64 k] w fun e w' => e = .returned (.int .i64 (fq k))∧Kept w w' := by
 cases h1:F5 k <;> cases h2:I5 k
 all_goals
  go_enter Tryz.func137,Tryz.ntmps137
  go_wp2_with (first | (go_at_call 24;refine (yK _ _).mono ?_;rintro e wx ⟨rfl,hgx⟩) | (go_at_call 54;refine (yY _ _).mono ?_;rintro e wx ⟨rfl,hgx⟩))
  all_goals (go_ret;exact ⟨cO (by simp [fq, *]),by exact F6⟩)
set_option maxHeartbeats 1000000 in
theorem sS (qb:Nat) (l:List Int) (qc qp qm:Int) (p:Option Addr) (k:Nat) (w:World) (hz:qb<w.heap.size) (c0:w.cell? ⟨qb,0,none⟩=some (.slice p l.length k)) (c1:w.cell? ⟨qb,1,none⟩=some (.int .i64 qc)) (c2:w.cell? ⟨qb,2,none⟩=some (.int .i64 qp)) (c3:w.cell? ⟨qb,3,none⟩=some (.int .i64 qm)):Calls Tryz.prog 188 #[.pointer (some ⟨qb,0,none⟩)] w fun e w' => e = .returned (.bool (decide (qc≤(l.length:Int))))∧Kept w w' := by
 go_enter Tryz.func188,Tryz.ntmps188
 go_wp2
 go_region
 all_goals go_wp2
 all_goals (go_ret;exact ⟨M7 (by first | rfl | (simp;done) | (rw [Bool.eq_iff_iff];simp;omega)),by exact F6⟩)
set_option maxHeartbeats 1000000 in
theorem kZ (qb:Nat) (l:List Int) (qc qp qm:Int) (p:Option Addr) (k:Nat) (w:World) (hz:qb<w.heap.size) (c0:w.cell? ⟨qb,0,none⟩=some (.slice p l.length k)) (c1:w.cell? ⟨qb,1,none⟩=some (.int .i64 qc)) (c2:w.cell? ⟨qb,2,none⟩=some (.int .i64 qp)) (c3:w.cell? ⟨qb,3,none⟩=some (.int .i64 qm)) (po:Int):Calls Tryz.prog 189 #[.pointer (some ⟨qb,0,none⟩),.int .i64 po] w fun e w' => e = .returned (.bool (decide (qm=0)&&decide (qc≤(l.length:Int))&&decide (qp=po)))∧Kept w w' := by
 have b3:decide (qp=po)=(qp==po):=rfl
 have b2:decide (qm=0)=(qm==0):=rfl
 cases b0:(qm==0) <;> cases b1:decide (qc≤(l.length:Int))
 all_goals
  go_enter Tryz.func189,Tryz.ntmps189
  go_wp2_with (first | (go_at_call 188;refine (sS qb l qc qp qm p k _ (by first | assumption | (simp;omega)) (by first | assumption | (refine (World.cell?_alloc_past _ _ _ (by first | assumption | (simp;omega))).trans ?_;assumption)) (by first | assumption | (refine (World.cell?_alloc_past _ _ _ (by first | assumption | (simp;omega))).trans ?_;assumption)) (by first | assumption | (refine (World.cell?_alloc_past _ _ _ (by first | assumption | (simp;omega))).trans ?_;assumption)) (by first | assumption | (refine (World.cell?_alloc_past _ _ _ (by first | assumption | (simp;omega))).trans ?_;assumption))).mono ?_;rintro e wx ⟨rfl,hgx⟩;obtain ⟨hcx,hfx⟩:=aY hgx))
  all_goals (go_ret;exact ⟨M7 (by first | rfl | (simp only [*,Bool.true_and,Bool.and_true,Bool.false_and,Bool.and_false,Bool.true_or,Bool.false_or,Bool.or_true,Bool.or_false];done) | (simp [*];done)),by exact F6⟩)
set_option maxHeartbeats 1000000 in
theorem Eu (qb:Nat) (l:List Int) (qc qp qm:Int) (p:Option Addr) (k:Nat) (w:World) (hz:qb<w.heap.size) (c0:w.cell? ⟨qb,0,none⟩=some (.slice p l.length k)) (c1:w.cell? ⟨qb,1,none⟩=some (.int .i64 qc)) (c2:w.cell? ⟨qb,2,none⟩=some (.int .i64 qp)) (c3:w.cell? ⟨qb,3,none⟩=some (.int .i64 qm)) (th ki va re go:Int):Calls Tryz.prog 126 #[.pointer (some ⟨qb,0,none⟩),.agg #[.int .i64 th,.int .i64 ki,.int .i64 va,.int .i64 re,.int .i64 go]] w fun e w' => e = .returned (.bool (decide (qm=0)&&decide (qc≤(l.length:Int))&&decide (qp=0)&&decide (ki=2)))∧Kept w w' := by
 have b2:decide (ki=2)=(ki==2):=rfl
 cases b0:(ki==2)
 all_goals
  go_enter Tryz.func126,Tryz.ntmps126
  go_wp2_with (first | (go_at_call 189;refine (kZ qb l qc qp qm p k _ (by first | assumption | (simp;omega)) (by first | assumption | (refine (World.cell?_alloc_past _ _ _ (by first | assumption | (simp;omega))).trans ?_;assumption)) (by first | assumption | (refine (World.cell?_alloc_past _ _ _ (by first | assumption | (simp;omega))).trans ?_;assumption)) (by first | assumption | (refine (World.cell?_alloc_past _ _ _ (by first | assumption | (simp;omega))).trans ?_;assumption)) (by first | assumption | (refine (World.cell?_alloc_past _ _ _ (by first | assumption | (simp;omega))).trans ?_;assumption)) _).mono ?_;rintro e wx ⟨rfl,hgx⟩;obtain ⟨hcx,hfx⟩:=aY hgx;have hz0:w.heap.size<wx.heap.size:=(by have:=hgx.size;(try simp at this);omega)))
  all_goals (go_ret;exact ⟨M7 (by first | rfl | (simp only [*,Bool.true_and,Bool.and_true,Bool.false_and,Bool.and_false,Bool.true_or,Bool.false_or,Bool.or_true,Bool.or_false];done) | (simp [*];done)),by exact F6⟩)
set_option maxHeartbeats 1000000 in
theorem IE (qb:Nat) (l:List Int) (qc qp qm:Int) (p:Option Addr) (k:Nat) (w:World) (hz:qb<w.heap.size) (c0:w.cell? ⟨qb,0,none⟩=some (.slice p l.length k)) (c1:w.cell? ⟨qb,1,none⟩=some (.int .i64 qc)) (c2:w.cell? ⟨qb,2,none⟩=some (.int .i64 qp)) (c3:w.cell? ⟨qb,3,none⟩=some (.int .i64 qm)) (th ki va re go:Int):Calls Tryz.prog 127 #[.pointer (some ⟨qb,0,none⟩),.agg #[.int .i64 th,.int .i64 ki,.int .i64 va,.int .i64 re,.int .i64 go]] w fun e w' => e = .returned (.bool (decide (qm=0)&&decide (qc≤(l.length:Int))&&decide (qp=1)))∧Kept w w' := by
 go_enter Tryz.func127,Tryz.ntmps127
 go_wp2_with (first | (go_at_call 189;refine (kZ qb l qc qp qm p k _ (by first | assumption | (simp;omega)) (by first | assumption | (refine (World.cell?_alloc_past _ _ _ (by first | assumption | (simp;omega))).trans ?_;assumption)) (by first | assumption | (refine (World.cell?_alloc_past _ _ _ (by first | assumption | (simp;omega))).trans ?_;assumption)) (by first | assumption | (refine (World.cell?_alloc_past _ _ _ (by first | assumption | (simp;omega))).trans ?_;assumption)) (by first | assumption | (refine (World.cell?_alloc_past _ _ _ (by first | assumption | (simp;omega))).trans ?_;assumption)) _).mono ?_;rintro e wx ⟨rfl,hgx⟩;obtain ⟨hcx,hfx⟩:=aY hgx;have hz0:w.heap.size<wx.heap.size:=(by have:=hgx.size;(try simp at this);omega)))
 all_goals (go_ret;exact ⟨rfl,by exact F6⟩)
set_option maxHeartbeats 1000000 in
theorem Al (qb:Nat) (w:World) (th ki va re go:Int):Calls Tryz.prog 128 #[.pointer (some ⟨qb,0,none⟩),.agg #[.int .i64 th,.int .i64 ki,.int .i64 va,.int .i64 re,.int .i64 go]] w fun e w' => e = .returned (.bool (or (decide (ki=3)) (decide (ki=6))))∧Kept w w' := by
 have b2:decide (ki=3)=(ki==3):=rfl
 have b3:decide (ki=6)=(ki==6):=rfl
 cases b0:(ki==3)
 all_goals
  go_enter Tryz.func128,Tryz.ntmps128
  go_wp2
  all_goals (go_ret;exact ⟨M7 (by first | rfl | (simp only [*,Bool.true_and,Bool.and_true,Bool.false_and,Bool.and_false,Bool.true_or,Bool.false_or,Bool.or_true,Bool.or_false];done) | (simp [*];done)),by exact F6⟩)
set_option maxHeartbeats 1000000 in
theorem Fp (qb:Nat) (l:List Int) (qc qp qm:Int) (p:Option Addr) (k:Nat) (w:World) (hz:qb<w.heap.size) (c0:w.cell? ⟨qb,0,none⟩=some (.slice p l.length k)) (c1:w.cell? ⟨qb,1,none⟩=some (.int .i64 qc)) (c2:w.cell? ⟨qb,2,none⟩=some (.int .i64 qp)) (c3:w.cell? ⟨qb,3,none⟩=some (.int .i64 qm)) (th ki va re go:Int):Calls Tryz.prog 129 #[.pointer (some ⟨qb,0,none⟩),.agg #[.int .i64 th,.int .i64 ki,.int .i64 va,.int .i64 re,.int .i64 go]] w fun e w' => e = .returned (.bool (decide (qm=1)))∧Kept w w' := by
 go_enter Tryz.func129,Tryz.ntmps129
 go_wp2
 all_goals (go_ret;exact ⟨M7 (by first | rfl | (simp only [*,Bool.true_and,Bool.and_true,Bool.false_and,Bool.and_false,Bool.true_or,Bool.false_or,Bool.or_true,Bool.or_false];done) | (simp [*];done)),by exact F6⟩)
set_option maxHeartbeats 1000000 in
theorem yn (qb:Nat) (l:List Int) (qc qp qm:Int) (p:Option Addr) (k:Nat) (w:World) (hz:qb<w.heap.size) (c0:w.cell? ⟨qb,0,none⟩=some (.slice p l.length k)) (c1:w.cell? ⟨qb,1,none⟩=some (.int .i64 qc)) (c2:w.cell? ⟨qb,2,none⟩=some (.int .i64 qp)) (c3:w.cell? ⟨qb,3,none⟩=some (.int .i64 qm)) (th ki va re go:Int):Calls Tryz.prog 130 #[.pointer (some ⟨qb,0,none⟩),.agg #[.int .i64 th,.int .i64 ki,.int .i64 va,.int .i64 re,.int .i64 go]] w fun e w' => e = .returned (.bool (decide (qm=2)))∧Kept w w' := by
 go_enter Tryz.func130,Tryz.ntmps130
 go_wp2
 all_goals (go_ret;exact ⟨M7 (by first | rfl | (simp only [*,Bool.true_and,Bool.and_true,Bool.false_and,Bool.and_false,Bool.true_or,Bool.false_or,Bool.or_true,Bool.or_false];done) | (simp [*];done)),by exact F6⟩)
set_option maxHeartbeats 1000000 in
theorem Jn (qb:Nat) (l:List Int) (qc qp qm:Int) (p:Option Addr) (k:Nat) (w:World) (hz:qb<w.heap.size) (c0:w.cell? ⟨qb,0,none⟩=some (.slice p l.length k)) (c1:w.cell? ⟨qb,1,none⟩=some (.int .i64 qc)) (c2:w.cell? ⟨qb,2,none⟩=some (.int .i64 qp)) (c3:w.cell? ⟨qb,3,none⟩=some (.int .i64 qm)) (th ki va re go:Int):Calls Tryz.prog 132 #[.pointer (some ⟨qb,0,none⟩),.agg #[.int .i64 th,.int .i64 ki,.int .i64 va,.int .i64 re,.int .i64 go]] w fun e w' => e = .returned (.bool (decide (qm=0)&&decide (l.length=0)&&decide (ki=5)))∧Kept w w' := by
 have b2:decide (ki=5)=(ki==5):=rfl
 have b3:decide (qm=0)=(qm==0):=rfl
 have b4:decide (l.length=0)=((l.length:Int)==0):=by rw [Bool.eq_iff_iff];simp
 cases b0:(ki==5) <;> cases b1:(qm==0)
 all_goals
  go_enter Tryz.func132,Tryz.ntmps132
  go_wp2
  all_goals (go_ret;exact ⟨M7 (by first | rfl | (simp only [*,Bool.true_and,Bool.and_true,Bool.false_and,Bool.and_false,Bool.true_or,Bool.false_or,Bool.or_true,Bool.or_false];done) | (simp [*];done)),by exact F6⟩)
set_option maxHeartbeats 1000000 in
theorem Cj (qb:Nat) (l:List Int) (qc qp qm:Int) (p:Option Addr) (k:Nat) (w:World) (hz:qb<w.heap.size) (c0:w.cell? ⟨qb,0,none⟩=some (.slice p l.length k)) (c1:w.cell? ⟨qb,1,none⟩=some (.int .i64 qc)) (c2:w.cell? ⟨qb,2,none⟩=some (.int .i64 qp)) (c3:w.cell? ⟨qb,3,none⟩=some (.int .i64 qm)) (th ki va re go:Int):Calls Tryz.prog 133 #[.pointer (some ⟨qb,0,none⟩),.agg #[.int .i64 th,.int .i64 ki,.int .i64 va,.int .i64 re,.int .i64 go]] w fun e w' => e = .returned (.bool (decide (qm=1)&&decide (l.length=0)))∧Kept w w' := by
 have b3:decide (qm=1)=(qm==1):=rfl
 have b4:decide (l.length=0)=((l.length:Int)==0):=by rw [Bool.eq_iff_iff];simp
 cases b1:(qm==1)
 all_goals
  go_enter Tryz.func133,Tryz.ntmps133
  go_wp2
  all_goals (go_ret;exact ⟨M7 (by first | rfl | (simp only [*,Bool.true_and,Bool.and_true,Bool.false_and,Bool.and_false,Bool.true_or,Bool.false_or,Bool.or_true,Bool.or_false];done) | (simp [*];done)),by exact F6⟩)
end
section
open Go.ChangeShapes Go.WideShapes Go.ChangeAt Go.RowKit
theorem Ov.head {w:World} {base:Nat} {v:Int} {r:List Int} {g o k:Nat} (h:Ov w base (v::r) (some ⟨g,o,none⟩) k):w.cell? ⟨g,o,none⟩=some (.int .i64 v):=by
 obtain ⟨g,o,cur,hp,h1,h2,h3,h4,h5,h6⟩:=h
 cases hp
 have:=h6 0 v rfl
 simp [World.cell?,h2,← this]
set_option maxHeartbeats 1000000 in
theorem Ay (base qb:Nat) (a:Qu) (p:Option Addr) (k:Nat) (w:World) (hA:At w base qb a p k) (n:Int):Calls Tryz.prog 190 #[.pointer (some ⟨qb,0,none⟩),.int .i64 n] w (Told base qb p (a.gone n) w):=by
 have hz:=hA.lt
 obtain ⟨⟨c0,c1,c2,c3⟩,hf⟩:=hA.cells
 obtain ⟨l,qc,qp,qm⟩:=a
 have hf0:=hf 0
 have hlen:=hA.own.len
 have hmx:=hA.own.max
 unfold maxLen at hmx
 clear hf
 simp only at *
 cases l with
 | nil =>
  have hq:Hid (Qu.gone ⟨[],qc,qp,qm⟩ n=(⟨[],qc,qp,qm⟩,false)):=Lib.hid rfl
  go_enter Tryz.func190,Tryz.ntmps190
  go_wp2
  go_ret
  rw [hq.out]
  exact Q9 hA ⟨rfl,by exact F6⟩
 | cons v r =>
  obtain ⟨g,o,hp⟩:∃ g o,p=some ⟨g,o,none⟩:=by obtain ⟨g,o,_,h,_⟩:=hA.own;exact ⟨g,o,h⟩
  subst hp
  have ch:=hA.own.head
  have hne:g≠qb:=hA.ne _ rfl
  obtain ⟨N,hN⟩:∃ N,(v::r).length=N:=⟨_,rfl⟩
  have hNr:r.length+1=N:=hN
  rw [hN] at c0 hlen
  have h0:((N:Int)==0)=false:=by simp;omega
  have h1:(0:Int)<(N:Int):=by omega
  have h2:(1:Int)≤(N:Int):=by omega
  have h3:(N:Int)≤(k:Int):=by omega
  have hNh:=Lib.hid hN
  have hNr' := Lib.hid hNr
  clear hN hNr
  cases hv:(v != n)
  ·obtain rfl:v=n:=by simpa using hv
   have hq:Hid (Qu.gone ⟨v::r,qc,qp,qm⟩ v=(⟨r,qc,qp,qm⟩,true)):=Lib.hid (by simp [Qu.gone,Qu.with])
   by_cases hk3:k=1
   ·subst hk3
    obtain rfl:N=1:=by omega
    go_enter Tryz.func190,Tryz.ntmps190
    go_wp2
    go_ret
    rw [hq.out]
    have hrl:r.length=0:=by have:=hNr'.out;omega
    have hT:Ov w base r (some ⟨g,o,none⟩) 0:=hA.own.tail (x:=⟨g,o,none⟩) (fun h=>absurd h (by omega)) (fun _=>rfl)
    have hS:=At.setVals (a:=⟨v::r,qc,qp,qm⟩) hA.obj hA.ge hT hA.ne
    rw [hrl] at hS
    exact ⟨rfl,_,_,hS,(Chg.refl qb _ w).set (x:=⟨qb,0,none⟩) rfl _,fun x hx=>.inl ⟨_,rfl,by cases hx;rfl⟩⟩
   ·have hk4:((1:Int)==(k:Int))=false:=by simp;omega
    go_enter Tryz.func190,Tryz.ntmps190
    go_wp2
    go_ret
    rw [hq.out]
    have hrl:r.length=N - 1:=by have:=hNr'.out;omega
    have hT:Ov w base r (some ⟨g,o+1,none⟩) (k - 1):=hA.own.tail (x:=⟨g,o+1,none⟩) (fun _=>rfl) (fun h=>absurd h (by omega))
    have hS:=At.setVals (a:=⟨v::r,qc,qp,qm⟩) hA.obj hA.ge hT (fun x hx=>by cases hx;exact hne)
    rw [hrl] at hS
    exact ⟨rfl,_,_,hS,(Chg.refl qb _ w).set (x:=⟨qb,0,none⟩) rfl _,fun x hx=>.inl ⟨_,rfl,by cases hx;rfl⟩⟩
  ·have hn:v≠n:=by simpa using hv
   have hq:Hid (Qu.gone ⟨v::r,qc,qp,qm⟩ n=(⟨v::r,qc,qp,qm⟩,false)):=Lib.hid (by simp [Qu.gone,hn])
   clear hn
   go_enter Tryz.func190,Tryz.ntmps190
   go_wp2
   go_ret
   rw [hq.out]
   exact Q9 hA ⟨rfl,by exact F6⟩
theorem Told.after {base qb:Nat} {p:Option Addr} {r:Qu×Bool} {w w1:World} {e:Ending} {w' : World} (hk:Below w.heap.size w w1) (h:Told base qb p r w1 e w'):Told base qb p r w e w' := by
 obtain ⟨he,p',k',h1,h2,h3⟩:=h
 exact ⟨he,p',k',h1,Chg.after hk h2,fun x hx=>(h3 x hx).imp id (fun h=>Nat.le_trans hk.size h)⟩
set_option maxHeartbeats 1000000 in
theorem Mo (base qb:Nat) (a:Qu) (p:Option Addr) (k:Nat) (w:World) (hA:At w base qb a p k) (th ki va re go:Int):Calls Tryz.prog 131 #[.pointer (some ⟨qb,0,none⟩),.agg #[.int .i64 th,.int .i64 ki,.int .i64 va,.int .i64 re,.int .i64 go]] w (Told base qb p (if a.mode=2 then (a,false) else a.gone go) w):=by
 have hz:=hA.lt
 obtain ⟨⟨c0,c1,c2,c3⟩,-⟩:=hA.cells
 cases b0:(a.mode != 2)
 ·have h2:a.mode=2:=by simpa using b0
  have hq:Hid ((if a.mode=2 then (a,false) else a.gone go)=(a,false)):=Lib.hid (by rw [if_pos h2])
  clear h2
  rw [hq.out]
  go_enter Tryz.func131,Tryz.ntmps131
  go_wp2
  go_ret
  exact Q9 hA ⟨rfl,by exact F6⟩
 ·have h2:a.mode≠2:=by simpa using b0
  have hq:Hid ((if a.mode=2 then (a,false) else a.gone go)=a.gone go):=Lib.hid (by rw [if_neg h2])
  clear h2
  rw [hq.out]
  go_enter Tryz.func131,Tryz.ntmps131
  go_wp2_with ((go_at_call 190;refine (Ay base qb a p k _ (hA.kept (by exact F6)) _).mono ?_;rintro e wx hT;obtain ⟨rfl,hT2⟩:=hT))
  go_ret
  exact Told.after (by exact F6) ⟨rfl,hT2⟩
set_option maxHeartbeats 1000000 in
theorem Jd (base qb:Nat) (a:Qu) (p:Option Addr) (k:Nat) (w:World) (hA:At w base qb a p k) (th ki va re go:Int):Calls Tryz.prog 134 #[.pointer (some ⟨qb,0,none⟩),.agg #[.int .i64 th,.int .i64 ki,.int .i64 va,.int .i64 re,.int .i64 go]] w (Told base qb p (if decide (a.mode=0)&&decide (a.cap≤(a.vals.length:Int))&&decide (a.pol=2) then a.gone go else (a,false)) w):=by
 have hz:=hA.lt
 obtain ⟨⟨c0,c1,c2,c3⟩,-⟩:=hA.cells
 cases b0:(decide (a.mode=0)&&decide (a.cap≤(a.vals.length:Int))&&decide (a.pol=2))
 ·go_enter Tryz.func134,Tryz.ntmps134
  go_wp2_with ((go_at_call 189;refine (kZ qb a.vals a.cap a.pol a.mode p k _ (by first | assumption | (simp;omega)) (by first | assumption | (refine (World.cell?_alloc_past _ _ _ (by first | assumption | (simp;omega))).trans ?_;assumption)) (by first | assumption | (refine (World.cell?_alloc_past _ _ _ (by first | assumption | (simp;omega))).trans ?_;assumption)) (by first | assumption | (refine (World.cell?_alloc_past _ _ _ (by first | assumption | (simp;omega))).trans ?_;assumption)) (by first | assumption | (refine (World.cell?_alloc_past _ _ _ (by first | assumption | (simp;omega))).trans ?_;assumption)) _).mono ?_;rintro e wx ⟨rfl,hgx⟩;rw [b0];obtain ⟨hcx,hfx⟩:=aY hgx;have hz0:w.heap.size<wx.heap.size:=(by have:=hgx.size;simp at this;omega)))
  go_ret
  exact Q9 hA ⟨rfl,by exact F6⟩
 ·go_enter Tryz.func134,Tryz.ntmps134
  go_wp2_with (first | (go_at_call 189;refine (kZ qb a.vals a.cap a.pol a.mode p k _ (by first | assumption | (simp;omega)) (by first | assumption | (refine (World.cell?_alloc_past _ _ _ (by first | assumption | (simp;omega))).trans ?_;assumption)) (by first | assumption | (refine (World.cell?_alloc_past _ _ _ (by first | assumption | (simp;omega))).trans ?_;assumption)) (by first | assumption | (refine (World.cell?_alloc_past _ _ _ (by first | assumption | (simp;omega))).trans ?_;assumption)) (by first | assumption | (refine (World.cell?_alloc_past _ _ _ (by first | assumption | (simp;omega))).trans ?_;assumption)) _).mono ?_;rintro e wx ⟨rfl,hgx⟩;rw [b0];obtain ⟨hcx,hfx⟩:=aY hgx;have hz0:w.heap.size<wx.heap.size:=(by have:=hgx.size;simp at this;omega)) | (go_at_call 190;refine (Ay base qb a p k _ (hA.kept (by exact F6)) _).mono ?_;rintro e wy hT;obtain ⟨rfl,hT2⟩:=hT))
  go_ret
  exact Told.after (by exact F6) ⟨rfl,hT2⟩
set_option maxHeartbeats 1000000 in
theorem Hu (base qb:Nat) (a:Qu) (p:Option Addr) (k:Nat) (w:World) (hA:At w base qb a p k) (th ki va re go:Int):Calls Tryz.prog 135 #[.pointer (some ⟨qb,0,none⟩),.agg #[.int .i64 th,.int .i64 ki,.int .i64 va,.int .i64 re,.int .i64 go]] w (Told base qb p (⟨a.vals,a.cap,a.pol,gW a.mode⟩,true) w):=by
 have hz:=hA.lt
 obtain ⟨⟨c0,c1,c2,c3⟩,hf⟩:=hA.cells
 have hf3:=hf 3
 clear hf
 obtain ⟨l,qc,qp,qm⟩:=a
 simp only at *
 cases b0:(qm==0)
 ·have h2:qm≠0:=by simpa using b0
  have hq:Hid (gW qm=qm):=Lib.hid (by simp [gW,h2])
  clear h2
  go_enter Tryz.func135,Tryz.ntmps135
  go_wp2
  go_ret
  rw [hq.out]
  exact Q9 hA ⟨rfl,by exact F6⟩
 ·have h2:qm=0:=by simpa using b0
  have hq:Hid (gW qm=1):=Lib.hid (by simp [gW,h2])
  clear h2
  go_enter Tryz.func135,Tryz.ntmps135
  go_wp2
  go_ret
  rw [hq.out]
  exact ⟨rfl,_,_,(hA.setMode 1).kept ((Below.refl _ _).alloc (Nat.le_refl _) _),((Chg.refl qb p w).set (x:=⟨qb,3,none⟩) rfl _).then ((Below.refl _ _).alloc (Nat.le_refl _) _),fun x hx=>.inl ⟨_,hx,rfl⟩⟩
set_option maxHeartbeats 1000000 in
theorem Ou (base qb:Nat) (a:Qu) (p:Option Addr) (k:Nat) (w:World) (hA:At w base qb a p k) (th ki va re go:Int):Calls Tryz.prog 136 #[.pointer (some ⟨qb,0,none⟩),.agg #[.int .i64 th,.int .i64 ki,.int .i64 va,.int .i64 re,.int .i64 go]] w (Told base qb p (⟨a.vals,a.cap,a.pol,2⟩,true) w):=by
 have hz:=hA.lt
 obtain ⟨⟨c0,c1,c2,c3⟩,hf⟩:=hA.cells
 have hf3:=hf 3
 clear hf
 obtain ⟨l,qc,qp,qm⟩:=a
 simp only at *
 go_enter Tryz.func136,Tryz.ntmps136
 go_wp2
 go_ret
 exact ⟨rfl,_,_,(hA.setMode 2).kept ((Below.refl _ _).alloc (Nat.le_refl _) _),((Chg.refl qb p w).set (x:=⟨qb,3,none⟩) rfl _).then ((Below.refl _ _).alloc (Nat.le_refl _) _),fun x hx=>.inl ⟨_,hx,rfl⟩⟩
end
section
open Go.ChangeShapes Go.WideShapes Go.ChangeAt Go.RowKit
set_option maxHeartbeats 1000000 in
theorem Be (base qb:Nat) (a:Qu) (p:Option Addr) (k:Nat) (w:World) (hA:At w base qb a p k) (th ki va re go:Int) (h:a.mode≠0∨a.cap≤a.vals.length):Calls Tryz.prog 125 #[.pointer (some ⟨qb,0,none⟩),.agg #[.int .i64 th,.int .i64 ki,.int .i64 va,.int .i64 re,.int .i64 go]] w (Told base qb p (a,false) w):=by
 have hz:=hA.lt
 obtain ⟨⟨c0,c1,c2,c3⟩,-⟩:=hA.cells
 cases b0:(a.mode != 0)
 ·have h2:a.mode=0:=by simpa using b0
  have h3:decide (a.cap≤(a.vals.length:Int))=true:=by simp;omega
  clear h h2
  go_enter Tryz.func125,Tryz.ntmps125
  go_wp2_with ((go_at_call 188;refine (sS qb a.vals a.cap a.pol a.mode p k _ (by first | assumption | (simp;omega)) (by first | assumption | (refine (World.cell?_alloc_past _ _ _ (by first | assumption | (simp;omega))).trans ?_;assumption)) (by first | assumption | (refine (World.cell?_alloc_past _ _ _ (by first | assumption | (simp;omega))).trans ?_;assumption)) (by first | assumption | (refine (World.cell?_alloc_past _ _ _ (by first | assumption | (simp;omega))).trans ?_;assumption)) (by first | assumption | (refine (World.cell?_alloc_past _ _ _ (by first | assumption | (simp;omega))).trans ?_;assumption))).mono ?_;rintro e wx ⟨rfl,hgx⟩;rw [h3]))
  go_ret
  exact Q9 hA ⟨rfl,by exact F6⟩
 ·clear h
  go_enter Tryz.func125,Tryz.ntmps125
  go_wp2
  go_ret
  exact Q9 hA ⟨rfl,by exact F6⟩
theorem Vj {P:Program} {ops:Array Oper} {o:Oper} {a:Act} {w w2:World} {K:Act→World→Prop} {Q:Exit→Act→World→Prop} {E:Prop} (hgd:o.guard=none) (s x:Operand) (t:TypeId)
  (ho:o.op = .call { callee:=.builtin .append,args:=#[s,x],argTypes:=#[t,t] }) {v u r:Value} (hs:a.eval s=v) (hx:a.eval x=u) (hrun:(Builtin.append_ #[t,t] o.type #[v,u]).run P w = .ok r w2)
  (h:K (a.put o.dst r) w2):if Region.wanted o (yielded ops a.tmps)=true then Oper.wp P o a w K Q else E:=by
 rw [if_pos (by simp [Region.wanted,hgd])]
 unfold Oper.wp
 simp [execOp,ho,resolve,invoke,builtin,hs,hx,hrun,Result.andThen]
 exact h
set_option maxHeartbeats 1000000 in
theorem GJ (base qb:Nat) (a:Qu) (p:Option Addr) (k:Nat) (w:World) (hA:At w base qb a p k) (th ki va re go:Int) (h0:a.mode=0) (h1:(a.vals.length:Int)<a.cap) (hm:a.vals.length≤1000):Calls Tryz.prog 125 #[.pointer (some ⟨qb,0,none⟩),.agg #[.int .i64 th,.int .i64 ki,.int .i64 va,.int .i64 re,.int .i64 go]] w (Told base qb p (a.with (a.vals++[va]),true) w):=by
 have hz:=hA.lt
 obtain ⟨⟨c0,c1,c2,c3⟩,hf⟩:=hA.cells
 have hf0:=hf 0
 clear hf
 have h3:decide (a.cap≤(a.vals.length:Int))=false:=by simp;omega
 have b0:(a.mode != 0)=false:=by simp [h0]
 clear h0 h1
 go_enter Tryz.func125,Tryz.ntmps125
 go_wp2_with ((go_at_call 188;refine (sS qb a.vals a.cap a.pol a.mode p k _ (by first | assumption | (simp;omega)) (by first | assumption | (refine (World.cell?_alloc_past _ _ _ (by first | assumption | (simp;omega))).trans ?_;assumption)) (by first | assumption | (refine (World.cell?_alloc_past _ _ _ (by first | assumption | (simp;omega))).trans ?_;assumption)) (by first | assumption | (refine (World.cell?_alloc_past _ _ _ (by first | assumption | (simp;omega))).trans ?_;assumption)) (by first | assumption | (refine (World.cell?_alloc_past _ _ _ (by first | assumption | (simp;omega))).trans ?_;assumption))).mono ?_;rintro e wx ⟨rfl,hgx⟩;rw [h3]))
 have hA' : At wx base qb a p k:=(hA.kept (w' := w.alloc (.cells #[.int .i64 th,.int .i64 ki,.int .i64 va,.int .i64 re,.int .i64 go] 60)) (by exact F6)).kept hgx
 have d0:=hA'.cells.1.1
 have f0:=hA'.cells.2 0
 have d2:wx.cell? ⟨w.heap.size,2,none⟩=some (.int .i64 va):=(hgx.cell (p:=⟨w.heap.size,2,none⟩) (by simp)).trans (by simp)
 have hz1:=hA'.lt
 have hz2:w.heap.size<wx.heap.size:=by have:=hgx.size;simp at this;omega
 obtain ⟨p',k',w2,hrun,hO,hC,hpb⟩:=yZ (P:=Tryz.prog) (wx.alloc (.cells #[.int .i64 va] 3)).drew 28 28 Tryz.underlying28 sJ (hA'.own.kept (w' := (wx.alloc (.cells #[.int .i64 va] 3)).drew) ((Below.refl _ _).alloc (Nat.le_refl _) _).drew) va ⟨wx.heap.size,0,none⟩ 1 (by simp) hm (by have:=hA'.ge;simp;omega)
 have hC1:Chg qb p w w2:=Chg.after (by exact F6) (hC qb)
 have hob:w2.heap[qb]? = _:=((hC (qb+1)).block qb (by simp;omega) (by omega) (fun x hx=>(hA'.ne x hx).symm)).trans ((Below.heap_alloc wx _ qb hz1).trans hA'.obj)
 have e0:w2.cell? ⟨qb,0,none⟩=some (.slice p a.vals.length k):=by simp [World.cell?,hob]
 have e1:w2.frozen? ⟨qb,0,none⟩=false:=by simp [World.frozen?,hob]
 have hne:∀ x,p' = some x→x.block≠qb:=fun x hx=>by
  rcases hpb x hx with ⟨y,hy,e⟩ | h
  ·rw [e];exact hA'.ne y hy
  ·simp at h;omega
 have hS:=At.setVals (a:=a) hob hA'.ge hO hne
 have hpb' : ∀ x,p' = some x→(∃ y,p=some y∧x.block=y.block)∨w.heap.size≤x.block:=fun x hx=>(hpb x hx).imp id (fun h=>by simp at h;omega)
 have hl:(a.vals++[va]).length=a.vals.length+1:=by simp
 rw [hl] at hS
 have hS' := Lib.hid hS
 have hl' := Lib.hid hl
 have hob' := Lib.hid hob
 clear hC hO hob hpb hS hl hne
 go_region_law ((refine Vj (by rfl) _ _ 28 (by rfl) (by rfl) (by rfl) hrun ?_))
 all_goals go_wp2
 all_goals go_ret
 all_goals exact ⟨rfl,_,_,hS'.out,hC1.set (x:=⟨qb,0,none⟩) rfl _,hpb'⟩
theorem IW (base qb:Nat) (a:Qu) (p:Option Addr) (k:Nat) (w:World) (hA:At w base qb a p k) (th ki va re go:Int) (hm:a.vals.length≤1000):Calls Tryz.prog 125 #[.pointer (some ⟨qb,0,none⟩),.agg #[.int .i64 th,.int .i64 ki,.int .i64 va,.int .i64 re,.int .i64 go]] w (Told base qb p (if decide (a.mode≠0)||a.full then (a,false) else (a.with (a.vals++[va]),true)) w):=by
 by_cases h0:a.mode=0
 ·by_cases h1:(a.vals.length:Int)<a.cap
  ·have:(if decide (a.mode≠0)||a.full then (a,false) else (a.with (a.vals++[va]),true))=(a.with (a.vals++[va]),true):=by rw [if_neg];simp [h0,Qu.full];omega
   rw [this]
   exact GJ base qb a p k w hA th ki va re go h0 h1 hm
  ·have:(if decide (a.mode≠0)||a.full then (a,false) else (a.with (a.vals++[va]),true))=(a,false):=by rw [if_pos];simp [h0,Qu.full];omega
   rw [this]
   exact Be base qb a p k w hA th ki va re go (.inr (by omega))
 ·have:(if decide (a.mode≠0)||a.full then (a,false) else (a.with (a.vals++[va]),true))=(a,false):=by rw [if_pos];simp [h0]
  rw [this]
  exact Be base qb a p k w hA th ki va re go (.inl h0)
end
section
open Go.ChangeShapes Go.WideShapes Go.ChangeAt Go.RowKit
def aD (s r:Int):Value:=.agg #[.int .i64 s,.int .i64 r]
def fnV (f:Nat):Value:=.func (.func f) #[] #[]
theorem jL {a b c d:Int}:aD a b=aD c d↔a=c∧b=d:=by simp [aD]
theorem Nq (s r a b:Int) (w:World):(Op.equal 159 (aD s r) (aD a b)).run Tryz.prog w = .ok (s==a&&r==b) w:=by
 have hu:=Tryz.underlying159
 have h3:=Tryz.underlying3
 have hp:Tryz.prog.stoodInHeld 159=false:=by kernel_rfl
 have hc:Tryz.prog.info? 3=_:=rfl
 unfold Op.equal aD Op.maxDepth
 rw [run_equalIn_struct w 9999 _ _ _ (by unfold Program.fieldsOf;rw [hu]) hp]
 unfold Program.fieldsOf
 rw [hu]
 cases h:(s==a) <;> cases h2:(r==b)
 all_goals simp [Op.eqFields,part,isAgg,run_underlying h3,run_equalIn_int _ _ _ _ _ _ _ h3,h,h2]
theorem Jz (s r:Int) (e:Bool) (n:Nat) (w:World):(Instr.checkKey e (n+2) 159 (aD s r)).run Tryz.prog w = .ok () w:=by
 have hu:=Tryz.underlying159
 have h3:=Tryz.underlying3
 unfold aD
 simp [Instr.checkKey,run_underlying hu,part,isAgg,run_underlying h3]
theorem zO (s r:Int) (e:Bool) (w:World):(Instr.checkKey e 10000 159 (aD s r)).run Tryz.prog w = .ok () w:=Jz s r e 9998 w
theorem yc (s r:Int) (w:World):∀ (es:List MapEntry) (i:Nat),(∀ e∈es,∃ a b,e.key=aD a b) →
  ((Instr.findAsking 159 (aD s r) es i).run Tryz.prog w = .ok none w∧∀ e∈es,e.key≠aD s r) ∨
  ∃ j e,(Instr.findAsking 159 (aD s r) es i).run Tryz.prog w = .ok (some (j,e.val)) w∧e∈es∧e.key=aD s r
 | [],i,_=>.inl ⟨by simp [Instr.findAsking],by simp⟩
 | e::es,i,h=>by
  obtain ⟨a,b,hk⟩:=h e (by simp)
  have he:=Nq s r a b w
  cases hc:(s==a&&r==b)
  ·have hne:e.key≠aD s r:=by
    rw [hk];intro h';rw [jL] at h';simp [h'.1,h'.2] at hc
   rcases yc s r w es (i+1) (fun e he=>h e (by simp [he])) with ⟨h1,h2⟩ | ⟨j,e',h1,h2,h3⟩
   ·left
    refine ⟨by simp [Instr.findAsking,hk,he,hc,h1],fun y hy=>?_⟩
    rcases List.mem_cons.1 hy with rfl | hy
    ·exact hne
    ·exact h2 y hy
   ·exact .inr ⟨j,e',by simp [Instr.findAsking,hk,he,hc,h1],by simp [h2],h3⟩
  ·refine .inr ⟨i,e,by simp [Instr.findAsking,hk,he,hc],by simp,?_⟩
   rw [hk,jL]
   simp at hc
   exact ⟨hc.1.symm,hc.2.symm⟩
theorem EW:(match Tryz.prog.underlying 159 with | some (.array _ _) | some (.struct _)=>true | _=>false)=true:=by rw [Tryz.underlying159]
def M5:List (Int×Int×Nat):=[(1,1,125),(1,2,126),(1,3,127),(1,5,128),(1,6,129),(1,7,130),
 (4,1,131),(4,4,132),(4,5,128),(4,6,133),(4,7,130),(9,1,134),(7,1,135),(8,1,136)]
def U1 (i:Nat):Value:=aD (M5.getD i (0,0,0)).1 (M5.getD i (0,0,0)).2.1
def zh (i:Nat):Value:=fnV (M5.getD i (0,0,0)).2.2
theorem Aw:∀ i,i<14→∀ j,j<14→((M5.getD i (0,0,0)).1=(M5.getD j (0,0,0)).1∧(M5.getD i (0,0,0)).2.1=(M5.getD j (0,0,0)).2.1)→i=j:=by decide
def Listed (ok:Nat→Bool) (es:List MapEntry):Prop:=(∀ e∈es,∃ i,i<14∧ok i=true∧e.key=U1 i∧e.val=zh i)∧∀ i,i<14→ok i=true→∃ e∈es,e.key=U1 i
theorem Listed.keys {ok:Nat→Bool} {es:List MapEntry} (h:Listed ok es):∀ e∈es,∃ a b,e.key=aD a b:=fun e he=>by
 obtain ⟨i,_,_,hk,_⟩:=h.1 e he
 exact ⟨_,_,hk⟩
def RulesAt (w:World) (mb:Nat):Prop:=∃ es ck,w.heap[mb]? = some (.map es ck)∧Listed (fun _=>true) es.toList
theorem RulesAt.kept {w w' : World} {mb:Nat} (h:RulesAt w mb) (hk:w'.heap[mb]? = w.heap[mb]?):RulesAt w' mb:=by
 obtain ⟨es,ck,h1,h2⟩:=h
 exact ⟨es,ck,hk.trans h1,h2⟩
theorem RulesAt.lt {w:World} {mb:Nat} (h:RulesAt w mb):mb<w.heap.size:=by
 obtain ⟨es,ck,h1,h2⟩:=h
 exact (Array.getElem?_eq_some_iff.1 h1).1
def KE:Option (Nat×Value)→Value
 | some (_,v)=>.tuple #[v,.bool true]
 | none=>.tuple #[.nilFunc,.bool false]
theorem AA {w:World} {mb:Nat} {es:Array MapEntry} {ck:Nat} (h1:w.heap[mb]? = some (.map es ck)) (s r:Int) (x:Option (Nat×Value)) (hx:(Instr.findAsking 159 (aD s r) es.toList).run Tryz.prog w = .ok x w) :
  (Instr.lookup 126 (.map (some mb)) (aD s r) true).run Tryz.prog w = .ok (KE x) w:=by
 have hu:=Tryz.underlying126
 have hf:=(run_findKey_eq (P:=Tryz.prog) w EW (aD s r) es.toList).trans hx
 have hc:=zO s r es.isEmpty w
 have hzz:(zeroValue 162).run Tryz.prog w = .ok .nilFunc w:=by kernel_rfl
 simp only [Instr.lookup,Sem.run_bind,run_underlying hu,Result.andThen_ok]
 have hg:(getObj mb).run Tryz.prog w = .ok (.map es ck) w:=MapKept.run_getObj_map h1
 cases x with
 | none=>simp [hg,hc,hf,hzz,KE]
 | some y=>simp [hg,hc,hf,hzz,KE]
theorem xy {w:World} {mb:Nat} (h:RulesAt w mb) (s r:Int) :
  (∃ i,i<14∧aD s r=U1 i∧(Instr.lookup 126 (.map (some mb)) (aD s r) true).run Tryz.prog w = .ok (.tuple #[zh i,.bool true]) w) ∨
  (∀ i,i<14→aD s r≠U1 i)∧(Instr.lookup 126 (.map (some mb)) (aD s r) true).run Tryz.prog w = .ok (.tuple #[.nilFunc,.bool false]) w:=by
 obtain ⟨es,ck,h1,h2⟩:=h
 rcases yc s r w es.toList 0 h2.keys with ⟨h3,h4⟩ | ⟨j,e,h3,h4,h5⟩
 ·right
  refine ⟨fun i hi hk=>?_,AA h1 s r none h3⟩
  obtain ⟨e,he,hek⟩:=h2.2 i hi rfl
  exact h4 e he (hek.trans hk.symm)
 ·left
  obtain ⟨i,hi,_,hk,hv⟩:=h2.1 e h4
  exact ⟨i,hi,h5.symm.trans hk,by rw [AA h1 s r _ h3,KE,hv]⟩
theorem Ns {w:World} {mb:Nat} {es:Array MapEntry} {ck:Nat} {ok:Nat→Bool} (h1:w.heap[mb]? = some (.map es ck)) (h2:Listed ok es.toList) (i:Nat) (hi:i<14) (hk:ok i=false) :
  ∃ w' es' ck',(Instr.mapUpdate 126 (.map (some mb)) (U1 i) (zh i)).run Tryz.prog w = .ok () w' ∧ w'.heap[mb]? = some (.map es' ck')∧Listed (fun j=>ok j||j==i) es'.toList ∧
   w'.os=w.os∧w'.tape=w.tape∧w'.output=w.output∧w'.heap.size=w.heap.size∧∀ j,j≠mb→w'.heap[j]? = w.heap[j]? := by
 have hu:=Tryz.underlying126
 have hlt:mb<w.heap.size:=(Array.getElem?_eq_some_iff.1 h1).1
 have hno:(Instr.findKey 159 (U1 i) es.toList).run Tryz.prog w = .ok none w:=by
  refine (run_findKey_eq (P:=Tryz.prog) w EW (U1 i) es.toList).trans ?_
  rcases yc _ _ w es.toList 0 h2.keys with ⟨h3,_⟩ | ⟨j,e,h3,h4,h5⟩
  ·exact h3
  ·obtain ⟨j',hj',hok,hkk,_⟩:=h2.1 e h4
   have:U1 j' = U1 i:=hkk.symm.trans h5
   rw [U1,U1,jL] at this
   have:=Aw j' hj' i hi this
   subst this
   rw [hk] at hok;cases hok
 have hc:=zO (M5.getD i (0,0,0)).1 (M5.getD i (0,0,0)).2.1 false w
 refine ⟨{ w with heap:=w.heap.setIfInBounds mb (.map (es.push { key:=U1 i,val:=zh i,born:=ck }) (ck+1)) },es.push { key:=U1 i,val:=zh i,born:=ck },ck+1,?_,?_,⟨fun e he=>?_,fun j hj hok=>?_⟩,rfl,rfl,rfl,by simp,fun j hj=>?_⟩
 ·have hc' : (Instr.checkKey false 10000 159 (U1 i)).run Tryz.prog w = .ok () w:=hc
  have hg:=MapKept.run_getObj_map (P:=Tryz.prog) h1
  have hs:=MapKept.run_setObj_map (P:=Tryz.prog) (.map (es.push { key:=U1 i,val:=zh i,born:=ck }) (ck+1)) h1
  simp [Instr.mapUpdate,run_underlying hu,hg,hc',hno,hs]
 ·simp [hlt]
 ·simp only [Array.toList_push,List.mem_append,List.mem_singleton] at he
  rcases he with he | rfl
  ·obtain ⟨j,hj,hok,h5⟩:=h2.1 e he
   exact ⟨j,hj,by simp [hok],h5⟩
  ·exact ⟨i,hi,by simp,rfl,rfl⟩
 ·simp only [Array.toList_push,List.mem_append,List.mem_singleton]
  by_cases hji:j=i
  ·subst hji
   exact ⟨_,.inr rfl,rfl⟩
  ·obtain ⟨e,he,hek⟩:=h2.2 j hj (by simpa [hji] using hok)
   exact ⟨e,.inl he,hek⟩
 ·simp [Array.getElem?_setIfInBounds,Ne.symm hj]
end
section
open Go.ChangeShapes Go.WideShapes Go.ChangeAt Go.RowKit
theorem Listed.congr {ok ok' : Nat→Bool} {es:List MapEntry} (h:Listed ok es) (e:∀ i,i<14→ok i=ok' i):Listed ok' es :=
 ⟨fun x hx=>by obtain ⟨i,hi,h1,h2⟩:=h.1 x hx;exact ⟨i,hi,(e i hi).symm.trans h1,h2⟩,fun i hi h1=>h.2 i hi ((e i hi).trans h1)⟩
def II (W:World) (listed:Array Bool) (a:Act) (w:World):Prop :=
 Below W.heap.size W w∧a.tmps.size=17∧a.defers=[]∧(∀ k,k<14→listed.getD (2 * k+1) true=true→a.tmps[k+2]? = some (U1 k)) ∧
 (listed.getD 0 true=true→∃ mb es ck,W.heap.size≤mb∧a.tmps[1]? = some (.map (some mb))∧w.heap[mb]? = some (.map es ck)∧Listed (fun k=>listed.getD (2 * k+2) true) es.toList ∧
  (listed.getD 29 true=true→a.tmps[16]? = some (.map (some mb)))∧(listed.getD 30 true=true→a.tmps[0]? = some (.map (some mb)))) ∧
 (listed.getD 0 true=false→(∀ k,k<14→listed.getD (2 * k+2) true=false)∧listed.getD 29 true=false∧listed.getD 30 true=false)
structure TabOps (l:List Oper):Prop where
 len:l.length=31
 make:∃ o,l[0]? = some o∧o.guard=none∧o.dst=some 1∧o.op = .makeMap 126 none
 key:∀ k,k<14→∃ o,l[2 * k+1]? = some o∧o.guard=none∧o.dst=some (k+2)∧o.op = .build 159 #[(0,.const (.int .i64 (M5.getD k (0,0,0)).1)),(1,.const (.int .i64 (M5.getD k (0,0,0)).2.1))]
 row:∀ k,k<14→∃ o,l[2 * k+2]? = some o∧o.guard=none∧o.dst=none∧o.op = .insert 126 (.tmp 1) (.tmp (k+2)) (.func (M5.getD k (0,0,0)).2.2) ∧
  (∃ e∈o.after,Region.binds .any e=true∧e.on=0)∧∃ e∈o.after,Region.binds .any e=true∧e.on=2 * k+1
 move:∃ o,l[29]? = some o∧o.guard=none∧o.dst=some 16∧o.op = .move (.tmp 1)∧∃ e∈o.after,Region.binds .any e=true∧e.on=0
 last:∃ o,l[30]? = some o∧o.guard=none∧o.dst=some 0∧o.op = .assign (.tmp 16)∧(∃ e∈o.after,Region.binds .any e=true∧e.on=0)∧∃ e∈o.after,Region.binds .any e=true∧e.on=29
theorem zu (s r:Int) (w:World):(Instr.build 159 #[(0,.int .i64 s),(1,.int .i64 r)]).run Tryz.prog w = .ok (aD s r) w:=by
 kernel_rfl
theorem oJ {listed:Array Bool} {i:Nat} (h:i<listed.size):(listed.setIfInBounds i true).getD i true=true:=by simp [Array.getD,h]
theorem o8 {listed:Array Bool} {i j:Nat} (h:j≠i):(listed.setIfInBounds i true).getD j true=listed.getD j true:=by
 by_cases hj:j<listed.size
 ·simp [Array.getD,hj,Array.getElem_setIfInBounds,Ne.symm h]
 ·simp [Array.getD,hj]
theorem jT {listed:Array Bool} {j:Nat} (h:listed.getD j false=true):listed.getD j true=true:=by
 by_cases hj:j<listed.size
 ·simpa [Array.getD,hj] using h
 ·simp [Array.getD,hj]
theorem X8 {a:Act} {d:Nat} {v:Value} {j:Nat} (h:j≠d):(a.put (some d) v).tmps[j]? = a.tmps[j]? := by simp [Act.put,Array.getElem?_setIfInBounds,Ne.symm h]
theorem ry {a:Act} {d:Nat} {v:Value} (h:d<a.tmps.size):(a.put (some d) v).tmps[d]? = some v:=by simp [Act.put,h]
theorem rX {a:Act} {t:Nat} {v:Value} (h:a.tmps[t]? = some v):a.eval (.tmp t)=v:=by simp [Act.eval,h]
theorem DK {W:World} {l:List Oper} (T:TabOps l) {Q:Exit→Act→World→Prop} (listed:Array Bool) (a:Act) (w:World) (i:Nat) (o:Oper) (hs:listed.size=l.length) (hI:II W listed a w) (hi:l[i]? = some o)
  (hn:listed.getD i true=false) (hw:∀ e∈o.after,Region.binds .any e=true→listed.getD e.on false=true):wpOp Tryz.prog l.toArray Q i (II W (listed.setIfInBounds i true)) a w:=by
 obtain ⟨hB,hz,hd,hkey,hmap,hnot⟩:=hI
 rw [T.len] at hs
 have hil:i<31:=by have:=(List.getElem?_eq_some_iff.1 hi).1;rw [T.len] at this;exact this
 by_cases h0:i=0
 ·subst h0
  obtain ⟨o',ho,hg,hdst,hop⟩:=T.make
  obtain rfl:o' = o:=Option.some.inj (ho.symm.trans hi)
  have hnot' := hnot hn
  refine lh (v:=.map (some w.heap.size)) (w' := w.alloc (.map #[] 0)) hi hg ?_ ?_
  ·simp [execOp,hop,run_makeMap]
  ·rw [hdst]
   refine ⟨hB.alloc hB.size _,by simpa [Act.put] using hz,hd,fun k hk h=>?_,fun _=>⟨w.heap.size,#[],0,hB.size,ry (by omega),(MapKept.heap_alloc w _).1,⟨by simp,fun k hk h=>?_⟩,fun h=>?_,fun h=>?_⟩,fun h=>?_⟩
   ·rw [X8 (by omega)];exact hkey k hk (by rwa [o8 (by omega)] at h)
   ·have h' : (listed.setIfInBounds 0 true).getD (2 * k+2) true=true:=h
    rw [o8 (by omega),hnot'.1 k hk] at h';cases h'
   ·rw [o8 (by omega),hnot'.2.1] at h;cases h
   ·rw [o8 (by omega),hnot'.2.2] at h;cases h
   ·rw [oJ (by omega)] at h;cases h
 ·by_cases h29:i=29
  ·subst h29
   obtain ⟨o',ho,hg,hdst,hop,e,he,heb,heo⟩:=T.move
   obtain rfl:o' = o:=Option.some.inj (ho.symm.trans hi)
   have hd0:listed.getD 0 true=true:=jT (heo ▸ hw e he heb)
   obtain ⟨mb,es,ck,h1,h2,h3,h4,h5,h6⟩:=hmap hd0
   refine lh (v:=.map (some mb)) (w' := w) hi hg ?_ ?_
   ·simp [execOp,hop,rX h2]
   ·rw [hdst]
    refine ⟨hB,by simpa [Act.put] using hz,hd,fun k hk h=>?_,fun _=>⟨mb,es,ck,h1,by rw [X8 (by omega)];exact h2,h3,h4.congr fun k hk=>(o8 (by omega)).symm,fun _=>ry (by omega),fun h=>?_⟩,fun h=>?_⟩
    ·rw [X8 (by omega)];exact hkey k hk (by rwa [o8 (by omega)] at h)
    ·rw [X8 (by omega)];exact h6 (by rwa [o8 (by omega)] at h)
    ·rw [o8 (by omega),hd0] at h;cases h
  ·by_cases h30:i=30
   ·subst h30
    obtain ⟨o',ho,hg,hdst,hop,⟨e,he,heb,heo⟩,e',he',heb',heo'⟩:=T.last
    obtain rfl:o' = o:=Option.some.inj (ho.symm.trans hi)
    have hd0:listed.getD 0 true=true:=jT (heo ▸ hw e he heb)
    have hd29:listed.getD 29 true=true:=jT (heo' ▸ hw e' he' heb')
    obtain ⟨mb,es,ck,h1,h2,h3,h4,h5,h6⟩:=hmap hd0
    refine lh (v:=.map (some mb)) (w' := w) hi hg ?_ ?_
    ·simp [execOp,hop,rX (h5 hd29)]
    ·rw [hdst]
     refine ⟨hB,by simpa [Act.put] using hz,hd,fun k hk h=>?_,fun _=>⟨mb,es,ck,h1,by rw [X8 (by omega)];exact h2,h3,h4.congr fun k hk=>(o8 (by omega)).symm,fun h=>?_,fun _=>ry (by omega)⟩,fun h=>?_⟩
     ·rw [X8 (by omega)];exact hkey k hk (by rwa [o8 (by omega)] at h)
     ·rw [X8 (by omega)];exact h5 hd29
     ·rw [o8 (by omega),hd0] at h;cases h
   ·by_cases hodd:i % 2=1
    ·obtain ⟨k,hk,rfl⟩:∃ k,k<14∧i=2 * k+1:=⟨i / 2,by omega,by omega⟩
     obtain ⟨o',ho,hg,hdst,hop⟩:=T.key k hk
     obtain rfl:o' = o:=Option.some.inj (ho.symm.trans hi)
     refine lh (v:=U1 k) (w' := w) hi hg ?_ ?_
     ·unfold U1
      generalize (M5.getD k (0,0,0)).1=s at hop ⊢
      generalize (M5.getD k (0,0,0)).2.1=r at hop ⊢
      have:=zu s r w
      simp [execOp,hop,Act.eval,this]
     ·rw [hdst]
      refine ⟨hB,by simpa [Act.put] using hz,hd,fun j hj h=>?_,fun h=>?_,fun h=>?_⟩
      ·by_cases hjk:j=k
       ·subst hjk;exact ry (by omega)
       ·rw [X8 (by omega)];exact hkey j hj (by rwa [o8 (by omega)] at h)
      ·obtain ⟨mb,es,ck,h1,h2,h3,h4,h5,h6⟩:=hmap (by rwa [o8 (by omega)] at h)
       exact ⟨mb,es,ck,h1,by rw [X8 (by omega)];exact h2,h3,h4.congr fun j hj=>(o8 (by omega)).symm,
        fun h=>by rw [X8 (by omega)];exact h5 (by rwa [o8 (by omega)] at h),fun h=>by rw [X8 (by omega)];exact h6 (by rwa [o8 (by omega)] at h)⟩
      ·obtain ⟨g1,g2,g3⟩:=hnot (by rwa [o8 (by omega)] at h)
       exact ⟨fun j hj=>by rw [o8 (by omega)];exact g1 j hj,by rw [o8 (by omega)];exact g2,by rw [o8 (by omega)];exact g3⟩
    ·obtain ⟨k,hk,rfl⟩:∃ k,k<14∧i=2 * k+2:=⟨i / 2 - 1,by omega,by omega⟩
     obtain ⟨o',ho,hg,hdst,hop,⟨e,he,heb,heo⟩,e',he',heb',heo'⟩:=T.row k hk
     obtain rfl:o' = o:=Option.some.inj (ho.symm.trans hi)
     have hd0:listed.getD 0 true=true:=jT (heo ▸ hw e he heb)
     have hdk:listed.getD (2 * k+1) true=true:=jT (heo' ▸ hw e' he' heb')
     obtain ⟨mb,es,ck,h1,h2,h3,h4,h5,h6⟩:=hmap hd0
     have hkt:=hkey k hk hdk
     obtain ⟨w',es',ck',hr,g1,g2,g3,g4,g5,g6,g7⟩:=Ns h3 h4 k hk hn
     refine Nn (w' := w') hi hg hdst ?_ ?_
     ·simp only [execOp,hop,rX h2,rX hkt]
      have:a.eval (.func (M5.getD k (0,0,0)).2.2)=zh k:=rfl
      rw [this]
      simp [hr]
     ·refine ⟨hB.trans ⟨g3,g4,g5,by omega,fun j hj=>g7 j (by omega)⟩,hz,hd,fun j hj h=>hkey j hj (by rwa [o8 (by omega)] at h),fun _=>⟨mb,es',ck',h1,h2,g1,g2.congr fun j hj=>?_,fun h=>h5 (by rwa [o8 (by omega)] at h),fun h=>h6 (by rwa [o8 (by omega)] at h)⟩,fun h=>?_⟩
      ·by_cases hjk:j=k
       ·subst hjk;rw [oJ (by omega)];simp
       ·rw [o8 (by omega)];simp [hjk]
      ·rw [o8 (by omega),hd0] at h;cases h
def a1D (w:World) (e:Ending) (w' : World):Prop:=∃ mb,e = .returned (.map (some mb))∧w.heap.size≤mb∧RulesAt w' mb∧Kept w w'
set_option maxHeartbeats 1000000 in
theorem Ik (w:World):Calls Tryz.prog 86 #[] w (a1D w):=by
 go_enter Tryz.func86,Tryz.ntmps86
 go_wp2
 refine dV (II w) (by kernel_rfl) (by kernel_rfl) ?_ (fun listed a W i o h1 h2 h3 h4 h5=>DK ?_ listed a W i o h1 h2 h3 h4 h5) ?_
 ·refine ⟨⟨rfl,rfl,rfl,Nat.le_refl _,fun _ _=>rfl⟩,rfl,rfl,fun k hk h=>?_,fun h=>?_,fun _=>⟨fun k hk=>?_,rfl,rfl⟩⟩
  ·simp [Array.getD,show 2 * k+1<31 by omega] at h
  ·simp [Array.getD] at h
  ·simp [Array.getD,show 2 * k+2<31 by omega]
 ·refine ⟨rfl,⟨_,rfl,rfl,rfl,rfl⟩,fun k hk=>?_,fun k hk=>?_,⟨_,rfl,rfl,rfl,rfl,⟨0,.data⟩,by simp,rfl,rfl⟩,⟨_,rfl,rfl,rfl,rfl,⟨⟨0,.phase⟩,by simp,rfl,rfl⟩,⟨29,.data⟩,by simp,rfl,rfl⟩⟩
  ·obtain rfl | rfl | rfl | rfl | rfl | rfl | rfl | rfl | rfl | rfl | rfl | rfl | rfl | rfl:k=0∨k=1∨k=2∨k=3∨k=4∨k=5∨k=6∨k=7∨k=8∨k=9∨k=10∨k=11∨k=12∨k=13:=by omega
   all_goals exact ⟨_,rfl,rfl,rfl,rfl⟩
  ·obtain rfl | rfl | rfl | rfl | rfl | rfl | rfl | rfl | rfl | rfl | rfl | rfl | rfl | rfl:k=0∨k=1∨k=2∨k=3∨k=4∨k=5∨k=6∨k=7∨k=8∨k=9∨k=10∨k=11∨k=12∨k=13:=by omega
   all_goals exact ⟨_,rfl,rfl,rfl,rfl,⟨⟨0,.data⟩,by simp,rfl,rfl⟩,⟨_,.data⟩,(by first | (simp;done) | (simp;rfl)),rfl,rfl⟩
 ·intro a' w' h
  obtain ⟨hB,hz,hd,-,hm,-⟩:=h
  obtain ⟨mb,es,ck,h1,h2,h3,h4,h5,h6⟩:=hm (by simp [Array.getD])
  have h0:=h6 (by simp [Array.getD])
  rename_i K hK
  refine hK _ _ ?_
  refine wp_ret ?_
  refine bodyPost_ret (v:=.map (some mb)) ?_ hd ?_
  ·simp [results,Tryz.results86,go_sem,h0]
  ·exact ⟨mb,rfl,h1,⟨es,ck,h3,h4.congr fun k hk=>by simp [Array.getD,show 2 * k+2<31 by omega]⟩,hB⟩
end
section
open Go.RowKit
section
variable {P:Program} {ops:Array Oper} {md:Region.Mode} {C:World→Prop}
end
def ib (W:World):List (Nat×Obj)→Prop
 | []=>True
 | x::r=>W.heap[x.1]? = some x.2∧ib W r
theorem uw {W w1:World} (hg:Below W.heap.size W w1):∀ {l:List (Nat×Obj)},ib W l→ib w1 l
 | [],_=>trivial
 | _::_,h=>⟨(hg.block _ (Array.getElem?_eq_some_iff.1 h.1).1).trans h.1,uw hg h.2⟩
theorem U8 {W:World} {b:Nat} {c:Array Value} {t:TypeId} {f:Nat×Nat} (h:W.heap[b]? = some (.cells c t f)) (i:Nat):W.cell? ⟨b,i,none⟩=c[i]? := by simp [World.cell?,h]
theorem BU {W:World} {b:Nat} {o:Obj} (h:W.heap[b]? = some o):b<W.heap.size:=(Array.getElem?_eq_some_iff.1 h).1
theorem BP {W:World} {o:Obj} {n:Nat} (h:n=W.heap.size):(W.alloc o).heap[n]? = some o:=by
 subst h
 show (W.heap.push o)[W.heap.size]? = some o
 simp
theorem Gu {W:World} {o p:Obj} {n:Nat} (h:n<W.heap.size) (h' : W.heap[n]? = some p):(W.alloc o).heap[n]? = some p:=(Below.heap_alloc W o n h).trans h'
def Wo (w:World) (l:List (Nat×Obj)):Type:={ w' : World // Below w.heap.size w w' ∧ ib w' l }
def Wo.at {w:World} {l:List (Nat×Obj)} (x:Wo w l):World:=x.1
theorem Wo.kept {w:World} {l:List (Nat×Obj)} (x:Wo w l):Below w.heap.size w x.at:=x.2.1
theorem Wo.objs {w:World} {l:List (Nat×Obj)} (x:Wo w l):ib x.at l:=x.2.2
theorem Wo.mk {w W:World} {l:List (Nat×Obj)} (h:Below w.heap.size w W) (c:ib W l):∃ x:Wo w l,W=x.at:=⟨⟨W,h,c⟩,rfl⟩
theorem uS {P:Program} {f:FuncId} {args:Array Value} {w:World} {l:List (Nat×Obj)} {x:Wo w l} {v:Value}
  (h:Calls P f args x.at fun e w' => e = .returned v∧Kept x.at w'):Calls P f args x.at fun e w'' => e = .returned v∧∃ y:Wo w l,w'' = y.at :=
 h.mono fun _ _ ⟨he,hk⟩=>⟨he,Wo.mk (kept_trans x.kept hk) (uw hk x.objs)⟩
theorem mH {P:Program} {id:Nat} {Q:Exit→Act→World→Prop} {a:Act} {w W:World} {l:List Oper} (os:List (Nat×Obj)) (hm:P.follows .mixedOrders=true) (hB:Region.lexB .any l.toArray=true)
  (hk:Below w.heap.size w W) (hC:ib W os)
  (h:Nonempty (Wo w os)→wpQuiet P l.toArray (fun w' => ∃ x:Wo w os,w' = x.at) (fun a' => ∀ w',(∃ x:Wo w os,w' = x.at)→Q .normal a' w') l a):(Code.region id l.toArray true).wp P Q a W:=by
 have hd:Below W.heap.size W { W with drawn:=W.drawn+1 }:=⟨rfl,rfl,rfl,Nat.le_refl _,fun _ _=>rfl⟩
 refine wp_region_quiet (C:=fun w' => ∃ x:Wo w os,w' = x.at) hm hB (Wo.mk (kept_trans hk hd) (uw hd hC)) ?_
 simpa using h ⟨⟨W,hk,hC⟩⟩
end
section
open Go.ChangeShapes Go.WideShapes Go.ChangeAt Go.RowKit
theorem Ov.setCell {w:World} {base:Nat} {l:List Int} {x:Addr} {k:Nat} (h:Ov w base l (some x) k) {p:Addr} (hp:x.block≠p.block) (u:Value):Ov (w.setCell p u) base l (some x) k :=
 h.of_block fun y hy=>by cases hy;exact Below.heap_setCell _ _ _ _ hp
def a1e (w:World) (a:Qu) (e:Ending) (w' : World):Prop :=
 ∃ g,e = .returned (.agg #[.slice (some ⟨g,0,none⟩) a.vals.length a.vals.length,.int .i64 a.cap,.int .i64 a.pol,.int .i64 a.mode])∧w.heap.size≤g∧Ov w' w.heap.size a.vals (some ⟨g,0,none⟩) a.vals.length∧Kept w w'
set_option maxHeartbeats 1000000 in
theorem NR (a:Qu) (p:Option Addr) (k:Nat) (w:World) (hl:Sl w 1 Z8 a.vals (.slice p a.vals.length k)) (hm:a.vals.length≤1000) :
  Calls Tryz.prog 85 #[.agg #[.slice p a.vals.length k,.int .i64 a.cap,.int .i64 a.pol,.int .i64 a.mode]] w (a1e w a):=by
 obtain ⟨l,qc,qp,qm⟩:=a
 simp only at *
 obtain ⟨_,_,e1,_,_,hnone,hlc⟩:=hl.is
 cases e1
 have hmk:=run_make_row' (P:=Tryz.prog) 28 3 (.int .i64 0) 8 Tryz.underlying28 sJ rfl .i64 .i64 l.length (by omega) (by omega)
 obtain ⟨M,hM⟩:∃ M,madeCells #[Value.int .i64 0] l.length=M:=⟨_,rfl⟩
 have hMs:M.size=l.length:=by rw [← hM];simp [madeCells]
 rw [hM] at hmk
 have hL:=Lib.hid hlc
 clear hlc
 go_enter Tryz.func85,Tryz.ntmps85
 go_wp2_with ((with_reducible refine wpList_copy_splice (o:=⟨some 11,_,_,_,_,_⟩) rfl (.tmp 8) (.tmp 10) 28 28 rfl 3 Tryz.underlying28 (by kernel_rfl) _ _ _ _ _ _ rfl rfl (w.heap.size+1+1) 0 M.toList 3 ?_ (l.map (Value.int .i64)) ?_ ?_ ?_ ?_ (w.heap.size+1+1) ((w.alloc (.cells #[.slice p l.length k,.int .i64 qc,.int .i64 qp,.int .i64 qm] 63)).alloc (.cells #[.slice none 0 0,.int .i64 0,.int .i64 0,.int .i64 0] 124)) ?_ (Nat.le_refl _) ?_))
 ·rw [Array.toArray_toList];exact BP (by simp)
 ·simp
 ·intro h0
  obtain ⟨b,o,rfl,hb,hc⟩:=hL.out (by intro h;subst h;simp at h0)
  refine ⟨⟨b,o,none⟩,rfl,fun j x hx=>?_⟩
  have hadd:(⟨b,o,none⟩:Addr).add j=⟨b,o+j,none⟩:=by unfold Addr.add;split <;> simp_all
  have h1:=hc j x hx 0 (by omega)
  simp only [Z8,Nat.mul_one,Nat.add_zero,List.getElem?_cons_zero] at h1
  rw [hadd,World.cell?_alloc_past _ _ _ (by simp;omega),World.cell?_alloc_past _ _ _ (by simp;omega),World.cell?_alloc_past _ _ _ hb]
  exact h1
 ·simp [hMs]
 ·intro v hv
  obtain ⟨x,_,rfl⟩:=List.mem_map.1 hv
  rfl
 ·exact (Below.refl _ _).alloc (by simp) _
 ·intro wx hgx' hbx
  obtain ⟨V,hV⟩:∃ V,(w.alloc (.cells #[.slice p l.length k,.int .i64 qc,.int .i64 qp,.int .i64 qm] 63)).alloc (.cells #[.slice none 0 0,.int .i64 0,.int .i64 0,.int .i64 0] 124)=V:=⟨_,rfl⟩
  have hVs:w.heap.size+1+1=V.heap.size:=by rw [← hV];simp
  have hcs:E8 V [(w.heap.size,0,.slice p l.length k),(w.heap.size,1,.int .i64 qc),(w.heap.size,2,.int .i64 qp),(w.heap.size,3,.int .i64 qm),(w.heap.size+1,0,.slice none 0 0),(w.heap.size+1,1,.int .i64 0),(w.heap.size+1,2,.int .i64 0),(w.heap.size+1,3,.int .i64 0)]:=by rw [← hV];(exact xP)
  have hB:Below w.heap.size w V:=by rw [← hV];exact F6
  have hfr:∀ j,V.frozen? ⟨w.heap.size,j,none⟩=false:=by intro j;rw [← hV,World.frozen?_alloc_past _ _ _ (by simp)];exact World.frozen?_alloc_at _ _ _ _ rfl
  have hfr1:∀ j,V.frozen? ⟨w.heap.size+1,j,none⟩=false:=by intro j;rw [← hV];exact World.frozen?_alloc_at _ _ _ _ (by simp)
  rw [hV,hVs] at hbx
  have hcs:=ax hbx hcs
  have hq0:=hcs.1.2;have hq1:=hcs.2.1.2;have hq2:=hcs.2.2.1.2;have hq3:=hcs.2.2.2.1.2;have hq4:=hcs.2.2.2.2.1.2;have hq5:=hcs.2.2.2.2.2.1.2;have hq6:=hcs.2.2.2.2.2.2.1.2;have hq7:=hcs.2.2.2.2.2.2.2.1.2;have hz0:=hcs.1.1;have hz1:=hcs.2.2.2.2.1.1
  have hq0f:wx.frozen? ⟨w.heap.size,0,none⟩=false:=(hbx.frozen (p:=⟨w.heap.size,0,none⟩) (by show w.heap.size<_;omega)).trans (hfr 0)
  have hr0:wx.frozen? ⟨w.heap.size+1,0,none⟩=false:=(hbx.frozen (p:=⟨w.heap.size+1,0,none⟩) (by show w.heap.size+1<_;omega)).trans (hfr1 0)
  have hr1:wx.frozen? ⟨w.heap.size+1,1,none⟩=false:=(hbx.frozen (p:=⟨w.heap.size+1,1,none⟩) (by show w.heap.size+1<_;omega)).trans (hfr1 1)
  have hr2:wx.frozen? ⟨w.heap.size+1,2,none⟩=false:=(hbx.frozen (p:=⟨w.heap.size+1,2,none⟩) (by show w.heap.size+1<_;omega)).trans (hfr1 2)
  have hr3:wx.frozen? ⟨w.heap.size+1,3,none⟩=false:=(hbx.frozen (p:=⟨w.heap.size+1,3,none⟩) (by show w.heap.size+1<_;omega)).trans (hfr1 3)
  have hsp:splice M.toList 0 (l.map (Value.int .i64))=l.map (Value.int .i64):=by simp [splice,hMs]
  rw [hsp] at hgx'
  have hO:Ov wx w.heap.size l (some ⟨w.heap.size+1+1,0,none⟩) l.length:=Ov.made (by omega) hgx'.out (Nat.le_refl _) (by unfold maxLen;omega) (by simp) (fun i x hx=>by simp [hx])
  have hBx:Below w.heap.size w wx:=hB.trans (hbx.mono hB.size)
  have hVh:=Lib.hid hVs
  have hMh:=Lib.hid hM
  have hMsh:=Lib.hid hMs
  clear hsp hgx' hfr hfr1 hV hVs hmk hM hMs hbx
  go_wp2
  refine bodyPost_ret (v:=.agg #[.slice (some ⟨w.heap.size+1+1,0,none⟩) l.length l.length,.int .i64 qc,.int .i64 qp,.int .i64 qm]) (by simp [results,Tryz.results85,go_sem, *]) rfl ?_
  refine ⟨_,rfl,by omega,?_,?_⟩
  ·refine Ov.setCell (Ov.setCell (Ov.setCell (Ov.setCell (Ov.setCell hO ?_ _) ?_ _) ?_ _) ?_ _) ?_ _ <;> (show _≠_;simp;try omega)
  ·exact F6
end
section
open Go.ChangeShapes Go.WideShapes Go.ChangeAt Go.RowKit
def Qu.rule (a:Qu) (e:En):Nat→Qu×Bool
 | 0=>if decide (a.mode≠0)||a.full then (a,false) else (a.with (a.vals++[e.va]),true)
 | 1=>(a,decide (a.mode=0)&&decide (a.cap≤(a.vals.length:Int))&&decide (a.pol=0)&&decide (e.ki=2))
 | 2=>(a,decide (a.mode=0)&&decide (a.cap≤(a.vals.length:Int))&&decide (a.pol=1))
 | 3=>(a,or (decide (e.ki=3)) (decide (e.ki=6)))
 | 4=>(a,decide (a.mode=1))
 | 5=>(a,decide (a.mode=2))
 | 6=>if a.mode=2 then (a,false) else a.gone e.go
 | 7=>(a,decide (a.mode=0)&&decide (a.vals.length=0)&&decide (e.ki=5))
 | 8=>(a,or (decide (e.ki=3)) (decide (e.ki=6)))
 | 9=>(a,decide (a.mode=1)&&decide (a.vals.length=0))
 | 10=>(a,decide (a.mode=2))
 | 11=>if decide (a.mode=0)&&decide (a.cap≤(a.vals.length:Int))&&decide (a.pol=2) then a.gone e.go else (a,false)
 | 12=>(⟨a.vals,a.cap,a.pol,gW a.mode⟩,true)
 | 13=>(⟨a.vals,a.cap,a.pol,2⟩,true)
 | _=>(a,false)
theorem Uw {k:Int}:fq k=1↔F5 k=true:=by
 simp [fq,F5,I5];(repeat' split) <;> omega
theorem PQ {k:Int}:fq k=4↔I5 k=true:=by
 simp [fq,F5,I5];(repeat' split) <;> omega
theorem rT {k m:Int} (hm:7≤m):fq k=m↔k=m:=by
 simp [fq,F5,I5];(repeat' split) <;> omega
theorem QZ {k:Int} (h:F5 k=true):1≤k∧k≤3:=by simpa [F5] using h
theorem Gg {k:Int} (h:I5 k=true):4≤k∧k≤6:=by simpa [I5] using h
theorem wU {a:Qu} {e:En} (h:F5 e.ki=true):a.tell e=a.send e:=by simp [Qu.tell,h]
theorem yH {a:Qu} {e:En} (h:I5 e.ki=true):a.tell e=a.recv e:=by
 have:=Gg h
 have h' : F5 e.ki=false:=by simp [F5];omega
 simp [Qu.tell,h,h']
theorem uh {a:Qu} {e:En} (h:F5 e.ki=false) (h' : I5 e.ki=false):a.tell e=if e.re≠1 then (a,false)
 else if e.ki=7 then (⟨a.vals,a.cap,a.pol,gW a.mode⟩,true)
 else if e.ki=8 then (⟨a.vals,a.cap,a.pol,2⟩,true)
 else if e.ki=9 then (if a.mode≠0∨a.pol≠2∨(a.vals.length:Int)<a.cap then (a,false) else a.gone e.go)
 else (a,false):=by simp [Qu.tell,h,h']
theorem MF {a:Qu} {e:En} (i:Nat) (hi:i<14) (h:aD (fq e.ki) e.re=U1 i):a.tell e=a.rule e i:=by
 rw [U1,jL] at h
 obtain ⟨h1,h2⟩:=h
 obtain rfl | rfl | rfl | rfl | rfl | rfl | rfl | rfl | rfl | rfl | rfl | rfl | rfl | rfl:i=0∨i=1∨i=2∨i=3∨i=4∨i=5∨i=6∨i=7∨i=8∨i=9∨i=10∨i=11∨i=12∨i=13:=by omega
 all_goals simp only [M5,List.getD_cons_zero,List.getD_cons_succ] at h1 h2
 all_goals first
  | (have hs:=Uw.1 h1;have hk:=QZ hs;have h6:¬ e.ki=6:=(by omega);rw [wU hs];simp [Qu.send,Qu.rule,Qu.full,h2,h6];done)
  | (have hs:=PQ.1 h1;have hk:=Gg hs;have h6:¬ e.ki=3:=(by omega);rw [yH hs];simp [Qu.recv,Qu.rule,Qu.full,h2,h6];done)
  | (have hk:=(rT (by omega)).1 h1;rw [uh (by simp [F5,hk]) (by simp [I5,hk])];simp [Qu.rule,h2,hk];done)
  | (have hk:=(rT (by omega)).1 h1;rw [uh (by simp [F5,hk]) (by simp [I5,hk])];simp only [Qu.rule,h2,hk];by_cases q0:a.mode=0 <;> by_cases q1:a.pol=2 <;> by_cases q2:a.cap≤(a.vals.length:Int) <;> simp [q0,q1,q2] <;> omega)
theorem Oi {a:Qu} {e:En} (h:∀ i,i<14→aD (fq e.ki) e.re≠U1 i):a.tell e=(a,false):=by
 have g:∀ i,i<14→¬ (fq e.ki=(M5.getD i (0,0,0)).1∧e.re=(M5.getD i (0,0,0)).2.1):=fun i hi h' => h i hi (by rw [U1,jL];exact h')
 clear h
 have g0:=g 0 (by omega);have g1:=g 1 (by omega);have g2:=g 2 (by omega);have g3:=g 3 (by omega);have g4:=g 4 (by omega);have g5:=g 5 (by omega);have g6:=g 6 (by omega)
 have g7:=g 7 (by omega);have g8:=g 8 (by omega);have g9:=g 9 (by omega);have g10:=g 10 (by omega);have g11:=g 11 (by omega);have g12:=g 12 (by omega);have g13:=g 13 (by omega)
 clear g
 simp only [M5,List.getD_cons_zero,List.getD_cons_succ,Uw,PQ,rT (show (7:Int)≤7 by omega),rT (show (7:Int)≤8 by omega),rT (show (7:Int)≤9 by omega)] at *
 cases hs:F5 e.ki
 ·cases hr:I5 e.ki
  ·rw [uh hs hr]
   by_cases h1:e.re=1
   ·have:e.ki≠7:=fun h=>g12 ⟨h,h1⟩
    have:e.ki≠8:=fun h=>g13 ⟨h,h1⟩
    have:e.ki≠9:=fun h=>g11 ⟨h,h1⟩
    simp [*]
   ·simp [h1]
  ·rw [yH hr]
   simp [hr] at g6 g7 g8 g9 g10
   simp [Qu.recv, *]
 ·rw [wU hs]
  simp [hs] at g0 g1 g2 g3 g4 g5
  simp [Qu.send, *]
theorem LX (base qb:Nat) (a:Qu) (p:Option Addr) (k:Nat) (w:World) (hA:At w base qb a p k) (e:En) (hm:a.vals.length≤1000) (i:Nat) (hi:i<14):Calls Tryz.prog (M5.getD i (0,0,0)).2.2 #[.pointer (some ⟨qb,0,none⟩),.agg #[.int .i64 e.th,.int .i64 e.ki,.int .i64 e.va,.int .i64 e.re,.int .i64 e.go]] w (Told base qb p (a.rule e i) w):=by
 obtain ⟨th,ki,va,re,go⟩:=e
 have hz:=hA.lt
 obtain ⟨⟨c0,c1,c2,c3⟩,-⟩:=hA.cells
 have K:∀ {f:Nat} {b:Bool},(Calls Tryz.prog f #[.pointer (some ⟨qb,0,none⟩),.agg #[.int .i64 th,.int .i64 ki,.int .i64 va,.int .i64 re,.int .i64 go]] w fun e w' => e = .returned (.bool b)∧Kept w w')→Calls Tryz.prog f #[.pointer (some ⟨qb,0,none⟩),.agg #[.int .i64 th,.int .i64 ki,.int .i64 va,.int .i64 re,.int .i64 go]] w (Told base qb p (a,b) w):=fun h=>h.mono fun e w' h=>Q9 hA h
 obtain rfl | rfl | rfl | rfl | rfl | rfl | rfl | rfl | rfl | rfl | rfl | rfl | rfl | rfl:i=0∨i=1∨i=2∨i=3∨i=4∨i=5∨i=6∨i=7∨i=8∨i=9∨i=10∨i=11∨i=12∨i=13:=by omega
 ·exact IW base qb a p k w hA th ki va re go hm
 ·exact K (Eu qb a.vals a.cap a.pol a.mode p k w hz c0 c1 c2 c3 th ki va re go)
 ·exact K (IE qb a.vals a.cap a.pol a.mode p k w hz c0 c1 c2 c3 th ki va re go)
 ·exact K (Al qb w th ki va re go)
 ·exact K (Fp qb a.vals a.cap a.pol a.mode p k w hz c0 c1 c2 c3 th ki va re go)
 ·exact K (yn qb a.vals a.cap a.pol a.mode p k w hz c0 c1 c2 c3 th ki va re go)
 ·exact Mo base qb a p k w hA th ki va re go
 ·exact K (Jn qb a.vals a.cap a.pol a.mode p k w hz c0 c1 c2 c3 th ki va re go)
 ·exact K (Al qb w th ki va re go)
 ·exact K (Cj qb a.vals a.cap a.pol a.mode p k w hz c0 c1 c2 c3 th ki va re go)
 ·exact K (yn qb a.vals a.cap a.pol a.mode p k w hz c0 c1 c2 c3 th ki va re go)
 ·exact Jd base qb a p k w hA th ki va re go
 ·exact Hu base qb a p k w hA th ki va re go
 ·exact Ou base qb a p k w hA th ki va re go
end
end Go.Proofs.YtfogkllejkmpdaaGreat
