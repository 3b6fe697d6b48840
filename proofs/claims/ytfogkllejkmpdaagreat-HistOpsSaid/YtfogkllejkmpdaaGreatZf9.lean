/- Texts merged: AcWT, AcDT, AcET, AcFT, AcGT, AcHT, AcIT, RslT, AcJT, ConfET, ThGT, AcXT, AcKT, AcLT. -/
import Derived.Test.YtfogkllejkmpdaaGreatZf8
import Derived.Test.YtfogkllejkmpdaaGreatZf4
import Derived.Test.YtfogkllejkmpdaaGreatZf5
import Derived.Test.YtfogkllejkmpdaaGreatZf6
import Derived.Test.YtfogkllejkmpdaaGreatZf7
import Derived.LoopTactic
import Derived.Lib.Hide
namespace Go.Proofs.YtfogkllejkmpdaaGreat
set_option linter.unusedVariables false
set_option linter.unusedSimpArgs false
set_option maxRecDepth 100000
section
open Go.RowKit
section
variable {h t m r:Int}
theorem R6 {b:Bool} (hb:H6 h t m r=b) (hh:In64 h) (ht:In64 t) (hm:In64 m) (hr:In64 r):AC Tryz.prog 100 [wdT h t m,.int .i64 r] (.bool b):=by
 intro O W vs hl hat ;obtain ⟨ys,rfl,_,_,rfl,h0,_,_,rfl,h1,rfl⟩:=T9 hat
 rw [Br] at h0
 rw [p8] at h1
 subst h0 h1
 refine (Bl h t m r hh ht hm hr W).mono ?_
 rintro e W' ⟨rfl,hk⟩
 exact ⟨_,rfl,H5.2 (by rw [hb]),hk⟩
theorem dK {b:Bool} (hb:lu h t r=b) (hh:In64 h) (ht:In64 t):AC Tryz.prog 357 [wdT h t m,.int .i64 r] (.bool b):=by
 intro O W vs hl hat ;obtain ⟨ys,rfl,_,_,rfl,h0,_,_,rfl,h1,rfl⟩:=T9 hat
 rw [Br] at h0
 rw [p8] at h1
 subst h0 h1
 refine (Pk h t m r hh ht W).mono ?_
 rintro e W' ⟨rfl,hk⟩
 exact ⟨_,rfl,H5.2 (by rw [hb]),hk⟩
theorem AZ (hh:In64 h) (ht:In64 t) (hm:In64 m) (hr:In64 r):AC Tryz.prog 328 [wdT h t m,.int .i64 r] (.tuple #[wdT h (acT h t m r) m,.int .i64 (acP h t m r),.int .i64 (acR h t m r)]):=by
 have no:acR h t m r≠1→acT h t m r=t∧acP h t m r=0:=fun e=>by simp [acT,acP,e]
 by_cases h2:m=2
 ·have e:acR h t m r=7:=by simp [acR,jX,h2]
  rw [(no (by omega)).1,(no (by omega)).2,e]
  exact d9 mixed (ext:=[100,357]) (fuel:=9) (n:=6) (orc:=[.bool true]) (an (show (m==2)=true by simp [h2]) trivial) (by kernel_rfl)
 ·cases hc:H6 h t m r
  ·have e:acR h t m r=7:=by simp [acR,jX,hc]
   rw [(no (by omega)).1,(no (by omega)).2,e]
   exact d9 mixed (ext:=[100,357]) (fuel:=9) (n:=6) (orc:=[.bool false,vD false]) (an (show (m==2)=false by simp [h2])<|an (R6 hc hh ht hm hr) trivial) (by kernel_rfl)
  ·have hH:jX h t m r=false:=by simp [jX,h2,hc]
   by_cases h1:m=1
   ·have e:acR h t m r=6:=by unfold acR;rw [hH];simp [h1]
    rw [(no (by omega)).1,(no (by omega)).2,e]
    exact d9 mixed (ext:=[100,357]) (fuel:=9) (n:=6) (orc:=[.bool false,vD true,.bool true]) (an (show (m==2)=false by simp [h2])<|an (R6 hc hh ht hm hr)<|an (show (m==1)=true by simp [h1]) trivial) (by kernel_rfl)
   ·cases hf:lu h t r
    ·by_cases h3:t=1099511627776
     ·have e:acR h t m r=2:=by unfold acR;rw [hH];simp [h1,h3]
      rw [(no (by omega)).1,(no (by omega)).2,e]
      exact d9 mixed (ext:=[100,357]) (fuel:=9) (n:=6) (orc:=[.bool false,vD true,.bool false,vD false,.bool true]) (an (show (m==2)=false by simp [h2])<|an (R6 hc hh ht hm hr)<|an (show (m==1)=false by simp [h1])<|an (dK (m:=m) hf hh ht)<|an (show (t==1099511627776)=true by simp [h3]) trivial) (by kernel_rfl)
     ·have e:acR h t m r=1:=by unfold acR;rw [hH,hf];simp [h1,h3]
      rw [show acT h t m r=t+1 by simp [acT,e],show acP h t m r=t by simp [acP,e],e]
      have hb:t≤1099511627776:=by simp only [H6,Bool.and_eq_true,decide_eq_true_eq] at hc;omega
      exact d9 mixed (ext:=[100,357]) (fuel:=9) (n:=6) (orc:=[.bool false,vD true,.bool false,vD false,.bool false]) (an (show (m==2)=false by simp [h2])<|an (R6 hc hh ht hm hr)<|an (show (m==1)=false by simp [h1])<|an (dK (m:=m) hf hh ht)<|an (show (t==1099511627776)=false by simp [h3])<|an (show In64 (t+1) by have:=ht;simp only [In64] at this ⊢;omega) trivial) (by kernel_rfl)
    ·have e:acR h t m r=2:=by unfold acR;rw [hH,hf];simp [h1]
     rw [(no (by omega)).1,(no (by omega)).2,e]
     exact d9 mixed (ext:=[100,357]) (fuel:=9) (n:=6) (orc:=[.bool false,vD true,.bool false,vD true]) (an (show (m==2)=false by simp [h2])<|an (R6 hc hh ht hm hr)<|an (show (m==1)=false by simp [h1])<|an (dK (m:=m) hf hh ht) trivial) (by kernel_rfl)
theorem gD (hh:In64 h) (ht:In64 t):AC Tryz.prog 44 [wdT h t m] (.int .i64 (bV h t)):=by
 intro O W vs hl hat
 obtain ⟨ys,rfl,_,_,rfl,h0,rfl⟩:=T9 hat
 rw [Br] at h0
 subst h0
 refine (BD h t m hh ht W).mono ?_
 rintro e W' ⟨rfl,hk⟩
 exact ⟨_,rfl,p8.2 rfl,hk⟩
theorem Kl (hh:In64 h) (ht:In64 t) (hm:In64 m) (hr:In64 r):AC Tryz.prog 342 [wdT h t m,.int .i64 r] (.tuple #[wdT (tkH h t m r) t m,.int .i64 (tkP h t m r),.int .i64 (tkR h t m r)]):=by
 by_cases h2:m=2
 ·have e:tkR h t m r=7:=by simp [tkR,jX,h2]
  rw [(El (by omega)).1,(El (by omega)).2,e]
  exact d9 mixed (ext:=[100,44]) (fuel:=9) (n:=6) (orc:=[.bool true]) (an (show (m==2)=true by simp [h2]) trivial) (by kernel_rfl)
 ·cases hc:H6 h t m r
  ·have e:tkR h t m r=7:=by simp [tkR,jX,hc]
   rw [(El (by omega)).1,(El (by omega)).2,e]
   exact d9 mixed (ext:=[100,44]) (fuel:=9) (n:=6) (orc:=[.bool false,vD false]) (an (show (m==2)=false by simp [h2])<|an (R6 hc hh ht hm hr) trivial) (by kernel_rfl)
  ·have hH:jX h t m r=false:=by simp [jX,h2,hc]
   by_cases hs:0<bV h t
   ·have e:tkR h t m r=1:=by unfold tkR;rw [hH];simp [qA,hs]
    rw [(a0b e).1,(a0b e).2,e]
    have hb:h≤t:=by simp only [H6,Bool.and_eq_true,decide_eq_true_eq] at hc;omega
    have hb2:t≤1099511627776:=by simp only [H6,Bool.and_eq_true,decide_eq_true_eq] at hc;omega
    exact d9 mixed (ext:=[100,44]) (fuel:=9) (n:=6) (orc:=[.bool false,vD true,.int .i64 (bV h t),.bool true]) (an (show (m==2)=false by simp [h2])<|an (R6 hc hh ht hm hr)<|an (gD (m:=m) hh ht)<|an (show decide (0<bV h t)=true by simp [hs])<|an (show In64 (h+1) by have:=hh;simp only [In64] at this ⊢;omega) trivial) (by kernel_rfl)
   ·by_cases h1:m=1
    ·have e:tkR h t m r=6:=by unfold tkR;rw [hH];simp [qA,hs,h1]
     rw [(El (by omega)).1,(El (by omega)).2,e]
     exact d9 mixed (ext:=[100,44]) (fuel:=9) (n:=6) (orc:=[.bool false,vD true,.int .i64 (bV h t),.bool false,.bool true]) (an (show (m==2)=false by simp [h2])<|an (R6 hc hh ht hm hr)<|an (gD (m:=m) hh ht)<|an (show decide (0<bV h t)=false by simp [hs])<|an (show (m==1)=true by simp [h1]) trivial) (by kernel_rfl)
    ·have e:tkR h t m r=4:=by unfold tkR;rw [hH];simp [qA,hs,h1]
     rw [(El (by omega)).1,(El (by omega)).2,e]
     exact d9 mixed (ext:=[100,44]) (fuel:=9) (n:=6) (orc:=[.bool false,vD true,.int .i64 (bV h t),.bool false,.bool false]) (an (show (m==2)=false by simp [h2])<|an (R6 hc hh ht hm hr)<|an (gD (m:=m) hh ht)<|an (show decide (0<bV h t)=false by simp [hs])<|an (show (m==1)=false by simp [h1]) trivial) (by kernel_rfl)
theorem WG (hh:In64 h) (ht:In64 t) (hm:In64 m) (hr:In64 r):AC Tryz.prog 348 [wdT h t m,.int .i64 r] (.tuple #[.int .i64 (acR h t m r),.int .i64 (tkR h t m r)]):=by
 exact d9 mixed (ext:=[328,342]) (fuel:=9) (n:=6) (orc:=[.tuple #[wdT h (acT h t m r) m,.int .i64 (acP h t m r),.int .i64 (acR h t m r)],.tuple #[wdT (tkH h t m r) t m,.int .i64 (tkP h t m r),.int .i64 (tkR h t m r)]]) (an (AZ hh ht hm hr)<|an (Kl hh ht hm hr) trivial) (by kernel_rfl)
theorem wG {a b c d e f:Int} {q:Bool} (hq:(!decide ((⟨a,b,c⟩:Wo3)=⟨d,e,f⟩))=q) (x y:Operand):uj Tryz.prog (.binOp .neq 46 x y 46) [wdT a b c,wdT d e f] (.bool q) :=
 nQ (fun x y W=>(gF (by kernel_rfl) x y _ _ W).1) (fun W=>by rw [← hq];exact a0S ⟨a,b,c⟩ ⟨d,e,f⟩ W) x y
theorem UL {x:Int} (hh:In64 h) (ht:In64 t) (hm:In64 m) (hr:In64 r):AC Tryz.prog 334 [wdT h t m,.int .i64 r,.int .i64 x] (.tuple #[wdT (evH h t m r x) t m,.bool (dA h t m r x)]):=by
 have no:dA h t m r x=false→evH h t m r x=h:=fun e=>by simp [evH,e]
 by_cases hx:h=x∧m=0
 ·have hn:(!decide ((⟨h,t,m⟩:Wo3)=⟨x,t,0⟩))=false:=by simp [hx.1,hx.2]
  cases hc:H6 h t m r
  ·have e:dA h t m r x=false:=by simp [dA,hc]
   rw [no e,e]
   exact d9 mixed (ext:=[100,357,44]) (fuel:=9) (n:=6) (orc:=[.bool false,.nilFunc,vD false]) (an (wG hn (.tmp 13) (.tmp 14))<|an (R6 hc hh ht hm hr) trivial) (by kernel_rfl)
  ·cases hf:lu h t r
   ·have e:dA h t m r x=false:=by simp [dA,hf]
    rw [no e,e]
    exact d9 mixed (ext:=[100,357,44]) (fuel:=9) (n:=6) (orc:=[.bool false,.nilFunc,vD true,vD false]) (an (wG hn (.tmp 13) (.tmp 14))<|an (R6 hc hh ht hm hr)<|an (dK (m:=m) hf hh ht) trivial) (by kernel_rfl)
   ·by_cases hs:0<bV h t
    ·have e:dA h t m r x=true:=by
      unfold dA qA
      rw [hc,hf]
      simp [hx.1,hx.2]
      rw [← hx.1];exact hs
     rw [show evH h t m r x=h+1 by simp [evH,e],e]
     have hb:h≤t∧t≤1099511627776:=by simp only [H6,Bool.and_eq_true,decide_eq_true_eq] at hc;omega
     exact d9 mixed (ext:=[100,357,44]) (fuel:=9) (n:=6) (orc:=[.bool false,.nilFunc,vD true,vD true,.int .i64 (bV h t),.bool false]) (an (wG hn (.tmp 13) (.tmp 14))<|an (R6 hc hh ht hm hr)<|an (dK (m:=m) hf hh ht)<|an (gD (m:=m) hh ht)<|an (show (!decide (0<bV h t))=false by simp [hs])<|an (show In64 (h+1) by have:=hh;simp only [In64] at this ⊢;omega) trivial) (by kernel_rfl)
    ·have e:dA h t m r x=false:=by simp [dA,qA,hs]
     rw [no e,e]
     exact d9 mixed (ext:=[100,357,44]) (fuel:=9) (n:=6) (orc:=[.bool false,.nilFunc,vD true,vD true,.int .i64 (bV h t),.bool true]) (an (wG hn (.tmp 13) (.tmp 14))<|an (R6 hc hh ht hm hr)<|an (dK (m:=m) hf hh ht)<|an (gD (m:=m) hh ht)<|an (show (!decide (0<bV h t))=true by simp [hs]) trivial) (by kernel_rfl)
 ·have e:dA h t m r x=false:=by
   cases he:dA h t m r x
   ·rfl
   ·simp only [dA,Bool.and_eq_true,beq_iff_eq] at he;exact absurd ⟨he.1.1.1.1,he.1.1.1.2⟩ hx
  rw [no e,e]
  exact d9 mixed (ext:=[100,357,44]) (fuel:=9) (n:=6) (orc:=[.bool true,.nilFunc]) (an (wG (show (!decide ((⟨h,t,m⟩:Wo3)=⟨x,t,0⟩))=true by simp;omega) (.tmp 13) (.tmp 14)) trivial) (by kernel_rfl)
end
end
section
open Go.RowKit
section
variable {O:Nat→Prop} {W W' : World}
theorem Vu (hl:Low O W):∀ g,W.heap.size≤g→¬ O g:=fun g hg hO=>by have:=hl g hO;omega
theorem a2l {ρ:A8} {a b x y:Value} (h:Rp ρ O W a x) (k:Rp ρ O W b y):Rp ρ O W (.tuple #[a,b]) (.tuple #[x,y]):=vX.2 ⟨_,rfl,_,_,rfl,h,_,_,rfl,k,rfl⟩
end
theorem gq (ep:Int) (l:List Int) (hm:l.length≤1000000):AC Tryz.prog 268 [evT ep l] (evT ep l):=by
 by_cases h:l=[]
 ·subst h
  exact d9 mixed (ext:=[]) (fuel:=9) (n:=3) (orc:=[.slice none 0 0]) (an (N8 [])<|an (rfl:(0:Nat)=0) trivial) (by kernel_rfl)
 ·exact d9 mixed (ext:=[]) (fuel:=9) (n:=3) (orc:=[l5 l]) (an (N8 l)<|an (P6 (f:=(Value.int .i64 ·)) h hm)<|an (l7 (f:=(Value.int .i64 ·)) l) trivial) (by kernel_rfl)
def evE:List FuncId:=[70,268,319,373]
theorem TV (ep:Int) (l:List Int):AC Tryz.prog 329 [evT ep l] (.int .i64 (prE ep l)):=by
 cases h:okE ep l
 ·rw [show prE ep l = -1 by simp [prE,h]]
  exact d9 mixed (ext:=evE) (fuel:=9) (n:=3) (orc:=[vD false]) (an (F9 h) trivial) (by kernel_rfl)
 ·rw [show prE ep l=ep by simp [prE,h]]
  exact d9 mixed (ext:=evE) (fuel:=9) (n:=3) (orc:=[vD true]) (an (F9 h) trivial) (by kernel_rfl)
theorem a0Z (ep:Int):nxE ep=min (ep+1) 1099511627776:=by unfold nxE;split <;> omega
theorem kM {ep:Int} {l:List Int} {b:Bool} (hb:hdB (ntT 1 ep l)=b) (hm:l.length≤999999):AC Tryz.prog 330 [evT ep l] (.tuple #[evT (ntE ep l) (ntL 1 ep l),.int .i64 (hdI (ntT 1 ep l)),.bool b]):=by
 subst hb
 cases h:okE ep l
 ·rw [show ntE ep l=ep by simp [ntE,h],show ntL 1 ep l=l by simp [ntL,h],show ntT 1 ep l=[] by simp [ntT,h]]
  exact d9 mixed (ext:=evE) (fuel:=9) (n:=9) (orc:=[vD false,evT ep l,.nilFunc]) (an (F9 h)<|an (gq ep l (by omega)) trivial) (by kernel_rfl)
 ·have ho:=R8 h
  have he:=(O7.1 h).1
  rw [show ntE ep l=min (ep+1) 1099511627776 by rw [← a0Z];simp [ntE,h],show ntL 1 ep l=l.drop 1 by simp [ntL,h],show ntT 1 ep l=l.take 1 by simp [ntT,h]]
  have hn:=AQ l hm
  cases l with
  | nil =>
   rw [show nxI []=0 from rfl,show nxL []=[] from rfl,show nxB []=false from rfl] at hn
   exact d9 mixed (ext:=evE) (fuel:=9) (n:=9) (orc:=[vD true,evT ep [],.nilFunc,.tuple #[.int .i64 0,l5 [],vD false],.nilFunc]) (an (F9 h)<|an (gq ep [] (by omega))<|an hn<|an (show In64 (ep+1) by constructor <;> omega) trivial) (by kernel_rfl)
  | cons x r =>
   have h1:nxB (x::r)=true:=by simp [nxB,ho]
   rw [show nxI (x::r)=x by simp [nxI,h1],show nxL (x::r)=r by simp [nxL,h1],h1] at hn
   exact d9 mixed (ext:=evE) (fuel:=9) (n:=9) (orc:=[vD true,evT ep (x::r),.nilFunc,.tuple #[.int .i64 x,l5 r,vD true],l5 [x],.nilFunc,.nilFunc,.int .i64 x])
    (an (F9 h)<|an (gq ep (x::r) (by omega))<|an hn<|an (rfl:(1:Nat)=1)<|an (N8 [x])<|an (P6 (f:=(Value.int .i64 ·)) (l:=[x]) (by simp) (by simp))<|an (show In64 (ep+1) by constructor <;> omega)<|an (l7 (f:=(Value.int .i64 ·)) [x]) <|
     an (show IxP (([x].map (Value.int .i64 ·)).toArray) 0 (.int .i64 x) from ⟨by omega,rfl⟩) trivial) (by kernel_rfl)
theorem ku {ep:Int} {l:List Int} {s i:Int} {b:Bool} (hb:cmB ep l s i=b) (hm:l.length≤999999):AC Tryz.prog 331 [evT ep l,.int .i64 s,.int .i64 i] (.tuple #[evT ep (cmL ep l s i),.bool b,.int .i64 (cmC ep l i)]):=by
 subst hb
 have hk:=gq ep l (by omega)
 cases h:okE ep l
 ·have h1:cmB ep l s i=false:=by simp [cmB,h]
  rw [show cmL ep l s i=l by unfold cmL;rw [h1];rfl,h1,show cmC ep l i=40 by simp [cmC,h]]
  exact d9 mixed (ext:=evE) (fuel:=9) (n:=5) (orc:=[vD false,evT ep l]) (an (F9 h)<|an hk trivial) (by kernel_rfl)
 ·rw [show cmC ep l i=aX l i by simp [cmC,h]]
  have hn:=uA l i hm
  by_cases he:aX l i=0
  ·rw [he] at hn ⊢
   by_cases hq:ep=s
   ·have h1:cmB ep l s i=true:=by subst hq;simp [cmB,h,he]
    rw [show cmL ep l s i=Z0 l i by unfold cmL;rw [if_pos h1,qf he],h1]
    exact d9 mixed (ext:=evE) (fuel:=9) (n:=5) (orc:=[vD true,.tuple #[l5 (Z0 l i),.int .i64 0],.nilFunc,.bool false]) (an (F9 h)<|an hn<|an (show (ep != s)=false by simp [hq]) trivial) (by kernel_rfl)
   ·have h1:cmB ep l s i=false:=by simp [cmB,hq]
    rw [show cmL ep l s i=l by unfold cmL;rw [h1];rfl,h1]
    exact d9 mixed (ext:=evE) (fuel:=9) (n:=5) (orc:=[vD true,.tuple #[l5 (Z0 l i),.int .i64 0],.nilFunc,.bool true,evT ep l]) (an (F9 h)<|an hn<|an (show (ep != s)=true by simp [hq])<|an hk trivial) (by kernel_rfl)
  ·have h1:cmB ep l s i=false:=by simp [cmB,he]
   rw [show cmL ep l s i=l by unfold cmL;rw [h1];rfl,h1]
   exact d9 mixed (ext:=evE) (fuel:=9) (n:=5) (orc:=[vD true,.tuple #[l5 (Z0 l i),.int .i64 (aX l i)],.bool true,evT ep l]) (an (F9 h)<|an hn<|an (show (aX l i != 0)=true by simpa using he)<|an hk trivial) (by kernel_rfl)
theorem Hr (h t m r:Int) (hh:In64 h) (ht:In64 t) (hm:In64 m) (hr:In64 r):AC Tryz.prog 328 [wdT h t m,.int .i64 r] (.tuple #[wdT h (acT h t m r) m,.int .i64 (acP h t m r),.int .i64 (acR h t m r)]):=AZ hh ht hm hr
theorem EO (h t m r:Int) (hh:In64 h) (ht:In64 t) (hm:In64 m) (hr:In64 r):AC Tryz.prog 348 [wdT h t m,.int .i64 r] (.tuple #[.int .i64 (acR h t m r),.int .i64 (tkR h t m r)]):=WG hh ht hm hr
theorem MH {h t m r x:Int} {b:Bool} (hb:dA h t m r x=b) (hh:In64 h) (ht:In64 t) (hm:In64 m) (hr:In64 r) (hx:In64 x):AC Tryz.prog 334 [wdT h t m,.int .i64 r,.int .i64 x] (.tuple #[wdT (evH h t m r x) t m,.bool b]):=hb ▸ UL hh ht hm hr
end
abbrev qL1:=j4 Tryz.prog (j3 Tryz.prog 261 0)
section
open Go.RowKit
def pt (k:Nat):Value:=.pointer (some ⟨k,0,some 0⟩)
def stO (s:St) (k N:Nat):List Value:=[.int .i64 s.cf.lg,.int .i64 s.cf.th,.int .i64 s.cf.po,.int .i64 s.cf.wt,.int .i64 s.cf.sp,.int .i64 s.cf.yi,.bool s.cf.si,.int .i64 s.hd,.int .i64 s.tl,.int .i64 s.md,U0 s.sl,l5 s.sn,l5 s.rc,.int .i64 s.fe,l5 s.fl,.int .i64 s.ee,l5 s.el,.int .i64 s.nw,.slice (some ⟨k,0,some 0⟩) N 0,K5 s.lg]
def zSt:Value:=.agg #[.int .i64 0,.int .i64 0,.int .i64 0,.int .i64 0,.int .i64 0,.int .i64 0,vD false,.int .i64 0,.int .i64 0,.int .i64 0,.slice none 0 0,.slice none 0 0,.slice none 0 0,.int .i64 0,.slice none 0 0,.int .i64 0,.slice none 0 0,.int .i64 0,.slice none 0 0,.slice none 0 0]
def bT (l:List Th) (N:Nat):Option Blk:=some ⟨true,true,11,N,l.map thT⟩
def bX (s:St) (i:Int) (N:Nat):Option Blk:=some ⟨true,false,21,1,[.agg (stO s 1 N++[Value.int .i64 i]).toArray]⟩
def bZ:Option Blk:=some ⟨true,false,20,1,[zSt]⟩
def hdS (s:St) (i m o:Int) (N:Nat):Sg:=⟨mkT 33 [(2,.int .i64 m),(6,pt 2),(8,pt 0),(9,.int .i64 o)],[bX s i N,bT s.th N,bZ]⟩
def sPO (t:Th) (c k:Int):List Value:=[.bool true,vD true,.bool false,.bool false,thT (pcT t c),.int .i64 0,.nilFunc,thT (pcT t c),.int .i64 k,.nilFunc,thT (pcT t c)]
structure Rn (s:St) (n:Nat) (t:Th) (c m o:Int):Prop where
 lt:decide (o<min m 1000)=true
 ck:stB s=true
 ok:s.ok
 hn:n<s.th.length
 ht:gth s.th n=pcT t c
 rs:H7 t.st=0
 sd:j6 t.ki=1
 fit:s.fit
 o1:In64 (o+1)
section
variable {s:St} {n:Nat} {t:Th} {c m o:Int}
theorem Rn.ge (_h:Rn s n t c m o):decide ((n:Int)<0)=false:=by simp
theorem Rn.le (h:Rn s n t c m o):decide ((s.th.length:Int)≤n)=false:=by have:=h.hn;simp;omega
theorem Rn.el (h:Rn s n t c m o):ElP (s.th.map thT) (0+(n:Int).toNat) (thT (pcT t c)):=h.ht ▸ elT h.hn
theorem Rn.ru (h:Rn s n t c m o):AC Tryz.prog 248 [thT (pcT t c)] (.int .i64 0):=V6 (t:=pcT t c) h.rs
theorem Rn.si (h:Rn s n t c m o):AC Tryz.prog 109 [.int .i64 (pcT t c).ki] (.int .i64 1):=by have:=O8 (pcT t c).ki;exact h.sd ▸ this
theorem Rn.id (h:Rn s n t c m o):0≤(n:Int)∧(n:Int).toNat<s.th.length:=idT h.hn
theorem Rn.ln (_h:Rn s n t c m o):pu s.th.length s.th.length (s.th.map thT):=l7 s.th
theorem Rn.pa {B:Prop} (h:Rn s n t c m o) (k:B):decide (o<min m 1000)=true∧pu s.th.length s.th.length (s.th.map thT)∧AC Tryz.prog 42 [stT s] (.bool true)∧decide ((n:Int)<0)=false∧decide ((s.th.length:Int)≤n)=false∧(0≤(n:Int)∧(n:Int).toNat<s.th.length)∧ElP (s.th.map thT) (0+(n:Int).toNat) (thT (pcT t c))∧AC Tryz.prog 248 [thT (pcT t c)] (.int .i64 0)∧(0≤(n:Int)∧(n:Int).toNat<s.th.length)∧ElP (s.th.map thT) (0+(n:Int).toNat) (thT (pcT t c))∧AC Tryz.prog 109 [.int .i64 (pcT t c).ki] (.int .i64 1)∧(0≤(n:Int)∧(n:Int).toNat<s.th.length)∧ElP (s.th.map thT) (0+(n:Int).toNat) (thT (pcT t c))∧B:=an h.lt<|an h.ln<|an (o7 h.ck h.ok)<|an h.ge<|an h.le<|an h.id<|an h.el<|an h.ru<|an h.id<|an h.el<|an h.si<|an h.id<|an h.el k
end
section
variable {s:St} {n:Nat} {t:Th} {m o:Int} {x:Exit} {S:Sg}
theorem Bn {ep v:Int} {l:List Int} (h:prE ep l=v):AC Tryz.prog 329 [evT ep l] (.int .i64 v):=h ▸ TV ep l
theorem XX (h:Rn s n t 5 m o) (he:prE s.fe s.fl=s.fe) (hL:qL1 (hdS (s.setTh n (o9 t s.fe 7)) n m (o+1) s.th.length) x S):qL1 (hdS s n m o s.th.length) x S :=
 j5 mixed (fuel:=9) (n:=9) (im:=[0,1,2]) (keep:=[2,6,8,9]) (ext:=[42,248,109,329]) (orc:=[.bool true,vD true,.bool false,.bool false,thT (pcT t 5),.int .i64 0,.nilFunc,thT (pcT t 5),.int .i64 1,.nilFunc,thT (pcT t 5),.int .i64 s.fe,thT (pcT t 5),F4 s.th.length ((s.th.set n (o9 t s.fe 5)).map thT),thT (o9 t s.fe 5),F4 s.th.length ((s.th.set n (o9 t s.fe 7)).map thT)])
  (an h.lt<|an h.ln<|an (o7 h.ck h.ok)<|an h.ge<|an h.le<|an h.id<|an h.el<|an h.ru<|an h.id<|an h.el<|an h.si<|an h.id<|an h.el<|an h.id<|an (Bn he)<|an h.el<|an (K4 s.th n (o9 t s.fe 5))<|an h.id<|an (el2 h.hn (o9 t s.fe 5))<|an (set2 s.th n (o9 t s.fe 5) (o9 t s.fe 7))<|an h.o1 trivial) (by kernel_rfl) hL
end
end
section
open Go.RowKit
def qF (t:Th):Th:=⟨t.st,t.ki,t.va,t.un,t.pc,t.re,t.se,min (t.tr+1) 1099511627776,t.la,t.rs,t.go⟩
theorem cB {t:Th} (h:H7 t.st=0):t.st≠0∧t.st≠2:=by
 unfold H7 at h
 split at h
 ·cases h
 ·split at h
  ·cases h
  ·next h0 h2=>exact ⟨h0,h2⟩
theorem KD {t:Th} {c:Int} (h:H7 t.st=0):Qd (pcT t c) 2 0 (z8 t 2):=.inr (.inr ⟨(cB h).1,(cB h).2,rfl,rfl⟩)
theorem qJ {t:Th} {c:Int} (h:H7 t.st=0):Py (pcT t c) 0 (E9 t):=.inr (.inr ⟨(cB h).1,(cB h).2,rfl,rfl⟩)
theorem nL {c:Cf} {n v:Int} (h:Ih c.lg c.th c.po c.wt c.sp c.yi (max n 0)=v):AC Tryz.prog 365 [cfT c,.int .i64 n] (.int .i64 v):=h ▸ TI c n
theorem el3 {n:Nat} {l:List Th} (h:n<l.length) (t:Th):ElP ((l.set n t).map thT) (0+(n:Int).toNat) (thT t):=el2 h t
theorem BR {s:St} {n:Nat} {t:Th} {c r:Int} (hA:hasB s n=true) (ht:gth s.th n=pcT t c) (hk:(t.ki != 9)=true) (ho:s.ok) (hf:s.fit) :
  AO Tryz.prog 335 [stT s,.int .i64 n,.int .i64 t.ki,.int .i64 r,.int .i64 0] (stL ((s.setTh n (rgT (pcT t c) r 0)).addLg (tlE s n t.ki r 0))) 18 11:=by
 have:=Lc (k:=t.ki) (r:=r) (g:=0) hA hk ho hf
 rw [ht] at this
 exact this
section
variable {s:St} {n:Nat} {t:Th} {c m o:Int}
theorem Rn.has (h:Rn s n t c m o):hasB s n=true:=J5.2 ⟨h.ck,by omega,by have:=h.hn;omega⟩
theorem Rn.nk (h:Rn s n t c m o):(t.ki != 9)=true:=by
 have:=h.sd
 by_cases e:t.ki=9
 ·rw [e] at this;exact absurd this (by decide)
 ·simp [e]
theorem Rn.tell {r:Int} (h:Rn s n t c m o):AO Tryz.prog 335 [stT s,.int .i64 n,.int .i64 t.ki,.int .i64 r,.int .i64 0] (stL ((s.setTh n (rgT (pcT t c) r 0)).addLg (tlE s n t.ki r 0))) 18 11:=BR h.has h.ht h.nk h.ok h.fit
theorem Rn.ids (h:Rn s n t c m o) (u:Th):0≤(n:Int)∧(n:Int).toNat<(s.th.set n u).length:=idT (by rw [List.length_set];exact h.hn)
theorem Rn.idw (h:Rn s n t c m o) (q:Nat) (u:Th):0≤(n:Int)∧(n:Int).toNat<(s.th.set q u).length:=idT (by rw [List.length_set];exact h.hn)
theorem Rn.len (h:Rn s n t c m o):In64 (s.sl.length:Int):=by have:=h.fit.sl;constructor <;> omega
theorem Rn.sees {r:Int} (h:Rn s n t c m o) (hs:F8 s=r):AC Tryz.prog 348 [wdT s.hd s.tl s.md,.int .i64 s.sl.length] (.tuple #[.int .i64 r,.int .i64 (tkR s.hd s.tl s.md s.sl.length)]):=hs ▸ EO s.hd s.tl s.md s.sl.length h.ok.hd h.ok.tl h.ok.md h.len
theorem Rn.acc {r v:Int} (h:Rn s n t c m o) (hs:F8 s=r) (hT:acT s.hd s.tl s.md s.sl.length=v):AC Tryz.prog 328 [wdT s.hd s.tl s.md,.int .i64 s.sl.length] (.tuple #[wdT s.hd v s.md,.int .i64 (acP s.hd s.tl s.md s.sl.length),.int .i64 r]):=hs ▸ hT ▸ Hr s.hd s.tl s.md s.sl.length h.ok.hd h.ok.tl h.ok.md h.len
theorem Rn.evi {b:Bool} (h:Rn s n t c m o) {q:Int} (hq:In64 q) (hb:dA s.hd s.tl s.md s.sl.length q=b):AC Tryz.prog 334 [wdT s.hd s.tl s.md,.int .i64 s.sl.length,.int .i64 q] (.tuple #[wdT (evH s.hd s.tl s.md s.sl.length q) s.tl s.md,.bool b]):=MH hb h.ok.hd h.ok.tl h.ok.md h.len hq
variable {x:Exit} {S:Sg}
theorem UB (h:Rn s n t 0 m o) (hm:s.sn.length≤999999) (hL:qL1 (hdS ((s.toSn (Z0 s.sn n)).setTh n (pcT t 1)) n m (o+1) (s.th.length)) x S):qL1 (hdS s n m o s.th.length) x S :=
 j5 mixed (fuel:=9) (n:=9) (im:=[0,1,2]) (keep:=[2,6,8,9]) (ext:=[42,248,109,319]) (orc:=sPO t 0 1++[.tuple #[l5 (Z0 s.sn n),.int .i64 (aX s.sn n)],thT (pcT t 0),F4 s.th.length ((s.th.set n (pcT t 1)).map thT)])
  (h.pa<|an (uA s.sn n hm)<|an (h.id)<|an (h.el)<|an (K4 s.th n (pcT t 1)) <|  an h.o1 trivial) (by kernel_rfl) hL
theorem QF (h:Rn s n t 1 m o) (hp:(plI s.sn n==0)=true) (hL:qL1 (hdS (s.setTh n (pcT t 2)) n m (o+1) (s.th.length)) x S):qL1 (hdS s n m o s.th.length) x S :=
 j5 mixed (fuel:=9) (n:=9) (im:=[0,1,2]) (keep:=[2,6,8,9]) (ext:=[42,248,109,321]) (orc:=sPO t 1 1++[vD true,thT (pcT t 1),F4 s.th.length ((s.th.set n (pcT t 2)).map thT)])
  (h.pa<|an (gH hp)<|an (h.id)<|an (h.el)<|an (K4 s.th n (pcT t 2)) <|  an h.o1 trivial) (by kernel_rfl) hL
theorem Oj (h:Rn s n t 1 m o) (hp:(plI s.sn n==0)=false) (hl:t.la=true) (hL:qL1 (hdS (((s.setTh n (rgT (pcT t 1) 5 0)).addLg (tlE s n t.ki 5 0)).setTh n (pcT (rgT t 5 0) 9)) n m (o+1) ((s.th.set n (rgT (pcT t 1) 5 0)).length)) x S):qL1 (hdS s n m o s.th.length) x S :=
 j5 mixed (fuel:=9) (n:=9) (im:=[0,4,2]) (keep:=[2,6,8,9]) (ext:=[42,248,109,321,335]) (orc:=sPO t 1 1++[vD false,thT (pcT t 1),.bool true,thT (pcT t 1),.iface 1000004 (.func (.yield 18) #[.agg (stL ((s.setTh n (rgT (pcT t 1) 5 0)).addLg (tlE s n t.ki 5 0))),.int .i64 11] #[]),thT (rgT (pcT t 1) 5 0),F4 (s.th.set n (rgT (pcT t 1) 5 0)).length (((s.th.set n (rgT (pcT t 1) 5 0)).set n (pcT (rgT t 5 0) 9)).map thT)])
  (h.pa<|an (gH hp)<|an (h.id)<|an (h.el)<|an (hl)<|an (h.id)<|an (h.el)<|an (h.ln)<|an (h.tell (r:=5))<|an (h.ids (rgT (pcT t 1) 5 0))<|an (el2 h.hn (rgT (pcT t 1) 5 0))<|an (K4 (s.th.set n (rgT (pcT t 1) 5 0)) n (pcT (rgT t 5 0) 9)) <|  an h.o1 trivial) (by kernel_rfl) hL
theorem Nh (h:Rn s n t 1 m o) (hp:(plI s.sn n==0)=false) (hl:t.la=false) (hr:In64 (t.tr+1)) (hL:qL1 (hdS (s.setTh n (qF (pcT t 1))) n m (o+1) (s.th.length)) x S):qL1 (hdS s n m o s.th.length) x S :=
 j5 mixed (fuel:=9) (n:=9) (im:=[0,1,2]) (keep:=[2,6,8,9]) (ext:=[42,248,109,321]) (orc:=sPO t 1 1++[vD false,thT (pcT t 1),.bool false,thT (pcT t 1),thT (pcT t 1),F4 s.th.length ((s.th.set n (qF (pcT t 1))).map thT)])
  (h.pa<|an (gH hp)<|an (h.id)<|an (h.el)<|an (hl)<|an (h.id)<|an (h.el)<|an (hr)<|an (h.el)<|an (K4 s.th n (qF (pcT t 1))) <|  an h.o1 trivial) (by kernel_rfl) hL
theorem RI (h:Rn s n t 2 m o) (hs:F8 s=1) (hL:qL1 (hdS (s.setTh n (l8 t s.tl 3)) n m (o+1) (s.th.length)) x S):qL1 (hdS s n m o s.th.length) x S :=
 j5 mixed (fuel:=9) (n:=9) (im:=[0,1,2]) (keep:=[2,6,8,9]) (ext:=[42,248,109,348]) (orc:=sPO t 2 1++[.tuple #[.int .i64 1,.int .i64 (tkR s.hd s.tl s.md s.sl.length)],.nilFunc,thT (pcT t 2),F4 s.th.length ((s.th.set n (l8 t s.tl 2)).map thT),thT (l8 t s.tl 2),F4 s.th.length ((s.th.set n (l8 t s.tl 3)).map thT)])
  (h.pa<|an (h.sees hs)<|an (h.id)<|an (h.el)<|an (K4 s.th n (l8 t s.tl 2))<|an (h.id)<|an (el2 h.hn (l8 t s.tl 2))<|an (set2 s.th n (l8 t s.tl 2) (l8 t s.tl 3)) <|  an h.o1 trivial) (by kernel_rfl) hL
theorem Tv (h:Rn s n t 2 m o) (hs:F8 s=2) (hp:(s.cf.po==1)=true) (hL:qL1 (hdS (((s.setTh n (rgT (pcT t 2) 3 0)).addLg (tlE s n t.ki 3 0)).setTh n (pcT (rgT t 3 0) 9)) n m (o+1) ((s.th.set n (rgT (pcT t 2) 3 0)).length)) x S):qL1 (hdS s n m o s.th.length) x S :=
 j5 mixed (fuel:=9) (n:=9) (im:=[0,4,2]) (keep:=[2,6,8,9]) (ext:=[42,248,109,348,335]) (orc:=sPO t 2 1++[.tuple #[.int .i64 2,.int .i64 (tkR s.hd s.tl s.md s.sl.length)],.nilFunc,.nilFunc,.bool true,thT (pcT t 2),.iface 1000004 (.func (.yield 18) #[.agg (stL ((s.setTh n (rgT (pcT t 2) 3 0)).addLg (tlE s n t.ki 3 0))),.int .i64 11] #[]),thT (rgT (pcT t 2) 3 0),F4 (s.th.set n (rgT (pcT t 2) 3 0)).length (((s.th.set n (rgT (pcT t 2) 3 0)).set n (pcT (rgT t 3 0) 9)).map thT)])
  (h.pa<|an (h.sees hs)<|an (hp)<|an (h.id)<|an (h.el)<|an (h.ln)<|an (h.tell (r:=3))<|an (h.ids (rgT (pcT t 2) 3 0))<|an (el2 h.hn (rgT (pcT t 2) 3 0))<|an (K4 (s.th.set n (rgT (pcT t 2) 3 0)) n (pcT (rgT t 3 0) 9)) <|  an h.o1 trivial) (by kernel_rfl) hL
theorem Tm (h:Rn s n t 2 m o) (hs:F8 s=2) (hp:(s.cf.po==1)=false) (hq:(s.cf.po==2)=true) (hL:qL1 (hdS (s.setTh n (l8 t s.hd 10)) n m (o+1) (s.th.length)) x S):qL1 (hdS s n m o s.th.length) x S :=
 j5 mixed (fuel:=9) (n:=9) (im:=[0,1,2]) (keep:=[2,6,8,9]) (ext:=[42,248,109,348]) (orc:=sPO t 2 1++[.tuple #[.int .i64 2,.int .i64 (tkR s.hd s.tl s.md s.sl.length)],.nilFunc,.nilFunc,.bool false,.bool true,thT (pcT t 2),F4 s.th.length ((s.th.set n (l8 t s.hd 2)).map thT),thT (l8 t s.hd 2),F4 s.th.length ((s.th.set n (l8 t s.hd 10)).map thT)])
  (h.pa<|an (h.sees hs)<|an (hp)<|an (hq)<|an (h.id)<|an (h.el)<|an (K4 s.th n (l8 t s.hd 2))<|an (h.id)<|an (el2 h.hn (l8 t s.hd 2))<|an (set2 s.th n (l8 t s.hd 2) (l8 t s.hd 10)) <|  an h.o1 trivial) (by kernel_rfl) hL
theorem QE (h:Rn s n t 2 m o) (hs:F8 s=2) (hp:(s.cf.po==1)=false) (hq:(s.cf.po==2)=false) (hk:fE t.ki=true) (hL:qL1 (hdS (((s.setTh n (rgT (pcT t 2) 2 0)).addLg (tlE s n t.ki 2 0)).setTh n (pcT (rgT t 2 0) 9)) n m (o+1) ((s.th.set n (rgT (pcT t 2) 2 0)).length)) x S):qL1 (hdS s n m o s.th.length) x S :=
 j5 mixed (fuel:=9) (n:=9) (im:=[0,4,2]) (keep:=[2,6,8,9]) (ext:=[42,248,109,348,335,364]) (orc:=sPO t 2 1++[.tuple #[.int .i64 2,.int .i64 (tkR s.hd s.tl s.md s.sl.length)],.nilFunc,.nilFunc,.bool false,.bool false,thT (pcT t 2),vD true,thT (pcT t 2),.iface 1000004 (.func (.yield 18) #[.agg (stL ((s.setTh n (rgT (pcT t 2) 2 0)).addLg (tlE s n t.ki 2 0))),.int .i64 11] #[]),thT (rgT (pcT t 2) 2 0),F4 (s.th.set n (rgT (pcT t 2) 2 0)).length (((s.th.set n (rgT (pcT t 2) 2 0)).set n (pcT (rgT t 2 0) 9)).map thT)])
  (h.pa<|an (h.sees hs)<|an (hp)<|an (hq)<|an (h.id)<|an (h.el)<|an (fC hk)<|an (h.id)<|an (h.el)<|an (h.ln)<|an (h.tell (r:=2))<|an (h.ids (rgT (pcT t 2) 2 0))<|an (el2 h.hn (rgT (pcT t 2) 2 0))<|an (K4 (s.th.set n (rgT (pcT t 2) 2 0)) n (pcT (rgT t 2 0) 9)) <|  an h.o1 trivial) (by kernel_rfl) hL
theorem OU (h:Rn s n t 2 m o) (hs:F8 s=2) (hp:(s.cf.po==1)=false) (hq:(s.cf.po==2)=false) (hk:fE t.ki=false) (hl:t.la=true) (hL:qL1 (hdS (((s.setTh n (rgT (pcT t 2) 5 0)).addLg (tlE s n t.ki 5 0)).setTh n (pcT (rgT t 5 0) 9)) n m (o+1) ((s.th.set n (rgT (pcT t 2) 5 0)).length)) x S):qL1 (hdS s n m o s.th.length) x S :=
 j5 mixed (fuel:=9) (n:=9) (im:=[0,4,2]) (keep:=[2,6,8,9]) (ext:=[42,248,109,348,335,364]) (orc:=sPO t 2 1++[.tuple #[.int .i64 2,.int .i64 (tkR s.hd s.tl s.md s.sl.length)],.nilFunc,.nilFunc,.bool false,.bool false,thT (pcT t 2),vD false,thT (pcT t 2),.bool true,thT (pcT t 2),.iface 1000004 (.func (.yield 18) #[.agg (stL ((s.setTh n (rgT (pcT t 2) 5 0)).addLg (tlE s n t.ki 5 0))),.int .i64 11] #[]),thT (rgT (pcT t 2) 5 0),F4 (s.th.set n (rgT (pcT t 2) 5 0)).length (((s.th.set n (rgT (pcT t 2) 5 0)).set n (pcT (rgT t 5 0) 9)).map thT)])
  (h.pa<|an (h.sees hs)<|an (hp)<|an (hq)<|an (h.id)<|an (h.el)<|an (fC hk)<|an (h.el)<|an (hl)<|an (h.id)<|an (h.el)<|an (h.ln)<|an (h.tell (r:=5))<|an (h.ids (rgT (pcT t 2) 5 0))<|an (el2 h.hn (rgT (pcT t 2) 5 0))<|an (K4 (s.th.set n (rgT (pcT t 2) 5 0)) n (pcT (rgT t 5 0) 9)) <|  an h.o1 trivial) (by kernel_rfl) hL
theorem PT (h:Rn s n t 2 m o) (hs:F8 s=2) (hp:(s.cf.po==1)=false) (hq:(s.cf.po==2)=false) (hk:fE t.ki=false) (hl:t.la=false) (hn:ve s (max t.tr 0)=2) (hL:qL1 (hdS (s.setTh n (pcT t 5)) n m (o+1) (s.th.length)) x S):qL1 (hdS s n m o s.th.length) x S :=
 j5 mixed (fuel:=9) (n:=9) (im:=[0,1,2]) (keep:=[2,6,8,9]) (ext:=[42,248,109,348,364,365]) (orc:=sPO t 2 1++[.tuple #[.int .i64 2,.int .i64 (tkR s.hd s.tl s.md s.sl.length)],.nilFunc,.nilFunc,.bool false,.bool false,thT (pcT t 2),vD false,thT (pcT t 2),.bool false,thT (pcT t 2),.int .i64 2,.nilFunc,thT (pcT t 2),F4 s.th.length ((s.th.set n (pcT t 5)).map thT)])
  (h.pa<|an (h.sees hs)<|an (hp)<|an (hq)<|an (h.id)<|an (h.el)<|an (fC hk)<|an (h.el)<|an (hl)<|an (h.el)<|an (nL hn)<|an (h.id)<|an (h.el)<|an (K4 s.th n (pcT t 5)) <|  an h.o1 trivial) (by kernel_rfl) hL
theorem RV (h:Rn s n t 2 m o) (hs:F8 s=2) (hp:(s.cf.po==1)=false) (hq:(s.cf.po==2)=false) (hk:fE t.ki=false) (hl:t.la=false) {r:Int} (hn:ve s (max t.tr 0)=r) (hr2:(r==2)=false) (hr:In64 (t.tr+1)) (hL:qL1 (hdS (s.setTh n (qF (pcT t 2))) n m (o+1) (s.th.length)) x S):qL1 (hdS s n m o s.th.length) x S :=
 j5 mixed (fuel:=9) (n:=9) (im:=[0,1,2]) (keep:=[2,6,8,9]) (ext:=[42,248,109,348,364,365]) (orc:=sPO t 2 1++[.tuple #[.int .i64 2,.int .i64 (tkR s.hd s.tl s.md s.sl.length)],.nilFunc,.nilFunc,.bool false,.bool false,thT (pcT t 2),vD false,thT (pcT t 2),.bool false,thT (pcT t 2),.int .i64 r,.bool false,thT (pcT t 2),thT (pcT t 2),F4 s.th.length ((s.th.set n (qF (pcT t 2))).map thT)])
  (h.pa<|an (h.sees hs)<|an (hp)<|an (hq)<|an (h.id)<|an (h.el)<|an (fC hk)<|an (h.el)<|an (hl)<|an (h.el)<|an (nL hn)<|an (hr2)<|an (h.id)<|an (h.el)<|an (hr)<|an (h.el)<|an (K4 s.th n (qF (pcT t 2))) <|  an h.o1 trivial) (by kernel_rfl) hL
theorem QX (h:Rn s n t 2 m o) {r:Int} (hs:F8 s=r) (h1:(r==1)=false) (h2:(r==2)=false) (hL:qL1 (hdS (((s.setTh n (rgT (pcT t 2) r 0)).addLg (tlE s n t.ki r 0)).setTh n (pcT (rgT t r 0) 9)) n m (o+1) ((s.th.set n (rgT (pcT t 2) r 0)).length)) x S):qL1 (hdS s n m o s.th.length) x S :=
 j5 mixed (fuel:=9) (n:=9) (im:=[0,4,2]) (keep:=[2,6,8,9]) (ext:=[42,248,109,348,335]) (orc:=sPO t 2 1++[.tuple #[.int .i64 r,.int .i64 (tkR s.hd s.tl s.md s.sl.length)],.bool false,.bool false,thT (pcT t 2),.iface 1000004 (.func (.yield 18) #[.agg (stL ((s.setTh n (rgT (pcT t 2) r 0)).addLg (tlE s n t.ki r 0))),.int .i64 11] #[]),thT (rgT (pcT t 2) r 0),F4 (s.th.set n (rgT (pcT t 2) r 0)).length (((s.th.set n (rgT (pcT t 2) r 0)).set n (pcT (rgT t r 0) 9)).map thT)])
  (h.pa<|an (h.sees hs)<|an (h1)<|an (h2)<|an (h.id)<|an (h.el)<|an (h.ln)<|an (h.tell (r:=r))<|an (h.ids (rgT (pcT t 2) r 0))<|an (el2 h.hn (rgT (pcT t 2) r 0))<|an (K4 (s.th.set n (rgT (pcT t 2) r 0)) n (pcT (rgT t r 0) 9)) <|  an h.o1 trivial) (by kernel_rfl) hL
theorem TH (h:Rn s n t 3 m o) (hm:s.sl.length≤1000) (hr:In64 t.re) (hw:wrE s.sl t.re=0) (hL:qL1 (hdS ((s.toSl (wrL s.sl t.re t.va)).setTh n (pcT t 4)) n m (o+1) (s.th.length)) x S):qL1 (hdS s n m o s.th.length) x S :=
 j5 mixed (fuel:=9) (n:=9) (im:=[0,1,2]) (keep:=[2,6,8,9]) (ext:=[42,248,109,327]) (orc:=sPO t 3 1++[thT (pcT t 3),thT (pcT t 3),.tuple #[U0 (wrL s.sl t.re t.va),.int .i64 0],.nilFunc,thT (pcT t 3),F4 s.th.length ((s.th.set n (pcT t 4)).map thT)])
  (h.pa<|an (h.id)<|an (h.el)<|an (h.id)<|an (h.el)<|an (hw ▸ Ar s.sl t.re t.va hm hr)<|an (h.id)<|an (h.el)<|an (K4 s.th n (pcT t 4)) <|  an h.o1 trivial) (by kernel_rfl) hL
theorem MS (h:Rn s n t 3 m o) (hm:s.sl.length≤1000) (hr:In64 t.re) (hw:(wrE s.sl t.re != 0)=true) (hL:qL1 (hdS (s) n m (o+1) (s.th.length)) x S):qL1 (hdS s n m o s.th.length) x S :=
 j5 mixed (fuel:=9) (n:=9) (im:=[0,1,2]) (keep:=[2,6,8,9]) (ext:=[42,248,109,327]) (orc:=sPO t 3 1++[thT (pcT t 3),thT (pcT t 3),.tuple #[U0 (wrL s.sl t.re t.va),.int .i64 (wrE s.sl t.re)],.bool true])
  (h.pa<|an (h.id)<|an (h.el)<|an (h.id)<|an (h.el)<|an (Ar s.sl t.re t.va hm hr)<|an (hw) <|  an h.o1 trivial) (by kernel_rfl) hL
theorem Jp (h:Rn s n t 4 m o) (hs:F8 s=1) (hT:acT s.hd s.tl s.md s.sl.length=s.tl+1) (hA:hasB (s.toWord s.hd (s.tl+1) s.md) n=true) (ho:(s.toWord s.hd (s.tl+1) s.md).ok) (hf:(s.toWord s.hd (s.tl+1) s.md).fit) (hL:qL1 (hdS ((((s.toWord s.hd (s.tl+1) s.md).setTh n (rgT (pcT t 4) 1 0)).addLg (tlE (s.toWord s.hd (s.tl+1) s.md) n t.ki 1 0)).setTh n (pcT (rgT t 1 0) 6)) n m (o+1) ((s.th.set n (rgT (pcT t 4) 1 0)).length)) x S):qL1 (hdS s n m o s.th.length) x S :=
 j5 mixed (fuel:=9) (n:=9) (im:=[0,5,2]) (keep:=[2,6,8,9]) (ext:=[42,248,109,328,335]) (orc:=sPO t 4 1++[.tuple #[wdT s.hd (s.tl+1) s.md,.int .i64 (acP s.hd s.tl s.md s.sl.length),.int .i64 1],.nilFunc,thT (pcT t 4),.iface 1000004 (.func (.yield 18) #[.agg (stL (((s.toWord s.hd (s.tl+1) s.md).setTh n (rgT (pcT t 4) 1 0)).addLg (tlE (s.toWord s.hd (s.tl+1) s.md) n t.ki 1 0))),.int .i64 11] #[]),thT (rgT (pcT t 4) 1 0),F4 ((s.toWord s.hd (s.tl+1) s.md).th.set n (rgT (pcT t 4) 1 0)).length ((((s.toWord s.hd (s.tl+1) s.md).th.set n (rgT (pcT t 4) 1 0)).set n (pcT (rgT t 1 0) 9)).map thT),thT (pcT (rgT t 1 0) 9),F4 (s.th.set n (rgT (pcT t 4) 1 0)).length (((s.th.set n (rgT (pcT t 4) 1 0)).set n (pcT (rgT t 1 0) 6)).map thT)])
  (h.pa<|an (h.acc hs hT)<|an (h.id)<|an (h.el)<|an (h.ln)<|an (BR (r:=1) hA h.ht h.nk ho hf)<|an (h.ids (rgT (pcT t 4) 1 0))<|an (el2 h.hn (rgT (pcT t 4) 1 0))<|an (K4 (s.th.set n (rgT (pcT t 4) 1 0)) n (pcT (rgT t 1 0) 9))<|an (h.ids (rgT (pcT t 4) 1 0))<|an (el3 (l:=(s.th.set n (rgT (pcT t 4) 1 0))) (by rw [List.length_set];exact h.hn) (pcT (rgT t 1 0) 9))<|an (set2 (s.th.set n (rgT (pcT t 4) 1 0)) n (pcT (rgT t 1 0) 9) (pcT (rgT t 1 0) 6)) <|  an h.o1 trivial) (by kernel_rfl) hL
theorem Hy (h:Rn s n t 4 m o) (hs:F8 s=2) (hL:qL1 (hdS (s.setTh n (pcT t 2)) n m (o+1) (s.th.length)) x S):qL1 (hdS s n m o s.th.length) x S :=
 j5 mixed (fuel:=9) (n:=9) (im:=[0,1,2]) (keep:=[2,6,8,9]) (ext:=[42,248,109,328]) (orc:=sPO t 4 1++[.tuple #[wdT s.hd (acT s.hd s.tl s.md s.sl.length) s.md,.int .i64 (acP s.hd s.tl s.md s.sl.length),.int .i64 2],.nilFunc,.nilFunc,thT (pcT t 4),F4 s.th.length ((s.th.set n (pcT t 2)).map thT)])
  (h.pa<|an (h.acc hs rfl)<|an (h.id)<|an (h.el)<|an (K4 s.th n (pcT t 2)) <|  an h.o1 trivial) (by kernel_rfl) hL
theorem GY (h:Rn s n t 4 m o) {r:Int} (hs:F8 s=r) (h1:(r==1)=false) (h2:(r==2)=false) (hL:qL1 (hdS (((s.setTh n (rgT (pcT t 4) r 0)).addLg (tlE s n t.ki r 0)).setTh n (pcT (rgT t r 0) 9)) n m (o+1) ((s.th.set n (rgT (pcT t 4) r 0)).length)) x S):qL1 (hdS s n m o s.th.length) x S :=
 j5 mixed (fuel:=9) (n:=9) (im:=[0,5,2]) (keep:=[2,6,8,9]) (ext:=[42,248,109,328,335]) (orc:=sPO t 4 1++[.tuple #[wdT s.hd (acT s.hd s.tl s.md s.sl.length) s.md,.int .i64 (acP s.hd s.tl s.md s.sl.length),.int .i64 r],.bool false,.bool false,thT (pcT t 4),.iface 1000004 (.func (.yield 18) #[.agg (stL ((s.setTh n (rgT (pcT t 4) r 0)).addLg (tlE s n t.ki r 0))),.int .i64 11] #[]),thT (rgT (pcT t 4) r 0),F4 (s.th.set n (rgT (pcT t 4) r 0)).length (((s.th.set n (rgT (pcT t 4) r 0)).set n (pcT (rgT t r 0) 9)).map thT)])
  (h.pa<|an (h.acc hs rfl)<|an (h1)<|an (h2)<|an (h.id)<|an (h.el)<|an (h.ln)<|an (h.tell (r:=r))<|an (h.ids (rgT (pcT t 4) r 0))<|an (el2 h.hn (rgT (pcT t 4) r 0))<|an (K4 (s.th.set n (rgT (pcT t 4) r 0)) n (pcT (rgT t r 0) 9)) <|  an h.o1 trivial) (by kernel_rfl) hL
theorem GA (h:Rn s n t 6 m o) (hm:s.el.length≤999999) (hb:hdB (ntT 1 s.ee s.el)=false) (hL:qL1 (hdS ((s.toEmpty (ntE s.ee s.el) (ntL 1 s.ee s.el)).setTh n (pcT t 9)) n m (o+1) (s.th.length)) x S):qL1 (hdS s n m o s.th.length) x S :=
 j5 mixed (fuel:=9) (n:=9) (im:=[0,1,2]) (keep:=[2,6,8,9]) (ext:=[42,248,109,330]) (orc:=sPO t 6 1++[.tuple #[evT (ntE s.ee s.el) (ntL 1 s.ee s.el),.int .i64 (hdI (ntT 1 s.ee s.el)),vD false],thT (pcT t 6),F4 s.th.length ((s.th.set n (pcT t 9)).map thT)])
  (h.pa<|an (kM hb hm)<|an (h.id)<|an (h.el)<|an (K4 s.th n (pcT t 9)) <|  an h.o1 trivial) (by kernel_rfl) hL
theorem IG (h:Rn s n t 6 m o) (hm:s.el.length≤999999) (hb:hdB (ntT 1 s.ee s.el)=true) {q:Nat} (hq:hdI (ntT 1 s.ee s.el)=q) (hA:hasB (s.toEmpty (ntE s.ee s.el) (ntL 1 s.ee s.el)) q=true) (ho:(s.toEmpty (ntE s.ee s.el) (ntL 1 s.ee s.el)).ok) (hf:(s.toEmpty (ntE s.ee s.el) (ntL 1 s.ee s.el)).fit) (hg:gth (s.th.set q (D8 (gth s.th q))) n=pcT t 6) (hL:qL1 (hdS (((s.toEmpty (ntE s.ee s.el) (ntL 1 s.ee s.el)).onTh q D8).setTh n (pcT t 9)) n m (o+1) ((s.th.set q (D8 (gth s.th q))).length)) x S):qL1 (hdS s n m o s.th.length) x S :=
 j5 mixed (fuel:=9) (n:=9) (im:=[0,5,2]) (keep:=[2,6,8,9]) (ext:=[42,248,109,330,154]) (orc:=sPO t 6 1++[.tuple #[evT (ntE s.ee s.el) (ntL 1 s.ee s.el),.int .i64 q,vD true],.iface 1000004 (.func (.yield 18) #[.agg (stL ((s.toEmpty (ntE s.ee s.el) (ntL 1 s.ee s.el)).onTh q D8)),.int .i64 11] #[]),thT (pcT t 6),F4 (s.th.set q (D8 (gth s.th q))).length (((s.th.set q (D8 (gth s.th q))).set n (pcT t 9)).map thT)])
  (h.pa<|an (hq ▸ kM hb hm)<|an (h.ln)<|an (CE hA ho hf)<|an (h.idw q (D8 (gth s.th q)))<|an (hg ▸ elT (l:=(s.th.set q (D8 (gth s.th q)))) (by rw [List.length_set];exact h.hn))<|an (K4 (s.th.set q (D8 (gth s.th q))) n (pcT t 9)) <|  an h.o1 trivial) (by kernel_rfl) hL
theorem NU (h:Rn s n t 7 m o) (hs:F8 s=2) (hl:(!t.la)=true) (hL:qL1 (hdS (s.setTh n (pcT t 8)) n m (o+1) (s.th.length)) x S):qL1 (hdS s n m o s.th.length) x S :=
 j5 mixed (fuel:=9) (n:=9) (im:=[0,1,2]) (keep:=[2,6,8,9]) (ext:=[42,248,109,348]) (orc:=sPO t 7 1++[.tuple #[.int .i64 2,.int .i64 (tkR s.hd s.tl s.md s.sl.length)],.nilFunc,thT (pcT t 7),.bool true,thT (pcT t 7),F4 s.th.length ((s.th.set n (pcT t 8)).map thT)])
  (h.pa<|an (h.sees hs)<|an (h.id)<|an (h.el)<|an (hl)<|an (h.id)<|an (h.el)<|an (K4 s.th n (pcT t 8)) <|  an h.o1 trivial) (by kernel_rfl) hL
theorem NZ (h:Rn s n t 7 m o) (hs:F8 s=2) (hl:(!t.la)=false) (hL:qL1 (hdS (s.setTh n (pcT t 2)) n m (o+1) (s.th.length)) x S):qL1 (hdS s n m o s.th.length) x S :=
 j5 mixed (fuel:=9) (n:=9) (im:=[0,1,2]) (keep:=[2,6,8,9]) (ext:=[42,248,109,348]) (orc:=sPO t 7 1++[.tuple #[.int .i64 2,.int .i64 (tkR s.hd s.tl s.md s.sl.length)],.nilFunc,thT (pcT t 7),.bool false,thT (pcT t 7),F4 s.th.length ((s.th.set n (pcT t 2)).map thT)])
  (h.pa<|an (h.sees hs)<|an (h.id)<|an (h.el)<|an (hl)<|an (h.id)<|an (h.el)<|an (K4 s.th n (pcT t 2)) <|  an h.o1 trivial) (by kernel_rfl) hL
theorem NW (h:Rn s n t 7 m o) {r:Int} (hs:F8 s=r) (h2:(r==2)=false) (hL:qL1 (hdS (s.setTh n (pcT t 2)) n m (o+1) (s.th.length)) x S):qL1 (hdS s n m o s.th.length) x S :=
 j5 mixed (fuel:=9) (n:=9) (im:=[0,1,2]) (keep:=[2,6,8,9]) (ext:=[42,248,109,348]) (orc:=sPO t 7 1++[.tuple #[.int .i64 r,.int .i64 (tkR s.hd s.tl s.md s.sl.length)],.bool false,thT (pcT t 7),F4 s.th.length ((s.th.set n (pcT t 2)).map thT)])
  (h.pa<|an (h.sees hs)<|an (h2)<|an (h.id)<|an (h.el)<|an (K4 s.th n (pcT t 2)) <|  an h.o1 trivial) (by kernel_rfl) hL
theorem Jm (h:Rn s n t 8 m o) (hl:t.la=true) (hL:qL1 (hdS (s.setTh n (pcT t 2)) n m (o+1) (s.th.length)) x S):qL1 (hdS s n m o s.th.length) x S :=
 j5 mixed (fuel:=9) (n:=9) (im:=[0,1,2]) (keep:=[2,6,8,9]) (ext:=[42,248,109]) (orc:=sPO t 8 1++[thT (pcT t 8),F4 s.th.length ((s.th.set n (pcT t 2)).map thT),thT (pcT t 2),.bool true])
  (h.pa<|an (h.id)<|an (h.el)<|an (K4 s.th n (pcT t 2))<|an (h.id)<|an (el2 h.hn (pcT t 2))<|an (hl) <|  an h.o1 trivial) (by kernel_rfl) hL
theorem Iy (h:Rn s n t 8 m o) (hl:t.la=false) (hm:s.fl.length≤999999) (hb:cmB s.fe s.fl t.se n=true) (hL:qL1 (hdS ((s.toFull s.fe (cmL s.fe s.fl t.se n)).setTh n (z8 t 2)) n m (o+1) (s.th.length)) x S):qL1 (hdS s n m o s.th.length) x S :=
 j5 mixed (fuel:=9) (n:=9) (im:=[0,1,2]) (keep:=[2,6,8,9]) (ext:=[42,248,109,331,332]) (orc:=sPO t 8 1++[thT (pcT t 8),F4 s.th.length ((s.th.set n (pcT t 2)).map thT),thT (pcT t 2),.bool false,thT (pcT t 2),.tuple #[evT s.fe (cmL s.fe s.fl t.se n),vD true,.int .i64 (cmC s.fe s.fl n)],thT (pcT t 2),.tuple #[thT (z8 t 2),.int .i64 0],thT (pcT t 2),F4 s.th.length ((s.th.set n (z8 t 2)).map thT)])
  (h.pa<|an (h.id)<|an (h.el)<|an (K4 s.th n (pcT t 2))<|an (h.id)<|an (el2 h.hn (pcT t 2))<|an (hl)<|an (h.id)<|an (el2 h.hn (pcT t 2))<|an (ku hb hm)<|an (h.id)<|an (h.id)<|an (el2 h.hn (pcT t 2))<|an (EF (KD (c:=2) h.rs))<|an (el2 h.hn (pcT t 2))<|an (set2 s.th n (pcT t 2) (z8 t 2)) <|  an h.o1 trivial) (by kernel_rfl) hL
theorem Iw (h:Rn s n t 8 m o) (hl:t.la=false) (hm:s.fl.length≤999999) (hb:cmB s.fe s.fl t.se n=false) (hL:qL1 (hdS (s.setTh n (pcT t 2)) n m (o+1) (s.th.length)) x S):qL1 (hdS s n m o s.th.length) x S :=
 j5 mixed (fuel:=9) (n:=9) (im:=[0,1,2]) (keep:=[2,6,8,9]) (ext:=[42,248,109,331]) (orc:=sPO t 8 1++[thT (pcT t 8),F4 s.th.length ((s.th.set n (pcT t 2)).map thT),thT (pcT t 2),.bool false,thT (pcT t 2),.tuple #[evT s.fe (cmL s.fe s.fl t.se n),vD false,.int .i64 (cmC s.fe s.fl n)]])
  (h.pa<|an (h.id)<|an (h.el)<|an (K4 s.th n (pcT t 2))<|an (h.id)<|an (el2 h.hn (pcT t 2))<|an (hl)<|an (h.id)<|an (el2 h.hn (pcT t 2))<|an (ku hb hm) <|  an h.o1 trivial) (by kernel_rfl) hL
theorem UD (h:Rn s n t 9 m o) (hm:s.sn.length≤999999) (hL:qL1 (hdS ((s.toSn (lvL s.sn n)).setTh n (E9 t)) n m (o+1) (s.th.length)) x S):qL1 (hdS s n m o s.th.length) x S :=
 j5 mixed (fuel:=9) (n:=9) (im:=[0,1,2]) (keep:=[2,6,8,9]) (ext:=[42,248,109,269,333]) (orc:=sPO t 9 1++[.tuple #[l5 (lvL s.sn n),.int .i64 (lvE s.sn n)],thT (pcT t 9),.tuple #[thT (E9 t),.int .i64 0],thT (pcT t 9),F4 s.th.length ((s.th.set n (E9 t)).map thT)])
  (h.pa<|an (jA s.sn n hm)<|an (h.id)<|an (h.id)<|an (h.el)<|an (mf (qJ (c:=9) h.rs))<|an (h.el)<|an (K4 s.th n (E9 t)) <|  an h.o1 trivial) (by kernel_rfl) hL
theorem Ma (h:Rn s n t 10 m o) (hr:In64 t.re) (hb:dA s.hd s.tl s.md s.sl.length t.re=false) (hL:qL1 (hdS (s.setTh n (pcT t 2)) n m (o+1) (s.th.length)) x S):qL1 (hdS s n m o s.th.length) x S :=
 j5 mixed (fuel:=9) (n:=9) (im:=[0,1,2]) (keep:=[2,6,8,9]) (ext:=[42,248,109,334]) (orc:=sPO t 10 1++[thT (pcT t 10),.tuple #[wdT (evH s.hd s.tl s.md s.sl.length t.re) s.tl s.md,vD false],thT (pcT t 10),F4 s.th.length ((s.th.set n (pcT t 2)).map thT)])
  (h.pa<|an (h.id)<|an (h.el)<|an (h.evi hr hb)<|an (h.id)<|an (h.el)<|an (K4 s.th n (pcT t 2)) <|  an h.o1 trivial) (by kernel_rfl) hL
theorem Nz (h:Rn s n t 10 m o) (hr:In64 t.re) (hb:dA s.hd s.tl s.md s.sl.length t.re=true) (hH:evH s.hd s.tl s.md s.sl.length t.re=s.hd+1) {g:Int} (hv:Q7 (s.toWord (s.hd+1) s.tl s.md) t.re=g) (hA:hasB (s.toWord (s.hd+1) s.tl s.md) n=true) (ho:(s.toWord (s.hd+1) s.tl s.md).ok) (hf:(s.toWord (s.hd+1) s.tl s.md).fit) (hL:qL1 (hdS (((s.toWord (s.hd+1) s.tl s.md).addLg (tlE (s.toWord (s.hd+1) s.tl s.md) n 9 1 g)).setTh n (pcT t 11)) n m (o+1) (s.th.length)) x S):qL1 (hdS s n m o s.th.length) x S :=
 j5 mixed (fuel:=9) (n:=9) (im:=[0,5,2]) (keep:=[2,6,8,9]) (ext:=[42,248,109,334,336,335]) (orc:=sPO t 10 1++[thT (pcT t 10),.tuple #[wdT (s.hd+1) s.tl s.md,vD true],thT (pcT t 10),.int .i64 g,.iface 1000004 (.func (.yield 18) #[.agg (stL ((s.toWord (s.hd+1) s.tl s.md).addLg (tlE (s.toWord (s.hd+1) s.tl s.md) n 9 1 g))),.int .i64 11] #[]),thT (pcT t 10),F4 s.th.length ((s.th.set n (pcT t 11)).map thT)])
  (h.pa<|an (h.id)<|an (h.el)<|an (hH ▸ h.evi hr hb)<|an (h.id)<|an (h.el)<|an (h.ln)<|an (hv ▸ Bf (s.toWord (s.hd+1) s.tl s.md) t.re ho hr)<|an (h.ln)<|an (TL (r:=1) (g:=g) hA ho hf)<|an (h.id)<|an (h.el)<|an (K4 s.th n (pcT t 11)) <|  an h.o1 trivial) (by kernel_rfl) hL
theorem GG (h:Rn s n t 11 m o) (hm:s.sl.length≤1000) (hr:In64 t.re) (hL:qL1 (hdS ((s.toSl (rlL s.sl t.re)).setTh n (pcT t 2)) n m (o+1) (s.th.length)) x S):qL1 (hdS s n m o s.th.length) x S :=
 j5 mixed (fuel:=9) (n:=9) (im:=[0,1,2]) (keep:=[2,6,8,9]) (ext:=[42,248,109,337]) (orc:=sPO t 11 1++[thT (pcT t 11),.tuple #[U0 (rlL s.sl t.re),.int .i64 (rlE s.sl t.re)],thT (pcT t 11),F4 s.th.length ((s.th.set n (pcT t 2)).map thT)])
  (h.pa<|an (h.id)<|an (h.el)<|an (uO s.sl t.re hm hr)<|an (h.id)<|an (h.el)<|an (K4 s.th n (pcT t 2)) <|  an h.o1 trivial) (by kernel_rfl) hL
end
end
section
open Go.RowKit
structure Sp (s:St) (n:Nat) (m o:Int):Prop where
 lt:decide (o<min m 1000)=true
 ck:stB s=true
 ok:s.ok
 hn:n<s.th.length
 st:(gth s.th n).st=1
 sd:j6 (gth s.th n).ki=1
 lg:s.lg.length≤999999
 o1:In64 (o+1)
theorem lK {s:St} (h:stB s=true) (hl:s.lg.length≤1000000):s.fit:=by
 obtain ⟨a,b,c,d,-,-⟩:=l6 h
 have h1:=Y3 h
 have h2:=X9 (H8.1 a).1
 have h3:=X9 (H8.1 b).1
 have h4:=X9 (H8.1 c).1
 have h5:=X9 (H8.1 d).1
 have h6:=(aR.1 (C8 h).2.1).1
 exact ⟨by omega,by omega,by omega,by omega,by omega,by omega,hl⟩
section
variable {s:St} {n:Nat} {m o:Int} {x:Exit} {S:Sg}
theorem Sp.rn (h:Sp s n m o) {c:Int} (hc:(gth s.th n).pc=c):Rn s n (gth s.th n) c m o :=
 ⟨h.lt,h.ck,h.ok,h.hn,by rw [← hc];rfl,by rw [h.st];rfl,h.sd,lK h.ck (by have:=h.lg;omega),h.o1⟩
def Nxt (s:St) (n:Nat) (m o:Int) (x:Exit) (S:Sg):Prop:=∀ N,N=s.th.length→qL1 (hdS s n m o N) x S
theorem Nxt.to {s s' : St} (h:Nxt s n m o x S) (e:s=s') {N:Nat} (hN:N=s'.th.length):qL1 (hdS s' n m o N) x S:=by subst e;exact h N hN
theorem CO {t:Th} (h:thB t=true) {c:Int} (hc:t.pc=c):qF (pcT t c)=onT t:=by
 obtain ⟨st,ki,va,un,pc,re,se,tr,la,rs,go⟩:=t
 simp only at hc
 subst hc
 rw [K6] at h
 simp only [qF,pcT,onT]
 congr 1
 split <;> omega
theorem aN {s:St} (h:stB s=true) {n:Nat} (hn:n<s.th.length) {c r p:Int} (hk:(gth s.th n).ki≠9) :
  D7 s n (gth s.th n).ki r 0 p=((s.setTh n (rgT (pcT (gth s.th n) c) r 0)).addLg (tlE s n (gth s.th n).ki r 0)).setTh n (pcT (rgT (gth s.th n) r 0) p):=by
 unfold D7
 rw [dQ h hn]
 unfold St.onTh
 have e:gth (s.th.set n (F3 (gth s.th n) (gth s.th n).ki r 0)) n=F3 (gth s.th n) (gth s.th n).ki r 0:=by rw [H9 hn,if_pos rfl]
 have e2:F3 (gth s.th n) (gth s.th n).ki r 0=rgT (gth s.th n) r 0:=by unfold F3;rw [if_neg hk];rfl
 show St.mk _ _ _ _ _ _ _ _ _ _ _ _ ((s.th.set n _).set n (pcT (gth (s.th.set n _) n) p)) _=St.mk _ _ _ _ _ _ _ _ _ _ _ _ ((s.th.set n _).set n _) _
 rw [e,e2,List.set_set,List.set_set]
 rfl
theorem aH {l:List Th} {n:Nat} {t u:Th}:(l.set n t).length=((l.set n t).set n u).length:=by simp
theorem U7 {l:List Th} {n:Nat} {t:Th}:l.length=(l.set n t).length:=by simp
theorem Sp.ki (h:Sp s n m o):(gth s.th n).ki≠9:=fun e=>by have:=h.sd;rw [e] at this;exact absurd this (by decide)
theorem Sp.tb (h:Sp s n m o):thB (gth s.th n)=true:=l9 h.ck h.hn
theorem Sp.tr (h:Sp s n m o):In64 ((gth s.th n).tr+1)∧In64 (gth s.th n).re∧max (gth s.th n).tr 0=(gth s.th n).tr:=by
 have:=h.tb
 generalize gth s.th n=t at this
 obtain ⟨st,ki,va,un,pc,re,se,tr,la,rs,go⟩:=t
 rw [K6] at this
 simp only [In64]
 omega
theorem Sp.few (h:Sp s n m o):s.sn.length≤999999∧s.fl.length≤999999∧s.el.length≤999999∧s.sl.length≤1000:=by
 obtain ⟨a,b,c,d,-,-⟩:=l6 h.ck
 have h2:=X9 (H8.1 a).1
 have h4:=X9 (H8.1 c).1
 have h5:=X9 (H8.1 d).1
 have h6:=(aR.1 (C8 h.ck).2.1).1
 omega
theorem J4 {a b:Int} (h:a≠b):(a==b)=false:=by simp [h]
theorem RZ (h:Sp s n m o) (hc:(gth s.th n).pc=1) (hL:Nxt (Y4 s n) n m (o+1) x S):qL1 (hdS s n m o s.th.length) x S:=by
 have hR:=h.rn hc
 unfold Y4 at hL
 split at hL
 ·next hp=>exact QF hR (by simp [hp]) (hL.to rfl U7)
 ·next hp =>
  split at hL
  ·next hl=>exact Oj hR (J4 hp) hl (hL.to (aN h.ck h.hn h.ki) aH)
  ·next hl=>exact Nh hR (J4 hp) (by simpa using hl) h.tr.1 (hL.to (by unfold St.onTh;rw [CO h.tb hc]) U7)
theorem VS (h:Sp s n m o) (hc:(gth s.th n).pc=2) (hL:Nxt (cZ s n) n m (o+1) x S):qL1 (hdS s n m o s.th.length) x S:=by
 have hR:=h.rn hc
 unfold cZ at hL
 split at hL
 ·next hs=>exact RI hR hs (hL.to rfl U7)
 ·next h1 =>
  split at hL
  ·next hs =>
   unfold bD at hL
   split at hL
   ·next hp=>exact Tv hR hs (by simp [hp]) (hL.to (aN h.ck h.hn h.ki) aH)
   ·next hp =>
    split at hL
    ·next hq=>exact Tm hR hs (J4 hp) (by simp [hq]) (hL.to rfl U7)
    ·next hq =>
     split at hL
     ·next hk=>exact QE hR hs (J4 hp) (J4 hq) (by rw [hk];rfl) (hL.to (aN h.ck h.hn h.ki) aH)
     ·next hk =>
      have ho:fE (gth s.th n).ki=false:=by
       have:=h.sd
       generalize (gth s.th n).ki=k at this hk
       have h3:k=1∨k=3:=by rcases X0 k with h | h | h | h <;> omega
       rcases h3 with rfl | rfl <;> rfl
      split at hL
      ·next hl=>exact OU hR hs (J4 hp) (J4 hq) ho hl (hL.to (aN h.ck h.hn h.ki) aH)
      ·next hl =>
       have hl' : (gth s.th n).la=false:=by simpa using hl
       split at hL
       ·next hw=>exact PT hR hs (J4 hp) (J4 hq) ho hl' (by rw [h.tr.2.2];exact hw) (hL.to rfl U7)
       ·next hw=>exact RV hR hs (J4 hp) (J4 hq) ho hl' (by rw [h.tr.2.2]) (J4 hw) h.tr.1 (hL.to (by unfold St.onTh;rw [CO h.tb hc]) U7)
  ·next h2=>exact QX hR rfl (J4 h1) (J4 h2) (hL.to (aN h.ck h.hn h.ki) aH)
theorem Ro (h:Sp s n m o) (hc:(gth s.th n).pc=3) (hL:Nxt (sendN s n) n m (o+1) x S):qL1 (hdS s n m o s.th.length) x S:=by
 have hR:=h.rn hc
 rw [dR hc] at hL
 split at hL
 ·next hw=>exact TH hR h.few.2.2.2 h.tr.2.1 hw (hL.to rfl U7)
 ·next hw=>exact MS hR h.few.2.2.2 h.tr.2.1 (by simp [hw]) (hL.to rfl rfl)
theorem Ux (h:Sp s n m o) (hc:(gth s.th n).pc=7) (hL:Nxt (sendN s n) n m (o+1) x S):qL1 (hdS s n m o s.th.length) x S:=by
 have hR:=h.rn hc
 rw [iI hc] at hL
 by_cases hs:F8 s=2
 ·cases hl:(gth s.th n).la
  ·rw [if_pos ⟨hs,hl⟩] at hL
   exact NU hR hs (by rw [hl];rfl) (hL.to rfl U7)
  ·rw [if_neg (by rw [hl];simp)] at hL
   exact NZ hR hs (by rw [hl];rfl) (hL.to rfl U7)
 ·rw [if_neg (fun e=>hs e.1)] at hL
  exact NW hR rfl (J4 hs) (hL.to rfl U7)
theorem Ny (h:Sp s n m o) (hc:(gth s.th n).pc=8) (hL:Nxt (Q8 s n) n m (o+1) x S):qL1 (hdS s n m o s.th.length) x S:=by
 have hR:=h.rn hc
 unfold Q8 at hL
 split at hL
 ·next hl=>exact Jm hR hl (hL.to rfl U7)
 ·next hl =>
  have hl' : (gth s.th n).la=false:=by simpa using hl
  split at hL
  ·next hb=>exact Iy hR hl' h.few.2.1 hb (hL.to (by unfold cmL;rw [if_pos hb];rfl) U7)
  ·next hb=>exact Iw hR hl' h.few.2.1 (by simpa using hb) (hL.to rfl U7)
theorem a1C (h:Sp s n m o) (hs:F8 s=1):stB (s.toWord s.hd (s.tl+1) s.md)=true∧(s.toWord s.hd (s.tl+1) s.md).ok:=by
 have h2:=lY (C8 h.ck).1
 rw [(DW hs).1] at h2
 have h3:=I7.1 h2
 exact ⟨M6 h.ck h2,⟨h.ok.cf,h.ok.hd,(show In64 (s.tl+1) by constructor <;> omega),h.ok.md,h.ok.fe,h.ok.ee,h.ok.nw,h.ok.sl,h.ok.sn,h.ok.rc,h.ok.fl,h.ok.el,h.ok.th,h.ok.lg⟩⟩
theorem a2q (h:Sp s n m o) {p:Int} (hb:dA s.hd s.tl s.md s.sl.length p=true):stB (s.toWord (s.hd+1) s.tl s.md)=true∧(s.toWord (s.hd+1) s.tl s.md).ok:=by
 have h2:=mI (x:=p) (C8 h.ck).1
 rw [show evH s.hd s.tl s.md s.sl.length p=s.hd+1 by unfold evH;rw [if_pos hb]] at h2
 have h3:=I7.1 h2
 exact ⟨M6 h.ck h2,⟨h.ok.cf,(show In64 (s.hd+1) by constructor <;> omega),h.ok.tl,h.ok.md,h.ok.fe,h.ok.ee,h.ok.nw,h.ok.sl,h.ok.sn,h.ok.rc,h.ok.fl,h.ok.el,h.ok.th,h.ok.lg⟩⟩
theorem Ms (h:Sp s n m o) (hc:(gth s.th n).pc=4) (hL:Nxt (Q6 s n) n m (o+1) x S):qL1 (hdS s n m o s.th.length) x S:=by
 have hR:=h.rn hc
 unfold Q6 at hL
 split at hL
 ·next hs =>
  obtain ⟨h1,h2⟩:=a1C h hs
  refine Jp hR hs (DW hs).1 (aa h1 h.hn) h2 (lK h1 (by have:=h.lg;show s.lg.length≤1000000;omega)) (hL.to ?_ aH)
  exact aN (c:=4) h1 h.hn h.ki |>.trans (by show St.mk _ _ _ _ _ _ _ _ _ _ _ _ ((s.th.set n _).set n _) _=St.mk _ _ _ _ _ _ _ _ _ _ _ _ ((s.th.set n _).set n _) _;rfl)
 ·next h1 =>
  split at hL
  ·next hs=>exact Hy hR hs (hL.to rfl U7)
  ·next h2=>exact GY hR rfl (J4 h1) (J4 h2) (hL.to (aN h.ck h.hn h.ki) aH)
theorem QK (h:Sp s n m o) (hc:(gth s.th n).pc=10) (hL:Nxt (Y6 s n) n m (o+1) x S):qL1 (hdS s n m o s.th.length) x S:=by
 have hR:=h.rn hc
 unfold Y6 at hL
 split at hL
 ·next hb =>
  obtain ⟨h1,h2⟩:=a2q h hb
  have hv:Q7 (s.toWord (s.hd+1) s.tl s.md) (gth s.th n).re=Q7 s (gth s.th n).re:=by
   unfold Q7;rw [h1,h.ck];rfl
  refine Nz hR h.tr.2.1 hb (by unfold evH;rw [if_pos hb]) hv (aa h1 h.hn) h2 (lK h1 (by have:=h.lg;show s.lg.length≤1000000;omega)) (hL.to ?_ U7)
  unfold D7
  rw [dQ h1 h.hn]
  unfold St.onTh
  show St.mk _ _ _ _ _ _ _ _ _ _ _ _ ((s.th.set n (gth s.th n)).set n (pcT (gth (s.th.set n (gth s.th n)) n) 11)) _=St.mk _ _ _ _ _ _ _ _ _ _ _ _ (s.th.set n _) _
  rw [List.set_set,H9 h.hn,if_pos rfl]
  rfl
 ·next hb=>exact Ma hR h.tr.2.1 (by simpa using hb) (hL.to rfl U7)
theorem TP (h:Sp s n m o):stB (s.toEmpty (ntE s.ee s.el) (ntL 1 s.ee s.el))=true∧(s.toEmpty (ntE s.ee s.el) (ntL 1 s.ee s.el)).ok:=by
 obtain ⟨-,-,-,d,-,e⟩:=l6 h.ck
 have h1:okE (ntE s.ee s.el) (ntL 1 s.ee s.el)=true:=by simp only [ntE,ntL,e,if_true];exact fF e (O6 (R8 e) 1)
 have h2:W9 s.cf.th (ntL 1 s.ee s.el)=true:=by simp only [ntL,e,if_true];exact bN d (O6 (R8 e) 1) (fun x hx=>List.mem_of_mem_drop hx)
 have h3:=(O7.1 h1).1
 have hb:=h.ok.el
 refine ⟨bL h.ck h1 h2,⟨h.ok.cf,h.ok.hd,h.ok.tl,h.ok.md,h.ok.fe,(show In64 (ntE s.ee s.el) by constructor <;> omega),h.ok.nw,h.ok.sl,h.ok.sn,h.ok.rc,h.ok.fl,?_,h.ok.th,h.ok.lg⟩⟩
 show (∀ x∈ntL 1 s.ee s.el,In64 x)∧(ntL 1 s.ee s.el).length≤maxLen
 simp only [ntL,e,if_true]
 exact ⟨fun x hx=>hb.1 x (List.mem_of_mem_drop hx),by rw [List.length_drop];omega⟩
theorem rU {t:Th} (h:t.st=1):D8 t=t:=by unfold D8;rw [if_neg (by omega)]
theorem MU (h:Sp s n m o) (hc:(gth s.th n).pc=6) (hL:Nxt (L9 s n) n m (o+1) x S):qL1 (hdS s n m o s.th.length) x S:=by
 have hR:=h.rn hc
 obtain ⟨h1,h2⟩:=TP h
 unfold L9 at hL
 split at hL
 ·next hb =>
  obtain ⟨-,-,-,d,-,e⟩:=l6 h.ck
  have hth:=Y3 h.ck
  have hq:∃ q:Nat,hdI (ntT 1 s.ee s.el)=q∧q<s.th.length:=by
   have hb' := hb
   simp only [ntT,e,if_true] at hb' ⊢
   cases hl:s.el with
   | nil=>rw [hl] at hb';cases hb'
   | cons y r =>
    have hy:y∈s.el:=by rw [hl];exact List.mem_cons_self
    have h3:=(H8.1 d).2 y hy
    have h4:=(aO.1 (H8.1 d).1).1 y hy
    exact ⟨y.toNat,by show y=_;omega,by omega⟩
  obtain ⟨q,hq,hql⟩:=hq
  have h9:stB ((s.toEmpty (ntE s.ee s.el) (ntL 1 s.ee s.el)).onTh n (pcT · 9))=true:=r9 h1 (D9 h.tb (by have:=h.st;omega) (by decide))
  have e6:gth s.th n=pcT (gth s.th n) 6:=by conv=>lhs;rw [show gth s.th n=pcT (gth s.th n) (gth s.th n).pc from rfl,hc]
  have hA:hasB ((s.toEmpty (ntE s.ee s.el) (ntL 1 s.ee s.el)).onTh n (pcT · 9)) q=true:=aa h9 (by show q<(s.th.set n _).length;rw [List.length_set];exact hql)
  have hg:gth (s.th.set q (D8 (gth s.th q))) n=pcT (gth s.th n) 6:=by
   rw [H9 hql]
   split
   ·next e=>subst e;rw [rU h.st];exact e6
   ·exact e6
  refine IG hR h.few.2.2.1 hb hq (aa h1 hql) h2 (lK h1 (by have:=h.lg;show s.lg.length≤1000000;omega)) hg (hL.to ?_ U7)
  rw [hq]
  unfold G9
  rw [if_pos hA]
  unfold St.onTh
  show St.mk _ _ _ _ _ _ _ _ _ _ _ _ ((s.th.set n (pcT (gth s.th n) 9)).set (q:Int).toNat (D8 (gth (s.th.set n (pcT (gth s.th n) 9)) (q:Int).toNat))) _=St.mk _ _ _ _ _ _ _ _ _ _ _ _ ((s.th.set q (D8 (gth s.th q))).set n (pcT (gth s.th n) 9)) _
  congr 1
  rw [Int.toNat_natCast,H9 h.hn]
  by_cases hqn:n=q
  ·subst hqn
   rw [if_pos rfl,List.set_set,List.set_set,rU (show (pcT (gth s.th n) 9).st=1 from h.st)]
  ·rw [if_neg hqn,List.set_comm _ _ hqn]
 ·next hb=>exact GA hR h.few.2.2.1 (by simpa using hb) (hL.to rfl U7)
theorem VP (h:Sp s n m o) (hL:Nxt (sendN s n) n m (o+1) x S):qL1 (hdS s n m o s.th.length) x S:=by
 obtain p | p | p | p | p | p | p | p | p | p | p | p:=iW h.tb
 ·rw [ja p] at hL;exact UB (h.rn p) h.few.1 (hL.to rfl U7)
 ·rw [iZ p] at hL;exact RZ h p hL
 ·rw [iG p] at hL;exact VS h p hL
 ·exact Ro h p hL
 ·rw [iP p] at hL;exact Ms h p hL
 ·rw [iR p] at hL
  obtain ⟨-,-,-,-,e,-⟩:=l6 h.ck
  exact XX (h.rn p) (by unfold prE;rw [if_pos e]) (hL.to rfl U7)
 ·rw [iV p] at hL;exact MU h p hL
 ·exact Ux h p hL
 ·rw [iQ p] at hL;exact Ny h p hL
 ·rw [fZ p] at hL;exact UD (h.rn p) h.few.1 (hL.to rfl U7)
 ·rw [eZ p] at hL;exact QK h p hL
 ·rw [aU p] at hL;exact GG (h.rn p) h.few.2.2.2 h.tr.2.1 (hL.to rfl U7)
end
end
section
open Go.RowKit
structure Vk (s:St):Prop where
 cf:s.cf.ok
 sl:∀ x∈s.sl,In64 x.vl
 th:∀ t∈s.th,In64 t.va∧In64 t.go
theorem Vk.of {s:St} (h:s.ok):Vk s:=⟨h.cf,fun x hx=>(h.sl.1 x hx).2,fun t ht=>⟨(h.th.1 t ht).2.2.1,(h.th.1 t ht).2.2.2.2.2.2.2.2.2⟩⟩
theorem Kk {m:Int} {l:List Int} (h:W9 m l=true):(∀ x∈l,In64 x)∧l.length≤maxLen:=by
 have h1:=(H8.1 h).1
 refine ⟨fun x hx=>?_,by have:=X9 h1;simp only [maxLen];omega⟩
 have:=(aO.1 h1).1 x hx
 constructor <;> omega
theorem Ao {s:St} (h:stB s=true) (hv:Vk s) (hl:s.lg.length≤1000000):s.ok:=by
 obtain ⟨h1,h2,h3,h4,h5,h6,h7,h8⟩:=N7.1 h
 obtain ⟨a,b,c,d⟩:=dS.1 h3
 have hw:=I7.1 (C8 h).1
 have hsl:=aR.1 (C8 h).2.1
 have e4:=(O7.1 h4).1
 have e5:=(O7.1 h5).1
 have hth:=Y3 h
 refine ⟨hv.cf,by constructor <;> omega,by constructor <;> omega,by constructor <;> omega,by constructor <;> omega,by constructor <;> omega,by constructor <;> omega,⟨fun x hx=>⟨?_,hv.sl x hx⟩,by simp only [maxLen];omega⟩,Kk a,Kk b,Kk c,Kk d,⟨fun t ht=>?_,by simp only [maxLen];omega⟩,by simp only [maxLen];omega⟩
 ·obtain ⟨i,hi,rfl⟩:=List.getElem_of_mem hx
  have:=mM.1 (hsl.2 i hi)
  rw [oG hi] at this
  constructor <;> omega
 ·have hvt:=hv.th t ht
  obtain ⟨i,hi,rfl⟩:=List.getElem_of_mem ht
  have:=l9 h hi
  rw [pO hi] at this
  generalize s.th[i]=t at this hvt
  obtain ⟨st,ki,va,un,pc,re,se,tr,la,rs,go⟩:=t
  rw [K6] at this
  simp only [In64,Th.ok] at hvt ⊢
  omega
section
variable {s:St} {n:Nat}
theorem Vk.set (h:Vk s) {t:Th} (ht:In64 t.va∧In64 t.go):Vk (s.setTh n t):=⟨h.cf,h.sl,fun u hu=>by
 rcases List.mem_or_eq_of_mem_set hu with h1 | rfl
 ·exact h.th u h1
 ·exact ht⟩
theorem pW {l:List Th} {n:Nat} (hn:n<l.length):gth l n∈l:=by rw [pO hn];exact List.getElem_mem hn
theorem Vk.on (h:Vk s) (hn:n<s.th.length) {f:Th→Th} (hf:∀ t,(f t).va=t.va∧(f t).go=t.go):Vk (s.onTh n f):=h.set (by have:=h.th _ (pW hn);rw [(hf _).1,(hf _).2];exact this)
theorem Vk.told (h:Vk s) (hB:stB s=true) (hn:n<s.th.length) {k r g p:Int} (hg:k=9∨In64 g):Vk (D7 s n k r g p):=by
 unfold D7
 have h1:Vk (bH s n k r g):=by
  rw [dQ hB hn]
  have:=h.th _ (pW hn)
  refine ⟨h.cf,h.sl,(h.set (n:=n) ?_).th⟩
  unfold F3
  split
  ·exact this
  ·exact ⟨this.1,by rcases hg with h | h;contradiction;exact h⟩
 exact h1.on (by rw [dQ hB hn];show n<(s.th.set n _).length;rw [List.length_set];exact hn) (fun _=>⟨rfl,rfl⟩)
theorem Vk.wake (h:Vk s) (i:Int):Vk (G9 s i):=by
 unfold G9
 split
 ·next hh =>
  refine h.on (by have:=J5.1 hh;omega) fun t=>?_
  unfold D8
  split <;> exact ⟨rfl,rfl⟩
 ·exact h
theorem Gf (h:Vk s) (hB:stB s=true) (hn:n<s.th.length) (h1:(gth s.th n).st≠0):Vk (sendN s n):=by
 have i0:In64 0:=by constructor <;> omega
 obtain p | p | p | p | p | p | p | p | p | p | p | p:=iW (l9 hB hn)
 ·rw [ja p];exact Vk.on (s:=s.toSn (Z0 s.sn n)) (f:=(pcT · 1)) ⟨h.cf,h.sl,h.th⟩ hn fun _=>⟨rfl,rfl⟩
 ·rw [iZ p]
  unfold Y4
  repeat' split
  ·exact h.on hn fun _=>⟨rfl,rfl⟩
  ·exact h.told hB hn (.inr i0)
  ·exact h.on hn fun _=>⟨rfl,rfl⟩
 ·rw [iG p]
  unfold cZ bD
  repeat' split
  ·exact h.on hn fun _=>⟨rfl,rfl⟩
  ·exact h.told hB hn (.inr i0)
  ·exact h.on hn fun _=>⟨rfl,rfl⟩
  ·exact h.told hB hn (.inr i0)
  ·exact h.told hB hn (.inr i0)
  ·exact h.on hn fun _=>⟨rfl,rfl⟩
  ·exact h.on hn fun _=>⟨rfl,rfl⟩
  ·exact h.told hB hn (.inr i0)
 ·rw [dR p]
  split
  ·refine Vk.on (s:=s.toSl (wrL s.sl (gth s.th n).re (gth s.th n).va)) (f:=(pcT · 4)) ⟨h.cf,fun x hx=>?_,h.th⟩ hn fun _=>⟨rfl,rfl⟩
   have hx' : x∈wrL s.sl (gth s.th n).re (gth s.th n).va:=hx
   unfold wrL at hx'
   split at hx'
   ·rcases List.mem_or_eq_of_mem_set hx' with h2 | rfl
    ·exact h.sl x h2
    ·exact (h.th _ (pW hn)).1
   ·exact h.sl x hx'
  ·exact h
 ·rw [iP p]
  unfold Q6
  repeat' split
  ·next hs =>
   have h2:=lY (C8 hB).1
   rw [(DW hs).1] at h2
   exact Vk.told (s:=s.toWord s.hd (s.tl+1) s.md) ⟨h.cf,h.sl,h.th⟩ (M6 hB h2) hn (.inr i0)
  ·exact h.on hn fun _=>⟨rfl,rfl⟩
  ·exact h.told hB hn (.inr i0)
 ·rw [iR p];exact h.on hn fun _=>⟨rfl,rfl⟩
 ·rw [iV p]
  have h2:Vk ((s.toEmpty (ntE s.ee s.el) (ntL 1 s.ee s.el)).onTh n (pcT · 9)):=Vk.on (s:=s.toEmpty (ntE s.ee s.el) (ntL 1 s.ee s.el)) (f:=(pcT · 9)) ⟨h.cf,h.sl,h.th⟩ hn fun _=>⟨rfl,rfl⟩
  unfold L9
  split
  ·exact h2.wake _
  ·exact h2
 ·rw [iI p]
  split
  ·exact h.on hn fun _=>⟨rfl,rfl⟩
  ·exact h.on hn fun _=>⟨rfl,rfl⟩
 ·rw [iQ p]
  unfold Q8
  repeat' split
  ·exact h.on hn fun _=>⟨rfl,rfl⟩
  ·exact Vk.on (s:=s.toFull s.fe (s.fl++[(n:Int)])) (f:=(z8 · 2)) ⟨h.cf,h.sl,h.th⟩ hn fun _=>⟨rfl,rfl⟩
  ·exact h.on hn fun _=>⟨rfl,rfl⟩
 ·rw [fZ p];exact Vk.on (s:=s.toSn (lvL s.sn n)) (f:=E9) ⟨h.cf,h.sl,h.th⟩ hn fun _=>⟨rfl,rfl⟩
 ·rw [eZ p]
  unfold Y6
  split
  ·next hb =>
   have h2:=mI (x:=(gth s.th n).re) (C8 hB).1
   rw [show evH s.hd s.tl s.md s.sl.length (gth s.th n).re=s.hd+1 by unfold evH;rw [if_pos hb]] at h2
   exact Vk.told (s:=s.toWord (s.hd+1) s.tl s.md) ⟨h.cf,h.sl,h.th⟩ (M6 hB h2) hn (.inl rfl)
  ·exact h.on hn fun _=>⟨rfl,rfl⟩
 ·rw [aU p]
  refine Vk.on (s:=s.toSl (rlL s.sl (gth s.th n).re)) (f:=(pcT · 2)) ⟨h.cf,fun x hx=>?_,h.th⟩ hn fun _=>⟨rfl,rfl⟩
  have hx' : x∈rlL s.sl (gth s.th n).re:=hx
  unfold rlL at hx'
  split at hx'
  ·next hb =>
   rcases List.mem_or_eq_of_mem_set hx' with h2 | rfl
   ·exact h.sl x h2
   ·simp only [rlB,dz,Bool.and_eq_true] at hb
    have hp:=(oW hb.1.1).1
    show In64 (gs s.sl (plc s.sl (gth s.th n).re)).vl
    rw [oG hp]
    exact h.sl _ (List.getElem_mem hp)
  ·exact h.sl x hx'
theorem nO (hB:stB s=true) (hn:n<s.th.length) {k r g p:Int}:(D7 s n k r g p).lg.length=s.lg.length+1:=by
 unfold D7
 rw [dQ hB hn]
 show (s.lg++[_]).length=_
 simp
theorem Gn (hB:stB s=true) (hn:n<s.th.length):(sendN s n).lg.length≤s.lg.length+1:=by
 have e:∀ f,(s.onTh n f).lg=s.lg:=fun _=>rfl
 obtain p | p | p | p | p | p | p | p | p | p | p | p:=iW (l9 hB hn)
 ·rw [ja p];exact Nat.le_succ _
 ·rw [iZ p]
  unfold Y4
  repeat' split
  ·exact Nat.le_succ _
  ·rw [nO hB hn];exact Nat.le_refl _
  ·exact Nat.le_succ _
 ·rw [iG p]
  unfold cZ bD
  repeat' split
  all_goals first | exact Nat.le_succ _ | (rw [nO hB hn];exact Nat.le_refl _)
 ·rw [dR p]
  split <;> exact Nat.le_succ _
 ·rw [iP p]
  unfold Q6
  repeat' split
  ·next hs =>
   have h2:=lY (C8 hB).1
   rw [(DW hs).1] at h2
   rw [nO (s:=s.toWord s.hd (s.tl+1) s.md) (M6 hB h2) hn];exact Nat.le_refl _
  ·exact Nat.le_succ _
  ·rw [nO hB hn];exact Nat.le_refl _
 ·rw [iR p];exact Nat.le_succ _
 ·rw [iV p]
  unfold L9 G9
  repeat' split
  all_goals exact Nat.le_succ _
 ·rw [iI p]
  split <;> exact Nat.le_succ _
 ·rw [iQ p]
  unfold Q8
  repeat' split
  all_goals exact Nat.le_succ _
 ·rw [fZ p];exact Nat.le_succ _
 ·rw [eZ p]
  unfold Y6
  split
  ·next hb =>
   have h2:=mI (x:=(gth s.th n).re) (C8 hB).1
   rw [show evH s.hd s.tl s.md s.sl.length (gth s.th n).re=s.hd+1 by unfold evH;rw [if_pos hb]] at h2
   rw [nO (s:=s.toWord (s.hd+1) s.tl s.md) (M6 hB h2) hn];exact Nat.le_refl _
  ·exact Nat.le_succ _
 ·rw [aU p];exact Nat.le_succ _
end
end
section
open Go.RowKit
section
variable {s:St} {i m o:Int}
theorem JF (h:decide (o<min m 1000)=false):qL1 (hdS s i m o s.th.length) (.exit 0) (hdS s i m o s.th.length):=o5 mixed (fuel:=9) (n:=9) (im:=[0,1,2]) (keep:=[2,6,8,9]) (ext:=[42,248,109]) (orc:=[.bool false]) (an h trivial) (by intro e;cases e) (by kernel_rfl)
theorem Uy (h:decide (o<min m 1000)=true) (hB:stB s=false) (ho:s.ok):qL1 (hdS s i m o s.th.length) (.exit 0) (hdS s i m o s.th.length):=o5 mixed (fuel:=9) (n:=9) (im:=[0,1,2]) (keep:=[2,6,8,9]) (ext:=[42,248,109]) (orc:=[.bool true,vD false]) (an h<|an (l7 (f:=thT) s.th)<|an (o7 hB ho) trivial) (by intro e;cases e) (by kernel_rfl)
theorem a1w (h:decide (o<min m 1000)=true) (hB:stB s=true) (ho:s.ok) (hi:decide (i<0)=true):qL1 (hdS s i m o s.th.length) (.exit 0) (hdS s i m o s.th.length):=o5 mixed (fuel:=9) (n:=9) (im:=[0,1,2]) (keep:=[2,6,8,9]) (ext:=[42,248,109]) (orc:=[.bool true,vD true,.bool true]) (an h<|an (l7 (f:=thT) s.th)<|an (o7 hB ho)<|an hi trivial) (by intro e;cases e) (by kernel_rfl)
theorem UV (h:decide (o<min m 1000)=true) (hB:stB s=true) (ho:s.ok) (hi:decide (i<0)=false) (hj:decide ((s.th.length:Int)≤i)=true):qL1 (hdS s i m o s.th.length) (.exit 0) (hdS s i m o s.th.length):=o5 mixed (fuel:=9) (n:=9) (im:=[0,1,2]) (keep:=[2,6,8,9]) (ext:=[42,248,109]) (orc:=[.bool true,vD true,.bool false,.bool true]) (an h<|an (l7 (f:=thT) s.th)<|an (o7 hB ho)<|an hi<|an hj trivial) (by intro e;cases e) (by kernel_rfl)
variable {n:Nat}
theorem Ww (h:decide (o<min m 1000)=true) (hB:stB s=true) (ho:s.ok) (hn:n<s.th.length) (hr:(H7 (gth s.th n).st==0)=false):qL1 (hdS s n m o s.th.length) (.exit 0) (hdS s n m o s.th.length):=o5 mixed (fuel:=9) (n:=9) (im:=[0,1,2]) (keep:=[2,6,8,9]) (ext:=[42,248,109]) (orc:=[.bool true,vD true,.bool false,.bool false,thT (gth s.th n),.int .i64 (H7 (gth s.th n).st),.bool false])
 (an h<|an (l7 (f:=thT) s.th)<|an (o7 hB ho)<|an (show decide ((n:Int)<0)=false by simp)<|an (show decide ((s.th.length:Int)≤n)=false by simp;omega)<|an (idT hn)<|an (elT hn)<|an (V6 (t:=gth s.th n) rfl)<|an hr trivial) (by intro e;cases e) (by kernel_rfl)
theorem Xb (h:decide (o<min m 1000)=true) (hB:stB s=true) (ho:s.ok) (hn:n<s.th.length) (hr:H7 (gth s.th n).st=0) (hs:(j6 (gth s.th n).ki==1)=false):qL1 (hdS s n m o s.th.length) (.exit 0) (hdS s n m o s.th.length):=o5 mixed (fuel:=9) (n:=9) (im:=[0,1,2]) (keep:=[2,6,8,9]) (ext:=[42,248,109]) (orc:=[.bool true,vD true,.bool false,.bool false,thT (gth s.th n),.int .i64 0,.nilFunc,thT (gth s.th n),.int .i64 (j6 (gth s.th n).ki),.bool false])
 (an h<|an (l7 (f:=thT) s.th)<|an (o7 hB ho)<|an (show decide ((n:Int)<0)=false by simp)<|an (show decide ((s.th.length:Int)≤n)=false by simp;omega)<|an (idT hn)<|an (elT hn)<|an (V6 (t:=gth s.th n) hr)<|an (idT hn)<|an (elT hn)<|an (O8 (gth s.th n).ki)<|an hs trivial) (by intro e;cases e) (by kernel_rfl)
theorem Zx (ho:s.ok) (hr:J8 s i 1=false):qL1 (hdS s i m o s.th.length) (.exit 0) (hdS s i m o s.th.length):=by
 cases h:decide (o<min m 1000)
 ·exact JF h
 ·cases hB:stB s
  ·exact Uy h hB ho
  ·by_cases h0:i<0
   ·exact a1w h hB ho (by simp [h0])
   ·by_cases h1:(s.th.length:Int)≤i
    ·exact UV h hB ho (by simp;omega) (by simp [h1])
    ·obtain ⟨n,rfl⟩:∃ n:Nat,i=n:=⟨i.toNat,by omega⟩
     have hn:n<s.th.length:=by omega
     have hr' : ¬ ((gth s.th n).st=1∧j6 (gth s.th n).ki=1):=fun e=>by
      have:J8 s n 1=true:=I6.2 ⟨aa hB hn,by simpa using e⟩
      rw [hr] at this;cases this
     by_cases hs:H7 (gth s.th n).st=0
     ·refine Xb h hB ho hn hs (J4 fun e=>hr' ⟨?_,e⟩)
      have h2:=cB hs
      have h3:=l9 hB hn
      generalize gth s.th n=t at h2 h3
      obtain ⟨st,ki,va,un,pc,re,se,tr,la,rs,go⟩:=t
      rw [K6] at h3
      simp only at h2 ⊢
      omega
     ·exact Ww h hB ho hn (J4 hs)
theorem FV {s:St} {n:Nat} (h:J8 s n 1=true):aB s n=sendN s n:=by unfold aB;rw [if_pos h];rfl
theorem Sz (k:Nat):∀ {s:St} {o:Int},Vk s→0≤o→(min m 1000 - o).toNat=k→s.lg.length+k≤900000→s.ok→qL1 (hdS s i m o s.th.length) (.exit 0) (hdS (ah s i k).1 i m (o+(ah s i k).2) (ah s i k).1.th.length):=by
 induction k with
 | zero =>
  intro s o _ _ hk _ _
  simp only [ah]
  rw [show o+((0:Nat):Int)=o by omega]
  exact JF (by simp;omega)
 | succ k ih =>
  intro s o hv h0 hk hl ho
  cases hr:J8 s i 1
  ·have:ah s i (k+1)=(s,0):=by simp [ah,hr]
   rw [this]
   show qL1 (hdS s i m o s.th.length) (.exit 0) (hdS s i m (o+((0:Nat):Int)) s.th.length)
   rw [show o+((0:Nat):Int)=o by omega]
   exact Zx ho hr
  ·obtain ⟨h1,h2,h3⟩:=I6.1 hr
   obtain ⟨hB,hi0,hi1⟩:=J5.1 h1
   obtain ⟨n,rfl⟩:∃ n:Nat,i=n:=⟨i.toNat,by omega⟩
   have hn:n<s.th.length:=by omega
   rw [Int.toNat_natCast] at h2 h3
   have hs1:(gth s.th n).st≠0:=by omega
   have e:ah s n (k+1)=((ah (sendN s n) n k).1,(ah (sendN s n) n k).2+1):=by simp only [ah,hr,if_true,FV hr]
   rw [e]
   have hB' := aL hB hn hs1
   have hv' := Gf hv hB hn hs1
   have hl' := Gn hB hn
   refine VP (s:=s) (n:=n) ⟨by simp;omega,hB,ho,hn,h2,h3,by omega,by constructor <;> omega⟩ fun N hN=>?_
   have:=ih (s:=sendN s n) (o:=o+1) hv' (by omega) (by omega) (by omega) (Ao hB' hv' (by omega))
   rw [hN]
   rw [show o+(((ah (sendN s n) n k).2+1:Nat):Int)=o+1+((ah (sendN s n) n k).2:Int) by omega]
   exact this
end
theorem Y7 (s:St):hasB s (-1)=false:=by simp [hasB]
theorem IU {s u:St} {i m o:Int} (hL:qL1 (hdS s i m 0 s.th.length) (.exit 0) (hdS u i m o u.th.length)) (ho:s.ok) (hf:s.fit) (ht:s.th≠[]):AC Tryz.prog 261 [stT s,.int .i64 i,.int .i64 m] (.tuple #[stT u,.int .i64 o]) :=
 d9 mixed (ext:=[154]) (fuel:=9) (n:=5) (orc:=[.iface 1000004 (.func (.yield 18) #[.agg (stL s),.int .i64 11] #[]),oL [5,4,1] [2,6,8,9] 0 [(2,.int .i64 m),(6,pt 2),(8,pt 0),(9,.int .i64 o)] [bX u i u.th.length,bT u.th u.th.length,bZ]])
  (an (kN (Y7 s) ho hf ht)<|an hL<|an (l7 (f:=thT) u.th) trivial) (by kernel_rfl)
theorem LC {s:St} {i m:Int} (ho:s.ok) (hf:s.fit) (ht:s.th≠[]) (hl:s.lg.length≤800000):AC Tryz.prog 261 [stT s,.int .i64 i,.int .i64 m] (.tuple #[stT (ah s i (min m 1000).toNat).1,.int .i64 (ah s i (min m 1000).toNat).2]):=by
 have h:=Sz (i:=i) (m:=m) (min m 1000 - 0).toNat (s:=s) (o:=0) (.of ho) (Int.le_refl _) rfl (by omega) ho
 rw [show min m 1000 - 0=min m 1000 by omega,Int.zero_add] at h
 exact IU h ho hf ht
end
section
open Go.RowKit
section
variable {l:List Slo}
end
end
section
open Go.RowKit
end
section
open Go.ChangeShapes Go.WideShapes Go.ChangeAt Go.RowKit
def p2 (k:Nat):Int:=if k=0 then 1 else pw k
end
section
open Go.ChangeShapes Go.WideShapes Go.ChangeAt Go.RowKit
end
section
open Go.RowKit
section
variable {l:List Int} {m:Int}
end
section
variable {s:St} {R:Int}
end
section
variable {s:St} {R:Int} (hR:cfR s.cf=R)
include hR
variable (h0:(R==0)=false)
include h0
variable (h1:((s.sl.length:Int) != R)=false)
include h1
variable (h2:((s.th.length:Int) != s.cf.th)=false)
include h2
variable (h3:decide (s.nw<0)=false)
include h3
variable (h4:decide (1099511627776<s.nw)=false) (hm:s.th.length≤1000000)
include h4 hm
end
end
section
open Go.RowKit
end
section
open Go.RowKit
structure Dn (s:St) (n:Nat) (c:Int):Prop where
 ck:stB s=true
 ok:s.ok
 few:s.few
 hn:n<s.th.length
 st:(gth s.th n).st=1
 sd:j6 (gth s.th n).ki=1
 pc:(gth s.th n).pc=c
section
variable {s:St} {n:Nat} {c:Int}
theorem Dn.ht (h:Dn s n c):gth s.th n=pcT (gth s.th n) c:=by rw [← h.pc];rfl
theorem Dn.has (h:Dn s n c):hasB s n=true:=aa h.ck h.hn
theorem Dn.ru (h:Dn s n c):J8 s n 1=true:=I6.2 ⟨h.has,by simpa using h.st,by simpa using h.sd⟩
theorem Dn.rs (h:Dn s n c):H7 (gth s.th n).st=0:=by rw [h.st];rfl
theorem Dn.sl (h:Dn s n c):fH s.sl=true:=(C8 h.ck).2.1
theorem Dn.nx {v:Int} (_h:Dn s n c) (hn:ve s (gth s.th n).tr=v):AC Tryz.prog 222 [cfT s.cf,.int .i64 (gth s.th n).tr] (.int .i64 v):=by subst hn;exact DC s.cf (gth s.th n).tr
end
end
end Go.Proofs.YtfogkllejkmpdaaGreat
