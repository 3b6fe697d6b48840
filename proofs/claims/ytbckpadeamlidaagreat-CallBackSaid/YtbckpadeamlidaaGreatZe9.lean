/- Texts merged: AcFT, AcGT, AcHT, AcIT, RslT, AcJT, ConfET, ThGT, AcXT, AcKT. -/
import Derived.Test.YtbckpadeamlidaaGreatZe8
import Derived.Test.YtbckpadeamlidaaGreatZe5
import Derived.Test.YtbckpadeamlidaaGreatZe7
import Derived.Test.YtbckpadeamlidaaGreatZe6
import Derived.Test.YtbckpadeamlidaaGreatZe4
import Derived.LoopTactic
import Derived.Lib.Hide
namespace Go.Proofs.YtbckpadeamlidaaGreat
set_option linter.unusedVariables false
set_option linter.unusedSimpArgs false
set_option maxRecDepth 100000
section
open Go.RowKit
def tryT (t:Th):Th:=⟨t.st,t.ki,t.va,t.un,t.pc,t.re,t.se,min (t.tr+1) 1099511627776,t.la,t.rs,t.go⟩
theorem runs_not {t:Th} (h:thRuns t.st=0):t.st≠0∧t.st≠2:=by
 unfold thRuns at h
 split at h
 ·cases h
 ·split at h
  ·cases h
  ·next h0 h2=>exact ⟨h0,h2⟩
theorem park_of {t:Th} {c:Int} (h:thRuns t.st=0):thPark (pcT t c) 2 0 (parkT t 2):=.inr (.inr ⟨(runs_not h).1,(runs_not h).2,rfl,rfl⟩)
theorem done_of {t:Th} {c:Int} (h:thRuns t.st=0):thDone (pcT t c) 0 (doneT t):=.inr (.inr ⟨(runs_not h).1,(runs_not h).2,rfl,rfl⟩)
theorem ac_pnext' {c:Cf} {n v:Int} (h:wtnI c.lg c.th c.po c.wt c.sp c.yi (max n 0)=v):AC Tryz.prog 299 [cfT c,.int .i64 n] (.int .i64 v):=h ▸ ac_pnext c n
theorem el3 {n:Nat} {l:List Th} (h:n<l.length) (t:Th):ElP ((l.set n t).map thT) (0+(n:Int).toNat) (thT t):=el2 h t
theorem tell_c {s:St} {n:Nat} {t:Th} {c r:Int} (hA:hasB s n=true) (ht:gth s.th n=pcT t c) (hk:(t.ki != 9)=true) (ho:s.ok) (hf:s.fit) :
  AO Tryz.prog 268 [stT s,.int .i64 n,.int .i64 t.ki,.int .i64 r,.int .i64 0] (stL ((s.setTh n (rgT (pcT t c) r 0)).addLg (tlE s n t.ki r 0))) 18 11:=by
 have:=ao_tell (k:=t.ki) (r:=r) (g:=0) hA hk ho hf
 rw [ht] at this
 exact this
section
variable {s:St} {n:Nat} {t:Th} {c m o:Int}
theorem Rn.has (h:Rn s n t c m o):hasB s n=true:=has_iff.2 ⟨h.ck,by omega,by have:=h.hn;omega⟩
theorem Rn.nk (h:Rn s n t c m o):(t.ki != 9)=true:=by
 have:=h.sd
 by_cases e:t.ki=9
 ·rw [e] at this;exact absurd this (by decide)
 ·simp [e]
theorem Rn.tell {r:Int} (h:Rn s n t c m o):AO Tryz.prog 268 [stT s,.int .i64 n,.int .i64 t.ki,.int .i64 r,.int .i64 0] (stL ((s.setTh n (rgT (pcT t c) r 0)).addLg (tlE s n t.ki r 0))) 18 11:=tell_c h.has h.ht h.nk h.ok h.fit
theorem Rn.ids (h:Rn s n t c m o) (u:Th):0≤(n:Int)∧(n:Int).toNat<(s.th.set n u).length:=idT (by rw [List.length_set];exact h.hn)
theorem Rn.idw (h:Rn s n t c m o) (q:Nat) (u:Th):0≤(n:Int)∧(n:Int).toNat<(s.th.set q u).length:=idT (by rw [List.length_set];exact h.hn)
theorem Rn.len (h:Rn s n t c m o):In64 (s.sl.length:Int):=by have:=h.fit.sl;constructor <;> omega
theorem Rn.sees {r:Int} (h:Rn s n t c m o) (hs:seesS s=r):AC Tryz.prog 281 [wdT s.hd s.tl s.md,.int .i64 s.sl.length] (.tuple #[.int .i64 r,.int .i64 (tkR s.hd s.tl s.md s.sl.length)]):=hs ▸ ac_psees s.hd s.tl s.md s.sl.length h.ok.hd h.ok.tl h.ok.md h.len
theorem Rn.acc {r v:Int} (h:Rn s n t c m o) (hs:seesS s=r) (hT:acT s.hd s.tl s.md s.sl.length=v):AC Tryz.prog 261 [wdT s.hd s.tl s.md,.int .i64 s.sl.length] (.tuple #[wdT s.hd v s.md,.int .i64 (acP s.hd s.tl s.md s.sl.length),.int .i64 r]):=hs ▸ hT ▸ ac_paccept s.hd s.tl s.md s.sl.length h.ok.hd h.ok.tl h.ok.md h.len
theorem Rn.evi {b:Bool} (h:Rn s n t c m o) {q:Int} (hq:In64 q) (hb:evwB s.hd s.tl s.md s.sl.length q=b):AC Tryz.prog 267 [wdT s.hd s.tl s.md,.int .i64 s.sl.length,.int .i64 q] (.tuple #[wdT (evH s.hd s.tl s.md s.sl.length q) s.tl s.md,.bool b]):=ac_pevict hb h.ok.hd h.ok.tl h.ok.md h.len hq
variable {x:Exit} {S:Sg}
theorem lp_enter (h:Rn s n t 0 m o) (hm:s.sn.length≤999999) (hL:LoopP Tryz.prog (loopOf Tryz.prog 194 0) (hdS ((s.toSn (entL s.sn n)).setTh n (pcT t 1)) n m (o+1) (s.th.length)) x S):LoopP Tryz.prog (loopOf Tryz.prog 194 0) (hdS s n m o s.th.length) x S :=
 loop_more mixed (fuel:=9) (n:=9) (im:=[0,1,2]) (keep:=[2,6,8,9]) (ext:=[19,181,58,252]) (orc:=sPO t 0 1++[.tuple #[rowI (entL s.sn n),.int .i64 (entE s.sn n)],thT (pcT t 0),vRow s.th.length ((s.th.set n (pcT t 1)).map thT)])
  (h.pa<|an (ac_penter s.sn n hm)<|an (h.id)<|an (h.el)<|an (setT s.th n (pcT t 1)) <|  an h.o1 trivial) (by kernel_rfl) hL
theorem lp_first (h:Rn s n t 1 m o) (hp:(plI s.sn n==0)=true) (hL:LoopP Tryz.prog (loopOf Tryz.prog 194 0) (hdS (s.setTh n (pcT t 2)) n m (o+1) (s.th.length)) x S):LoopP Tryz.prog (loopOf Tryz.prog 194 0) (hdS s n m o s.th.length) x S :=
 loop_more mixed (fuel:=9) (n:=9) (im:=[0,1,2]) (keep:=[2,6,8,9]) (ext:=[19,181,58,254]) (orc:=sPO t 1 1++[vD true,thT (pcT t 1),vRow s.th.length ((s.th.set n (pcT t 2)).map thT)])
  (h.pa<|an (ac_pfirst hp)<|an (h.id)<|an (h.el)<|an (setT s.th n (pcT t 2)) <|  an h.o1 trivial) (by kernel_rfl) hL
theorem lp_firstL (h:Rn s n t 1 m o) (hp:(plI s.sn n==0)=false) (hl:t.la=true) (hL:LoopP Tryz.prog (loopOf Tryz.prog 194 0) (hdS (((s.setTh n (rgT (pcT t 1) 5 0)).addLg (tlE s n t.ki 5 0)).setTh n (pcT (rgT t 5 0) 9)) n m (o+1) ((s.th.set n (rgT (pcT t 1) 5 0)).length)) x S):LoopP Tryz.prog (loopOf Tryz.prog 194 0) (hdS s n m o s.th.length) x S :=
 loop_more mixed (fuel:=9) (n:=9) (im:=[0,4,2]) (keep:=[2,6,8,9]) (ext:=[19,181,58,254,268]) (orc:=sPO t 1 1++[vD false,thT (pcT t 1),.bool true,thT (pcT t 1),.iface 1000004 (.func (.yield 18) #[.agg (stL ((s.setTh n (rgT (pcT t 1) 5 0)).addLg (tlE s n t.ki 5 0))),.int .i64 11] #[]),thT (rgT (pcT t 1) 5 0),vRow (s.th.set n (rgT (pcT t 1) 5 0)).length (((s.th.set n (rgT (pcT t 1) 5 0)).set n (pcT (rgT t 5 0) 9)).map thT)])
  (h.pa<|an (ac_pfirst hp)<|an (h.id)<|an (h.el)<|an (hl)<|an (h.id)<|an (h.el)<|an (h.ln)<|an (h.tell (r:=5))<|an (h.ids (rgT (pcT t 1) 5 0))<|an (el2 h.hn (rgT (pcT t 1) 5 0))<|an (setT (s.th.set n (rgT (pcT t 1) 5 0)) n (pcT (rgT t 5 0) 9)) <|  an h.o1 trivial) (by kernel_rfl) hL
theorem lp_firstT (h:Rn s n t 1 m o) (hp:(plI s.sn n==0)=false) (hl:t.la=false) (hr:In64 (t.tr+1)) (hL:LoopP Tryz.prog (loopOf Tryz.prog 194 0) (hdS (s.setTh n (tryT (pcT t 1))) n m (o+1) (s.th.length)) x S):LoopP Tryz.prog (loopOf Tryz.prog 194 0) (hdS s n m o s.th.length) x S :=
 loop_more mixed (fuel:=9) (n:=9) (im:=[0,1,2]) (keep:=[2,6,8,9]) (ext:=[19,181,58,254]) (orc:=sPO t 1 1++[vD false,thT (pcT t 1),.bool false,thT (pcT t 1),thT (pcT t 1),vRow s.th.length ((s.th.set n (tryT (pcT t 1))).map thT)])
  (h.pa<|an (ac_pfirst hp)<|an (h.id)<|an (h.el)<|an (hl)<|an (h.id)<|an (h.el)<|an (hr)<|an (h.el)<|an (setT s.th n (tryT (pcT t 1))) <|  an h.o1 trivial) (by kernel_rfl) hL
theorem lp_lookR (h:Rn s n t 2 m o) (hs:seesS s=1) (hL:LoopP Tryz.prog (loopOf Tryz.prog 194 0) (hdS (s.setTh n (regT t s.tl 3)) n m (o+1) (s.th.length)) x S):LoopP Tryz.prog (loopOf Tryz.prog 194 0) (hdS s n m o s.th.length) x S :=
 loop_more mixed (fuel:=9) (n:=9) (im:=[0,1,2]) (keep:=[2,6,8,9]) (ext:=[19,181,58,281]) (orc:=sPO t 2 1++[.tuple #[.int .i64 1,.int .i64 (tkR s.hd s.tl s.md s.sl.length)],.nilFunc,thT (pcT t 2),vRow s.th.length ((s.th.set n (regT t s.tl 2)).map thT),thT (regT t s.tl 2),vRow s.th.length ((s.th.set n (regT t s.tl 3)).map thT)])
  (h.pa<|an (h.sees hs)<|an (h.id)<|an (h.el)<|an (setT s.th n (regT t s.tl 2))<|an (h.id)<|an (el2 h.hn (regT t s.tl 2))<|an (set2 s.th n (regT t s.tl 2) (regT t s.tl 3)) <|  an h.o1 trivial) (by kernel_rfl) hL
theorem lp_lookN (h:Rn s n t 2 m o) (hs:seesS s=2) (hp:(s.cf.po==1)=true) (hL:LoopP Tryz.prog (loopOf Tryz.prog 194 0) (hdS (((s.setTh n (rgT (pcT t 2) 3 0)).addLg (tlE s n t.ki 3 0)).setTh n (pcT (rgT t 3 0) 9)) n m (o+1) ((s.th.set n (rgT (pcT t 2) 3 0)).length)) x S):LoopP Tryz.prog (loopOf Tryz.prog 194 0) (hdS s n m o s.th.length) x S :=
 loop_more mixed (fuel:=9) (n:=9) (im:=[0,4,2]) (keep:=[2,6,8,9]) (ext:=[19,181,58,281,268]) (orc:=sPO t 2 1++[.tuple #[.int .i64 2,.int .i64 (tkR s.hd s.tl s.md s.sl.length)],.nilFunc,.nilFunc,.bool true,thT (pcT t 2),.iface 1000004 (.func (.yield 18) #[.agg (stL ((s.setTh n (rgT (pcT t 2) 3 0)).addLg (tlE s n t.ki 3 0))),.int .i64 11] #[]),thT (rgT (pcT t 2) 3 0),vRow (s.th.set n (rgT (pcT t 2) 3 0)).length (((s.th.set n (rgT (pcT t 2) 3 0)).set n (pcT (rgT t 3 0) 9)).map thT)])
  (h.pa<|an (h.sees hs)<|an (hp)<|an (h.id)<|an (h.el)<|an (h.ln)<|an (h.tell (r:=3))<|an (h.ids (rgT (pcT t 2) 3 0))<|an (el2 h.hn (rgT (pcT t 2) 3 0))<|an (setT (s.th.set n (rgT (pcT t 2) 3 0)) n (pcT (rgT t 3 0) 9)) <|  an h.o1 trivial) (by kernel_rfl) hL
theorem lp_lookO (h:Rn s n t 2 m o) (hs:seesS s=2) (hp:(s.cf.po==1)=false) (hq:(s.cf.po==2)=true) (hL:LoopP Tryz.prog (loopOf Tryz.prog 194 0) (hdS (s.setTh n (regT t s.hd 10)) n m (o+1) (s.th.length)) x S):LoopP Tryz.prog (loopOf Tryz.prog 194 0) (hdS s n m o s.th.length) x S :=
 loop_more mixed (fuel:=9) (n:=9) (im:=[0,1,2]) (keep:=[2,6,8,9]) (ext:=[19,181,58,281]) (orc:=sPO t 2 1++[.tuple #[.int .i64 2,.int .i64 (tkR s.hd s.tl s.md s.sl.length)],.nilFunc,.nilFunc,.bool false,.bool true,thT (pcT t 2),vRow s.th.length ((s.th.set n (regT t s.hd 2)).map thT),thT (regT t s.hd 2),vRow s.th.length ((s.th.set n (regT t s.hd 10)).map thT)])
  (h.pa<|an (h.sees hs)<|an (hp)<|an (hq)<|an (h.id)<|an (h.el)<|an (setT s.th n (regT t s.hd 2))<|an (h.id)<|an (el2 h.hn (regT t s.hd 2))<|an (set2 s.th n (regT t s.hd 2) (regT t s.hd 10)) <|  an h.o1 trivial) (by kernel_rfl) hL
theorem lp_lookB (h:Rn s n t 2 m o) (hs:seesS s=2) (hp:(s.cf.po==1)=false) (hq:(s.cf.po==2)=false) (hk:opOnce t.ki=true) (hL:LoopP Tryz.prog (loopOf Tryz.prog 194 0) (hdS (((s.setTh n (rgT (pcT t 2) 2 0)).addLg (tlE s n t.ki 2 0)).setTh n (pcT (rgT t 2 0) 9)) n m (o+1) ((s.th.set n (rgT (pcT t 2) 2 0)).length)) x S):LoopP Tryz.prog (loopOf Tryz.prog 194 0) (hdS s n m o s.th.length) x S :=
 loop_more mixed (fuel:=9) (n:=9) (im:=[0,4,2]) (keep:=[2,6,8,9]) (ext:=[19,181,58,281,268,298]) (orc:=sPO t 2 1++[.tuple #[.int .i64 2,.int .i64 (tkR s.hd s.tl s.md s.sl.length)],.nilFunc,.nilFunc,.bool false,.bool false,thT (pcT t 2),vD true,thT (pcT t 2),.iface 1000004 (.func (.yield 18) #[.agg (stL ((s.setTh n (rgT (pcT t 2) 2 0)).addLg (tlE s n t.ki 2 0))),.int .i64 11] #[]),thT (rgT (pcT t 2) 2 0),vRow (s.th.set n (rgT (pcT t 2) 2 0)).length (((s.th.set n (rgT (pcT t 2) 2 0)).set n (pcT (rgT t 2 0) 9)).map thT)])
  (h.pa<|an (h.sees hs)<|an (hp)<|an (hq)<|an (h.id)<|an (h.el)<|an (ac_ponce hk)<|an (h.id)<|an (h.el)<|an (h.ln)<|an (h.tell (r:=2))<|an (h.ids (rgT (pcT t 2) 2 0))<|an (el2 h.hn (rgT (pcT t 2) 2 0))<|an (setT (s.th.set n (rgT (pcT t 2) 2 0)) n (pcT (rgT t 2 0) 9)) <|  an h.o1 trivial) (by kernel_rfl) hL
theorem lp_lookL (h:Rn s n t 2 m o) (hs:seesS s=2) (hp:(s.cf.po==1)=false) (hq:(s.cf.po==2)=false) (hk:opOnce t.ki=false) (hl:t.la=true) (hL:LoopP Tryz.prog (loopOf Tryz.prog 194 0) (hdS (((s.setTh n (rgT (pcT t 2) 5 0)).addLg (tlE s n t.ki 5 0)).setTh n (pcT (rgT t 5 0) 9)) n m (o+1) ((s.th.set n (rgT (pcT t 2) 5 0)).length)) x S):LoopP Tryz.prog (loopOf Tryz.prog 194 0) (hdS s n m o s.th.length) x S :=
 loop_more mixed (fuel:=9) (n:=9) (im:=[0,4,2]) (keep:=[2,6,8,9]) (ext:=[19,181,58,281,268,298]) (orc:=sPO t 2 1++[.tuple #[.int .i64 2,.int .i64 (tkR s.hd s.tl s.md s.sl.length)],.nilFunc,.nilFunc,.bool false,.bool false,thT (pcT t 2),vD false,thT (pcT t 2),.bool true,thT (pcT t 2),.iface 1000004 (.func (.yield 18) #[.agg (stL ((s.setTh n (rgT (pcT t 2) 5 0)).addLg (tlE s n t.ki 5 0))),.int .i64 11] #[]),thT (rgT (pcT t 2) 5 0),vRow (s.th.set n (rgT (pcT t 2) 5 0)).length (((s.th.set n (rgT (pcT t 2) 5 0)).set n (pcT (rgT t 5 0) 9)).map thT)])
  (h.pa<|an (h.sees hs)<|an (hp)<|an (hq)<|an (h.id)<|an (h.el)<|an (ac_ponce hk)<|an (h.el)<|an (hl)<|an (h.id)<|an (h.el)<|an (h.ln)<|an (h.tell (r:=5))<|an (h.ids (rgT (pcT t 2) 5 0))<|an (el2 h.hn (rgT (pcT t 2) 5 0))<|an (setT (s.th.set n (rgT (pcT t 2) 5 0)) n (pcT (rgT t 5 0) 9)) <|  an h.o1 trivial) (by kernel_rfl) hL
theorem lp_lookP (h:Rn s n t 2 m o) (hs:seesS s=2) (hp:(s.cf.po==1)=false) (hq:(s.cf.po==2)=false) (hk:opOnce t.ki=false) (hl:t.la=false) (hn:waySt s (max t.tr 0)=2) (hL:LoopP Tryz.prog (loopOf Tryz.prog 194 0) (hdS (s.setTh n (pcT t 5)) n m (o+1) (s.th.length)) x S):LoopP Tryz.prog (loopOf Tryz.prog 194 0) (hdS s n m o s.th.length) x S :=
 loop_more mixed (fuel:=9) (n:=9) (im:=[0,1,2]) (keep:=[2,6,8,9]) (ext:=[19,181,58,281,298,299]) (orc:=sPO t 2 1++[.tuple #[.int .i64 2,.int .i64 (tkR s.hd s.tl s.md s.sl.length)],.nilFunc,.nilFunc,.bool false,.bool false,thT (pcT t 2),vD false,thT (pcT t 2),.bool false,thT (pcT t 2),.int .i64 2,.nilFunc,thT (pcT t 2),vRow s.th.length ((s.th.set n (pcT t 5)).map thT)])
  (h.pa<|an (h.sees hs)<|an (hp)<|an (hq)<|an (h.id)<|an (h.el)<|an (ac_ponce hk)<|an (h.el)<|an (hl)<|an (h.el)<|an (ac_pnext' hn)<|an (h.id)<|an (h.el)<|an (setT s.th n (pcT t 5)) <|  an h.o1 trivial) (by kernel_rfl) hL
theorem lp_lookT (h:Rn s n t 2 m o) (hs:seesS s=2) (hp:(s.cf.po==1)=false) (hq:(s.cf.po==2)=false) (hk:opOnce t.ki=false) (hl:t.la=false) {r:Int} (hn:waySt s (max t.tr 0)=r) (hr2:(r==2)=false) (hr:In64 (t.tr+1)) (hL:LoopP Tryz.prog (loopOf Tryz.prog 194 0) (hdS (s.setTh n (tryT (pcT t 2))) n m (o+1) (s.th.length)) x S):LoopP Tryz.prog (loopOf Tryz.prog 194 0) (hdS s n m o s.th.length) x S :=
 loop_more mixed (fuel:=9) (n:=9) (im:=[0,1,2]) (keep:=[2,6,8,9]) (ext:=[19,181,58,281,298,299]) (orc:=sPO t 2 1++[.tuple #[.int .i64 2,.int .i64 (tkR s.hd s.tl s.md s.sl.length)],.nilFunc,.nilFunc,.bool false,.bool false,thT (pcT t 2),vD false,thT (pcT t 2),.bool false,thT (pcT t 2),.int .i64 r,.bool false,thT (pcT t 2),thT (pcT t 2),vRow s.th.length ((s.th.set n (tryT (pcT t 2))).map thT)])
  (h.pa<|an (h.sees hs)<|an (hp)<|an (hq)<|an (h.id)<|an (h.el)<|an (ac_ponce hk)<|an (h.el)<|an (hl)<|an (h.el)<|an (ac_pnext' hn)<|an (hr2)<|an (h.id)<|an (h.el)<|an (hr)<|an (h.el)<|an (setT s.th n (tryT (pcT t 2))) <|  an h.o1 trivial) (by kernel_rfl) hL
theorem lp_lookE (h:Rn s n t 2 m o) {r:Int} (hs:seesS s=r) (h1:(r==1)=false) (h2:(r==2)=false) (hL:LoopP Tryz.prog (loopOf Tryz.prog 194 0) (hdS (((s.setTh n (rgT (pcT t 2) r 0)).addLg (tlE s n t.ki r 0)).setTh n (pcT (rgT t r 0) 9)) n m (o+1) ((s.th.set n (rgT (pcT t 2) r 0)).length)) x S):LoopP Tryz.prog (loopOf Tryz.prog 194 0) (hdS s n m o s.th.length) x S :=
 loop_more mixed (fuel:=9) (n:=9) (im:=[0,4,2]) (keep:=[2,6,8,9]) (ext:=[19,181,58,281,268]) (orc:=sPO t 2 1++[.tuple #[.int .i64 r,.int .i64 (tkR s.hd s.tl s.md s.sl.length)],.bool false,.bool false,thT (pcT t 2),.iface 1000004 (.func (.yield 18) #[.agg (stL ((s.setTh n (rgT (pcT t 2) r 0)).addLg (tlE s n t.ki r 0))),.int .i64 11] #[]),thT (rgT (pcT t 2) r 0),vRow (s.th.set n (rgT (pcT t 2) r 0)).length (((s.th.set n (rgT (pcT t 2) r 0)).set n (pcT (rgT t r 0) 9)).map thT)])
  (h.pa<|an (h.sees hs)<|an (h1)<|an (h2)<|an (h.id)<|an (h.el)<|an (h.ln)<|an (h.tell (r:=r))<|an (h.ids (rgT (pcT t 2) r 0))<|an (el2 h.hn (rgT (pcT t 2) r 0))<|an (setT (s.th.set n (rgT (pcT t 2) r 0)) n (pcT (rgT t r 0) 9)) <|  an h.o1 trivial) (by kernel_rfl) hL
theorem lp_write (h:Rn s n t 3 m o) (hm:s.sl.length≤1000) (hr:In64 t.re) (hw:wrE s.sl t.re=0) (hL:LoopP Tryz.prog (loopOf Tryz.prog 194 0) (hdS ((s.toSl (wrL s.sl t.re t.va)).setTh n (pcT t 4)) n m (o+1) (s.th.length)) x S):LoopP Tryz.prog (loopOf Tryz.prog 194 0) (hdS s n m o s.th.length) x S :=
 loop_more mixed (fuel:=9) (n:=9) (im:=[0,1,2]) (keep:=[2,6,8,9]) (ext:=[19,181,58,260]) (orc:=sPO t 3 1++[thT (pcT t 3),thT (pcT t 3),.tuple #[rowS (wrL s.sl t.re t.va),.int .i64 0],.nilFunc,thT (pcT t 3),vRow s.th.length ((s.th.set n (pcT t 4)).map thT)])
  (h.pa<|an (h.id)<|an (h.el)<|an (h.id)<|an (h.el)<|an (hw ▸ ac_pwrite s.sl t.re t.va hm hr)<|an (h.id)<|an (h.el)<|an (setT s.th n (pcT t 4)) <|  an h.o1 trivial) (by kernel_rfl) hL
theorem lp_writeE (h:Rn s n t 3 m o) (hm:s.sl.length≤1000) (hr:In64 t.re) (hw:(wrE s.sl t.re != 0)=true) (hL:LoopP Tryz.prog (loopOf Tryz.prog 194 0) (hdS (s) n m (o+1) (s.th.length)) x S):LoopP Tryz.prog (loopOf Tryz.prog 194 0) (hdS s n m o s.th.length) x S :=
 loop_more mixed (fuel:=9) (n:=9) (im:=[0,1,2]) (keep:=[2,6,8,9]) (ext:=[19,181,58,260]) (orc:=sPO t 3 1++[thT (pcT t 3),thT (pcT t 3),.tuple #[rowS (wrL s.sl t.re t.va),.int .i64 (wrE s.sl t.re)],.bool true])
  (h.pa<|an (h.id)<|an (h.el)<|an (h.id)<|an (h.el)<|an (ac_pwrite s.sl t.re t.va hm hr)<|an (hw) <|  an h.o1 trivial) (by kernel_rfl) hL
theorem lp_acceptR (h:Rn s n t 4 m o) (hs:seesS s=1) (hT:acT s.hd s.tl s.md s.sl.length=s.tl+1) (hA:hasB (s.toWord s.hd (s.tl+1) s.md) n=true) (ho:(s.toWord s.hd (s.tl+1) s.md).ok) (hf:(s.toWord s.hd (s.tl+1) s.md).fit) (hL:LoopP Tryz.prog (loopOf Tryz.prog 194 0) (hdS ((((s.toWord s.hd (s.tl+1) s.md).setTh n (rgT (pcT t 4) 1 0)).addLg (tlE (s.toWord s.hd (s.tl+1) s.md) n t.ki 1 0)).setTh n (pcT (rgT t 1 0) 6)) n m (o+1) ((s.th.set n (rgT (pcT t 4) 1 0)).length)) x S):LoopP Tryz.prog (loopOf Tryz.prog 194 0) (hdS s n m o s.th.length) x S :=
 loop_more mixed (fuel:=9) (n:=9) (im:=[0,5,2]) (keep:=[2,6,8,9]) (ext:=[19,181,58,261,268]) (orc:=sPO t 4 1++[.tuple #[wdT s.hd (s.tl+1) s.md,.int .i64 (acP s.hd s.tl s.md s.sl.length),.int .i64 1],.nilFunc,thT (pcT t 4),.iface 1000004 (.func (.yield 18) #[.agg (stL (((s.toWord s.hd (s.tl+1) s.md).setTh n (rgT (pcT t 4) 1 0)).addLg (tlE (s.toWord s.hd (s.tl+1) s.md) n t.ki 1 0))),.int .i64 11] #[]),thT (rgT (pcT t 4) 1 0),vRow ((s.toWord s.hd (s.tl+1) s.md).th.set n (rgT (pcT t 4) 1 0)).length ((((s.toWord s.hd (s.tl+1) s.md).th.set n (rgT (pcT t 4) 1 0)).set n (pcT (rgT t 1 0) 9)).map thT),thT (pcT (rgT t 1 0) 9),vRow (s.th.set n (rgT (pcT t 4) 1 0)).length (((s.th.set n (rgT (pcT t 4) 1 0)).set n (pcT (rgT t 1 0) 6)).map thT)])
  (h.pa<|an (h.acc hs hT)<|an (h.id)<|an (h.el)<|an (h.ln)<|an (tell_c (r:=1) hA h.ht h.nk ho hf)<|an (h.ids (rgT (pcT t 4) 1 0))<|an (el2 h.hn (rgT (pcT t 4) 1 0))<|an (setT (s.th.set n (rgT (pcT t 4) 1 0)) n (pcT (rgT t 1 0) 9))<|an (h.ids (rgT (pcT t 4) 1 0))<|an (el3 (l:=(s.th.set n (rgT (pcT t 4) 1 0))) (by rw [List.length_set];exact h.hn) (pcT (rgT t 1 0) 9))<|an (set2 (s.th.set n (rgT (pcT t 4) 1 0)) n (pcT (rgT t 1 0) 9) (pcT (rgT t 1 0) 6)) <|  an h.o1 trivial) (by kernel_rfl) hL
theorem lp_acceptF (h:Rn s n t 4 m o) (hs:seesS s=2) (hL:LoopP Tryz.prog (loopOf Tryz.prog 194 0) (hdS (s.setTh n (pcT t 2)) n m (o+1) (s.th.length)) x S):LoopP Tryz.prog (loopOf Tryz.prog 194 0) (hdS s n m o s.th.length) x S :=
 loop_more mixed (fuel:=9) (n:=9) (im:=[0,1,2]) (keep:=[2,6,8,9]) (ext:=[19,181,58,261]) (orc:=sPO t 4 1++[.tuple #[wdT s.hd (acT s.hd s.tl s.md s.sl.length) s.md,.int .i64 (acP s.hd s.tl s.md s.sl.length),.int .i64 2],.nilFunc,.nilFunc,thT (pcT t 4),vRow s.th.length ((s.th.set n (pcT t 2)).map thT)])
  (h.pa<|an (h.acc hs rfl)<|an (h.id)<|an (h.el)<|an (setT s.th n (pcT t 2)) <|  an h.o1 trivial) (by kernel_rfl) hL
theorem lp_acceptE (h:Rn s n t 4 m o) {r:Int} (hs:seesS s=r) (h1:(r==1)=false) (h2:(r==2)=false) (hL:LoopP Tryz.prog (loopOf Tryz.prog 194 0) (hdS (((s.setTh n (rgT (pcT t 4) r 0)).addLg (tlE s n t.ki r 0)).setTh n (pcT (rgT t r 0) 9)) n m (o+1) ((s.th.set n (rgT (pcT t 4) r 0)).length)) x S):LoopP Tryz.prog (loopOf Tryz.prog 194 0) (hdS s n m o s.th.length) x S :=
 loop_more mixed (fuel:=9) (n:=9) (im:=[0,5,2]) (keep:=[2,6,8,9]) (ext:=[19,181,58,261,268]) (orc:=sPO t 4 1++[.tuple #[wdT s.hd (acT s.hd s.tl s.md s.sl.length) s.md,.int .i64 (acP s.hd s.tl s.md s.sl.length),.int .i64 r],.bool false,.bool false,thT (pcT t 4),.iface 1000004 (.func (.yield 18) #[.agg (stL ((s.setTh n (rgT (pcT t 4) r 0)).addLg (tlE s n t.ki r 0))),.int .i64 11] #[]),thT (rgT (pcT t 4) r 0),vRow (s.th.set n (rgT (pcT t 4) r 0)).length (((s.th.set n (rgT (pcT t 4) r 0)).set n (pcT (rgT t r 0) 9)).map thT)])
  (h.pa<|an (h.acc hs rfl)<|an (h1)<|an (h2)<|an (h.id)<|an (h.el)<|an (h.ln)<|an (h.tell (r:=r))<|an (h.ids (rgT (pcT t 4) r 0))<|an (el2 h.hn (rgT (pcT t 4) r 0))<|an (setT (s.th.set n (rgT (pcT t 4) r 0)) n (pcT (rgT t r 0) 9)) <|  an h.o1 trivial) (by kernel_rfl) hL
theorem lp_notifyN (h:Rn s n t 6 m o) (hm:s.el.length≤999999) (hb:hdB (ntT 1 s.ee s.el)=false) (hL:LoopP Tryz.prog (loopOf Tryz.prog 194 0) (hdS ((s.toEmpty (ntE s.ee s.el) (ntL 1 s.ee s.el)).setTh n (pcT t 9)) n m (o+1) (s.th.length)) x S):LoopP Tryz.prog (loopOf Tryz.prog 194 0) (hdS s n m o s.th.length) x S :=
 loop_more mixed (fuel:=9) (n:=9) (im:=[0,1,2]) (keep:=[2,6,8,9]) (ext:=[19,181,58,263]) (orc:=sPO t 6 1++[.tuple #[evT (ntE s.ee s.el) (ntL 1 s.ee s.el),.int .i64 (hdI (ntT 1 s.ee s.el)),vD false],thT (pcT t 6),vRow s.th.length ((s.th.set n (pcT t 9)).map thT)])
  (h.pa<|an (ac_pnotify hb hm)<|an (h.id)<|an (h.el)<|an (setT s.th n (pcT t 9)) <|  an h.o1 trivial) (by kernel_rfl) hL
theorem lp_notifyW (h:Rn s n t 6 m o) (hm:s.el.length≤999999) (hb:hdB (ntT 1 s.ee s.el)=true) {q:Nat} (hq:hdI (ntT 1 s.ee s.el)=q) (hA:hasB (s.toEmpty (ntE s.ee s.el) (ntL 1 s.ee s.el)) q=true) (ho:(s.toEmpty (ntE s.ee s.el) (ntL 1 s.ee s.el)).ok) (hf:(s.toEmpty (ntE s.ee s.el) (ntL 1 s.ee s.el)).fit) (hg:gth (s.th.set q (wakeT (gth s.th q))) n=pcT t 6) (hL:LoopP Tryz.prog (loopOf Tryz.prog 194 0) (hdS (((s.toEmpty (ntE s.ee s.el) (ntL 1 s.ee s.el)).onTh q wakeT).setTh n (pcT t 9)) n m (o+1) ((s.th.set q (wakeT (gth s.th q))).length)) x S):LoopP Tryz.prog (loopOf Tryz.prog 194 0) (hdS s n m o s.th.length) x S :=
 loop_more mixed (fuel:=9) (n:=9) (im:=[0,5,2]) (keep:=[2,6,8,9]) (ext:=[19,181,58,263,42]) (orc:=sPO t 6 1++[.tuple #[evT (ntE s.ee s.el) (ntL 1 s.ee s.el),.int .i64 q,vD true],.iface 1000004 (.func (.yield 18) #[.agg (stL ((s.toEmpty (ntE s.ee s.el) (ntL 1 s.ee s.el)).onTh q wakeT)),.int .i64 11] #[]),thT (pcT t 6),vRow (s.th.set q (wakeT (gth s.th q))).length (((s.th.set q (wakeT (gth s.th q))).set n (pcT t 9)).map thT)])
  (h.pa<|an (hq ▸ ac_pnotify hb hm)<|an (h.ln)<|an (ao_wake hA ho hf)<|an (h.idw q (wakeT (gth s.th q)))<|an (hg ▸ elT (l:=(s.th.set q (wakeT (gth s.th q)))) (by rw [List.length_set];exact h.hn))<|an (setT (s.th.set q (wakeT (gth s.th q))) n (pcT t 9)) <|  an h.o1 trivial) (by kernel_rfl) hL
theorem lp_againY (h:Rn s n t 7 m o) (hs:seesS s=2) (hl:(!t.la)=true) (hL:LoopP Tryz.prog (loopOf Tryz.prog 194 0) (hdS (s.setTh n (pcT t 8)) n m (o+1) (s.th.length)) x S):LoopP Tryz.prog (loopOf Tryz.prog 194 0) (hdS s n m o s.th.length) x S :=
 loop_more mixed (fuel:=9) (n:=9) (im:=[0,1,2]) (keep:=[2,6,8,9]) (ext:=[19,181,58,281]) (orc:=sPO t 7 1++[.tuple #[.int .i64 2,.int .i64 (tkR s.hd s.tl s.md s.sl.length)],.nilFunc,thT (pcT t 7),.bool true,thT (pcT t 7),vRow s.th.length ((s.th.set n (pcT t 8)).map thT)])
  (h.pa<|an (h.sees hs)<|an (h.id)<|an (h.el)<|an (hl)<|an (h.id)<|an (h.el)<|an (setT s.th n (pcT t 8)) <|  an h.o1 trivial) (by kernel_rfl) hL
theorem lp_againL (h:Rn s n t 7 m o) (hs:seesS s=2) (hl:(!t.la)=false) (hL:LoopP Tryz.prog (loopOf Tryz.prog 194 0) (hdS (s.setTh n (pcT t 2)) n m (o+1) (s.th.length)) x S):LoopP Tryz.prog (loopOf Tryz.prog 194 0) (hdS s n m o s.th.length) x S :=
 loop_more mixed (fuel:=9) (n:=9) (im:=[0,1,2]) (keep:=[2,6,8,9]) (ext:=[19,181,58,281]) (orc:=sPO t 7 1++[.tuple #[.int .i64 2,.int .i64 (tkR s.hd s.tl s.md s.sl.length)],.nilFunc,thT (pcT t 7),.bool false,thT (pcT t 7),vRow s.th.length ((s.th.set n (pcT t 2)).map thT)])
  (h.pa<|an (h.sees hs)<|an (h.id)<|an (h.el)<|an (hl)<|an (h.id)<|an (h.el)<|an (setT s.th n (pcT t 2)) <|  an h.o1 trivial) (by kernel_rfl) hL
theorem lp_againN (h:Rn s n t 7 m o) {r:Int} (hs:seesS s=r) (h2:(r==2)=false) (hL:LoopP Tryz.prog (loopOf Tryz.prog 194 0) (hdS (s.setTh n (pcT t 2)) n m (o+1) (s.th.length)) x S):LoopP Tryz.prog (loopOf Tryz.prog 194 0) (hdS s n m o s.th.length) x S :=
 loop_more mixed (fuel:=9) (n:=9) (im:=[0,1,2]) (keep:=[2,6,8,9]) (ext:=[19,181,58,281]) (orc:=sPO t 7 1++[.tuple #[.int .i64 r,.int .i64 (tkR s.hd s.tl s.md s.sl.length)],.bool false,thT (pcT t 7),vRow s.th.length ((s.th.set n (pcT t 2)).map thT)])
  (h.pa<|an (h.sees hs)<|an (h2)<|an (h.id)<|an (h.el)<|an (setT s.th n (pcT t 2)) <|  an h.o1 trivial) (by kernel_rfl) hL
theorem lp_commitL (h:Rn s n t 8 m o) (hl:t.la=true) (hL:LoopP Tryz.prog (loopOf Tryz.prog 194 0) (hdS (s.setTh n (pcT t 2)) n m (o+1) (s.th.length)) x S):LoopP Tryz.prog (loopOf Tryz.prog 194 0) (hdS s n m o s.th.length) x S :=
 loop_more mixed (fuel:=9) (n:=9) (im:=[0,1,2]) (keep:=[2,6,8,9]) (ext:=[19,181,58]) (orc:=sPO t 8 1++[thT (pcT t 8),vRow s.th.length ((s.th.set n (pcT t 2)).map thT),thT (pcT t 2),.bool true])
  (h.pa<|an (h.id)<|an (h.el)<|an (setT s.th n (pcT t 2))<|an (h.id)<|an (el2 h.hn (pcT t 2))<|an (hl) <|  an h.o1 trivial) (by kernel_rfl) hL
theorem lp_commitW (h:Rn s n t 8 m o) (hl:t.la=false) (hm:s.fl.length≤999999) (hb:cmB s.fe s.fl t.se n=true) (hL:LoopP Tryz.prog (loopOf Tryz.prog 194 0) (hdS ((s.toFull s.fe (cmL s.fe s.fl t.se n)).setTh n (parkT t 2)) n m (o+1) (s.th.length)) x S):LoopP Tryz.prog (loopOf Tryz.prog 194 0) (hdS s n m o s.th.length) x S :=
 loop_more mixed (fuel:=9) (n:=9) (im:=[0,1,2]) (keep:=[2,6,8,9]) (ext:=[19,181,58,264,265]) (orc:=sPO t 8 1++[thT (pcT t 8),vRow s.th.length ((s.th.set n (pcT t 2)).map thT),thT (pcT t 2),.bool false,thT (pcT t 2),.tuple #[evT s.fe (cmL s.fe s.fl t.se n),vD true,.int .i64 (cmC s.fe s.fl n)],thT (pcT t 2),.tuple #[thT (parkT t 2),.int .i64 0],thT (pcT t 2),vRow s.th.length ((s.th.set n (parkT t 2)).map thT)])
  (h.pa<|an (h.id)<|an (h.el)<|an (setT s.th n (pcT t 2))<|an (h.id)<|an (el2 h.hn (pcT t 2))<|an (hl)<|an (h.id)<|an (el2 h.hn (pcT t 2))<|an (ac_pcommit hb hm)<|an (h.id)<|an (h.id)<|an (el2 h.hn (pcT t 2))<|an (ac_ppark (park_of (c:=2) h.rs))<|an (el2 h.hn (pcT t 2))<|an (set2 s.th n (pcT t 2) (parkT t 2)) <|  an h.o1 trivial) (by kernel_rfl) hL
theorem lp_commitN (h:Rn s n t 8 m o) (hl:t.la=false) (hm:s.fl.length≤999999) (hb:cmB s.fe s.fl t.se n=false) (hL:LoopP Tryz.prog (loopOf Tryz.prog 194 0) (hdS (s.setTh n (pcT t 2)) n m (o+1) (s.th.length)) x S):LoopP Tryz.prog (loopOf Tryz.prog 194 0) (hdS s n m o s.th.length) x S :=
 loop_more mixed (fuel:=9) (n:=9) (im:=[0,1,2]) (keep:=[2,6,8,9]) (ext:=[19,181,58,264]) (orc:=sPO t 8 1++[thT (pcT t 8),vRow s.th.length ((s.th.set n (pcT t 2)).map thT),thT (pcT t 2),.bool false,thT (pcT t 2),.tuple #[evT s.fe (cmL s.fe s.fl t.se n),vD false,.int .i64 (cmC s.fe s.fl n)]])
  (h.pa<|an (h.id)<|an (h.el)<|an (setT s.th n (pcT t 2))<|an (h.id)<|an (el2 h.hn (pcT t 2))<|an (hl)<|an (h.id)<|an (el2 h.hn (pcT t 2))<|an (ac_pcommit hb hm) <|  an h.o1 trivial) (by kernel_rfl) hL
theorem lp_leave (h:Rn s n t 9 m o) (hm:s.sn.length≤999999) (hL:LoopP Tryz.prog (loopOf Tryz.prog 194 0) (hdS ((s.toSn (lvL s.sn n)).setTh n (doneT t)) n m (o+1) (s.th.length)) x S):LoopP Tryz.prog (loopOf Tryz.prog 194 0) (hdS s n m o s.th.length) x S :=
 loop_more mixed (fuel:=9) (n:=9) (im:=[0,1,2]) (keep:=[2,6,8,9]) (ext:=[19,181,58,202,266]) (orc:=sPO t 9 1++[.tuple #[rowI (lvL s.sn n),.int .i64 (lvE s.sn n)],thT (pcT t 9),.tuple #[thT (doneT t),.int .i64 0],thT (pcT t 9),vRow s.th.length ((s.th.set n (doneT t)).map thT)])
  (h.pa<|an (ac_pleave s.sn n hm)<|an (h.id)<|an (h.id)<|an (h.el)<|an (ac_pdone (done_of (c:=9) h.rs))<|an (h.el)<|an (setT s.th n (doneT t)) <|  an h.o1 trivial) (by kernel_rfl) hL
theorem lp_evictN (h:Rn s n t 10 m o) (hr:In64 t.re) (hb:evwB s.hd s.tl s.md s.sl.length t.re=false) (hL:LoopP Tryz.prog (loopOf Tryz.prog 194 0) (hdS (s.setTh n (pcT t 2)) n m (o+1) (s.th.length)) x S):LoopP Tryz.prog (loopOf Tryz.prog 194 0) (hdS s n m o s.th.length) x S :=
 loop_more mixed (fuel:=9) (n:=9) (im:=[0,1,2]) (keep:=[2,6,8,9]) (ext:=[19,181,58,267]) (orc:=sPO t 10 1++[thT (pcT t 10),.tuple #[wdT (evH s.hd s.tl s.md s.sl.length t.re) s.tl s.md,vD false],thT (pcT t 10),vRow s.th.length ((s.th.set n (pcT t 2)).map thT)])
  (h.pa<|an (h.id)<|an (h.el)<|an (h.evi hr hb)<|an (h.id)<|an (h.el)<|an (setT s.th n (pcT t 2)) <|  an h.o1 trivial) (by kernel_rfl) hL
theorem lp_evictY (h:Rn s n t 10 m o) (hr:In64 t.re) (hb:evwB s.hd s.tl s.md s.sl.length t.re=true) (hH:evH s.hd s.tl s.md s.sl.length t.re=s.hd+1) {g:Int} (hv:valV (s.toWord (s.hd+1) s.tl s.md) t.re=g) (hA:hasB (s.toWord (s.hd+1) s.tl s.md) n=true) (ho:(s.toWord (s.hd+1) s.tl s.md).ok) (hf:(s.toWord (s.hd+1) s.tl s.md).fit) (hL:LoopP Tryz.prog (loopOf Tryz.prog 194 0) (hdS (((s.toWord (s.hd+1) s.tl s.md).addLg (tlE (s.toWord (s.hd+1) s.tl s.md) n 9 1 g)).setTh n (pcT t 11)) n m (o+1) (s.th.length)) x S):LoopP Tryz.prog (loopOf Tryz.prog 194 0) (hdS s n m o s.th.length) x S :=
 loop_more mixed (fuel:=9) (n:=9) (im:=[0,5,2]) (keep:=[2,6,8,9]) (ext:=[19,181,58,267,269,268]) (orc:=sPO t 10 1++[thT (pcT t 10),.tuple #[wdT (s.hd+1) s.tl s.md,vD true],thT (pcT t 10),.int .i64 g,.iface 1000004 (.func (.yield 18) #[.agg (stL ((s.toWord (s.hd+1) s.tl s.md).addLg (tlE (s.toWord (s.hd+1) s.tl s.md) n 9 1 g))),.int .i64 11] #[]),thT (pcT t 10),vRow s.th.length ((s.th.set n (pcT t 11)).map thT)])
  (h.pa<|an (h.id)<|an (h.el)<|an (hH ▸ h.evi hr hb)<|an (h.id)<|an (h.el)<|an (h.ln)<|an (hv ▸ ac_pvalue (s.toWord (s.hd+1) s.tl s.md) t.re ho hr)<|an (h.ln)<|an (ao_tell9 (r:=1) (g:=g) hA ho hf)<|an (h.id)<|an (h.el)<|an (setT s.th n (pcT t 11)) <|  an h.o1 trivial) (by kernel_rfl) hL
theorem lp_release (h:Rn s n t 11 m o) (hm:s.sl.length≤1000) (hr:In64 t.re) (hL:LoopP Tryz.prog (loopOf Tryz.prog 194 0) (hdS ((s.toSl (rlL s.sl t.re)).setTh n (pcT t 2)) n m (o+1) (s.th.length)) x S):LoopP Tryz.prog (loopOf Tryz.prog 194 0) (hdS s n m o s.th.length) x S :=
 loop_more mixed (fuel:=9) (n:=9) (im:=[0,1,2]) (keep:=[2,6,8,9]) (ext:=[19,181,58,270]) (orc:=sPO t 11 1++[thT (pcT t 11),.tuple #[rowS (rlL s.sl t.re),.int .i64 (rlE s.sl t.re)],thT (pcT t 11),vRow s.th.length ((s.th.set n (pcT t 2)).map thT)])
  (h.pa<|an (h.id)<|an (h.el)<|an (ac_prelease s.sl t.re hm hr)<|an (h.id)<|an (h.el)<|an (setT s.th n (pcT t 2)) <|  an h.o1 trivial) (by kernel_rfl) hL
end
end
section
open Go.RowKit
structure Sp (s:St) (n:Nat) (m o:Int):Prop where
 lt:decide (o<min m 1000)=true
 ck:stB s=true
 ok:s.ok
 hn:n<s.th.length
 st:(gth s.th n).st=1
 sd:opSide (gth s.th n).ki=1
 lg:s.lg.length≤999999
 o1:In64 (o+1)
theorem fit_of {s:St} (h:stB s=true) (hl:s.lg.length≤1000000):s.fit:=by
 obtain ⟨a,b,c,d,-,-⟩:=full_lines h
 have h1:=th_len h
 have h2:=ok_len (stn_iff.1 a).1
 have h3:=ok_len (stn_iff.1 b).1
 have h4:=ok_len (stn_iff.1 c).1
 have h5:=ok_len (stn_iff.1 d).1
 have h6:=(ok_iff.1 (word_ok h).2.1).1
 exact ⟨by omega,by omega,by omega,by omega,by omega,by omega,hl⟩
section
variable {s:St} {n:Nat} {m o:Int} {x:Exit} {S:Sg}
theorem Sp.rn (h:Sp s n m o) {c:Int} (hc:(gth s.th n).pc=c):Rn s n (gth s.th n) c m o :=
 ⟨h.lt,h.ck,h.ok,h.hn,by rw [← hc];rfl,by rw [h.st];rfl,h.sd,fit_of h.ck (by have:=h.lg;omega),h.o1⟩
def Nxt (s:St) (n:Nat) (m o:Int) (x:Exit) (S:Sg):Prop:=∀ N,N=s.th.length→LoopP Tryz.prog (loopOf Tryz.prog 194 0) (hdS s n m o N) x S
theorem Nxt.to {s s' : St} (h:Nxt s n m o x S) (e:s=s') {N:Nat} (hN:N=s'.th.length):LoopP Tryz.prog (loopOf Tryz.prog 194 0) (hdS s' n m o N) x S:=by subst e;exact h N hN
theorem try_on {t:Th} (h:thB t=true) {c:Int} (hc:t.pc=c):tryT (pcT t c)=onT t:=by
 obtain ⟨st,ki,va,un,pc,re,se,tr,la,rs,go⟩:=t
 simp only at hc
 subst hc
 rw [thB_iff] at h
 simp only [tryT,pcT,onT]
 congr 1
 split <;> omega
theorem told_is {s:St} (h:stB s=true) {n:Nat} (hn:n<s.th.length) {c r p:Int} (hk:(gth s.th n).ki≠9) :
  toldS s n (gth s.th n).ki r 0 p=((s.setTh n (rgT (pcT (gth s.th n) c) r 0)).addLg (tlE s n (gth s.th n).ki r 0)).setTh n (pcT (rgT (gth s.th n) r 0) p):=by
 unfold toldS
 rw [tell_th h hn]
 unfold St.onTh
 have e:gth (s.th.set n (tellT (gth s.th n) (gth s.th n).ki r 0)) n=tellT (gth s.th n) (gth s.th n).ki r 0:=by rw [gth_set hn,if_pos rfl]
 have e2:tellT (gth s.th n) (gth s.th n).ki r 0=rgT (gth s.th n) r 0:=by unfold tellT;rw [if_neg hk];rfl
 show St.mk _ _ _ _ _ _ _ _ _ _ _ _ ((s.th.set n _).set n (pcT (gth (s.th.set n _) n) p)) _=St.mk _ _ _ _ _ _ _ _ _ _ _ _ ((s.th.set n _).set n _) _
 rw [e,e2,List.set_set,List.set_set]
 rfl
theorem len_set {l:List Th} {n:Nat} {t u:Th}:(l.set n t).length=((l.set n t).set n u).length:=by simp
theorem len1 {l:List Th} {n:Nat} {t:Th}:l.length=(l.set n t).length:=by simp
theorem Sp.ki (h:Sp s n m o):(gth s.th n).ki≠9:=fun e=>by have:=h.sd;rw [e] at this;exact absurd this (by decide)
theorem Sp.tb (h:Sp s n m o):thB (gth s.th n)=true:=gth_ok h.ck h.hn
theorem Sp.tr (h:Sp s n m o):In64 ((gth s.th n).tr+1)∧In64 (gth s.th n).re∧max (gth s.th n).tr 0=(gth s.th n).tr:=by
 have:=h.tb
 generalize gth s.th n=t at this
 obtain ⟨st,ki,va,un,pc,re,se,tr,la,rs,go⟩:=t
 rw [thB_iff] at this
 simp only [In64]
 omega
theorem Sp.few (h:Sp s n m o):s.sn.length≤999999∧s.fl.length≤999999∧s.el.length≤999999∧s.sl.length≤1000:=by
 obtain ⟨a,b,c,d,-,-⟩:=full_lines h.ck
 have h2:=ok_len (stn_iff.1 a).1
 have h4:=ok_len (stn_iff.1 c).1
 have h5:=ok_len (stn_iff.1 d).1
 have h6:=(ok_iff.1 (word_ok h.ck).2.1).1
 omega
theorem bne_of {a b:Int} (h:a≠b):(a==b)=false:=by simp [h]
theorem first_lp (h:Sp s n m o) (hc:(gth s.th n).pc=1) (hL:Nxt (firstS s n) n m (o+1) x S):LoopP Tryz.prog (loopOf Tryz.prog 194 0) (hdS s n m o s.th.length) x S:=by
 have hR:=h.rn hc
 unfold firstS at hL
 split at hL
 ·next hp=>exact lp_first hR (by simp [hp]) (hL.to rfl len1)
 ·next hp =>
  split at hL
  ·next hl=>exact lp_firstL hR (bne_of hp) hl (hL.to (told_is h.ck h.hn h.ki) len_set)
  ·next hl=>exact lp_firstT hR (bne_of hp) (by simpa using hl) h.tr.1 (hL.to (by unfold St.onTh;rw [try_on h.tb hc]) len1)
theorem look_lp (h:Sp s n m o) (hc:(gth s.th n).pc=2) (hL:Nxt (lookS s n) n m (o+1) x S):LoopP Tryz.prog (loopOf Tryz.prog 194 0) (hdS s n m o s.th.length) x S:=by
 have hR:=h.rn hc
 unfold lookS at hL
 split at hL
 ·next hs=>exact lp_lookR hR hs (hL.to rfl len1)
 ·next h1 =>
  split at hL
  ·next hs =>
   unfold fullS at hL
   split at hL
   ·next hp=>exact lp_lookN hR hs (by simp [hp]) (hL.to (told_is h.ck h.hn h.ki) len_set)
   ·next hp =>
    split at hL
    ·next hq=>exact lp_lookO hR hs (bne_of hp) (by simp [hq]) (hL.to rfl len1)
    ·next hq =>
     split at hL
     ·next hk=>exact lp_lookB hR hs (bne_of hp) (bne_of hq) (by rw [hk];rfl) (hL.to (told_is h.ck h.hn h.ki) len_set)
     ·next hk =>
      have ho:opOnce (gth s.th n).ki=false:=by
       have:=h.sd
       generalize (gth s.th n).ki=k at this hk
       have h3:k=1∨k=3:=by rcases side_is k with h | h | h | h <;> omega
       rcases h3 with rfl | rfl <;> rfl
      split at hL
      ·next hl=>exact lp_lookL hR hs (bne_of hp) (bne_of hq) ho hl (hL.to (told_is h.ck h.hn h.ki) len_set)
      ·next hl =>
       have hl' : (gth s.th n).la=false:=by simpa using hl
       split at hL
       ·next hw=>exact lp_lookP hR hs (bne_of hp) (bne_of hq) ho hl' (by rw [h.tr.2.2];exact hw) (hL.to rfl len1)
       ·next hw=>exact lp_lookT hR hs (bne_of hp) (bne_of hq) ho hl' (by rw [h.tr.2.2]) (bne_of hw) h.tr.1 (hL.to (by unfold St.onTh;rw [try_on h.tb hc]) len1)
  ·next h2=>exact lp_lookE hR rfl (bne_of h1) (bne_of h2) (hL.to (told_is h.ck h.hn h.ki) len_set)
theorem write_lp (h:Sp s n m o) (hc:(gth s.th n).pc=3) (hL:Nxt (sendN s n) n m (o+1) x S):LoopP Tryz.prog (loopOf Tryz.prog 194 0) (hdS s n m o s.th.length) x S:=by
 have hR:=h.rn hc
 rw [sendN_3 hc] at hL
 split at hL
 ·next hw=>exact lp_write hR h.few.2.2.2 h.tr.2.1 hw (hL.to rfl len1)
 ·next hw=>exact lp_writeE hR h.few.2.2.2 h.tr.2.1 (by simp [hw]) (hL.to rfl rfl)
theorem again_lp (h:Sp s n m o) (hc:(gth s.th n).pc=7) (hL:Nxt (sendN s n) n m (o+1) x S):LoopP Tryz.prog (loopOf Tryz.prog 194 0) (hdS s n m o s.th.length) x S:=by
 have hR:=h.rn hc
 rw [sendN_7 hc] at hL
 by_cases hs:seesS s=2
 ·cases hl:(gth s.th n).la
  ·rw [if_pos ⟨hs,hl⟩] at hL
   exact lp_againY hR hs (by rw [hl];rfl) (hL.to rfl len1)
  ·rw [if_neg (by rw [hl];simp)] at hL
   exact lp_againL hR hs (by rw [hl];rfl) (hL.to rfl len1)
 ·rw [if_neg (fun e=>hs e.1)] at hL
  exact lp_againN hR rfl (bne_of hs) (hL.to rfl len1)
theorem commit_lp (h:Sp s n m o) (hc:(gth s.th n).pc=8) (hL:Nxt (commitS s n) n m (o+1) x S):LoopP Tryz.prog (loopOf Tryz.prog 194 0) (hdS s n m o s.th.length) x S:=by
 have hR:=h.rn hc
 unfold commitS at hL
 split at hL
 ·next hl=>exact lp_commitL hR hl (hL.to rfl len1)
 ·next hl =>
  have hl' : (gth s.th n).la=false:=by simpa using hl
  split at hL
  ·next hb=>exact lp_commitW hR hl' h.few.2.1 hb (hL.to (by unfold cmL;rw [if_pos hb];rfl) len1)
  ·next hb=>exact lp_commitN hR hl' h.few.2.1 (by simpa using hb) (hL.to rfl len1)
theorem acc_ok (h:Sp s n m o) (hs:seesS s=1):stB (s.toWord s.hd (s.tl+1) s.md)=true∧(s.toWord s.hd (s.tl+1) s.md).ok:=by
 have h2:=ac_check (word_ok h.ck).1
 rw [(ac_y hs).1] at h2
 have h3:=check_iff.1 h2
 exact ⟨word_stB h.ck h2,⟨h.ok.cf,h.ok.hd,(show In64 (s.tl+1) by constructor <;> omega),h.ok.md,h.ok.fe,h.ok.ee,h.ok.nw,h.ok.sl,h.ok.sn,h.ok.rc,h.ok.fl,h.ok.el,h.ok.th,h.ok.lg⟩⟩
theorem ev_ok (h:Sp s n m o) {p:Int} (hb:evwB s.hd s.tl s.md s.sl.length p=true):stB (s.toWord (s.hd+1) s.tl s.md)=true∧(s.toWord (s.hd+1) s.tl s.md).ok:=by
 have h2:=ev_check (x:=p) (word_ok h.ck).1
 rw [show evH s.hd s.tl s.md s.sl.length p=s.hd+1 by unfold evH;rw [if_pos hb]] at h2
 have h3:=check_iff.1 h2
 exact ⟨word_stB h.ck h2,⟨h.ok.cf,(show In64 (s.hd+1) by constructor <;> omega),h.ok.tl,h.ok.md,h.ok.fe,h.ok.ee,h.ok.nw,h.ok.sl,h.ok.sn,h.ok.rc,h.ok.fl,h.ok.el,h.ok.th,h.ok.lg⟩⟩
theorem accept_lp (h:Sp s n m o) (hc:(gth s.th n).pc=4) (hL:Nxt (acceptS s n) n m (o+1) x S):LoopP Tryz.prog (loopOf Tryz.prog 194 0) (hdS s n m o s.th.length) x S:=by
 have hR:=h.rn hc
 unfold acceptS at hL
 split at hL
 ·next hs =>
  obtain ⟨h1,h2⟩:=acc_ok h hs
  refine lp_acceptR hR hs (ac_y hs).1 (has_of h1 h.hn) h2 (fit_of h1 (by have:=h.lg;show s.lg.length≤1000000;omega)) (hL.to ?_ len_set)
  exact told_is (c:=4) h1 h.hn h.ki |>.trans (by show St.mk _ _ _ _ _ _ _ _ _ _ _ _ ((s.th.set n _).set n _) _=St.mk _ _ _ _ _ _ _ _ _ _ _ _ ((s.th.set n _).set n _) _;rfl)
 ·next h1 =>
  split at hL
  ·next hs=>exact lp_acceptF hR hs (hL.to rfl len1)
  ·next h2=>exact lp_acceptE hR rfl (bne_of h1) (bne_of h2) (hL.to (told_is h.ck h.hn h.ki) len_set)
theorem evict_lp (h:Sp s n m o) (hc:(gth s.th n).pc=10) (hL:Nxt (evictS s n) n m (o+1) x S):LoopP Tryz.prog (loopOf Tryz.prog 194 0) (hdS s n m o s.th.length) x S:=by
 have hR:=h.rn hc
 unfold evictS at hL
 split at hL
 ·next hb =>
  obtain ⟨h1,h2⟩:=ev_ok h hb
  have hv:valV (s.toWord (s.hd+1) s.tl s.md) (gth s.th n).re=valV s (gth s.th n).re:=by
   unfold valV;rw [h1,h.ck];rfl
  refine lp_evictY hR h.tr.2.1 hb (by unfold evH;rw [if_pos hb]) hv (has_of h1 h.hn) h2 (fit_of h1 (by have:=h.lg;show s.lg.length≤1000000;omega)) (hL.to ?_ len1)
  unfold toldS
  rw [tell_th h1 h.hn]
  unfold St.onTh
  show St.mk _ _ _ _ _ _ _ _ _ _ _ _ ((s.th.set n (gth s.th n)).set n (pcT (gth (s.th.set n (gth s.th n)) n) 11)) _=St.mk _ _ _ _ _ _ _ _ _ _ _ _ (s.th.set n _) _
  rw [List.set_set,gth_set h.hn,if_pos rfl]
  rfl
 ·next hb=>exact lp_evictN hR h.tr.2.1 (by simpa using hb) (hL.to rfl len1)
theorem empty_ok (h:Sp s n m o):stB (s.toEmpty (ntE s.ee s.el) (ntL 1 s.ee s.el))=true∧(s.toEmpty (ntE s.ee s.el) (ntL 1 s.ee s.el)).ok:=by
 obtain ⟨-,-,-,d,-,e⟩:=full_lines h.ck
 have h1:okE (ntE s.ee s.el) (ntL 1 s.ee s.el)=true:=by simp only [ntE,ntL,e,if_true];exact okE_nx e (ok_drop (okE_ln e) 1)
 have h2:stnB s.cf.th (ntL 1 s.ee s.el)=true:=by simp only [ntL,e,if_true];exact stn_sub d (ok_drop (okE_ln e) 1) (fun x hx=>List.mem_of_mem_drop hx)
 have h3:=(okE_iff.1 h1).1
 have hb:=h.ok.el
 refine ⟨empty_stB h.ck h1 h2,⟨h.ok.cf,h.ok.hd,h.ok.tl,h.ok.md,h.ok.fe,(show In64 (ntE s.ee s.el) by constructor <;> omega),h.ok.nw,h.ok.sl,h.ok.sn,h.ok.rc,h.ok.fl,?_,h.ok.th,h.ok.lg⟩⟩
 show (∀ x∈ntL 1 s.ee s.el,In64 x)∧(ntL 1 s.ee s.el).length≤maxLen
 simp only [ntL,e,if_true]
 exact ⟨fun x hx=>hb.1 x (List.mem_of_mem_drop hx),by rw [List.length_drop];omega⟩
theorem wake_one {t:Th} (h:t.st=1):wakeT t=t:=by unfold wakeT;rw [if_neg (by omega)]
theorem notify_lp (h:Sp s n m o) (hc:(gth s.th n).pc=6) (hL:Nxt (notifyS s n) n m (o+1) x S):LoopP Tryz.prog (loopOf Tryz.prog 194 0) (hdS s n m o s.th.length) x S:=by
 have hR:=h.rn hc
 obtain ⟨h1,h2⟩:=empty_ok h
 unfold notifyS at hL
 split at hL
 ·next hb =>
  obtain ⟨-,-,-,d,-,e⟩:=full_lines h.ck
  have hth:=th_len h.ck
  have hq:∃ q:Nat,hdI (ntT 1 s.ee s.el)=q∧q<s.th.length:=by
   have hb' := hb
   simp only [ntT,e,if_true] at hb' ⊢
   cases hl:s.el with
   | nil=>rw [hl] at hb';cases hb'
   | cons y r =>
    have hy:y∈s.el:=by rw [hl];exact List.mem_cons_self
    have h3:=(stn_iff.1 d).2 y hy
    have h4:=(okl_iff.1 (stn_iff.1 d).1).1 y hy
    exact ⟨y.toNat,by show y=_;omega,by omega⟩
  obtain ⟨q,hq,hql⟩:=hq
  have h9:stB ((s.toEmpty (ntE s.ee s.el) (ntL 1 s.ee s.el)).onTh n (pcT · 9))=true:=onTh_stB h1 (pcT_ok h.tb (by have:=h.st;omega) (by decide))
  have e6:gth s.th n=pcT (gth s.th n) 6:=by conv=>lhs;rw [show gth s.th n=pcT (gth s.th n) (gth s.th n).pc from rfl,hc]
  have hA:hasB ((s.toEmpty (ntE s.ee s.el) (ntL 1 s.ee s.el)).onTh n (pcT · 9)) q=true:=has_of h9 (by show q<(s.th.set n _).length;rw [List.length_set];exact hql)
  have hg:gth (s.th.set q (wakeT (gth s.th q))) n=pcT (gth s.th n) 6:=by
   rw [gth_set hql]
   split
   ·next e=>subst e;rw [wake_one h.st];exact e6
   ·exact e6
  refine lp_notifyW hR h.few.2.2.1 hb hq (has_of h1 hql) h2 (fit_of h1 (by have:=h.lg;show s.lg.length≤1000000;omega)) hg (hL.to ?_ len1)
  rw [hq]
  unfold wakeS
  rw [if_pos hA]
  unfold St.onTh
  show St.mk _ _ _ _ _ _ _ _ _ _ _ _ ((s.th.set n (pcT (gth s.th n) 9)).set (q:Int).toNat (wakeT (gth (s.th.set n (pcT (gth s.th n) 9)) (q:Int).toNat))) _=St.mk _ _ _ _ _ _ _ _ _ _ _ _ ((s.th.set q (wakeT (gth s.th q))).set n (pcT (gth s.th n) 9)) _
  congr 1
  rw [Int.toNat_natCast,gth_set h.hn]
  by_cases hqn:n=q
  ·subst hqn
   rw [if_pos rfl,List.set_set,List.set_set,wake_one (show (pcT (gth s.th n) 9).st=1 from h.st)]
  ·rw [if_neg hqn,List.set_comm _ _ hqn]
 ·next hb=>exact lp_notifyN hR h.few.2.2.1 (by simpa using hb) (hL.to rfl len1)
theorem step_lp (h:Sp s n m o) (hL:Nxt (sendN s n) n m (o+1) x S):LoopP Tryz.prog (loopOf Tryz.prog 194 0) (hdS s n m o s.th.length) x S:=by
 obtain p | p | p | p | p | p | p | p | p | p | p | p:=pc_or h.tb
 ·rw [sendN_0 p] at hL;exact lp_enter (h.rn p) h.few.1 (hL.to rfl len1)
 ·rw [sendN_1 p] at hL;exact first_lp h p hL
 ·rw [sendN_2 p] at hL;exact look_lp h p hL
 ·exact write_lp h p hL
 ·rw [sendN_4 p] at hL;exact accept_lp h p hL
 ·rw [sendN_5 p] at hL
  obtain ⟨-,-,-,-,e,-⟩:=full_lines h.ck
  exact lp_prep (h.rn p) (by unfold prE;rw [if_pos e]) (hL.to rfl len1)
 ·rw [sendN_6 p] at hL;exact notify_lp h p hL
 ·exact again_lp h p hL
 ·rw [sendN_8 p] at hL;exact commit_lp h p hL
 ·rw [sendN_9 p] at hL;exact lp_leave (h.rn p) h.few.1 (hL.to rfl len1)
 ·rw [sendN_10 p] at hL;exact evict_lp h p hL
 ·rw [sendN_11 p] at hL;exact lp_release (h.rn p) h.few.2.2.2 h.tr.2.1 (hL.to rfl len1)
end
end
section
open Go.RowKit
structure Vk (s:St):Prop where
 cf:s.cf.ok
 sl:∀ x∈s.sl,In64 x.vl
 th:∀ t∈s.th,In64 t.va∧In64 t.go
theorem Vk.of {s:St} (h:s.ok):Vk s:=⟨h.cf,fun x hx=>(h.sl.1 x hx).2,fun t ht=>⟨(h.th.1 t ht).2.2.1,(h.th.1 t ht).2.2.2.2.2.2.2.2.2⟩⟩
theorem ln_in {m:Int} {l:List Int} (h:stnB m l=true):(∀ x∈l,In64 x)∧l.length≤maxLen:=by
 have h1:=(stn_iff.1 h).1
 refine ⟨fun x hx=>?_,by have:=ok_len h1;simp only [maxLen];omega⟩
 have:=(okl_iff.1 h1).1 x hx
 constructor <;> omega
theorem ok_of {s:St} (h:stB s=true) (hv:Vk s) (hl:s.lg.length≤1000000):s.ok:=by
 obtain ⟨h1,h2,h3,h4,h5,h6,h7,h8⟩:=st_iff.1 h
 obtain ⟨a,b,c,d⟩:=lns_iff.1 h3
 have hw:=check_iff.1 (word_ok h).1
 have hsl:=ok_iff.1 (word_ok h).2.1
 have e4:=(okE_iff.1 h4).1
 have e5:=(okE_iff.1 h5).1
 have hth:=th_len h
 refine ⟨hv.cf,by constructor <;> omega,by constructor <;> omega,by constructor <;> omega,by constructor <;> omega,by constructor <;> omega,by constructor <;> omega,⟨fun x hx=>⟨?_,hv.sl x hx⟩,by simp only [maxLen];omega⟩,ln_in a,ln_in b,ln_in c,ln_in d,⟨fun t ht=>?_,by simp only [maxLen];omega⟩,by simp only [maxLen];omega⟩
 ·obtain ⟨i,hi,rfl⟩:=List.getElem_of_mem hx
  have:=slot_iff.1 (hsl.2 i hi)
  rw [gs_eq hi] at this
  constructor <;> omega
 ·have hvt:=hv.th t ht
  obtain ⟨i,hi,rfl⟩:=List.getElem_of_mem ht
  have:=gth_ok h hi
  rw [gth_eq hi] at this
  generalize s.th[i]=t at this hvt
  obtain ⟨st,ki,va,un,pc,re,se,tr,la,rs,go⟩:=t
  rw [thB_iff] at this
  simp only [In64,Th.ok] at hvt ⊢
  omega
section
variable {s:St} {n:Nat}
theorem Vk.set (h:Vk s) {t:Th} (ht:In64 t.va∧In64 t.go):Vk (s.setTh n t):=⟨h.cf,h.sl,fun u hu=>by
 rcases List.mem_or_eq_of_mem_set hu with h1 | rfl
 ·exact h.th u h1
 ·exact ht⟩
theorem gth_mem {l:List Th} {n:Nat} (hn:n<l.length):gth l n∈l:=by rw [gth_eq hn];exact List.getElem_mem hn
theorem Vk.on (h:Vk s) (hn:n<s.th.length) {f:Th→Th} (hf:∀ t,(f t).va=t.va∧(f t).go=t.go):Vk (s.onTh n f):=h.set (by have:=h.th _ (gth_mem hn);rw [(hf _).1,(hf _).2];exact this)
theorem Vk.told (h:Vk s) (hB:stB s=true) (hn:n<s.th.length) {k r g p:Int} (hg:k=9∨In64 g):Vk (toldS s n k r g p):=by
 unfold toldS
 have h1:Vk (tellS s n k r g):=by
  rw [tell_th hB hn]
  have:=h.th _ (gth_mem hn)
  refine ⟨h.cf,h.sl,(h.set (n:=n) ?_).th⟩
  unfold tellT
  split
  ·exact this
  ·exact ⟨this.1,by rcases hg with h | h;contradiction;exact h⟩
 exact h1.on (by rw [tell_th hB hn];show n<(s.th.set n _).length;rw [List.length_set];exact hn) (fun _=>⟨rfl,rfl⟩)
theorem Vk.wake (h:Vk s) (i:Int):Vk (wakeS s i):=by
 unfold wakeS
 split
 ·next hh =>
  refine h.on (by have:=has_iff.1 hh;omega) fun t=>?_
  unfold wakeT
  split <;> exact ⟨rfl,rfl⟩
 ·exact h
theorem sendN_vk (h:Vk s) (hB:stB s=true) (hn:n<s.th.length) (h1:(gth s.th n).st≠0):Vk (sendN s n):=by
 have i0:In64 0:=by constructor <;> omega
 obtain p | p | p | p | p | p | p | p | p | p | p | p:=pc_or (gth_ok hB hn)
 ·rw [sendN_0 p];exact Vk.on (s:=s.toSn (entL s.sn n)) (f:=(pcT · 1)) ⟨h.cf,h.sl,h.th⟩ hn fun _=>⟨rfl,rfl⟩
 ·rw [sendN_1 p]
  unfold firstS
  repeat' split
  ·exact h.on hn fun _=>⟨rfl,rfl⟩
  ·exact h.told hB hn (.inr i0)
  ·exact h.on hn fun _=>⟨rfl,rfl⟩
 ·rw [sendN_2 p]
  unfold lookS fullS
  repeat' split
  ·exact h.on hn fun _=>⟨rfl,rfl⟩
  ·exact h.told hB hn (.inr i0)
  ·exact h.on hn fun _=>⟨rfl,rfl⟩
  ·exact h.told hB hn (.inr i0)
  ·exact h.told hB hn (.inr i0)
  ·exact h.on hn fun _=>⟨rfl,rfl⟩
  ·exact h.on hn fun _=>⟨rfl,rfl⟩
  ·exact h.told hB hn (.inr i0)
 ·rw [sendN_3 p]
  split
  ·refine Vk.on (s:=s.toSl (wrL s.sl (gth s.th n).re (gth s.th n).va)) (f:=(pcT · 4)) ⟨h.cf,fun x hx=>?_,h.th⟩ hn fun _=>⟨rfl,rfl⟩
   have hx' : x∈wrL s.sl (gth s.th n).re (gth s.th n).va:=hx
   unfold wrL at hx'
   split at hx'
   ·rcases List.mem_or_eq_of_mem_set hx' with h2 | rfl
    ·exact h.sl x h2
    ·exact (h.th _ (gth_mem hn)).1
   ·exact h.sl x hx'
  ·exact h
 ·rw [sendN_4 p]
  unfold acceptS
  repeat' split
  ·next hs =>
   have h2:=ac_check (word_ok hB).1
   rw [(ac_y hs).1] at h2
   exact Vk.told (s:=s.toWord s.hd (s.tl+1) s.md) ⟨h.cf,h.sl,h.th⟩ (word_stB hB h2) hn (.inr i0)
  ·exact h.on hn fun _=>⟨rfl,rfl⟩
  ·exact h.told hB hn (.inr i0)
 ·rw [sendN_5 p];exact h.on hn fun _=>⟨rfl,rfl⟩
 ·rw [sendN_6 p]
  have h2:Vk ((s.toEmpty (ntE s.ee s.el) (ntL 1 s.ee s.el)).onTh n (pcT · 9)):=Vk.on (s:=s.toEmpty (ntE s.ee s.el) (ntL 1 s.ee s.el)) (f:=(pcT · 9)) ⟨h.cf,h.sl,h.th⟩ hn fun _=>⟨rfl,rfl⟩
  unfold notifyS
  split
  ·exact h2.wake _
  ·exact h2
 ·rw [sendN_7 p]
  split
  ·exact h.on hn fun _=>⟨rfl,rfl⟩
  ·exact h.on hn fun _=>⟨rfl,rfl⟩
 ·rw [sendN_8 p]
  unfold commitS
  repeat' split
  ·exact h.on hn fun _=>⟨rfl,rfl⟩
  ·exact Vk.on (s:=s.toFull s.fe (s.fl++[(n:Int)])) (f:=(parkT · 2)) ⟨h.cf,h.sl,h.th⟩ hn fun _=>⟨rfl,rfl⟩
  ·exact h.on hn fun _=>⟨rfl,rfl⟩
 ·rw [sendN_9 p];exact Vk.on (s:=s.toSn (lvL s.sn n)) (f:=doneT) ⟨h.cf,h.sl,h.th⟩ hn fun _=>⟨rfl,rfl⟩
 ·rw [sendN_10 p]
  unfold evictS
  split
  ·next hb =>
   have h2:=ev_check (x:=(gth s.th n).re) (word_ok hB).1
   rw [show evH s.hd s.tl s.md s.sl.length (gth s.th n).re=s.hd+1 by unfold evH;rw [if_pos hb]] at h2
   exact Vk.told (s:=s.toWord (s.hd+1) s.tl s.md) ⟨h.cf,h.sl,h.th⟩ (word_stB hB h2) hn (.inl rfl)
  ·exact h.on hn fun _=>⟨rfl,rfl⟩
 ·rw [sendN_11 p]
  refine Vk.on (s:=s.toSl (rlL s.sl (gth s.th n).re)) (f:=(pcT · 2)) ⟨h.cf,fun x hx=>?_,h.th⟩ hn fun _=>⟨rfl,rfl⟩
  have hx' : x∈rlL s.sl (gth s.th n).re:=hx
  unfold rlL at hx'
  split at hx'
  ·next hb =>
   rcases List.mem_or_eq_of_mem_set hx' with h2 | rfl
   ·exact h.sl x h2
   ·simp only [rlB,rdyB,Bool.and_eq_true] at hb
    have hp:=(plc_lt hb.1.1).1
    show In64 (gs s.sl (plc s.sl (gth s.th n).re)).vl
    rw [gs_eq hp]
    exact h.sl _ (List.getElem_mem hp)
  ·exact h.sl x hx'
theorem told_lg (hB:stB s=true) (hn:n<s.th.length) {k r g p:Int}:(toldS s n k r g p).lg.length=s.lg.length+1:=by
 unfold toldS
 rw [tell_th hB hn]
 show (s.lg++[_]).length=_
 simp
theorem sendN_lg (hB:stB s=true) (hn:n<s.th.length):(sendN s n).lg.length≤s.lg.length+1:=by
 have e:∀ f,(s.onTh n f).lg=s.lg:=fun _=>rfl
 obtain p | p | p | p | p | p | p | p | p | p | p | p:=pc_or (gth_ok hB hn)
 ·rw [sendN_0 p];exact Nat.le_succ _
 ·rw [sendN_1 p]
  unfold firstS
  repeat' split
  ·exact Nat.le_succ _
  ·rw [told_lg hB hn];exact Nat.le_refl _
  ·exact Nat.le_succ _
 ·rw [sendN_2 p]
  unfold lookS fullS
  repeat' split
  all_goals first | exact Nat.le_succ _ | (rw [told_lg hB hn];exact Nat.le_refl _)
 ·rw [sendN_3 p]
  split <;> exact Nat.le_succ _
 ·rw [sendN_4 p]
  unfold acceptS
  repeat' split
  ·next hs =>
   have h2:=ac_check (word_ok hB).1
   rw [(ac_y hs).1] at h2
   rw [told_lg (s:=s.toWord s.hd (s.tl+1) s.md) (word_stB hB h2) hn];exact Nat.le_refl _
  ·exact Nat.le_succ _
  ·rw [told_lg hB hn];exact Nat.le_refl _
 ·rw [sendN_5 p];exact Nat.le_succ _
 ·rw [sendN_6 p]
  unfold notifyS wakeS
  repeat' split
  all_goals exact Nat.le_succ _
 ·rw [sendN_7 p]
  split <;> exact Nat.le_succ _
 ·rw [sendN_8 p]
  unfold commitS
  repeat' split
  all_goals exact Nat.le_succ _
 ·rw [sendN_9 p];exact Nat.le_succ _
 ·rw [sendN_10 p]
  unfold evictS
  split
  ·next hb =>
   have h2:=ev_check (x:=(gth s.th n).re) (word_ok hB).1
   rw [show evH s.hd s.tl s.md s.sl.length (gth s.th n).re=s.hd+1 by unfold evH;rw [if_pos hb]] at h2
   rw [told_lg (s:=s.toWord (s.hd+1) s.tl s.md) (word_stB hB h2) hn];exact Nat.le_refl _
  ·exact Nat.le_succ _
 ·rw [sendN_11 p];exact Nat.le_succ _
theorem tell_len (s:St) (i k r g:Int):(tellS s i k r g).th.length=s.th.length:=by unfold tellS;split;show (s.th.set _ _).length=_;simp;rfl
end
end
section
open Go.RowKit
section
variable {s:St} {i m o:Int}
theorem le_many (h:decide (o<min m 1000)=false):LoopP Tryz.prog (loopOf Tryz.prog 194 0) (hdS s i m o s.th.length) (.exit 0) (hdS s i m o s.th.length):=loop_end mixed (fuel:=9) (n:=9) (im:=[0,1,2]) (keep:=[2,6,8,9]) (ext:=[19,181,58]) (orc:=[.bool false]) (an h trivial) (by intro e;cases e) (by kernel_rfl)
theorem le_check (h:decide (o<min m 1000)=true) (hB:stB s=false) (ho:s.ok):LoopP Tryz.prog (loopOf Tryz.prog 194 0) (hdS s i m o s.th.length) (.exit 0) (hdS s i m o s.th.length):=loop_end mixed (fuel:=9) (n:=9) (im:=[0,1,2]) (keep:=[2,6,8,9]) (ext:=[19,181,58]) (orc:=[.bool true,vD false]) (an h<|an (len_map (f:=thT) s.th)<|an (ac_pcheck hB ho) trivial) (by intro e;cases e) (by kernel_rfl)
theorem le_low (h:decide (o<min m 1000)=true) (hB:stB s=true) (ho:s.ok) (hi:decide (i<0)=true):LoopP Tryz.prog (loopOf Tryz.prog 194 0) (hdS s i m o s.th.length) (.exit 0) (hdS s i m o s.th.length):=loop_end mixed (fuel:=9) (n:=9) (im:=[0,1,2]) (keep:=[2,6,8,9]) (ext:=[19,181,58]) (orc:=[.bool true,vD true,.bool true]) (an h<|an (len_map (f:=thT) s.th)<|an (ac_pcheck hB ho)<|an hi trivial) (by intro e;cases e) (by kernel_rfl)
theorem le_high (h:decide (o<min m 1000)=true) (hB:stB s=true) (ho:s.ok) (hi:decide (i<0)=false) (hj:decide ((s.th.length:Int)≤i)=true):LoopP Tryz.prog (loopOf Tryz.prog 194 0) (hdS s i m o s.th.length) (.exit 0) (hdS s i m o s.th.length):=loop_end mixed (fuel:=9) (n:=9) (im:=[0,1,2]) (keep:=[2,6,8,9]) (ext:=[19,181,58]) (orc:=[.bool true,vD true,.bool false,.bool true]) (an h<|an (len_map (f:=thT) s.th)<|an (ac_pcheck hB ho)<|an hi<|an hj trivial) (by intro e;cases e) (by kernel_rfl)
variable {n:Nat}
theorem le_runs (h:decide (o<min m 1000)=true) (hB:stB s=true) (ho:s.ok) (hn:n<s.th.length) (hr:(thRuns (gth s.th n).st==0)=false):LoopP Tryz.prog (loopOf Tryz.prog 194 0) (hdS s n m o s.th.length) (.exit 0) (hdS s n m o s.th.length):=loop_end mixed (fuel:=9) (n:=9) (im:=[0,1,2]) (keep:=[2,6,8,9]) (ext:=[19,181,58]) (orc:=[.bool true,vD true,.bool false,.bool false,thT (gth s.th n),.int .i64 (thRuns (gth s.th n).st),.bool false])
 (an h<|an (len_map (f:=thT) s.th)<|an (ac_pcheck hB ho)<|an (show decide ((n:Int)<0)=false by simp)<|an (show decide ((s.th.length:Int)≤n)=false by simp;omega)<|an (idT hn)<|an (elT hn)<|an (ac_pruns (t:=gth s.th n) rfl)<|an hr trivial) (by intro e;cases e) (by kernel_rfl)
theorem le_side (h:decide (o<min m 1000)=true) (hB:stB s=true) (ho:s.ok) (hn:n<s.th.length) (hr:thRuns (gth s.th n).st=0) (hs:(opSide (gth s.th n).ki==1)=false):LoopP Tryz.prog (loopOf Tryz.prog 194 0) (hdS s n m o s.th.length) (.exit 0) (hdS s n m o s.th.length):=loop_end mixed (fuel:=9) (n:=9) (im:=[0,1,2]) (keep:=[2,6,8,9]) (ext:=[19,181,58]) (orc:=[.bool true,vD true,.bool false,.bool false,thT (gth s.th n),.int .i64 0,.nilFunc,thT (gth s.th n),.int .i64 (opSide (gth s.th n).ki),.bool false])
 (an h<|an (len_map (f:=thT) s.th)<|an (ac_pcheck hB ho)<|an (show decide ((n:Int)<0)=false by simp)<|an (show decide ((s.th.length:Int)≤n)=false by simp;omega)<|an (idT hn)<|an (elT hn)<|an (ac_pruns (t:=gth s.th n) hr)<|an (idT hn)<|an (elT hn)<|an (ac_pside (gth s.th n).ki)<|an hs trivial) (by intro e;cases e) (by kernel_rfl)
theorem le_not (ho:s.ok) (hr:runsB s i 1=false):LoopP Tryz.prog (loopOf Tryz.prog 194 0) (hdS s i m o s.th.length) (.exit 0) (hdS s i m o s.th.length):=by
 cases h:decide (o<min m 1000)
 ·exact le_many h
 ·cases hB:stB s
  ·exact le_check h hB ho
  ·by_cases h0:i<0
   ·exact le_low h hB ho (by simp [h0])
   ·by_cases h1:(s.th.length:Int)≤i
    ·exact le_high h hB ho (by simp;omega) (by simp [h1])
    ·obtain ⟨n,rfl⟩:∃ n:Nat,i=n:=⟨i.toNat,by omega⟩
     have hn:n<s.th.length:=by omega
     have hr' : ¬ ((gth s.th n).st=1∧opSide (gth s.th n).ki=1):=fun e=>by
      have:runsB s n 1=true:=runs_iff.2 ⟨has_of hB hn,by simpa using e⟩
      rw [hr] at this;cases this
     by_cases hs:thRuns (gth s.th n).st=0
     ·refine le_side h hB ho hn hs (bne_of fun e=>hr' ⟨?_,e⟩)
      have h2:=runs_not hs
      have h3:=gth_ok hB hn
      generalize gth s.th n=t at h2 h3
      obtain ⟨st,ki,va,un,pc,re,se,tr,la,rs,go⟩:=t
      rw [thB_iff] at h3
      simp only at h2 ⊢
      omega
     ·exact le_runs h hB ho hn (bne_of hs)
theorem sendS_is {s:St} {n:Nat} (h:runsB s n 1=true):sendS s n=sendN s n:=by unfold sendS;rw [if_pos h];rfl
theorem steps_lp (k:Nat):∀ {s:St} {o:Int},Vk s→0≤o→(min m 1000 - o).toNat=k→s.lg.length+k≤900000→s.ok→LoopP Tryz.prog (loopOf Tryz.prog 194 0) (hdS s i m o s.th.length) (.exit 0) (hdS (sendK s i k).1 i m (o+(sendK s i k).2) (sendK s i k).1.th.length):=by
 induction k with
 | zero =>
  intro s o _ _ hk _ _
  simp only [sendK]
  rw [show o+((0:Nat):Int)=o by omega]
  exact le_many (by simp;omega)
 | succ k ih =>
  intro s o hv h0 hk hl ho
  cases hr:runsB s i 1
  ·have:sendK s i (k+1)=(s,0):=by simp [sendK,hr]
   rw [this]
   show LoopP Tryz.prog (loopOf Tryz.prog 194 0) (hdS s i m o s.th.length) (.exit 0) (hdS s i m (o+((0:Nat):Int)) s.th.length)
   rw [show o+((0:Nat):Int)=o by omega]
   exact le_not ho hr
  ·obtain ⟨h1,h2,h3⟩:=runs_iff.1 hr
   obtain ⟨hB,hi0,hi1⟩:=has_iff.1 h1
   obtain ⟨n,rfl⟩:∃ n:Nat,i=n:=⟨i.toNat,by omega⟩
   have hn:n<s.th.length:=by omega
   rw [Int.toNat_natCast] at h2 h3
   have hs1:(gth s.th n).st≠0:=by omega
   have e:sendK s n (k+1)=((sendK (sendN s n) n k).1,(sendK (sendN s n) n k).2+1):=by simp only [sendK,hr,if_true,sendS_is hr]
   rw [e]
   have hB' := sendN_stB hB hn hs1
   have hv' := sendN_vk hv hB hn hs1
   have hl' := sendN_lg hB hn
   refine step_lp (s:=s) (n:=n) ⟨by simp;omega,hB,ho,hn,h2,h3,by omega,by constructor <;> omega⟩ fun N hN=>?_
   have:=ih (s:=sendN s n) (o:=o+1) hv' (by omega) (by omega) (by omega) (ok_of hB' hv' (by omega))
   rw [hN]
   rw [show o+(((sendK (sendN s n) n k).2+1:Nat):Int)=o+1+((sendK (sendN s n) n k).2:Int) by omega]
   exact this
end
theorem neg_no (s:St):hasB s (-1)=false:=by simp [hasB]
theorem ac_psteps0 {s u:St} {i m o:Int} (hL:LoopP Tryz.prog (loopOf Tryz.prog 194 0) (hdS s i m 0 s.th.length) (.exit 0) (hdS u i m o u.th.length)) (ho:s.ok) (hf:s.fit) (ht:s.th≠[]):AC Tryz.prog 194 [stT s,.int .i64 i,.int .i64 m] (.tuple #[stT u,.int .i64 o]) :=
 ac_path mixed (ext:=[42]) (fuel:=9) (n:=5) (orc:=[.iface 1000004 (.func (.yield 18) #[.agg (stL s),.int .i64 11] #[]),oL [5,4,1] [2,6,8,9] 0 [(2,.int .i64 m),(6,pt 2),(8,pt 0),(9,.int .i64 o)] [bX u i u.th.length,bT u.th u.th.length,bZ]])
  (an (ao_keep (neg_no s) ho hf ht)<|an hL<|an (len_map (f:=thT) u.th) trivial) (by kernel_rfl)
theorem ac_psteps {s:St} {i m:Int} (ho:s.ok) (hf:s.fit) (ht:s.th≠[]) (hl:s.lg.length≤800000):AC Tryz.prog 194 [stT s,.int .i64 i,.int .i64 m] (.tuple #[stT (sendK s i (min m 1000).toNat).1,.int .i64 (sendK s i (min m 1000).toNat).2]):=by
 have h:=steps_lp (i:=i) (m:=m) (min m 1000 - 0).toNat (s:=s) (o:=0) (.of ho) (Int.le_refl _) rfl (by omega) ho
 rw [show min m 1000 - 0=min m 1000 by omega,Int.zero_add] at h
 exact ac_psteps0 h ho hf ht
end
section
open Go.RowKit
theorem ac_rplc {p r c:Int} (hc:placeI p r=c) (hp:In64 p) (hr:In64 r):AC Tryz.prog 140 [.int .i64 p,.int .i64 r] (.int .i64 c):=by
 intro O W vs hl hat ;obtain ⟨ys,rfl,_,_,rfl,h0,_,_,rfl,h1,rfl⟩:=args_of hat
 rw [rp_int] at h0 h1
 subst h0 h1
 refine (rplace_val hc hp hr W).mono ?_
 rintro e W' ⟨rfl,hk⟩
 exact ⟨_,rfl,rp_int.2 rfl,hk⟩
theorem ixSs {k:Nat} {l:List Slo} (h:k<l.length):IxP ((l.map slT).toArray) (k:Int) (slT (gs l k)):=⟨by omega,by simp [gs_eq h,h]⟩
def hdRs (l:List Slo) (i:Int):Sg:=⟨mkT 44 [(0,rowS l),(3,.int .i64 i)],[]⟩
def hdRsN:Sg:=⟨mkT 44 [(2,vD false)],[]⟩
abbrev RsL (l:List Slo) (i:Int) (x:Exit) (S:Sg):Prop:=LoopP Tryz.prog (loopOf Tryz.prog 83 0) (hdRs l i) x S
def rsE:List FuncId:=[140]
section
variable {l:List Slo}
theorem rs_more (hm:l.length≤1000) {i:Nat} (hi:i<l.length) (h:slotB l.length i (gs l i)=true) {x:Exit} {S:Sg} (ih:RsL l (i+1:Nat) x S):RsL l i x S:=by
 simp only [slotB,Bool.and_eq_true,decide_eq_true_eq,beq_iff_eq] at h
 rw [show ((i+1:Nat):Int)=(i:Int)+1 by omega] at ih
 exact loop_more mixed (fuel:=9) (n:=3) (im:=[]) (keep:=[0,3]) (ext:=rsE) (orc:=[.bool true,slT (gs l i),.bool false,slT (gs l i),.bool false,slT (gs l i),.int .i64 i,.bool false])
  (an (show decide ((i:Int)<l.length)=true by simp;omega)<|an (ixSs hi)<|an (show decide ((gs l i).st<0)=false by simp;omega)<|an (ixSs hi)<|an (show decide (2199023255552<(gs l i).st)=false by simp;omega)<|an (ixSs hi)<|an (ac_rplc h.2 (by constructor <;> omega) (by constructor <;> omega)) <|
   an (show ((i:Int) != i)=false by simp)<|an (show In64 ((i:Int)+1) by constructor <;> omega) trivial) (by kernel_rfl) ih
theorem rs_bad (hm:l.length≤1000) {i:Nat} (hi:i<l.length) (h:slotB l.length i (gs l i)=false):RsL l i .ret hdRsN:=by
 have d0:decide ((i:Int)<l.length)=true:=by simp;omega
 by_cases h0:(gs l i).st<0
 ·exact loop_end mixed (fuel:=9) (n:=3) (im:=[]) (keep:=[2]) (ext:=rsE) (orc:=[.bool true,slT (gs l i),.bool true]) (an d0<|an (ixSs hi)<|an (show decide ((gs l i).st<0)=true by simpa using h0) trivial) (by intro e;cases e) (by kernel_rfl)
 ·by_cases h1:2199023255552<(gs l i).st
  ·exact loop_end mixed (fuel:=9) (n:=3) (im:=[]) (keep:=[2]) (ext:=rsE) (orc:=[.bool true,slT (gs l i),.bool false,slT (gs l i),.bool true])
    (an d0<|an (ixSs hi)<|an (show decide ((gs l i).st<0)=false by simpa using h0)<|an (ixSs hi)<|an (show decide (2199023255552<(gs l i).st)=true by simpa using h1) trivial) (by intro e;cases e) (by kernel_rfl)
  ·have h2:placeI (gs l i).st l.length≠i:=fun e=>by
    have:slotB l.length i (gs l i)=true:=by simp only [slotB,Bool.and_eq_true,decide_eq_true_eq,beq_iff_eq];exact ⟨⟨by omega,by omega⟩,e⟩
    rw [h] at this;cases this
   exact loop_end mixed (fuel:=9) (n:=3) (im:=[]) (keep:=[2]) (ext:=rsE) (orc:=[.bool true,slT (gs l i),.bool false,slT (gs l i),.bool false,slT (gs l i),.int .i64 (placeI (gs l i).st l.length),.bool true])
    (an d0<|an (ixSs hi)<|an (show decide ((gs l i).st<0)=false by simpa using h0)<|an (ixSs hi)<|an (show decide (2199023255552<(gs l i).st)=false by simpa using h1)<|an (ixSs hi)<|an (ac_rplc (p:=(gs l i).st) (r:=l.length) rfl (by constructor <;> omega) (by constructor <;> omega)) <|
     an (show (placeI (gs l i).st l.length != i)=true by simpa using h2) trivial) (by intro e;cases e) (by kernel_rfl)
theorem rs_yes (hm:l.length≤1000) (h:∀ j,j<l.length→slotB l.length j (gs l j)=true):∀ (k i:Nat),l.length - i=k→i≤l.length→RsL l i (.exit 0) (hdRs l l.length)
 | 0,i,hk,hi=>by
  have:i=l.length:=by omega
  subst this
  exact loop_end mixed (fuel:=9) (n:=3) (im:=[]) (keep:=[0,3]) (ext:=rsE) (orc:=[.bool false]) (an (show decide ((l.length:Int)<l.length)=false by simp) trivial) (by intro e;cases e) (by kernel_rfl)
 | k+1,i,hk,hi=>rs_more hm (by omega) (h i (by omega)) (rs_yes hm h k (i+1) (by omega) (by omega))
theorem rs_no (hm:l.length≤1000) {j:Nat} (hj:j<l.length) (h:slotB l.length j (gs l j)=false):∀ (k i:Nat),j - i=k→i≤j→RsL l i .ret hdRsN
 | 0,i,hk,hi=>by
  have:i=j:=by omega
  subst this
  exact rs_bad hm hj h
 | k+1,i,hk,hi=>by
  cases h1:slotB l.length i (gs l i)
  ·exact rs_bad hm (by omega) h1
  ·exact rs_more hm (by omega) h1 (rs_no hm hj h k (i+1) (by omega) (by omega))
theorem ac_rscheck {b:Bool} (h:okSl l=b) (hm:l.length≤1000):AC Tryz.prog 83 [rowS l] (.bool b):=by
 subst h
 by_cases h0:(l.length:Int)<1
 ·rw [show okSl l=false by simp [okSl,ringB];omega]
  exact ac_path mixed (ext:=rsE) (fuel:=9) (n:=3) (orc:=[.bool true]) (an (show decide ((l.length:Int)<1)=true by simpa using h0) trivial) (by kernel_rfl)
 ·have d0:decide ((l.length:Int)<1)=false:=by simpa using h0
  by_cases h1:64<(l.length:Int)
  ·rw [show okSl l=false by simp [okSl,ringB];omega]
   exact ac_path mixed (ext:=rsE) (fuel:=9) (n:=3) (orc:=[.bool false,.bool true]) (an d0<|an (show decide (64<(l.length:Int))=true by simpa using h1) trivial) (by kernel_rfl)
  ·have d1:decide (64<(l.length:Int))=false:=by simpa using h1
   by_cases h2:∀ j,j<l.length→slotB l.length j (gs l j)=true
   ·rw [show okSl l=true by simp only [okSl,Bool.and_eq_true,List.all_eq_true,List.mem_range];exact ⟨by simp [ringB];omega,h2⟩]
    exact ac_path mixed (ext:=rsE) (fuel:=9) (n:=3) (orc:=[.bool false,.bool false,oL [] [0,3] 0 [(0,rowS l),(3,.int .i64 l.length)] []]) (an d0<|an d1<|an (rs_yes hm h2 l.length 0 rfl (by omega)) trivial) (by kernel_rfl)
   ·obtain ⟨j,h3⟩:=Classical.not_forall.1 h2
    obtain ⟨hj,h4⟩:j<l.length∧slotB l.length j (gs l j)=false:=by
     by_cases hj:j<l.length
     ·exact ⟨hj,by cases e:slotB l.length j (gs l j);rfl;exact absurd (fun _=>e) h3⟩
     ·exact absurd (fun x=>absurd x hj) h3
    rw [show okSl l=false by cases e:okSl l;rfl;simp only [okSl,Bool.and_eq_true,List.all_eq_true,List.mem_range] at e;have:=e.2 j hj;rw [h4] at this;cases this]
    exact ac_path mixed (ext:=rsE) (fuel:=9) (n:=3) (orc:=[.bool false,.bool false,oL [] [0,3] (-1) [(2,vD false)] []]) (an d0<|an d1<|an (rs_no hm hj h4 j 0 rfl (by omega)) trivial) (by kernel_rfl)
def rsF:List FuncId:=[140,83,148]
theorem ac_rsready {q:Int} {b:Bool} (h:rdyB l q=b) (hm:l.length≤1000) (hq:In64 q):AC Tryz.prog 148 [rowS l,.int .i64 q] (.bool b):=by
 subst h
 cases hk:okSl l
 ·rw [show rdyB l q=false by simp [rdyB,liesS,hk]]
  exact ac_path mixed (ext:=rsF) (fuel:=9) (n:=3) (orc:=[vD false]) (an (ac_rscheck hk hm) trivial) (by kernel_rfl)
 ·by_cases h0:q<0
  ·rw [show rdyB l q=false by simp [rdyB,liesS];omega]
   exact ac_path mixed (ext:=rsF) (fuel:=9) (n:=3) (orc:=[vD true,.bool true]) (an (ac_rscheck hk hm)<|an (show decide (q<0)=true by simpa using h0) trivial) (by kernel_rfl)
  ·obtain ⟨hi,hpl⟩:=plc_lt (l:=l) (p:=q) (lies_iff.2 ⟨by omega,hk⟩)
   rw [show rdyB l q=((gs l (plc l q)).st==q) by simp [rdyB,liesS,hk];omega]
   exact ac_path mixed (ext:=rsF) (fuel:=9) (n:=3) (orc:=[vD true,.bool false,.int .i64 (plc l q),slT (gs l (plc l q))])
    (an (ac_rscheck hk hm)<|an (show decide (q<0)=false by simpa using h0)<|an (ac_rplc hpl hq (by constructor <;> omega))<|an (ixSs hi) trivial) (by kernel_rfl)
theorem ac_rsread (l:List Slo) (q:Int) (hm:l.length≤1000) (hq:In64 q):AC Tryz.prog 105 [rowS l,.int .i64 q] (.tuple #[.int .i64 (rdV l q),.int .i64 (rdE l q)]):=by
 cases hr:rdyB l q
 ·rw [show rdV l q=0 by simp [rdV,hr],show rdE l q=40 by simp [rdE,hr]]
  exact ac_path mixed (ext:=rsF) (fuel:=9) (n:=3) (orc:=[vD false]) (an (ac_rsready hr hm hq) trivial) (by kernel_rfl)
 ·have hl:liesS l q=true:=(rdy_lies hr).1
  obtain ⟨hi,hpl⟩:=plc_lt (l:=l) (p:=q) hl
  rw [show rdV l q=(gs l (plc l q)).vl by simp [rdV,hr],show rdE l q=0 by simp [rdE,hr]]
  exact ac_path mixed (ext:=rsF) (fuel:=9) (n:=3) (orc:=[vD true,.int .i64 (plc l q),slT (gs l (plc l q))]) (an (ac_rsready hr hm hq)<|an (ac_rplc hpl hq (by constructor <;> omega))<|an (ixSs hi) trivial) (by kernel_rfl)
end
end
section
open Go.RowKit
theorem ac_rlcheck {l:List Int} {b:Bool} (h:okLn l=b):AC Tryz.prog 141 [rowI l] (.bool b):=by
 intro O W vs hl hat ;obtain ⟨ys,rfl,_,_,rfl,h0,rfl⟩:=args_of hat
 obtain ⟨p,k,rfl,hs⟩:=rp_rowI.1 h0
 refine (rlcheck_any l p k W hs.s).mono ?_
 rintro e W' ⟨rfl,hk⟩
 exact ⟨_,rfl,rp_bool.2 (by rw [h]),hk⟩
theorem ac_rlat {l:List Int} {i v:Int} (h:ixI l i=v):AC Tryz.prog 143 [rowI l,.int .i64 i] (.int .i64 v):=by
 intro O W vs hl hat ;obtain ⟨ys,rfl,_,_,rfl,h0,_,_,rfl,h1,rfl⟩:=args_of hat
 obtain ⟨p,k,rfl,hs⟩:=rp_rowI.1 h0
 rw [rp_int] at h1
 subst h1
 refine (rat_any l i p k W hs.s).mono ?_
 rintro e W' ⟨rfl,hk⟩
 exact ⟨_,rfl,rp_int.2 (by rw [h]),hk⟩
theorem ac_rlplace {l:List Int} {i v:Int} (h:plI l i=v):AC Tryz.prog 144 [rowI l,.int .i64 i] (.int .i64 v):=by
 intro O W vs hl hat ;obtain ⟨ys,rfl,_,_,rfl,h0,_,_,rfl,h1,rfl⟩:=args_of hat
 obtain ⟨p,k,rfl,hs⟩:=rp_rowI.1 h0
 rw [rp_int] at h1
 subst h1
 refine (rlplace_any l i p k W hs.s).mono ?_
 rintro e W' ⟨rfl,hk⟩
 exact ⟨_,rfl,rp_int.2 (by rw [h]),hk⟩
theorem ac_recheck {ep:Int} {l:List Int} {b:Bool} (h:okE ep l=b):AC Tryz.prog 84 [evT ep l] (.bool b):=by
 subst h
 cases hl:okLn l
 ·rw [show okE ep l=false by simp [okE,hl]]
  exact ac_path mixed (ext:=[141]) (fuel:=9) (n:=3) (orc:=[vD false]) (an (ac_rlcheck hl) trivial) (by kernel_rfl)
 ·by_cases h0:0≤ep
  ·rw [show okE ep l=decide (ep≤1099511627776) by simp [okE,hl,h0]]
   exact ac_path mixed (ext:=[141]) (fuel:=9) (n:=3) (orc:=[vD true,.bool true]) (an (ac_rlcheck hl)<|an (show decide (0≤ep)=true by simpa using h0) trivial) (by kernel_rfl)
  ·rw [show okE ep l=false by simp [okE,h0]]
   exact ac_path mixed (ext:=[141]) (fuel:=9) (n:=3) (orc:=[vD true,.bool false]) (an (ac_rlcheck hl)<|an (show decide (0≤ep)=false by simpa using h0) trivial) (by kernel_rfl)
theorem ac_renext {ep:Int} (h:0≤ep∧ep≤1099511627776):AC Tryz.prog 151 [.int .i64 ep] (.int .i64 (nxE ep)):=by
 by_cases e:ep=1099511627776
 ·subst e
  exact ac_path mixed (ext:=[]) (fuel:=9) (n:=3) (orc:=[.nilFunc]) trivial (by kernel_rfl)
 ·rw [show nxE ep=ep+1 by unfold nxE;rw [if_pos (by omega)]]
  exact ac_path mixed (ext:=[]) (fuel:=9) (n:=3) (orc:=[.bool false]) (an (show (ep==1099511627776)=false by simpa using e)<|an (show In64 (ep+1) by constructor <;> omega) trivial) (by kernel_rfl)
theorem ac_rprep {ep:Int} {l:List Int} (h:okE ep l=true):AC Tryz.prog 93 [evT ep l] (.int .i64 ep) :=
 ac_path mixed (ext:=[84]) (fuel:=9) (n:=3) (orc:=[vD true]) (an (ac_recheck h) trivial) (by kernel_rfl)
theorem ac_raccept (h t m r:Int) (hh:In64 h) (ht:In64 t) (hm:In64 m) (hr:In64 r):AC Tryz.prog 150 [wdT h t m,.int .i64 r] (.tuple #[wdT h (acT h t m r) m,.int .i64 (acP h t m r),.int .i64 (acR h t m r)]):=er_accept hh ht hm hr
theorem ac_revict {h t m r x:Int} {b:Bool} (hb:evwB h t m r x=b) (hh:In64 h) (ht:In64 t) (hm:In64 m) (hr:In64 r) (hx:In64 x):AC Tryz.prog 156 [wdT h t m,.int .i64 r,.int .i64 x] (.tuple #[wdT (evH h t m r x) t m,.bool b]):=hb ▸ er_evict hh ht hm hr
theorem ac_rside {k v:Int} (h:opSide k=v):AC Tryz.prog 48 [.int .i64 k] (.int .i64 v):=by
 intro O W vs hl hat ;obtain ⟨ys,rfl,_,_,rfl,h0,rfl⟩:=args_of hat
 rw [rp_int] at h0
 subst h0
 refine (roside_any k W).mono ?_
 rintro e W' ⟨rfl,hk⟩
 exact ⟨_,rfl,rp_int.2 (by rw [h]),hk⟩
theorem app_is {α:Type} {f:α→Value} {l m r:List α} (h:r=l++m) (hm:l.length+m.length≤1048576):AppP r.length (r.map f) l.length (l.map f) m.length (m.map f):=⟨by rw [h];simp,by rw [h];simp,hm⟩
theorem sub_take {α:Type} {f:α→Value} {l:List α} {k:Nat} (h:k≤l.length):SubP (l.take k).length ((l.take k).map f) l.length (l.map f) 0 k:=⟨by omega,by omega,by omega,by simp;omega,by rw [List.length_take,Nat.min_eq_left h];simp [List.map_take]⟩
theorem sub_drop {α:Type} {f:α→Value} {l:List α} {k:Nat} {a:Int} (ha:a=k) (h:k≤l.length):SubP (l.drop k).length ((l.drop k).map f) l.length (l.map f) a l.length:=by
 subst ha
 refine ⟨by omega,by omega,by omega,by simp;omega,?_⟩
 rw [Int.toNat_natCast,List.length_drop,List.map_drop,List.take_of_length_le (by simp)]
theorem lenIs (l:List Int):l.length=(l.map (Value.int .i64 ·)).length:=by simp
theorem ac_renter {l:List Int} {i:Int} (hok:okLn l=true) (hi:0≤i∧i≤15):AC Tryz.prog 87 [rowI l,.int .i64 i] (.tuple #[rowI (entL l i),.int .i64 (entE l i)]):=by
 have hn:noneB 16 i=false:=by simp [noneB];omega
 have hlen:=ok_len hok
 by_cases hm:i∈l
 ·have e:entE l i=60:=by simp [entE,hok,hn,hm]
  rw [show entL l i=l by simp [entL,e],e]
  exact ac_path mixed (ext:=[141,143]) (fuel:=9) (n:=5) (orc:=[vD true,.bool false,.bool false,.int .i64 (ixI l i),.bool true])
   (an (ac_rlcheck hok)<|an (show decide (i<0)=false by simp;omega)<|an (show decide (15<i)=false by simp;omega)<|an (ac_rlat (l:=l) (i:=i) rfl)<|an (show decide (0≤ixI l i)=true by simpa using ix_nonneg.2 hm) trivial) (by kernel_rfl)
 ·have e:entE l i=0:=by simp [entE,hok,hn,hm]
  rw [ent_yes e,e]
  exact ac_path mixed (ext:=[141,143]) (fuel:=9) (n:=5) (orc:=[vD true,.bool false,.bool false,.int .i64 (ixI l i),.bool false,rowI l,rowI (l++[i])])
   (an (ac_rlcheck hok)<|an (show decide (i<0)=false by simp;omega)<|an (show decide (15<i)=false by simp;omega)<|an (ac_rlat (l:=l) (i:=i) rfl)<|an (show decide (0≤ixI l i)=false by have:=fun h=>hm (ix_nonneg.1 h);simpa using this) <|
    an (allK_I l)<|an (rfl:(0:Nat)=0)<|an (app_e (f:=(Value.int .i64 ·)) (l:=l) (by omega))<|an (rfl:(1:Nat)=1)<|an (allK_I [i])<|an (lenIs l)<|an (app_is (f:=(Value.int .i64 ·)) (l:=l) (m:=[i]) rfl (by simp;omega))<|an (len_map (f:=(Value.int .i64 ·)) (l++[i])) trivial) (by kernel_rfl)
theorem ac_rleave {l:List Int} {i:Int} (hok:okLn l=true):AC Tryz.prog 98 [rowI l,.int .i64 i] (.tuple #[rowI (lvL l i),.int .i64 (lvE l i)]):=by
 have hlen:=ok_len hok
 by_cases h:plI l i<0
 ·rw [show lvL l i=l by simp [lvL,h],show lvE l i=40 by simp [lvE,h]]
  exact ac_path mixed (ext:=[144]) (fuel:=9) (n:=5) (orc:=[.int .i64 (plI l i),.bool true]) (an (ac_rlplace (l:=l) (i:=i) rfl)<|an (show decide (plI l i<0)=true by simpa using h) trivial) (by kernel_rfl)
 ·have hg:=pl_ge (l:=l) (i:=i)
  obtain ⟨k,hk⟩:∃ k:Nat,plI l i=k:=⟨(plI l i).toNat,by omega⟩
  have hkl:k<l.length:=by omega
  rw [show lvL l i=l.eraseIdx k by unfold lvL;rw [if_neg h,hk,Int.toNat_natCast],show lvE l i=0 by simp [lvE,h]]
  exact ac_path mixed (ext:=[144]) (fuel:=9) (n:=5) (orc:=[.int .i64 k,.bool false,rowI (l.take k),rowI (l.take k),rowI (l.drop (k+1)),rowI (l.eraseIdx k)])
   (an (ac_rlplace hk)<|an (show decide ((k:Int)<0)=false by simp)<|an (sub_take (f:=(Value.int .i64 ·)) (l:=l) (k:=k) (by omega))<|an (allK_I l)<|an (allK_I (l.take k))<|an (rfl:(0:Nat)=0)<|an (app_e (f:=(Value.int .i64 ·)) (l:=l.take k) (by simp;omega))<|an (show In64 ((k:Int)+1) by constructor <;> omega) <|
    an (sub_drop (f:=(Value.int .i64 ·)) (l:=l) (k:=k+1) (a:=(k:Int)+1) (by omega) (by omega))<|an (allK_I l)<|an (allK_I (l.drop (k+1)))<|an (lenIs (l.take k))<|an (app_is (f:=(Value.int .i64 ·)) (l:=l.take k) (m:=l.drop (k+1)) (r:=l.eraseIdx k) (List.eraseIdx_eq_take_drop_succ l k) (by simp;omega))<|an (len_map (f:=(Value.int .i64 ·)) (l.eraseIdx k)) trivial) (by kernel_rfl)
theorem ac_rnotify {ep:Int} {l:List Int} (hok:okE ep l=true):AC Tryz.prog 94 [evT ep l] (.tuple #[evT (ntE ep l) (ntL 1 ep l),.int .i64 (hdI (ntT 1 ep l)),.bool (hdB (ntT 1 ep l))]):=by
 have he:=(okE_iff.1 hok).1
 have hlen:=ok_len (okE_ln hok)
 rw [show ntE ep l=nxE ep by simp [ntE,hok],show ntL 1 ep l=l.drop 1 by simp [ntL,hok],show ntT 1 ep l=l.take 1 by simp [ntT,hok]]
 cases l with
 | nil=>exact ac_path mixed (ext:=[84,151]) (fuel:=9) (n:=5) (orc:=[vD true,.nilFunc,.int .i64 (nxE ep)]) (an (ac_recheck hok)<|an (ac_renext he) trivial) (by kernel_rfl)
 | cons x r =>
  exact ac_path mixed (ext:=[84,151]) (fuel:=9) (n:=5) (orc:=[vD true,.bool false,.int .i64 (nxE ep),rowI r,rowI r,.int .i64 x])
   (an (ac_recheck hok)<|an (show (((x::r).length:Int)==0)=false by simp;omega)<|an (ac_renext he)<|an (sub_drop (f:=(Value.int .i64 ·)) (l:=x::r) (k:=1) (a:=1) rfl (by simp))<|an (allK_I (x::r))<|an (allK_I r)<|an (rfl:(0:Nat)=0) <|
    an (app_e (f:=(Value.int .i64 ·)) (l:=r) (by simp at hlen;omega))<|an (show IxP (((x::r).map (Value.int .i64 ·)).toArray) 0 (.int .i64 x) from ⟨by omega,rfl⟩)<|an (len_map (f:=(Value.int .i64 ·)) r) trivial) (by kernel_rfl)
theorem ac_rcommit {ep:Int} {l:List Int} {q i:Int} {b:Bool} (hb:cmB ep l q i=b) (hok:okE ep l=true) (hi:0≤i∧i≤15):AC Tryz.prog 153 [evT ep l,.int .i64 q,.int .i64 i] (.tuple #[evT ep (cmL ep l q i),.bool b,.int .i64 (entE l i)]):=by
 subst hb
 by_cases he:entE l i=0
 ·by_cases hq:q=ep
  ·have h1:cmB ep l q i=true:=by simp [cmB,hok,he,hq]
   rw [show cmL ep l q i=entL l i by unfold cmL;rw [if_pos h1,ent_yes he],h1,he]
   exact ac_path mixed (ext:=[84,87]) (fuel:=9) (n:=5) (orc:=[vD true,.tuple #[rowI (entL l i),.int .i64 0],.nilFunc,.bool false])
    (an (ac_recheck hok)<|an (he ▸ ac_renter (okE_ln hok) hi)<|an (show (q != ep)=false by simp [hq]) trivial) (by kernel_rfl)
  ·have h1:cmB ep l q i=false:=by simp [cmB,Ne.symm hq]
   rw [show cmL ep l q i=l by unfold cmL;rw [h1];rfl,h1,he]
   exact ac_path mixed (ext:=[84,87]) (fuel:=9) (n:=5) (orc:=[vD true,.tuple #[rowI (entL l i),.int .i64 0],.nilFunc,.bool true])
    (an (ac_recheck hok)<|an (he ▸ ac_renter (okE_ln hok) hi)<|an (show (q != ep)=true by simp [hq]) trivial) (by kernel_rfl)
 ·have h1:cmB ep l q i=false:=by simp [cmB,he]
  rw [show cmL ep l q i=l by unfold cmL;rw [h1];rfl,h1]
  exact ac_path mixed (ext:=[84,87]) (fuel:=9) (n:=5) (orc:=[vD true,.tuple #[rowI (entL l i),.int .i64 (entE l i)],.bool true])
   (an (ac_recheck hok)<|an (ac_renter (okE_ln hok) hi)<|an (show (entE l i != 0)=true by simp [he]) trivial) (by kernel_rfl)
end
section
open Go.ChangeShapes Go.WideShapes Go.ChangeAt Go.RowKit
def Cf.may (c:Cf):Bool:=mayB c.lg c.th c.po c.wt c.sp c.yi
def Cf.room (c:Cf):Int:=roomI c.lg c.th c.po c.wt c.sp c.yi
def p2 (k:Nat):Int:=if k=0 then 1 else pw k
theorem p2_bd (k:Nat):1≤p2 k∧p2 k≤64:=by
 have:=pw_bd k
 unfold p2;split <;> omega
theorem p2_succ (k:Nat) (h:k<6):2 * p2 k=p2 (k+1):=by
 obtain rfl | rfl | rfl | rfl | rfl | rfl:k=0∨k=1∨k=2∨k=3∨k=4∨k=5:=by omega
 all_goals rfl
set_option maxHeartbeats 1000000 in
theorem rcroom_any (lg th po wt sp yi:Int) (si:Bool) (w:World):Calls Tryz.prog 80 #[.agg #[.int .i64 lg,.int .i64 th,.int .i64 po,.int .i64 wt,.int .i64 sp,.int .i64 yi,.bool si]] w fun e w' => e = .returned (.int .i64 (roomI lg th po wt sp yi))∧Kept w w' := by
 cases hm:mayB lg th po wt sp yi
 ·have hk:=room_no hm
  have hc:=ck_no hm
  go_enter Tryz.func80,Tryz.ntmps80
  go_wp2_with (first | (go_at_call 139;refine (rccheck_any _ _ _ _ _ _ _ _).mono ?_;rintro e wx ⟨rfl,hgx⟩;obtain ⟨hcx,hfx⟩:=bcell hgx;have hz0:w.heap.size<wx.heap.size:=(by have:=hgx.size;(try simp at this);omega)))
  go_ret
  exact ⟨ret_int (by rw [hk]),by repeat' (first | (with_reducible exact Below.refl _ _) | (with_reducible assumption) | (with_reducible refine kept_alloc ?_ _) | (with_reducible refine kept_drewN ?_ _) | (with_reducible refine Below.drew ?_) | (with_reducible refine Below.setCell ?_ (by first | omega | (simp;omega) | (simp;done)) _) | (refine kept_trans ?_ (by with_reducible assumption)))⟩
 ·have hk:=Lib.hid (room_yes hm)
  have hc:=ck_yes hm
  have hp:=may_iff.1 hm
  have h1:1≤lg:=by omega
  have h2:lg≤6:=by omega
  clear hp
  go_enter Tryz.func80,Tryz.ntmps80
  go_wp2_with (first | (go_at_call 139;refine (rccheck_any _ _ _ _ _ _ _ _).mono ?_;rintro e wx ⟨rfl,hgx⟩;obtain ⟨hcx,hfx⟩:=bcell hgx;have hz0:w.heap.size<wx.heap.size:=(by have:=hgx.size;(try simp at this);omega)))
  have hl:wx.cell? ⟨w.heap.size,0,none⟩=some (.int .i64 lg):=by rw [hcx _ _ (by simp)];simp
  clear hcx hfx
  go_loop [3,4] (fun n i=>∃ k:Nat,(k:Int)≤lg∧i = .int .i64 k∧n = .int .i64 (p2 k)) (fun _ i=>(lg - intOf i).toNat)
  case atStart=>exact ⟨0,by omega,rfl,rfl⟩
  case round =>
   obtain ⟨k,hk',rfl,rfl⟩:=hrel
   have hb:=p2_bd k
   by_cases hlt:(k:Int)<lg
   ·have hs:=Lib.hid (p2_succ k (by omega))
    go_wp2
    go_round
    case rel=>exact ⟨k+1,by omega,by go_num,by rw [← hs.out]⟩
    case measure=>simp [intOf];omega
   ·have hkl:(k:Int)=lg:=by omega
    have hpk:Hid (p2 k=pw lg):=Lib.hid (by rw [p2,if_neg (by omega),hkl])
    clear hkl
    go_wp2
    go_ret
    exact ⟨ret_int (by rw [hk.out,hpk.out]),by repeat' (first | (with_reducible exact Below.refl _ _) | (with_reducible assumption) | (with_reducible refine kept_alloc ?_ _) | (with_reducible refine kept_drewN ?_ _) | (with_reducible refine Below.drew ?_) | (with_reducible refine Below.setCell ?_ (by first | omega | (simp;omega) | (simp;done)) _) | (refine kept_trans ?_ (by with_reducible assumption)))⟩
end
section
open Go.ChangeShapes Go.WideShapes Go.ChangeAt Go.RowKit
set_option maxHeartbeats 8000000 in
theorem rtcheck_any {st ki va un pc re se tr rs go:Int} {la:Bool} (w:World):Calls Tryz.prog 81 #[.agg #[.int .i64 st,.int .i64 ki,.int .i64 va,.int .i64 un,.int .i64 pc,.int .i64 re,.int .i64 se,.int .i64 tr,.bool la,.int .i64 rs,.int .i64 go]] w fun e w' => e = .returned (.bool (thB ⟨st,ki,va,un,pc,re,se,tr,la,rs,go⟩))∧Kept w w' := by
 by_cases hk:ki=0
 ·subst hk
  by_cases hs:st=0
  ·subst hs
   have hcs:CellsAt (w.alloc (.cells #[.int .i64 0,.int .i64 0,.int .i64 va,.int .i64 un,.int .i64 pc,.int .i64 re,.int .i64 se,.int .i64 tr,.bool la,.int .i64 rs,.int .i64 go] 52)) [(w.heap.size,0,.int .i64 0),(w.heap.size,1,.int .i64 0),(w.heap.size,2,.int .i64 va),(w.heap.size,3,.int .i64 un),(w.heap.size,4,.int .i64 pc),(w.heap.size,5,.int .i64 re),(w.heap.size,6,.int .i64 se),(w.heap.size,7,.int .i64 tr),(w.heap.size,8,.bool la),(w.heap.size,9,.int .i64 rs),(w.heap.size,10,.int .i64 go)]:=by (simp only [CellsAt];(repeat' (first | exact trivial | (refine And.intro ?_ ?_)));all_goals (first | (focus ((try simp only [World.size_setCell,World.size_alloc]);omega)) | (repeat (first | rfl | assumption | (refine (World.cell?_alloc_past _ _ _ ?_).trans ?_;focus ((try simp only [World.size_setCell,World.size_alloc]);omega)) | (refine (World.cell?_alloc_at _ _ _ _ ?_).trans ?_;focus ((try simp only [World.size_setCell,World.size_alloc]);done)) | (refine (World.cell?_setCell_other _ _ _ _ ?_).trans ?_;focus (simp;done)) | (refine (World.cell?_setCell_other _ _ _ _ ?_).trans ?_;focus (simp;omega)) | (refine World.cell?_setCell_same' _ _ _ ?_;focus (simp;done))))))
   go_enter Tryz.func81,Tryz.ntmps81
   go_wp2_with (first | (go_at_call 113;refine (rotimed_any _ _).mono ?_;rintro e wx ⟨rfl,hgx⟩;try (have hcs:=cells_keep hgx hcs;have hq0:=hcs.1.2;have hq1:=hcs.2.1.2;have hq2:=hcs.2.2.1.2;have hq3:=hcs.2.2.2.1.2;have hq4:=hcs.2.2.2.2.1.2;have hq5:=hcs.2.2.2.2.2.1.2;have hq6:=hcs.2.2.2.2.2.2.1.2;have hq7:=hcs.2.2.2.2.2.2.2.1.2;have hq8:=hcs.2.2.2.2.2.2.2.2.1.2;have hq9:=hcs.2.2.2.2.2.2.2.2.2.1.2;have hq10:=hcs.2.2.2.2.2.2.2.2.2.2.1.2;have hz0:=hcs.1.1)))
   all_goals (go_ret;exact ⟨ret_bool (by (rw [Bool.eq_iff_iff,thB_iff]);(clear hcs);(try clear hq0 hq1 hq2 hq3 hq4 hq5 hq6 hq7 hq8 hq9 hq10 hz0 hgx);cases la <;> (first | (simp [opTimed,bI] at *;done) | (simp [opTimed,bI] at *;omega))),by repeat' (first | (with_reducible exact Below.refl _ _) | (with_reducible assumption) | (with_reducible refine kept_alloc ?_ _) | (with_reducible refine kept_drewN ?_ _) | (with_reducible refine Below.drew ?_) | (with_reducible refine Below.setCell ?_ (by first | omega | (simp;omega) | (simp;done)) _) | (refine kept_trans ?_ (by with_reducible assumption)))⟩)
  ·have d0:(st==0)=false:=by simpa using hs
   have d1:(st != 0)=true:=by simpa using hs
   have hcs:CellsAt (w.alloc (.cells #[.int .i64 st,.int .i64 0,.int .i64 va,.int .i64 un,.int .i64 pc,.int .i64 re,.int .i64 se,.int .i64 tr,.bool la,.int .i64 rs,.int .i64 go] 52)) [(w.heap.size,0,.int .i64 st),(w.heap.size,1,.int .i64 0),(w.heap.size,2,.int .i64 va),(w.heap.size,3,.int .i64 un),(w.heap.size,4,.int .i64 pc),(w.heap.size,5,.int .i64 re),(w.heap.size,6,.int .i64 se),(w.heap.size,7,.int .i64 tr),(w.heap.size,8,.bool la),(w.heap.size,9,.int .i64 rs),(w.heap.size,10,.int .i64 go)]:=by (simp only [CellsAt];(repeat' (first | exact trivial | (refine And.intro ?_ ?_)));all_goals (first | (focus ((try simp only [World.size_setCell,World.size_alloc]);omega)) | (repeat (first | rfl | assumption | (refine (World.cell?_alloc_past _ _ _ ?_).trans ?_;focus ((try simp only [World.size_setCell,World.size_alloc]);omega)) | (refine (World.cell?_alloc_at _ _ _ _ ?_).trans ?_;focus ((try simp only [World.size_setCell,World.size_alloc]);done)) | (refine (World.cell?_setCell_other _ _ _ _ ?_).trans ?_;focus (simp;done)) | (refine (World.cell?_setCell_other _ _ _ _ ?_).trans ?_;focus (simp;omega)) | (refine World.cell?_setCell_same' _ _ _ ?_;focus (simp;done))))))
   go_enter Tryz.func81,Tryz.ntmps81
   go_wp2_with (first | (go_at_call 113;refine (rotimed_any _ _).mono ?_;rintro e wx ⟨rfl,hgx⟩;try (have hcs:=cells_keep hgx hcs;have hq0:=hcs.1.2;have hq1:=hcs.2.1.2;have hq2:=hcs.2.2.1.2;have hq3:=hcs.2.2.2.1.2;have hq4:=hcs.2.2.2.2.1.2;have hq5:=hcs.2.2.2.2.2.1.2;have hq6:=hcs.2.2.2.2.2.2.1.2;have hq7:=hcs.2.2.2.2.2.2.2.1.2;have hq8:=hcs.2.2.2.2.2.2.2.2.1.2;have hq9:=hcs.2.2.2.2.2.2.2.2.2.1.2;have hq10:=hcs.2.2.2.2.2.2.2.2.2.2.1.2;have hz0:=hcs.1.1)))
   all_goals (go_ret;exact ⟨ret_bool (by (rw [Bool.eq_iff_iff,thB_iff]);(clear hcs);(try clear hq0 hq1 hq2 hq3 hq4 hq5 hq6 hq7 hq8 hq9 hq10 hz0 hgx);cases la <;> (first | (simp [opTimed,bI] at *;done) | (simp [opTimed,bI] at *;omega))),by repeat' (first | (with_reducible exact Below.refl _ _) | (with_reducible assumption) | (with_reducible refine kept_alloc ?_ _) | (with_reducible refine kept_drewN ?_ _) | (with_reducible refine Below.drew ?_) | (with_reducible refine Below.setCell ?_ (by first | omega | (simp;omega) | (simp;done)) _) | (refine kept_trans ?_ (by with_reducible assumption)))⟩)
 ·have k0:(ki==0)=false:=by simpa using hk
  have hcs:CellsAt (w.alloc (.cells #[.int .i64 st,.int .i64 ki,.int .i64 va,.int .i64 un,.int .i64 pc,.int .i64 re,.int .i64 se,.int .i64 tr,.bool la,.int .i64 rs,.int .i64 go] 52)) [(w.heap.size,0,.int .i64 st),(w.heap.size,1,.int .i64 ki),(w.heap.size,2,.int .i64 va),(w.heap.size,3,.int .i64 un),(w.heap.size,4,.int .i64 pc),(w.heap.size,5,.int .i64 re),(w.heap.size,6,.int .i64 se),(w.heap.size,7,.int .i64 tr),(w.heap.size,8,.bool la),(w.heap.size,9,.int .i64 rs),(w.heap.size,10,.int .i64 go)]:=by (simp only [CellsAt];(repeat' (first | exact trivial | (refine And.intro ?_ ?_)));all_goals (first | (focus ((try simp only [World.size_setCell,World.size_alloc]);omega)) | (repeat (first | rfl | assumption | (refine (World.cell?_alloc_past _ _ _ ?_).trans ?_;focus ((try simp only [World.size_setCell,World.size_alloc]);omega)) | (refine (World.cell?_alloc_at _ _ _ _ ?_).trans ?_;focus ((try simp only [World.size_setCell,World.size_alloc]);done)) | (refine (World.cell?_setCell_other _ _ _ _ ?_).trans ?_;focus (simp;done)) | (refine (World.cell?_setCell_other _ _ _ _ ?_).trans ?_;focus (simp;omega)) | (refine World.cell?_setCell_same' _ _ _ ?_;focus (simp;done))))))
  go_enter Tryz.func81,Tryz.ntmps81
  go_wp2_with (first | (go_at_call 113;refine (rotimed_any _ _).mono ?_;rintro e wx ⟨rfl,hgx⟩;try (have hcs:=cells_keep hgx hcs;have hq0:=hcs.1.2;have hq1:=hcs.2.1.2;have hq2:=hcs.2.2.1.2;have hq3:=hcs.2.2.2.1.2;have hq4:=hcs.2.2.2.2.1.2;have hq5:=hcs.2.2.2.2.2.1.2;have hq6:=hcs.2.2.2.2.2.2.1.2;have hq7:=hcs.2.2.2.2.2.2.2.1.2;have hq8:=hcs.2.2.2.2.2.2.2.2.1.2;have hq9:=hcs.2.2.2.2.2.2.2.2.2.1.2;have hq10:=hcs.2.2.2.2.2.2.2.2.2.2.1.2;have hz0:=hcs.1.1)))
  all_goals (go_ret;exact ⟨ret_bool (by (rw [Bool.eq_iff_iff,thB_iff]);(clear hcs);(try clear hq0 hq1 hq2 hq3 hq4 hq5 hq6 hq7 hq8 hq9 hq10 hz0 hgx);cases la <;> (first | (simp [opTimed,bI] at *;done) | (simp [opTimed,bI] at *;omega))),by repeat' (first | (with_reducible exact Below.refl _ _) | (with_reducible assumption) | (with_reducible refine kept_alloc ?_ _) | (with_reducible refine kept_drewN ?_ _) | (with_reducible refine Below.drew ?_) | (with_reducible refine Below.setCell ?_ (by first | omega | (simp;omega) | (simp;done)) _) | (refine kept_trans ?_ (by with_reducible assumption)))⟩)
end
section
open Go.RowKit
theorem ac_rroom {c:Cf} {R:Int} (h:cfR c=R):AC Tryz.prog 80 [cfT c] (.int .i64 R):=by
 intro O W vs hl hat ;obtain ⟨ys,rfl,_,_,rfl,h0,rfl⟩:=args_of hat
 rw [rp_cfT] at h0
 subst h0
 refine (rcroom_any c.lg c.th c.po c.wt c.sp c.yi c.si W).mono ?_
 rintro e W' ⟨rfl,hk⟩
 exact ⟨_,rfl,rp_int.2 (by rw [← h];rfl),hk⟩
theorem ac_rchk {h t m r:Int} {b:Bool} (hb:checkB h t m r=b) (hh:In64 h) (ht:In64 t) (hm:In64 m) (hr:In64 r):AC Tryz.prog 82 [wdT h t m,.int .i64 r] (.bool b):=by
 intro O W vs hl hat ;obtain ⟨ys,rfl,_,_,rfl,h0,_,_,rfl,h1,rfl⟩:=args_of hat
 rw [rp_wdT] at h0
 rw [rp_int] at h1
 subst h0 h1
 refine (rcheck_any h t m r hh ht hm hr W).mono ?_
 rintro e W' ⟨rfl,hk⟩
 exact ⟨_,rfl,rp_bool.2 (by rw [← hb,check_ref hr]),hk⟩
theorem ac_rtchk {t:Th} {b:Bool} (h:thB t=b):AC Tryz.prog 81 [thT t] (.bool b):=by
 intro O W vs hl hat ;obtain ⟨ys,rfl,_,_,rfl,h0,rfl⟩:=args_of hat
 rw [rp_thT] at h0
 subst h0
 refine (rtcheck_any W).mono ?_
 rintro e W' ⟨rfl,hk⟩
 exact ⟨_,rfl,rp_bool.2 (by rw [← h]),hk⟩
def hdAm (l:List Int) (m i:Int):Sg:=⟨mkT 20 [(0,rowI l),(1,.int .i64 m),(5,.int .i64 i)],[]⟩
def hdAmN:Sg:=⟨mkT 20 [(4,vD false)],[]⟩
section
variable {l:List Int} {m:Int}
theorem am_yes (hm:l.length≤1000000):∀ (k i:Nat),l.length - i=k→i≤l.length→(l.drop i).any (overB m)=false→LoopP Tryz.prog (loopOf Tryz.prog 85 0) (hdAm l m i) (.exit 0) (hdAm l m l.length)
 | 0,i,hk,hi,_=>by
  have:i=l.length:=by omega
  subst this
  exact loop_end mixed (fuel:=9) (n:=3) (im:=[]) (keep:=[0,1,5]) (ext:=[]) (orc:=[.bool false]) (an (show decide ((l.length:Int)<l.length)=false by simp) trivial) (by intro e;cases e) (by kernel_rfl)
 | k+1,i,hk,hi,he=>by
  have ha:i<l.length:=by omega
  rw [any_at ha,Bool.or_eq_false_iff] at he
  have ih:=am_yes hm k (i+1) (by omega) (by omega) he.2
  rw [show ((i+1:Nat):Int)=(i:Int)+1 by omega] at ih
  exact loop_more mixed (fuel:=9) (n:=3) (im:=[]) (keep:=[0,1,5]) (ext:=[]) (orc:=[.bool true,.int .i64 (gZ l i),.bool false])
   (an (show decide ((i:Int)<l.length)=true by simp;omega)<|an (ixZ' ha)<|an (show decide (m≤gZ l i)=false by rw [gZ_eq ha];exact he.1)<|an (show In64 ((i:Int)+1) by constructor <;> omega) trivial) (by kernel_rfl) ih
theorem am_no (hm:l.length≤1000000):∀ (k i:Nat),l.length - i=k→i≤l.length→(l.drop i).any (overB m)=true→LoopP Tryz.prog (loopOf Tryz.prog 85 0) (hdAm l m i) .ret hdAmN
 | 0,i,hk,hi,he=>absurd he (by rw [List.drop_eq_nil_of_le (by omega)];simp)
 | k+1,i,hk,hi,he=>by
  have ha:i<l.length:=by omega
  rw [any_at ha] at he
  cases h1:overB m l[i]
  ·rw [h1,Bool.false_or] at he
   have ih:=am_no hm k (i+1) (by omega) (by omega) he
   rw [show ((i+1:Nat):Int)=(i:Int)+1 by omega] at ih
   exact loop_more mixed (fuel:=9) (n:=3) (im:=[]) (keep:=[0,1,5]) (ext:=[]) (orc:=[.bool true,.int .i64 (gZ l i),.bool false])
    (an (show decide ((i:Int)<l.length)=true by simp;omega)<|an (ixZ' ha)<|an (show decide (m≤gZ l i)=false by rw [gZ_eq ha];exact h1)<|an (show In64 ((i:Int)+1) by constructor <;> omega) trivial) (by kernel_rfl) ih
  ·exact loop_end mixed (fuel:=9) (n:=3) (im:=[]) (keep:=[4]) (ext:=[]) (orc:=[.bool true,.int .i64 (gZ l i),.bool true])
    (an (show decide ((i:Int)<l.length)=true by simp;omega)<|an (ixZ' ha)<|an (show decide (m≤gZ l i)=true by rw [gZ_eq ha];exact h1) trivial) (by intro e;cases e) (by kernel_rfl)
theorem ac_ramong {b:Bool} (h:stnB m l=b) (hm:l.length≤1000000):AC Tryz.prog 85 [rowI l,.int .i64 m] (.bool b):=by
 subst h
 cases ha:l.any (overB m)
 ·rw [show stnB m l=okLn l by simp [stnB,ha]]
  exact ac_path mixed (ext:=[141]) (fuel:=9) (n:=3) (orc:=[oL [] [0,1,5] 0 [(0,rowI l),(1,.int .i64 m),(5,.int .i64 l.length)] [],.bool (okLn l)]) (an (am_yes hm l.length 0 rfl (by omega) (by simpa using ha))<|an (ac_rlcheck (l:=l) rfl) trivial) (by kernel_rfl)
 ·rw [show stnB m l=false by simp [stnB,ha]]
  exact ac_path mixed (ext:=[141]) (fuel:=9) (n:=3) (orc:=[oL [] [0,1,5] (-1) [(4,vD false)] []]) (an (am_no hm l.length 0 rfl (by omega) (by simpa using ha)) trivial) (by kernel_rfl)
end
def hdCk (s:St) (R i:Int):Sg:=⟨mkT 105 [(1,pt 0),(3,.int .i64 R),(4,.int .i64 i)],[some ⟨true,false,20,1,[stT s]⟩]⟩
def hdCkN:Sg:=⟨mkT 105 [(2,vD false)],[]⟩
theorem not_any {l:List Th} {i:Nat} (h:i<l.length):(l.drop i).any notTh=(!thB (gth l i)||(l.drop (i+1)).any notTh):=by rw [any_at h,gth_eq h];rfl
section
variable {s:St} {R:Int}
theorem ck_yes' (hm:s.th.length≤1000000):∀ (k i:Nat),s.th.length - i=k→i≤s.th.length→(s.th.drop i).any notTh=false→LoopP Tryz.prog (loopOf Tryz.prog 46 0) (hdCk s R i) (.exit 0) (hdCk s R s.th.length)
 | 0,i,hk,hi,_=>by
  have:i=s.th.length:=by omega
  subst this
  exact loop_end mixed (fuel:=9) (n:=3) (im:=[0]) (keep:=[1,3,4]) (ext:=[81]) (orc:=[.bool false]) (an (show decide ((s.th.length:Int)<s.th.length)=false by simp) trivial) (by intro e;cases e) (by kernel_rfl)
 | k+1,i,hk,hi,he=>by
  have ha:i<s.th.length:=by omega
  rw [not_any ha,Bool.or_eq_false_iff] at he
  have ih:=ck_yes' hm k (i+1) (by omega) (by omega) he.2
  rw [show ((i+1:Nat):Int)=(i:Int)+1 by omega] at ih
  exact loop_more mixed (fuel:=9) (n:=3) (im:=[0]) (keep:=[1,3,4]) (ext:=[81]) (orc:=[.bool true,thT (gth s.th i),vD true])
   (an (show decide ((i:Int)<s.th.length)=true by simp;omega)<|an (rowT_el ha)<|an (ac_rtchk (by simpa using he.1))<|an (show In64 ((i:Int)+1) by constructor <;> omega) trivial) (by kernel_rfl) ih
theorem ck_no' (hm:s.th.length≤1000000):∀ (k i:Nat),s.th.length - i=k→i≤s.th.length→(s.th.drop i).any notTh=true→LoopP Tryz.prog (loopOf Tryz.prog 46 0) (hdCk s R i) .ret hdCkN
 | 0,i,hk,hi,he=>absurd he (by rw [List.drop_eq_nil_of_le (by omega)];simp)
 | k+1,i,hk,hi,he=>by
  have ha:i<s.th.length:=by omega
  rw [not_any ha] at he
  cases h1:thB (gth s.th i)
  ·exact loop_end mixed (fuel:=9) (n:=3) (im:=[]) (keep:=[2]) (ext:=[81]) (orc:=[.bool true,thT (gth s.th i),vD false])
    (an (show decide ((i:Int)<s.th.length)=true by simp;omega)<|an (rowT_el ha)<|an (ac_rtchk h1) trivial) (by intro e;cases e) (by kernel_rfl)
  ·rw [h1,Bool.not_true,Bool.false_or] at he
   have ih:=ck_no' hm k (i+1) (by omega) (by omega) he
   rw [show ((i+1:Nat):Int)=(i:Int)+1 by omega] at ih
   exact loop_more mixed (fuel:=9) (n:=3) (im:=[0]) (keep:=[1,3,4]) (ext:=[81]) (orc:=[.bool true,thT (gth s.th i),vD true])
    (an (show decide ((i:Int)<s.th.length)=true by simp;omega)<|an (rowT_el ha)<|an (ac_rtchk h1)<|an (show In64 ((i:Int)+1) by constructor <;> omega) trivial) (by kernel_rfl) ih
end
theorem st_no_room {s:St} (h:cfR s.cf=0):stB s=false:=by
 cases hb:stB s
 ·rfl
 ·have:=cf_room (st_iff.1 hb).1;omega
theorem st_no_len {s:St} (h:¬ (s.sl.length:Int)=cfR s.cf):stB s=false:=by simp [stB,ringSt,h]
theorem st_no_ths {s:St} (h:¬ (s.th.length:Int)=s.cf.th):stB s=false:=by simp [stB,thsSt,h]
theorem st_no_lo {s:St} (h:s.nw<0):stB s=false:=by simp [stB];omega
theorem st_no_hi {s:St} (h:1099511627776<s.nw):stB s=false:=by simp [stB];omega
theorem st_no_any {s:St} (h:s.th.any notTh=true):stB s=false:=by simp [stB,thsSt,h]
theorem st_all {s:St} {R:Int} (hR:cfR s.cf=R) (h0:¬ R=0) (h1:(s.sl.length:Int)=R) (h2:(s.th.length:Int)=s.cf.th) (h3:¬ s.nw<0) (h4:¬ 1099511627776<s.nw) (h5:s.th.any notTh=false) :
  stB s=(checkB s.hd s.tl s.md R&&(okSl s.sl&&(okE s.fe s.fl&&(okE s.ee s.el&&(stnB s.cf.th s.sn&&(stnB s.cf.th s.rc&&(stnB s.cf.th s.fl&&stnB s.cf.th s.el))))))):=by
 have hc:cfB s.cf=true:=by
  cases hb:cfB s.cf
  ·exact absurd (hR ▸ (room_no hb:cfR s.cf=0)) h0
  ·rfl
 have h6:decide (0≤s.nw)=true:=by simpa using h3
 have h7:decide (s.nw≤1099511627776)=true:=by simpa using h4
 unfold stB ringSt lnsSt thsSt
 rw [hc,hR,h1,h2,h5,h6,h7]
 cases checkB s.hd s.tl s.md R <;> cases okSl s.sl <;> cases okE s.fe s.fl <;> cases okE s.ee s.el <;> simp
def qkE:List FuncId:=[80,82,83,84,81,85]
def qkN (k:Nat):List Value:=List.replicate k (.bool false)
def qkY (R:Int) (k:Nat):List Value:=.int .i64 R::(qkN k++[.bool true])
def qkP (s:St) (R:Int):List Value:=.int .i64 R::(qkN 5++[oL [0] [1,3,4] 0 [(1,pt 0),(3,.int .i64 R),(4,.int .i64 s.th.length)] [some ⟨true,false,20,1,[stT s]⟩]])
abbrev Qk (s:St) (b:Bool):Prop:=AC Tryz.prog 46 [stT s] (.bool b)
section
variable {s:St} {R:Int} (hR:cfR s.cf=R)
include hR
theorem rck_1 (h0:(R==0)=true):Qk s false:=ac_path mixed (ext:=qkE) (fuel:=9) (n:=4) (orc:=qkY R 0) (an (ac_rroom hR)<|an h0 trivial) (by kernel_rfl)
variable (h0:(R==0)=false)
include h0
theorem rck_2 (h1:((s.sl.length:Int) != R)=true):Qk s false:=ac_path mixed (ext:=qkE) (fuel:=9) (n:=4) (orc:=qkY R 1) (an (ac_rroom hR)<|an h0<|an h1 trivial) (by kernel_rfl)
variable (h1:((s.sl.length:Int) != R)=false)
include h1
theorem rck_3 (h2:((s.th.length:Int) != s.cf.th)=true):Qk s false:=ac_path mixed (ext:=qkE) (fuel:=9) (n:=4) (orc:=qkY R 2) (an (ac_rroom hR)<|an h0<|an h1<|an h2 trivial) (by kernel_rfl)
variable (h2:((s.th.length:Int) != s.cf.th)=false)
include h2
theorem rck_4 (h3:decide (s.nw<0)=true):Qk s false:=ac_path mixed (ext:=qkE) (fuel:=9) (n:=4) (orc:=qkY R 3) (an (ac_rroom hR)<|an h0<|an h1<|an h2<|an h3 trivial) (by kernel_rfl)
variable (h3:decide (s.nw<0)=false)
include h3
theorem rck_5 (h4:decide (1099511627776<s.nw)=true):Qk s false:=ac_path mixed (ext:=qkE) (fuel:=9) (n:=4) (orc:=qkY R 4) (an (ac_rroom hR)<|an h0<|an h1<|an h2<|an h3<|an h4 trivial) (by kernel_rfl)
variable (h4:decide (1099511627776<s.nw)=false) (hm:s.th.length≤1000000)
include h4 hm
theorem rck_6 (h5:s.th.any notTh=true):Qk s false:=ac_path mixed (ext:=qkE) (fuel:=9) (n:=4) (orc:=.int .i64 R::(qkN 5++[oL [0] [1,3,4] (-1) [(2,vD false)] []]))
 (an (ac_rroom hR)<|an h0<|an h1<|an h2<|an h3<|an h4<|an (ck_no' (R:=R) hm s.th.length 0 rfl (by omega) (by simpa using h5)) trivial) (by kernel_rfl)
theorem rck_7 (h5:s.th.any notTh=false) {B:Prop} (b:B):AC Tryz.prog 80 [cfT s.cf] (.int .i64 R)∧(R==0)=false∧((s.sl.length:Int) != R)=false∧((s.th.length:Int) != s.cf.th)=false∧decide (s.nw<0)=false∧decide (1099511627776<s.nw)=false ∧
  LoopP Tryz.prog (loopOf Tryz.prog 46 0) (hdCk s R (0:Nat)) (.exit 0) (hdCk s R s.th.length)∧B :=
 an (ac_rroom hR)<|an h0<|an h1<|an h2<|an h3<|an h4<|an (ck_yes' (R:=R) hm s.th.length 0 rfl (by omega) (by simpa using h5)) b
end
theorem ac_rcheck {s:St} {b:Bool} (h:stB s=b) (ho:s.ok) (hw:s.few):AC Tryz.prog 46 [stT s] (.bool b):=by
 subst h
 obtain ⟨R,hR⟩:∃ R,cfR s.cf=R:=⟨_,rfl⟩
 have hRi:In64 R:=hR ▸ room_in s.cf
 have hm:s.th.length≤1000000:=by have:=hw.th;omega
 by_cases h0:R=0
 ·rw [st_no_room (hR.trans h0)];exact rck_1 hR (by simpa using h0)
 have d0:(R==0)=false:=by simpa using h0
 by_cases h1:(s.sl.length:Int)=R
 case neg=>rw [st_no_len (by rw [hR];exact h1)];exact rck_2 hR d0 (by simpa using h1)
 have d1:((s.sl.length:Int) != R)=false:=by simpa using h1
 by_cases h2:(s.th.length:Int)=s.cf.th
 case neg=>rw [st_no_ths h2];exact rck_3 hR d0 d1 (by simpa using h2)
 have d2:((s.th.length:Int) != s.cf.th)=false:=by simpa using h2
 by_cases h3:s.nw<0
 ·rw [st_no_lo h3];exact rck_4 hR d0 d1 d2 (by simpa using h3)
 have d3:decide (s.nw<0)=false:=by simpa using h3
 by_cases h4:1099511627776<s.nw
 ·rw [st_no_hi h4];exact rck_5 hR d0 d1 d2 d3 (by simpa using h4)
 have d4:decide (1099511627776<s.nw)=false:=by simpa using h4
 cases h5:s.th.any notTh
 case true=>rw [st_no_any h5];exact rck_6 hR d0 d1 d2 d3 d4 hm h5
 rw [st_all hR h0 h1 h2 h3 h4 h5]
 have a1:=fun {b:Bool} (e:checkB s.hd s.tl s.md R=b)=>ac_rchk e ho.hd ho.tl ho.md hRi
 have a2:=fun {b:Bool} (e:okSl s.sl=b)=>ac_rscheck e hw.sl
 have a3:=fun {b:Bool} (e:okE s.fe s.fl=b)=>ac_recheck e
 have a4:=fun {b:Bool} (e:okE s.ee s.el=b)=>ac_recheck e
 have a5:=fun {b:Bool} (e:stnB s.cf.th s.sn=b)=>ac_ramong e (by have:=hw.sn;omega)
 have a6:=fun {b:Bool} (e:stnB s.cf.th s.rc=b)=>ac_ramong e (by have:=hw.rc;omega)
 have a7:=fun {b:Bool} (e:stnB s.cf.th s.fl=b)=>ac_ramong e (by have:=hw.fl;omega)
 have a8:=fun {b:Bool} (e:stnB s.cf.th s.el=b)=>ac_ramong e (by have:=hw.el;omega)
 cases e1:checkB s.hd s.tl s.md R
 ·cases e3:okE s.fe s.fl
  ·exact ac_path mixed (ext:=qkE) (fuel:=9) (n:=4) (orc:=qkP s R++[vD false,vD false]) (rck_7 hR d0 d1 d2 d3 d4 hm h5 (an (a1 e1)<|an (a3 e3)<|trivial)) (by kernel_rfl)
  ·cases e4:okE s.ee s.el
   ·exact ac_path mixed (ext:=qkE) (fuel:=9) (n:=4) (orc:=qkP s R++[vD false,vD true,vD false]) (rck_7 hR d0 d1 d2 d3 d4 hm h5 (an (a1 e1)<|an (a3 e3)<|an (a4 e4)<|trivial)) (by kernel_rfl)
   ·exact ac_path mixed (ext:=qkE) (fuel:=9) (n:=4) (orc:=qkP s R++[vD false,vD true,vD true]) (rck_7 hR d0 d1 d2 d3 d4 hm h5 (an (a1 e1)<|an (a3 e3)<|an (a4 e4)<|trivial)) (by kernel_rfl)
 ·cases e2:okSl s.sl
  ·cases e3:okE s.fe s.fl
   ·exact ac_path mixed (ext:=qkE) (fuel:=9) (n:=4) (orc:=qkP s R++[vD true,vD false,vD false]) (rck_7 hR d0 d1 d2 d3 d4 hm h5 (an (a1 e1)<|an (a2 e2)<|an (a3 e3)<|trivial)) (by kernel_rfl)
   ·cases e4:okE s.ee s.el
    ·exact ac_path mixed (ext:=qkE) (fuel:=9) (n:=4) (orc:=qkP s R++[vD true,vD false,vD true,vD false]) (rck_7 hR d0 d1 d2 d3 d4 hm h5 (an (a1 e1)<|an (a2 e2)<|an (a3 e3)<|an (a4 e4)<|trivial)) (by kernel_rfl)
    ·exact ac_path mixed (ext:=qkE) (fuel:=9) (n:=4) (orc:=qkP s R++[vD true,vD false,vD true,vD true]) (rck_7 hR d0 d1 d2 d3 d4 hm h5 (an (a1 e1)<|an (a2 e2)<|an (a3 e3)<|an (a4 e4)<|trivial)) (by kernel_rfl)
  ·cases e3:okE s.fe s.fl
   ·exact ac_path mixed (ext:=qkE) (fuel:=9) (n:=4) (orc:=qkP s R++[vD true,vD true,vD false]) (rck_7 hR d0 d1 d2 d3 d4 hm h5 (an (a1 e1)<|an (a2 e2)<|an (a3 e3)<|trivial)) (by kernel_rfl)
   ·cases e4:okE s.ee s.el
    ·exact ac_path mixed (ext:=qkE) (fuel:=9) (n:=4) (orc:=qkP s R++[vD true,vD true,vD true,vD false]) (rck_7 hR d0 d1 d2 d3 d4 hm h5 (an (a1 e1)<|an (a2 e2)<|an (a3 e3)<|an (a4 e4)<|trivial)) (by kernel_rfl)
    ·cases e5:stnB s.cf.th s.sn
     ·exact ac_path mixed (ext:=qkE) (fuel:=9) (n:=4) (orc:=qkP s R++[vD true,vD true,vD true,vD true,vD false]) (rck_7 hR d0 d1 d2 d3 d4 hm h5 (an (a1 e1)<|an (a2 e2)<|an (a3 e3)<|an (a4 e4)<|an (a5 e5)<|trivial)) (by kernel_rfl)
     ·cases e6:stnB s.cf.th s.rc
      ·exact ac_path mixed (ext:=qkE) (fuel:=9) (n:=4) (orc:=qkP s R++[vD true,vD true,vD true,vD true,vD true,vD false]) (rck_7 hR d0 d1 d2 d3 d4 hm h5 (an (a1 e1)<|an (a2 e2)<|an (a3 e3)<|an (a4 e4)<|an (a5 e5)<|an (a6 e6)<|trivial)) (by kernel_rfl)
      ·cases e7:stnB s.cf.th s.fl
       ·exact ac_path mixed (ext:=qkE) (fuel:=9) (n:=4) (orc:=qkP s R++[vD true,vD true,vD true,vD true,vD true,vD true,vD false]) (rck_7 hR d0 d1 d2 d3 d4 hm h5 (an (a1 e1)<|an (a2 e2)<|an (a3 e3)<|an (a4 e4)<|an (a5 e5)<|an (a6 e6)<|an (a7 e7)<|trivial)) (by kernel_rfl)
       ·cases e8:stnB s.cf.th s.el
        ·exact ac_path mixed (ext:=qkE) (fuel:=9) (n:=4) (orc:=qkP s R++[vD true,vD true,vD true,vD true,vD true,vD true,vD true,vD false]) (rck_7 hR d0 d1 d2 d3 d4 hm h5 (an (a1 e1)<|an (a2 e2)<|an (a3 e3)<|an (a4 e4)<|an (a5 e5)<|an (a6 e6)<|an (a7 e7)<|an (a8 e8)<|trivial)) (by kernel_rfl)
        ·exact ac_path mixed (ext:=qkE) (fuel:=9) (n:=4) (orc:=qkP s R++[vD true,vD true,vD true,vD true,vD true,vD true,vD true,vD true]) (rck_7 hR d0 d1 d2 d3 d4 hm h5 (an (a1 e1)<|an (a2 e2)<|an (a3 e3)<|an (a4 e4)<|an (a5 e5)<|an (a6 e6)<|an (a7 e7)<|an (a8 e8)<|trivial)) (by kernel_rfl)
end
section
open Go.RowKit
theorem setSl (l:List Slo) (k:Nat) (x:Slo):(l.set k x).map slT=(l.map slT).set (0+(k:Int).toNat) (slT x):=by simp [List.map_set]
theorem elSl {k:Nat} {l:List Slo} (h:k<l.length):ElP (l.map slT) (0+(k:Int).toNat) (slT (gs l k)):=by simp [ElP,gs_eq h,h]
theorem lenSl (l:List Slo) (k:Nat) (x:Slo):LenP l.length (l.set k x).length ((l.set k x).map slT):=⟨by simp,by simp⟩
theorem idSl {k:Nat} {l:List Slo} (h:k<l.length):0≤(k:Int)∧(k:Int).toNat<l.length:=⟨by omega,by simpa using h⟩
theorem ixSl {k:Nat} {l:List Slo} (h:k<l.length):IxP ((l.map slT).toArray) (k:Int) (slT (gs l k)):=⟨by omega,by simp [gs_eq h,h]⟩
theorem ac_rwrite {l:List Slo} {q v:Int} (hok:okSl l=true) (h0:0≤q) (hq:In64 q):AC Tryz.prog 91 [rowS l,.int .i64 q,.int .i64 v] (.tuple #[rowS (wrL l q v),.int .i64 (wrE l q)]):=by
 have hl:=(ok_iff.1 hok).1
 have hli:liesS l q=true:=by simp [liesS,h0,hok]
 cases h:rdyB l q
 ·rw [show wrL l q v=l by simp [wrL,h],show wrE l q=30 by simp [wrE,h,hli]]
  exact ac_path mixed (ext:=[83,148,140]) (fuel:=9) (n:=5) (orc:=[vD true,.bool false,vD false])
   (an (ac_rscheck hok (by omega))<|an (show decide (q<0)=false by simp;omega)<|an (ac_rsready h (by omega) hq) trivial) (by kernel_rfl)
 ·obtain ⟨hp,hpl⟩:=plc_lt hli
  rw [show wrL l q v=l.set (plc l q) ⟨q,v⟩ by simp [wrL,h],show wrE l q=0 by simp [wrE,h,hli]]
  exact ac_path mixed (ext:=[83,148,140]) (fuel:=9) (n:=5) (orc:=[vD true,.bool false,vD true,rowS l,.int .i64 (plc l q),slT (gs l (plc l q)),rowS (l.set (plc l q) ⟨q,v⟩)])
   (an (ac_rscheck hok (by omega))<|an (show decide (q<0)=false by simp;omega)<|an (ac_rsready h (by omega) hq)<|an (allK_S l)<|an (rfl:(0:Nat)=0)<|an (app_e (f:=slT) (l:=l) (by omega)) <|
    an (ac_rplc hpl hq (by constructor <;> omega))<|an (idSl hp)<|an (elSl hp)<|an (setSl l (plc l q) ⟨q,v⟩)<|an (lenSl l (plc l q) ⟨q,v⟩) trivial) (by kernel_rfl)
theorem ac_rrelease {l:List Slo} {q:Int} (hok:okSl l=true) (h0:0≤q) (hq:In64 q):AC Tryz.prog 101 [rowS l,.int .i64 q] (.tuple #[rowS (rlL l q),.int .i64 (rlE l q)]):=by
 have hl:=(ok_iff.1 hok).1
 have hli:liesS l q=true:=by simp [liesS,h0,hok]
 cases h:rdyB l q
 ·rw [show rlL l q=l by simp [rlL,rlB,h],show rlE l q=40 by simp [rlE,rlB,h]]
  exact ac_path mixed (ext:=[105,148,140]) (fuel:=9) (n:=5) (orc:=[vD false]) (an (ac_rsready h (by omega) hq) trivial) (by kernel_rfl)
 ·by_cases hm:1099511627776<q
  ·have hb:rlB l q=false:=by simp [rlB];omega
   rw [show rlL l q=l by simp [rlL,hb],show rlE l q=40 by simp [rlE,hb]]
   exact ac_path mixed (ext:=[105,148,140]) (fuel:=9) (n:=5) (orc:=[vD true,.bool true]) (an (ac_rsready h (by omega) hq)<|an (show decide (1099511627776<q)=true by simp [hm]) trivial) (by kernel_rfl)
  ·have hb:rlB l q=true:=by simp [rlB,h];omega
   obtain ⟨hp,hpl⟩:=plc_lt hli
   rw [show rlL l q=l.set (plc l q) ⟨q+l.length,(gs l (plc l q)).vl⟩ by simp [rlL,hb],show rlE l q=0 by simp [rlE,hb]]
   exact ac_path mixed (ext:=[105,148,140]) (fuel:=9) (n:=5) (orc:=[vD true,.bool false,.tuple #[.int .i64 (gs l (plc l q)).vl,.int .i64 0],rowS l,.int .i64 (plc l q),slT (gs l (plc l q)),rowS (l.set (plc l q) ⟨q+l.length,(gs l (plc l q)).vl⟩)])
    (an (ac_rsready h (by omega) hq)<|an (show decide (1099511627776<q)=false by simp;omega)<|an (show AC Tryz.prog 105 [rowS l,.int .i64 q] (.tuple #[.int .i64 (gs l (plc l q)).vl,.int .i64 0]) by
      have:=ac_rsread l q (by omega) hq
      rw [show rdV l q=(gs l (plc l q)).vl by simp [rdV,h],show rdE l q=0 by simp [rdE,h]] at this
      exact this) <|
     an (show In64 (q+l.length) by constructor <;> omega)<|an (allK_S l)<|an (rfl:(0:Nat)=0)<|an (app_e (f:=slT) (l:=l) (by omega)) <|
     an (ac_rplc hpl hq (by constructor <;> omega))<|an (idSl hp)<|an (elSl hp)<|an (setSl l (plc l q) ⟨q+l.length,(gs l (plc l q)).vl⟩)<|an (lenSl l (plc l q) ⟨q+l.length,(gs l (plc l q)).vl⟩) trivial) (by kernel_rfl)
theorem ac_ris {s:St} {i:Int} {b:Bool} (h:hasB s i=b) (ho:s.ok) (hw:s.few):AC Tryz.prog 142 [stT s,.int .i64 i] (.bool b):=by
 subst h
 cases hB:stB s
 ·rw [show hasB s i=false by simp [hasB,hB]]
  exact ac_path mixed (ext:=[46]) (fuel:=9) (n:=3) (orc:=[vD false]) (an (ac_rcheck hB ho hw) trivial) (by kernel_rfl)
 ·by_cases h0:0≤i
  ·have e:hasB s i=decide (i<s.th.length):=by simp [hasB,hB,h0]
   rw [e]
   exact ac_path mixed (ext:=[46]) (fuel:=9) (n:=3) (orc:=[vD true,.bool true]) (an (ac_rcheck hB ho hw)<|an (show decide (0≤i)=true by simp [h0]) trivial) (by kernel_rfl)
  ·rw [show hasB s i=false by simp [hasB,h0]]
   exact ac_path mixed (ext:=[46]) (fuel:=9) (n:=3) (orc:=[vD true,.bool false]) (an (ac_rcheck hB ho hw)<|an (show decide (0≤i)=false by simp [h0]) trivial) (by kernel_rfl)
theorem ac_rtell {s:St} {n:Nat} {k r g:Int} (hA:hasB s n=true) (ho:s.ok) (hw:s.few):AC Tryz.prog 157 [stT s,.int .i64 n,.int .i64 k,.int .i64 r,.int .i64 g] (stT (tellS s n k r g)):=by
 have hn:=has_lt hA
 have hlg:=hw.lg
 rw [tell_is hA]
 by_cases hk:k=9
 ·rw [show tellT (gth s.th n) k r g=gth s.th n by unfold tellT;rw [if_pos hk]]
  exact ac_path mixed (ext:=[142,56]) (fuel:=9) (n:=3) (orc:=[vD true,thT (gth s.th n),.bool false,stT (s.setTh n (gth s.th n)),rowE s.lg,rowE (s.lg++[tlE s n k r g])])
   (an (ac_ris hA ho hw)<|an (ixT hn)<|an (show (k != 9)=false by simp [hk])<|an (ac_rwith s n (gth s.th n) hn hw.th)<|an (allK_E s.lg)<|an (rfl:(0:Nat)=0)<|an (app_e (f:=enT) (l:=s.lg) (by omega))<|an (rfl:(1:Nat)=1)<|an (allK_1 (tlE s n k r g))<|an (lenE s.lg) <|
    an (app_is (f:=enT) (l:=s.lg) (m:=[tlE s n k r g]) rfl (by simp;omega))<|an (lenA s.lg (tlE s n k r g)) trivial) (by kernel_rfl)
 ·rw [show tellT (gth s.th n) k r g=rgT (gth s.th n) r g by unfold tellT;rw [if_neg hk];rfl]
  exact ac_path mixed (ext:=[142,56]) (fuel:=9) (n:=3) (orc:=[vD true,thT (gth s.th n),.bool true,stT (s.setTh n (rgT (gth s.th n) r g)),rowE s.lg,rowE (s.lg++[tlE s n k r g])])
   (an (ac_ris hA ho hw)<|an (ixT hn)<|an (show (k != 9)=true by simp [hk])<|an (ac_rwith s n (rgT (gth s.th n) r g) hn hw.th)<|an (allK_E s.lg)<|an (rfl:(0:Nat)=0)<|an (app_e (f:=enT) (l:=s.lg) (by omega))<|an (rfl:(1:Nat)=1)<|an (allK_1 (tlE s n k r g))<|an (lenE s.lg) <|
    an (app_is (f:=enT) (l:=s.lg) (m:=[tlE s n k r g]) rfl (by simp;omega))<|an (lenA s.lg (tlE s n k r g)) trivial) (by kernel_rfl)
theorem ac_rwake {s:St} {n:Nat} (hA:hasB s n=true) (ho:s.ok) (hw:s.few):AC Tryz.prog 95 [stT s,.int .i64 n] (stT (s.onTh n wakeT)) :=
 ac_path mixed (ext:=[142,56,152]) (fuel:=9) (n:=3) (orc:=[vD true,thT (gth s.th n),thT (wakeT (gth s.th n)),stT (s.onTh n wakeT)])
  (an (ac_ris hA ho hw)<|an (ixT (has_lt hA))<|an (ac_rtwake (gth s.th n))<|an (ac_rwith s n (wakeT (gth s.th n)) (has_lt hA) hw.th) trivial) (by kernel_rfl)
theorem ac_rvalue {s:St} {p:Int} (hB:stB s=true) (h0:0≤p) (hp:In64 p) (ho:s.ok) (hw:s.few):AC Tryz.prog 155 [stT s,.int .i64 p] (.int .i64 (valV s p)):=by
 have hli:liesS s.sl p=true:=by simp [liesS,h0,(word_ok hB).2.1]
 obtain ⟨hpl,hpe⟩:=plc_lt hli
 rw [show valV s p=(gs s.sl (plc s.sl p)).vl by unfold valV;rw [if_neg (by omega),if_pos hB];rfl]
 exact ac_path mixed (ext:=[46,140]) (fuel:=9) (n:=3) (orc:=[vD true,.bool false,.int .i64 (plc s.sl p),slT (gs s.sl (plc s.sl p))])
  (an (ac_rcheck hB ho hw)<|an (show decide (p<0)=false by simp;omega)<|an (ac_rplc hpe hp (by have:=hw.sl;constructor <;> omega))<|an (ixSl hpl) trivial) (by kernel_rfl)
theorem ac_rruns {s:St} {i d:Int} {b:Bool} (h:runsB s i d=b) (ho:s.ok) (hw:s.few):AC Tryz.prog 86 [stT s,.int .i64 i,.int .i64 d] (.bool b):=by
 subst h
 cases hA:hasB s i
 ·rw [show runsB s i d=false by simp [runsB,hA]]
  exact ac_path mixed (ext:=[142,48]) (fuel:=9) (n:=3) (orc:=[vD false]) (an (ac_ris hA ho hw) trivial) (by kernel_rfl)
 ·obtain ⟨hB,h0,h1⟩:=has_iff.1 hA
  obtain ⟨n,rfl⟩:∃ n:Nat,i=n:=⟨i.toNat,by omega⟩
  have hn:n<s.th.length:=by omega
  by_cases hs:(gth s.th n).st=1
  ·rw [show runsB s n d=(opSide (gth s.th n).ki==d) by simp [runsB,hA,hs]]
   exact ac_path mixed (ext:=[142,48]) (fuel:=9) (n:=3) (orc:=[vD true,thT (gth s.th n),.bool true,.int .i64 (opSide (gth s.th n).ki)])
    (an (ac_ris hA ho hw)<|an (ixT hn)<|an (show ((gth s.th n).st==1)=true by simp [hs])<|an (ac_rside (k:=(gth s.th n).ki) rfl) trivial) (by kernel_rfl)
  ·rw [show runsB s n d=false by simp [runsB,hs]]
   exact ac_path mixed (ext:=[142,48]) (fuel:=9) (n:=3) (orc:=[vD true,thT (gth s.th n),.bool false])
    (an (ac_ris hA ho hw)<|an (ixT hn)<|an (show ((gth s.th n).st==1)=false by simp [hs]) trivial) (by kernel_rfl)
end
end Go.Proofs.YtbckpadeamlidaaGreat
