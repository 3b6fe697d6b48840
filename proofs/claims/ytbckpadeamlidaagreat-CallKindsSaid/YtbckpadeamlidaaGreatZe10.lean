/- Texts merged: AcLT, AcMT, AcNT, RcWT, SdPT, SdQT, RecvFT, RcLT, RecvVT, RcMT, CloseFT, CcAT. -/
import Derived.Test.YtbckpadeamlidaaGreatZe9
import Derived.Test.YtbckpadeamlidaaGreatZe8
import Derived.Test.YtbckpadeamlidaaGreatZe5
namespace Go.Proofs.YtbckpadeamlidaaGreat
set_option linter.unusedVariables false
set_option linter.unusedSimpArgs false
set_option maxRecDepth 100000
section
open Go.RowKit
structure Dn (s:St) (n:Nat) (c:Int):Prop where
 ck:stB s=true
 ok:s.ok
 few:s.few
 hn:n<s.th.length
 st:(gth s.th n).st=1
 sd:opSide (gth s.th n).ki=1
 pc:(gth s.th n).pc=c
def upT (t:Th) (c:Int):Th:=⟨t.st,t.ki,t.va,t.un,c,t.re,t.se,t.tr+1,t.la,t.rs,t.go⟩
section
variable {s:St} {n:Nat} {c:Int}
theorem Dn.ht (h:Dn s n c):gth s.th n=pcT (gth s.th n) c:=by rw [← h.pc];rfl
theorem Dn.ix (h:Dn s n c):IxP ((s.th.map thT).toArray) (n:Int) (thT (pcT (gth s.th n) c)):=by
 have:=ixT h.hn
 rw [h.ht] at this
 exact this
theorem Dn.has (h:Dn s n c):hasB s n=true:=has_of h.ck h.hn
theorem Dn.ru (h:Dn s n c):runsB s n 1=true:=runs_iff.2 ⟨h.has,by simpa using h.st,by simpa using h.sd⟩
theorem Dn.rs (h:Dn s n c):thRuns (gth s.th n).st=0:=by rw [h.st];rfl
theorem Dn.lsn (h:Dn s n c):okLn s.sn=true:=(stn_iff.1 (full_lines h.ck).1).1
theorem Dn.i15 (h:Dn s n c):(0:Int)≤n∧(n:Int)≤15:=(ok_th h.ck h.hn).2
theorem Dn.ful (h:Dn s n c):okE s.fe s.fl=true:=(full_lines h.ck).2.2.2.2.1
theorem Dn.emp (h:Dn s n c):okE s.ee s.el=true:=(full_lines h.ck).2.2.2.2.2
theorem Dn.sl (h:Dn s n c):okSl s.sl=true:=(word_ok h.ck).2.1
theorem Dn.bd (h:Dn s n c):0≤(gth s.th n).re∧(gth s.th n).re≤1099511627776∧0≤(gth s.th n).tr∧(gth s.th n).tr≤1099511627776:=by
 have h1:=gth_ok h.ck h.hn
 generalize gth s.th n=t at h1
 obtain ⟨st,ki,va,un,pc,re,se,tr,la,rs,go⟩:=t
 rw [thB_iff] at h1
 simp only
 omega
theorem Dn.re0 (h:Dn s n c):0≤(gth s.th n).re:=h.bd.1
theorem Dn.rei (h:Dn s n c):In64 (gth s.th n).re:=by have:=h.bd;constructor <;> omega
theorem Dn.tr1 (h:Dn s n c) (_hr:decide ((gth s.th n).tr<1099511627776)=true):In64 ((gth s.th n).tr+1):=by have:=h.bd;constructor <;> omega
theorem Dn.onw (h:Dn s n c) (hr:decide ((gth s.th n).tr<1099511627776)=true):AC Tryz.prog 56 [stT s,.int .i64 n,thT (upT (gth s.th n) c)] (stT (s.onTh n onT)):=by
 have e:s.onTh n onT=s.setTh n (upT (gth s.th n) c):=by
  unfold St.onTh onT upT
  rw [if_pos (of_decide_eq_true hr),h.pc]
 rw [e]
 exact ac_rwith s n (upT (gth s.th n) c) h.hn h.few.th
theorem Dn.onx (h:Dn s n c) (hr:decide ((gth s.th n).tr<1099511627776)=false):AC Tryz.prog 56 [stT s,.int .i64 n,thT (pcT (gth s.th n) c)] (stT (s.onTh n onT)):=by
 have e:s.onTh n onT=s.setTh n (pcT (gth s.th n) c):=by
  unfold St.onTh onT pcT
  rw [if_neg (of_decide_eq_false hr),h.pc]
 rw [e]
 exact ac_rwith s n (pcT (gth s.th n) c) h.hn h.few.th
theorem Dn.len (h:Dn s n c):In64 (s.sl.length:Int):=by have:=h.few.sl;constructor <;> omega
theorem Dn.see {r:Int} (h:Dn s n c) (hs:seesS s=r):AC Tryz.prog 150 [wdT s.hd s.tl s.md,.int .i64 s.sl.length] (.tuple #[wdT s.hd (acT s.hd s.tl s.md s.sl.length) s.md,.int .i64 (acP s.hd s.tl s.md s.sl.length),.int .i64 r]):=hs ▸ ac_raccept s.hd s.tl s.md s.sl.length h.ok.hd h.ok.tl h.ok.md h.len
theorem Dn.nx {v:Int} (_h:Dn s n c) (hn:waySt s (gth s.th n).tr=v):AC Tryz.prog 158 [cfT s.cf,.int .i64 (gth s.th n).tr] (.int .i64 v):=by subst hn;exact ac_rnext s.cf (gth s.th n).tr
theorem Dn.evi {b:Bool} (h:Dn s n c) (hb:evwB s.hd s.tl s.md s.sl.length (gth s.th n).re=b):AC Tryz.prog 156 [wdT s.hd s.tl s.md,.int .i64 s.sl.length,.int .i64 (gth s.th n).re] (.tuple #[wdT (evH s.hd s.tl s.md s.sl.length (gth s.th n).re) s.tl s.md,.bool b]):=ac_revict hb h.ok.hd h.ok.tl h.ok.md h.len h.rei
theorem Dn.com (h:Dn s n c) (hb:cmB s.fe s.fl (gth s.th n).se n=true):AC Tryz.prog 153 [evT s.fe s.fl,.int .i64 (gth s.th n).se,.int .i64 n] (.tuple #[evT s.fe (s.fl++[(n:Int)]),.bool true,.int .i64 (entE s.fl n)]):=by
 have:=ac_rcommit hb h.ful h.i15
 rw [show cmL s.fe s.fl (gth s.th n).se n=s.fl++[(n:Int)] by unfold cmL;rw [if_pos hb]] at this
 exact this
theorem Dn.con (h:Dn s n c) (hb:cmB s.fe s.fl (gth s.th n).se n=false):AC Tryz.prog 153 [evT s.fe s.fl,.int .i64 (gth s.th n).se,.int .i64 n] (.tuple #[evT s.fe s.fl,.bool false,.int .i64 (entE s.fl n)]):=by
 have:=ac_rcommit hb h.ful h.i15
 rw [show cmL s.fe s.fl (gth s.th n).se n=s.fl by unfold cmL;rw [hb];rfl] at this
 exact this
theorem Dn.few3 (h:Dn s n c):(s.toWord s.hd (s.tl+1) s.md).few:=⟨h.few.sl,h.few.sn,h.few.rc,h.few.fl,h.few.el,h.few.th,h.few.lg⟩
theorem Dn.few10 (h:Dn s n c):(s.toWord (s.hd+1) s.tl s.md).few:=⟨h.few.sl,h.few.sn,h.few.rc,h.few.fl,h.few.el,h.few.th,h.few.lg⟩
theorem park_of8 {t:Th} (h:thRuns t.st=0):thPark (pcT t 8) 2 0 (parkT t 2):=park_of h
theorem ds_enter (h:Dn s n 0)  : AC Tryz.prog 49 [stT s,.int .i64 n] (stT ((s.toSn (entL s.sn n)).onTh n (pcT · 1))) :=
 ac_path mixed (ext:=[86,56,157,95,155,87,144,98,91,101,150,156,93,94,153,154,99,158]) (fuel:=9) (n:=6) (orc:=[vD true,thT (pcT (gth s.th n) 0),.nilFunc,.tuple #[rowI (entL s.sn n),.int .i64 (entE s.sn n)],thT (pcT (gth s.th n) 0),stT ((s.toSn (entL s.sn n)).onTh n (pcT · 1))])
  (an (ac_rruns h.ru h.ok h.few)<|an h.ix<|an (ac_renter h.lsn h.i15)<|an (h.ix)<|an (ac_rwith (s.toSn (entL s.sn n)) n (pcT (pcT (gth s.th n) 0) 1) h.hn h.few.th) trivial) (by kernel_rfl)
theorem ds_first (h:Dn s n 1) (hp:(plI s.sn n==0)=true):AC Tryz.prog 49 [stT s,.int .i64 n] (stT (s.onTh n (pcT · 2))) :=
 ac_path mixed (ext:=[86,56,157,95,155,87,144,98,91,101,150,156,93,94,153,154,99,158]) (fuel:=9) (n:=6) (orc:=[vD true,thT (pcT (gth s.th n) 1),.nilFunc,.nilFunc,.int .i64 (plI s.sn n),.bool true,thT (pcT (gth s.th n) 1),stT ((s).onTh n (pcT · 2))])
  (an (ac_rruns h.ru h.ok h.few)<|an h.ix<|an (ac_rlplace (l:=s.sn) (i:=n) rfl)<|an (hp)<|an (h.ix)<|an (ac_rwith (s) n (pcT (pcT (gth s.th n) 1) 2) h.hn h.few.th) trivial) (by kernel_rfl)
theorem ds_firstL (h:Dn s n 1) (hp:(plI s.sn n==0)=false) (hl:(gth s.th n).la=true):AC Tryz.prog 49 [stT s,.int .i64 n] (stT (toldS s n (gth s.th n).ki 5 0 9)) :=
 ac_path mixed (ext:=[86,56,157,95,155,87,144,98,91,101,150,156,93,94,153,154,99,158]) (fuel:=9) (n:=6) (orc:=[vD true,thT (pcT (gth s.th n) 1),.nilFunc,.nilFunc,.int .i64 (plI s.sn n),.bool false,thT (pcT (gth s.th n) 1),.bool true,thT (pcT (gth s.th n) 1),stT (tellS (s) n (gth s.th n).ki (5) 0),thT (gth (tellS (s) n (gth s.th n).ki (5) 0).th n),stT (toldS (s) n (gth s.th n).ki (5) 0 9)])
  (an (ac_rruns h.ru h.ok h.few)<|an h.ix<|an (ac_rlplace (l:=s.sn) (i:=n) rfl)<|an (hp)<|an (h.ix)<|an (hl)<|an (h.ix)<|an (ac_rtell (k:=(gth s.th n).ki) (r:=5) (g:=0) h.has h.ok h.few)<|an (ixT (l:=(tellS (s) n (gth s.th n).ki (5) 0).th) (by rw [tell_len];exact h.hn))<|an (ac_rwith (tellS (s) n (gth s.th n).ki (5) 0) n (pcT (gth (tellS (s) n (gth s.th n).ki (5) 0).th n) 9) (by rw [tell_len];exact h.hn) (by rw [tell_len];exact h.few.th)) trivial) (by kernel_rfl)
theorem ds_firstT (h:Dn s n 1) (hp:(plI s.sn n==0)=false) (hl:(gth s.th n).la=false) (hr:decide ((gth s.th n).tr<1099511627776)=true):AC Tryz.prog 49 [stT s,.int .i64 n] (stT (s.onTh n onT)) :=
 ac_path mixed (ext:=[86,56,157,95,155,87,144,98,91,101,150,156,93,94,153,154,99,158]) (fuel:=9) (n:=6) (orc:=[vD true,thT (pcT (gth s.th n) 1),.nilFunc,.nilFunc,.int .i64 (plI s.sn n),.bool false,thT (pcT (gth s.th n) 1),.bool false,thT (pcT (gth s.th n) 1),.bool true,stT (s.onTh n onT)])
  (an (ac_rruns h.ru h.ok h.few)<|an h.ix<|an (ac_rlplace (l:=s.sn) (i:=n) rfl)<|an (hp)<|an (h.ix)<|an (hl)<|an (h.ix)<|an (hr)<|an (h.tr1 hr)<|an (h.onw hr) trivial) (by kernel_rfl)
theorem ds_firstX (h:Dn s n 1) (hp:(plI s.sn n==0)=false) (hl:(gth s.th n).la=false) (hr:decide ((gth s.th n).tr<1099511627776)=false):AC Tryz.prog 49 [stT s,.int .i64 n] (stT (s.onTh n onT)) :=
 ac_path mixed (ext:=[86,56,157,95,155,87,144,98,91,101,150,156,93,94,153,154,99,158]) (fuel:=9) (n:=6) (orc:=[vD true,thT (pcT (gth s.th n) 1),.nilFunc,.nilFunc,.int .i64 (plI s.sn n),.bool false,thT (pcT (gth s.th n) 1),.bool false,thT (pcT (gth s.th n) 1),.bool false,stT (s.onTh n onT)])
  (an (ac_rruns h.ru h.ok h.few)<|an h.ix<|an (ac_rlplace (l:=s.sn) (i:=n) rfl)<|an (hp)<|an (h.ix)<|an (hl)<|an (h.ix)<|an (hr)<|an (h.onx hr) trivial) (by kernel_rfl)
theorem ds_lookR (h:Dn s n 2) (hs:seesS s=1):AC Tryz.prog 49 [stT s,.int .i64 n] (stT (s.onTh n (regT · s.tl 3))) :=
 ac_path mixed (ext:=[86,56,157,95,155,87,144,98,91,101,150,156,93,94,153,154,99,158]) (fuel:=9) (n:=6) (orc:=[vD true,thT (pcT (gth s.th n) 2),.nilFunc,.nilFunc,.nilFunc,.tuple #[wdT s.hd (acT s.hd s.tl s.md s.sl.length) s.md,.int .i64 (acP s.hd s.tl s.md s.sl.length),.int .i64 1],.nilFunc,thT (pcT (gth s.th n) 2),stT (s.onTh n (regT · s.tl 3))])
  (an (ac_rruns h.ru h.ok h.few)<|an h.ix<|an (h.see hs)<|an (h.ix)<|an (ac_rwith (s) n (regT (gth s.th n) s.tl 3) h.hn h.few.th) trivial) (by kernel_rfl)
theorem ds_lookN (h:Dn s n 2) (hs:seesS s=2) (hp:(s.cf.po==1)=true):AC Tryz.prog 49 [stT s,.int .i64 n] (stT (toldS s n (gth s.th n).ki 3 0 9)) :=
 ac_path mixed (ext:=[86,56,157,95,155,87,144,98,91,101,150,156,93,94,153,154,99,158]) (fuel:=9) (n:=6) (orc:=[vD true,thT (pcT (gth s.th n) 2),.nilFunc,.nilFunc,.nilFunc,.tuple #[wdT s.hd (acT s.hd s.tl s.md s.sl.length) s.md,.int .i64 (acP s.hd s.tl s.md s.sl.length),.int .i64 2],.nilFunc,.nilFunc,thT (pcT (gth s.th n) 2),.bool true,thT (pcT (gth s.th n) 2),stT (tellS (s) n (gth s.th n).ki (3) 0),thT (gth (tellS (s) n (gth s.th n).ki (3) 0).th n),stT (toldS (s) n (gth s.th n).ki (3) 0 9)])
  (an (ac_rruns h.ru h.ok h.few)<|an h.ix<|an (h.see hs)<|an (h.ix)<|an (hp)<|an (h.ix)<|an (ac_rtell (k:=(gth s.th n).ki) (r:=3) (g:=0) h.has h.ok h.few)<|an (ixT (l:=(tellS (s) n (gth s.th n).ki (3) 0).th) (by rw [tell_len];exact h.hn))<|an (ac_rwith (tellS (s) n (gth s.th n).ki (3) 0) n (pcT (gth (tellS (s) n (gth s.th n).ki (3) 0).th n) 9) (by rw [tell_len];exact h.hn) (by rw [tell_len];exact h.few.th)) trivial) (by kernel_rfl)
theorem ds_lookO (h:Dn s n 2) (hs:seesS s=2) (hp:(s.cf.po==1)=false) (hq:(s.cf.po==2)=true):AC Tryz.prog 49 [stT s,.int .i64 n] (stT (s.onTh n (regT · s.hd 10))) :=
 ac_path mixed (ext:=[86,56,157,95,155,87,144,98,91,101,150,156,93,94,153,154,99,158]) (fuel:=9) (n:=6) (orc:=[vD true,thT (pcT (gth s.th n) 2),.nilFunc,.nilFunc,.nilFunc,.tuple #[wdT s.hd (acT s.hd s.tl s.md s.sl.length) s.md,.int .i64 (acP s.hd s.tl s.md s.sl.length),.int .i64 2],.nilFunc,.nilFunc,thT (pcT (gth s.th n) 2),.bool false,.bool true,thT (pcT (gth s.th n) 2),stT (s.onTh n (regT · s.hd 10))])
  (an (ac_rruns h.ru h.ok h.few)<|an h.ix<|an (h.see hs)<|an (h.ix)<|an (hp)<|an (hq)<|an (h.ix)<|an (ac_rwith (s) n (regT (gth s.th n) s.hd 10) h.hn h.few.th) trivial) (by kernel_rfl)
theorem ds_lookB (h:Dn s n 2) (hs:seesS s=2) (hp:(s.cf.po==1)=false) (hq:(s.cf.po==2)=false) (hk:((gth s.th n).ki==2)=true):AC Tryz.prog 49 [stT s,.int .i64 n] (stT (toldS s n (gth s.th n).ki 2 0 9)) :=
 ac_path mixed (ext:=[86,56,157,95,155,87,144,98,91,101,150,156,93,94,153,154,99,158]) (fuel:=9) (n:=6) (orc:=[vD true,thT (pcT (gth s.th n) 2),.nilFunc,.nilFunc,.nilFunc,.tuple #[wdT s.hd (acT s.hd s.tl s.md s.sl.length) s.md,.int .i64 (acP s.hd s.tl s.md s.sl.length),.int .i64 2],.nilFunc,.nilFunc,thT (pcT (gth s.th n) 2),.bool false,.bool false,.bool true,thT (pcT (gth s.th n) 2),stT (tellS (s) n (gth s.th n).ki (2) 0),thT (gth (tellS (s) n (gth s.th n).ki (2) 0).th n),stT (toldS (s) n (gth s.th n).ki (2) 0 9)])
  (an (ac_rruns h.ru h.ok h.few)<|an h.ix<|an (h.see hs)<|an (h.ix)<|an (hp)<|an (hq)<|an (hk)<|an (h.ix)<|an (ac_rtell (k:=(gth s.th n).ki) (r:=2) (g:=0) h.has h.ok h.few)<|an (ixT (l:=(tellS (s) n (gth s.th n).ki (2) 0).th) (by rw [tell_len];exact h.hn))<|an (ac_rwith (tellS (s) n (gth s.th n).ki (2) 0) n (pcT (gth (tellS (s) n (gth s.th n).ki (2) 0).th n) 9) (by rw [tell_len];exact h.hn) (by rw [tell_len];exact h.few.th)) trivial) (by kernel_rfl)
theorem ds_lookL (h:Dn s n 2) (hs:seesS s=2) (hp:(s.cf.po==1)=false) (hq:(s.cf.po==2)=false) (hk:((gth s.th n).ki==2)=false) (hl:(gth s.th n).la=true):AC Tryz.prog 49 [stT s,.int .i64 n] (stT (toldS s n (gth s.th n).ki 5 0 9)) :=
 ac_path mixed (ext:=[86,56,157,95,155,87,144,98,91,101,150,156,93,94,153,154,99,158]) (fuel:=9) (n:=6) (orc:=[vD true,thT (pcT (gth s.th n) 2),.nilFunc,.nilFunc,.nilFunc,.tuple #[wdT s.hd (acT s.hd s.tl s.md s.sl.length) s.md,.int .i64 (acP s.hd s.tl s.md s.sl.length),.int .i64 2],.nilFunc,.nilFunc,thT (pcT (gth s.th n) 2),.bool false,.bool false,.bool false,.bool true,thT (pcT (gth s.th n) 2),stT (tellS (s) n (gth s.th n).ki (5) 0),thT (gth (tellS (s) n (gth s.th n).ki (5) 0).th n),stT (toldS (s) n (gth s.th n).ki (5) 0 9)])
  (an (ac_rruns h.ru h.ok h.few)<|an h.ix<|an (h.see hs)<|an (h.ix)<|an (hp)<|an (hq)<|an (hk)<|an (hl)<|an (h.ix)<|an (ac_rtell (k:=(gth s.th n).ki) (r:=5) (g:=0) h.has h.ok h.few)<|an (ixT (l:=(tellS (s) n (gth s.th n).ki (5) 0).th) (by rw [tell_len];exact h.hn))<|an (ac_rwith (tellS (s) n (gth s.th n).ki (5) 0) n (pcT (gth (tellS (s) n (gth s.th n).ki (5) 0).th n) 9) (by rw [tell_len];exact h.hn) (by rw [tell_len];exact h.few.th)) trivial) (by kernel_rfl)
theorem ds_lookP (h:Dn s n 2) (hs:seesS s=2) (hp:(s.cf.po==1)=false) (hq:(s.cf.po==2)=false) (hk:((gth s.th n).ki==2)=false) (hl:(gth s.th n).la=false) (hn:waySt s (gth s.th n).tr=2):AC Tryz.prog 49 [stT s,.int .i64 n] (stT (s.onTh n (pcT · 5))) :=
 ac_path mixed (ext:=[86,56,157,95,155,87,144,98,91,101,150,156,93,94,153,154,99,158]) (fuel:=9) (n:=6) (orc:=[vD true,thT (pcT (gth s.th n) 2),.nilFunc,.nilFunc,.nilFunc,.tuple #[wdT s.hd (acT s.hd s.tl s.md s.sl.length) s.md,.int .i64 (acP s.hd s.tl s.md s.sl.length),.int .i64 2],.nilFunc,.nilFunc,thT (pcT (gth s.th n) 2),.bool false,.bool false,.bool false,.bool false,.int .i64 2,.nilFunc,thT (pcT (gth s.th n) 2),stT ((s).onTh n (pcT · 5))])
  (an (ac_rruns h.ru h.ok h.few)<|an h.ix<|an (h.see hs)<|an (h.ix)<|an (hp)<|an (hq)<|an (hk)<|an (hl)<|an (h.nx hn)<|an (h.ix)<|an (ac_rwith (s) n (pcT (pcT (gth s.th n) 2) 5) h.hn h.few.th) trivial) (by kernel_rfl)
theorem ds_lookT (h:Dn s n 2) (hs:seesS s=2) (hp:(s.cf.po==1)=false) (hq:(s.cf.po==2)=false) (hk:((gth s.th n).ki==2)=false) (hl:(gth s.th n).la=false) (hn:(waySt s (gth s.th n).tr==2)=false) (hr:decide ((gth s.th n).tr<1099511627776)=true):AC Tryz.prog 49 [stT s,.int .i64 n] (stT (s.onTh n onT)) :=
 ac_path mixed (ext:=[86,56,157,95,155,87,144,98,91,101,150,156,93,94,153,154,99,158]) (fuel:=9) (n:=6) (orc:=[vD true,thT (pcT (gth s.th n) 2),.nilFunc,.nilFunc,.nilFunc,.tuple #[wdT s.hd (acT s.hd s.tl s.md s.sl.length) s.md,.int .i64 (acP s.hd s.tl s.md s.sl.length),.int .i64 2],.nilFunc,.nilFunc,thT (pcT (gth s.th n) 2),.bool false,.bool false,.bool false,.bool false,.int .i64 (waySt s (gth s.th n).tr),.bool false,thT (pcT (gth s.th n) 2),.bool true,stT (s.onTh n onT)])
  (an (ac_rruns h.ru h.ok h.few)<|an h.ix<|an (h.see hs)<|an (h.ix)<|an (hp)<|an (hq)<|an (hk)<|an (hl)<|an (h.nx rfl)<|an (hn)<|an (h.ix)<|an (hr)<|an (h.tr1 hr)<|an (h.onw hr) trivial) (by kernel_rfl)
theorem ds_lookX (h:Dn s n 2) (hs:seesS s=2) (hp:(s.cf.po==1)=false) (hq:(s.cf.po==2)=false) (hk:((gth s.th n).ki==2)=false) (hl:(gth s.th n).la=false) (hn:(waySt s (gth s.th n).tr==2)=false) (hr:decide ((gth s.th n).tr<1099511627776)=false):AC Tryz.prog 49 [stT s,.int .i64 n] (stT (s.onTh n onT)) :=
 ac_path mixed (ext:=[86,56,157,95,155,87,144,98,91,101,150,156,93,94,153,154,99,158]) (fuel:=9) (n:=6) (orc:=[vD true,thT (pcT (gth s.th n) 2),.nilFunc,.nilFunc,.nilFunc,.tuple #[wdT s.hd (acT s.hd s.tl s.md s.sl.length) s.md,.int .i64 (acP s.hd s.tl s.md s.sl.length),.int .i64 2],.nilFunc,.nilFunc,thT (pcT (gth s.th n) 2),.bool false,.bool false,.bool false,.bool false,.int .i64 (waySt s (gth s.th n).tr),.bool false,thT (pcT (gth s.th n) 2),.bool false,stT (s.onTh n onT)])
  (an (ac_rruns h.ru h.ok h.few)<|an h.ix<|an (h.see hs)<|an (h.ix)<|an (hp)<|an (hq)<|an (hk)<|an (hl)<|an (h.nx rfl)<|an (hn)<|an (h.ix)<|an (hr)<|an (h.onx hr) trivial) (by kernel_rfl)
theorem ds_lookE (h:Dn s n 2) (h1:(seesS s==1)=false) (h2:(seesS s==2)=false):AC Tryz.prog 49 [stT s,.int .i64 n] (stT (toldS s n (gth s.th n).ki (seesS s) 0 9)) :=
 ac_path mixed (ext:=[86,56,157,95,155,87,144,98,91,101,150,156,93,94,153,154,99,158]) (fuel:=9) (n:=6) (orc:=[vD true,thT (pcT (gth s.th n) 2),.nilFunc,.nilFunc,.nilFunc,.tuple #[wdT s.hd (acT s.hd s.tl s.md s.sl.length) s.md,.int .i64 (acP s.hd s.tl s.md s.sl.length),.int .i64 (seesS s)],.bool false,.bool false,thT (pcT (gth s.th n) 2),stT (tellS (s) n (gth s.th n).ki (seesS s) 0),thT (gth (tellS (s) n (gth s.th n).ki (seesS s) 0).th n),stT (toldS (s) n (gth s.th n).ki (seesS s) 0 9)])
  (an (ac_rruns h.ru h.ok h.few)<|an h.ix<|an (h.see rfl)<|an (h1)<|an (h2)<|an (h.ix)<|an (ac_rtell (k:=(gth s.th n).ki) (r:=seesS s) (g:=0) h.has h.ok h.few)<|an (ixT (l:=(tellS (s) n (gth s.th n).ki (seesS s) 0).th) (by rw [tell_len];exact h.hn))<|an (ac_rwith (tellS (s) n (gth s.th n).ki (seesS s) 0) n (pcT (gth (tellS (s) n (gth s.th n).ki (seesS s) 0).th n) 9) (by rw [tell_len];exact h.hn) (by rw [tell_len];exact h.few.th)) trivial) (by kernel_rfl)
theorem ds_write (h:Dn s n 3) (hw:wrE s.sl (gth s.th n).re=0):AC Tryz.prog 49 [stT s,.int .i64 n] (stT ((s.toSl (wrL s.sl (gth s.th n).re (gth s.th n).va)).onTh n (pcT · 4))) :=
 ac_path mixed (ext:=[86,56,157,95,155,87,144,98,91,101,150,156,93,94,153,154,99,158]) (fuel:=9) (n:=6) (orc:=[vD true,thT (pcT (gth s.th n) 3),.nilFunc,.nilFunc,.nilFunc,.nilFunc,.tuple #[rowS (wrL s.sl (gth s.th n).re (gth s.th n).va),.int .i64 0],.nilFunc,thT (pcT (gth s.th n) 3),stT ((s.toSl (wrL s.sl (gth s.th n).re (gth s.th n).va)).onTh n (pcT · 4))])
  (an (ac_rruns h.ru h.ok h.few)<|an h.ix<|an (hw ▸ ac_rwrite (v:=(gth s.th n).va) h.sl h.re0 h.rei)<|an (h.ix)<|an (ac_rwith (s.toSl (wrL s.sl (gth s.th n).re (gth s.th n).va)) n (pcT (pcT (gth s.th n) 3) 4) h.hn h.few.th) trivial) (by kernel_rfl)
theorem ds_writeE (h:Dn s n 3) (hw:(wrE s.sl (gth s.th n).re != 0)=true):AC Tryz.prog 49 [stT s,.int .i64 n] (stT (s)) :=
 ac_path mixed (ext:=[86,56,157,95,155,87,144,98,91,101,150,156,93,94,153,154,99,158]) (fuel:=9) (n:=6) (orc:=[vD true,thT (pcT (gth s.th n) 3),.nilFunc,.nilFunc,.nilFunc,.nilFunc,.tuple #[rowS (wrL s.sl (gth s.th n).re (gth s.th n).va),.int .i64 (wrE s.sl (gth s.th n).re)],.bool true])
  (an (ac_rruns h.ru h.ok h.few)<|an h.ix<|an (ac_rwrite (v:=(gth s.th n).va) h.sl h.re0 h.rei)<|an (hw) trivial) (by kernel_rfl)
theorem ds_acceptR (h:Dn s n 4) (hs:seesS s=1) (hT:acT s.hd s.tl s.md s.sl.length=s.tl+1) (hA:hasB (s.toWord s.hd (s.tl+1) s.md) n=true) (ho:(s.toWord s.hd (s.tl+1) s.md).ok):AC Tryz.prog 49 [stT s,.int .i64 n] (stT (toldS (s.toWord s.hd (s.tl+1) s.md) n (gth s.th n).ki 1 0 6)) :=
 ac_path mixed (ext:=[86,56,157,95,155,87,144,98,91,101,150,156,93,94,153,154,99,158]) (fuel:=9) (n:=6) (orc:=[vD true,thT (pcT (gth s.th n) 4),.nilFunc,.nilFunc,.nilFunc,.nilFunc,.nilFunc,.tuple #[wdT s.hd (s.tl+1) s.md,.int .i64 (acP s.hd s.tl s.md s.sl.length),.int .i64 1],.nilFunc,thT (pcT (gth s.th n) 4),stT (tellS (s.toWord s.hd (s.tl+1) s.md) n (gth s.th n).ki (1) 0),thT (gth (tellS (s.toWord s.hd (s.tl+1) s.md) n (gth s.th n).ki (1) 0).th n),stT (toldS (s.toWord s.hd (s.tl+1) s.md) n (gth s.th n).ki (1) 0 6)])
  (an (ac_rruns h.ru h.ok h.few)<|an h.ix<|an (hT ▸ h.see hs)<|an (h.ix)<|an (ac_rtell (k:=(gth s.th n).ki) (r:=1) (g:=0) hA ho h.few3)<|an (ixT (l:=(tellS (s.toWord s.hd (s.tl+1) s.md) n (gth s.th n).ki (1) 0).th) (by rw [tell_len];exact h.hn))<|an (ac_rwith (tellS (s.toWord s.hd (s.tl+1) s.md) n (gth s.th n).ki (1) 0) n (pcT (gth (tellS (s.toWord s.hd (s.tl+1) s.md) n (gth s.th n).ki (1) 0).th n) 6) (by rw [tell_len];exact h.hn) (by rw [tell_len];exact h.few.th)) trivial) (by kernel_rfl)
theorem ds_acceptF (h:Dn s n 4) (hs:seesS s=2) (hT:acT s.hd s.tl s.md s.sl.length=s.tl):AC Tryz.prog 49 [stT s,.int .i64 n] (stT (s.onTh n (pcT · 2))) :=
 ac_path mixed (ext:=[86,56,157,95,155,87,144,98,91,101,150,156,93,94,153,154,99,158]) (fuel:=9) (n:=6) (orc:=[vD true,thT (pcT (gth s.th n) 4),.nilFunc,.nilFunc,.nilFunc,.nilFunc,.nilFunc,.tuple #[wdT s.hd s.tl s.md,.int .i64 (acP s.hd s.tl s.md s.sl.length),.int .i64 2],.nilFunc,.nilFunc,thT (pcT (gth s.th n) 4),stT ((s).onTh n (pcT · 2))])
  (an (ac_rruns h.ru h.ok h.few)<|an h.ix<|an (hT ▸ h.see hs)<|an (h.ix)<|an (ac_rwith (s) n (pcT (pcT (gth s.th n) 4) 2) h.hn h.few.th) trivial) (by kernel_rfl)
theorem ds_acceptE (h:Dn s n 4) (h1:(seesS s==1)=false) (h2:(seesS s==2)=false) (hT:acT s.hd s.tl s.md s.sl.length=s.tl):AC Tryz.prog 49 [stT s,.int .i64 n] (stT (toldS s n (gth s.th n).ki (seesS s) 0 9)) :=
 ac_path mixed (ext:=[86,56,157,95,155,87,144,98,91,101,150,156,93,94,153,154,99,158]) (fuel:=9) (n:=6) (orc:=[vD true,thT (pcT (gth s.th n) 4),.nilFunc,.nilFunc,.nilFunc,.nilFunc,.nilFunc,.tuple #[wdT s.hd s.tl s.md,.int .i64 (acP s.hd s.tl s.md s.sl.length),.int .i64 (seesS s)],.bool false,.bool false,thT (pcT (gth s.th n) 4),stT (tellS (s) n (gth s.th n).ki (seesS s) 0),thT (gth (tellS (s) n (gth s.th n).ki (seesS s) 0).th n),stT (toldS (s) n (gth s.th n).ki (seesS s) 0 9)])
  (an (ac_rruns h.ru h.ok h.few)<|an h.ix<|an (hT ▸ h.see rfl)<|an (h1)<|an (h2)<|an (h.ix)<|an (ac_rtell (k:=(gth s.th n).ki) (r:=seesS s) (g:=0) h.has h.ok h.few)<|an (ixT (l:=(tellS (s) n (gth s.th n).ki (seesS s) 0).th) (by rw [tell_len];exact h.hn))<|an (ac_rwith (tellS (s) n (gth s.th n).ki (seesS s) 0) n (pcT (gth (tellS (s) n (gth s.th n).ki (seesS s) 0).th n) 9) (by rw [tell_len];exact h.hn) (by rw [tell_len];exact h.few.th)) trivial) (by kernel_rfl)
theorem ds_prep (h:Dn s n 5)  : AC Tryz.prog 49 [stT s,.int .i64 n] (stT (s.onTh n (seenT · s.fe 7))) :=
 ac_path mixed (ext:=[86,56,157,95,155,87,144,98,91,101,150,156,93,94,153,154,99,158]) (fuel:=9) (n:=6) (orc:=[vD true,thT (pcT (gth s.th n) 5),.nilFunc,.nilFunc,.nilFunc,.nilFunc,.nilFunc,.nilFunc,.int .i64 s.fe,stT (s.onTh n (seenT · s.fe 7))])
  (an (ac_rruns h.ru h.ok h.few)<|an h.ix<|an (ac_rprep h.ful)<|an (ac_rwith (s) n (seenT (gth s.th n) s.fe 7) h.hn h.few.th) trivial) (by kernel_rfl)
theorem ds_notifyN (h:Dn s n 6) (hb:hdB (ntT 1 s.ee s.el)=false):AC Tryz.prog 49 [stT s,.int .i64 n] (stT ((s.toEmpty (ntE s.ee s.el) (ntL 1 s.ee s.el)).onTh n (pcT · 9))) :=
 ac_path mixed (ext:=[86,56,157,95,155,87,144,98,91,101,150,156,93,94,153,154,99,158]) (fuel:=9) (n:=6) (orc:=[vD true,thT (pcT (gth s.th n) 6),.nilFunc,.nilFunc,.nilFunc,.nilFunc,.nilFunc,.nilFunc,.nilFunc,.tuple #[evT (ntE s.ee s.el) (ntL 1 s.ee s.el),.int .i64 (hdI (ntT 1 s.ee s.el)),vD false],thT (pcT (gth s.th n) 6),stT ((s.toEmpty (ntE s.ee s.el) (ntL 1 s.ee s.el)).onTh n (pcT · 9))])
  (an (ac_rruns h.ru h.ok h.few)<|an h.ix<|an (hb ▸ ac_rnotify h.emp)<|an (h.ix)<|an (ac_rwith (s.toEmpty (ntE s.ee s.el) (ntL 1 s.ee s.el)) n (pcT (pcT (gth s.th n) 6) 9) h.hn h.few.th) trivial) (by kernel_rfl)
theorem ds_notifyW (h:Dn s n 6) (hb:hdB (ntT 1 s.ee s.el)=true) {q:Nat} (hq:hdI (ntT 1 s.ee s.el)=q) (hA:hasB ((s.toEmpty (ntE s.ee s.el) (ntL 1 s.ee s.el)).onTh n (pcT · 9)) q=true) (ho:((s.toEmpty (ntE s.ee s.el) (ntL 1 s.ee s.el)).onTh n (pcT · 9)).ok) (hw:((s.toEmpty (ntE s.ee s.el) (ntL 1 s.ee s.el)).onTh n (pcT · 9)).few):AC Tryz.prog 49 [stT s,.int .i64 n] (stT (((s.toEmpty (ntE s.ee s.el) (ntL 1 s.ee s.el)).onTh n (pcT · 9)).onTh q wakeT)) :=
 ac_path mixed (ext:=[86,56,157,95,155,87,144,98,91,101,150,156,93,94,153,154,99,158]) (fuel:=9) (n:=6) (orc:=[vD true,thT (pcT (gth s.th n) 6),.nilFunc,.nilFunc,.nilFunc,.nilFunc,.nilFunc,.nilFunc,.nilFunc,.tuple #[evT (ntE s.ee s.el) (ntL 1 s.ee s.el),.int .i64 q,vD true],thT (pcT (gth s.th n) 6),stT ((s.toEmpty (ntE s.ee s.el) (ntL 1 s.ee s.el)).onTh n (pcT · 9)),stT (((s.toEmpty (ntE s.ee s.el) (ntL 1 s.ee s.el)).onTh n (pcT · 9)).onTh q wakeT)])
  (an (ac_rruns h.ru h.ok h.few)<|an h.ix<|an (hq ▸ hb ▸ ac_rnotify h.emp)<|an (h.ix)<|an (ac_rwith (s.toEmpty (ntE s.ee s.el) (ntL 1 s.ee s.el)) n (pcT (pcT (gth s.th n) 6) 9) h.hn h.few.th)<|an (ac_rwake hA ho hw) trivial) (by kernel_rfl)
theorem ds_againY (h:Dn s n 7) (hs:seesS s=2) (hl:(!(gth s.th n).la)=true):AC Tryz.prog 49 [stT s,.int .i64 n] (stT (s.onTh n (pcT · 8))) :=
 ac_path mixed (ext:=[86,56,157,95,155,87,144,98,91,101,150,156,93,94,153,154,99,158]) (fuel:=9) (n:=6) (orc:=[vD true,thT (pcT (gth s.th n) 7),.nilFunc,.nilFunc,.nilFunc,.nilFunc,.nilFunc,.nilFunc,.nilFunc,.nilFunc,.tuple #[wdT s.hd (acT s.hd s.tl s.md s.sl.length) s.md,.int .i64 (acP s.hd s.tl s.md s.sl.length),.int .i64 2],.nilFunc,.bool true,thT (pcT (gth s.th n) 7),stT ((s).onTh n (pcT · 8))])
  (an (ac_rruns h.ru h.ok h.few)<|an h.ix<|an (h.see hs)<|an (hl)<|an (h.ix)<|an (ac_rwith (s) n (pcT (pcT (gth s.th n) 7) 8) h.hn h.few.th) trivial) (by kernel_rfl)
theorem ds_againL (h:Dn s n 7) (hs:seesS s=2) (hl:(!(gth s.th n).la)=false):AC Tryz.prog 49 [stT s,.int .i64 n] (stT (s.onTh n (pcT · 2))) :=
 ac_path mixed (ext:=[86,56,157,95,155,87,144,98,91,101,150,156,93,94,153,154,99,158]) (fuel:=9) (n:=6) (orc:=[vD true,thT (pcT (gth s.th n) 7),.nilFunc,.nilFunc,.nilFunc,.nilFunc,.nilFunc,.nilFunc,.nilFunc,.nilFunc,.tuple #[wdT s.hd (acT s.hd s.tl s.md s.sl.length) s.md,.int .i64 (acP s.hd s.tl s.md s.sl.length),.int .i64 2],.nilFunc,.bool false,thT (pcT (gth s.th n) 7),stT ((s).onTh n (pcT · 2))])
  (an (ac_rruns h.ru h.ok h.few)<|an h.ix<|an (h.see hs)<|an (hl)<|an (h.ix)<|an (ac_rwith (s) n (pcT (pcT (gth s.th n) 7) 2) h.hn h.few.th) trivial) (by kernel_rfl)
theorem ds_againN (h:Dn s n 7) (h2:(seesS s==2)=false):AC Tryz.prog 49 [stT s,.int .i64 n] (stT (s.onTh n (pcT · 2))) :=
 ac_path mixed (ext:=[86,56,157,95,155,87,144,98,91,101,150,156,93,94,153,154,99,158]) (fuel:=9) (n:=6) (orc:=[vD true,thT (pcT (gth s.th n) 7),.nilFunc,.nilFunc,.nilFunc,.nilFunc,.nilFunc,.nilFunc,.nilFunc,.nilFunc,.tuple #[wdT s.hd (acT s.hd s.tl s.md s.sl.length) s.md,.int .i64 (acP s.hd s.tl s.md s.sl.length),.int .i64 (seesS s)],.bool false,thT (pcT (gth s.th n) 7),stT ((s).onTh n (pcT · 2))])
  (an (ac_rruns h.ru h.ok h.few)<|an h.ix<|an (h.see rfl)<|an (h2)<|an (h.ix)<|an (ac_rwith (s) n (pcT (pcT (gth s.th n) 7) 2) h.hn h.few.th) trivial) (by kernel_rfl)
theorem ds_commitL (h:Dn s n 8) (hl:(gth s.th n).la=true):AC Tryz.prog 49 [stT s,.int .i64 n] (stT (s.onTh n (pcT · 2))) :=
 ac_path mixed (ext:=[86,56,157,95,155,87,144,98,91,101,150,156,93,94,153,154,99,158]) (fuel:=9) (n:=6) (orc:=[vD true,thT (pcT (gth s.th n) 8),.nilFunc,.nilFunc,.nilFunc,.nilFunc,.nilFunc,.nilFunc,.nilFunc,.nilFunc,.nilFunc,thT (pcT (gth s.th n) 8),.bool true,thT (pcT (gth s.th n) 8),stT ((s).onTh n (pcT · 2))])
  (an (ac_rruns h.ru h.ok h.few)<|an h.ix<|an (h.ix)<|an (hl)<|an (h.ix)<|an (ac_rwith (s) n (pcT (pcT (gth s.th n) 8) 2) h.hn h.few.th) trivial) (by kernel_rfl)
theorem ds_commitW (h:Dn s n 8) (hl:(gth s.th n).la=false) (hb:cmB s.fe s.fl (gth s.th n).se n=true):AC Tryz.prog 49 [stT s,.int .i64 n] (stT ((s.toFull s.fe (s.fl++[(n:Int)])).onTh n (parkT · 2))) :=
 ac_path mixed (ext:=[86,56,157,95,155,87,144,98,91,101,150,156,93,94,153,154,99,158]) (fuel:=9) (n:=6) (orc:=[vD true,thT (pcT (gth s.th n) 8),.nilFunc,.nilFunc,.nilFunc,.nilFunc,.nilFunc,.nilFunc,.nilFunc,.nilFunc,.nilFunc,thT (pcT (gth s.th n) 8),.bool false,thT (pcT (gth s.th n) 8),.tuple #[evT s.fe (s.fl++[(n:Int)]),vD true,.int .i64 (entE s.fl n)],thT (pcT (gth s.th n) 8),.tuple #[thT (parkT (gth s.th n) 2),.int .i64 0],stT ((s.toFull s.fe (s.fl++[(n:Int)])).onTh n (parkT · 2))])
  (an (ac_rruns h.ru h.ok h.few)<|an h.ix<|an (h.ix)<|an (hl)<|an (h.ix)<|an (h.com hb)<|an (h.ix)<|an (ac_rpark (park_of8 h.rs))<|an (ac_rwith (s.toFull s.fe (s.fl++[(n:Int)])) n (parkT (gth s.th n) 2) h.hn h.few.th) trivial) (by kernel_rfl)
theorem ds_commitN (h:Dn s n 8) (hl:(gth s.th n).la=false) (hb:cmB s.fe s.fl (gth s.th n).se n=false):AC Tryz.prog 49 [stT s,.int .i64 n] (stT (s.onTh n (pcT · 2))) :=
 ac_path mixed (ext:=[86,56,157,95,155,87,144,98,91,101,150,156,93,94,153,154,99,158]) (fuel:=9) (n:=6) (orc:=[vD true,thT (pcT (gth s.th n) 8),.nilFunc,.nilFunc,.nilFunc,.nilFunc,.nilFunc,.nilFunc,.nilFunc,.nilFunc,.nilFunc,thT (pcT (gth s.th n) 8),.bool false,thT (pcT (gth s.th n) 8),.tuple #[evT s.fe s.fl,vD false,.int .i64 (entE s.fl n)],thT (pcT (gth s.th n) 8),stT ((s).onTh n (pcT · 2))])
  (an (ac_rruns h.ru h.ok h.few)<|an h.ix<|an (h.ix)<|an (hl)<|an (h.ix)<|an (h.con hb)<|an (h.ix)<|an (ac_rwith (s) n (pcT (pcT (gth s.th n) 8) 2) h.hn h.few.th) trivial) (by kernel_rfl)
theorem ds_leave (h:Dn s n 9)  : AC Tryz.prog 49 [stT s,.int .i64 n] (stT ((s.toSn (lvL s.sn n)).onTh n doneT)) :=
 ac_path mixed (ext:=[86,56,157,95,155,87,144,98,91,101,150,156,93,94,153,154,99,158]) (fuel:=9) (n:=6) (orc:=[vD true,thT (pcT (gth s.th n) 9),.nilFunc,.nilFunc,.nilFunc,.nilFunc,.nilFunc,.nilFunc,.nilFunc,.nilFunc,.nilFunc,.nilFunc,.tuple #[rowI (lvL s.sn n),.int .i64 (lvE s.sn n)],.tuple #[thT (doneT (gth s.th n)),.int .i64 0],stT ((s.toSn (lvL s.sn n)).onTh n doneT)])
  (an (ac_rruns h.ru h.ok h.few)<|an h.ix<|an (ac_rleave (i:=(n:Int)) h.lsn)<|an (ac_rdone (done_of (c:=9) h.rs))<|an (ac_rwith (s.toSn (lvL s.sn n)) n (doneT (gth s.th n)) h.hn h.few.th) trivial) (by kernel_rfl)
theorem ds_evictN (h:Dn s n 10) (hb:evwB s.hd s.tl s.md s.sl.length (gth s.th n).re=false):AC Tryz.prog 49 [stT s,.int .i64 n] (stT (s.onTh n (pcT · 2))) :=
 ac_path mixed (ext:=[86,56,157,95,155,87,144,98,91,101,150,156,93,94,153,154,99,158]) (fuel:=9) (n:=6) (orc:=[vD true,thT (pcT (gth s.th n) 10),.nilFunc,.nilFunc,.nilFunc,.nilFunc,.nilFunc,.nilFunc,.nilFunc,.nilFunc,.nilFunc,.nilFunc,.nilFunc,thT (pcT (gth s.th n) 10),.int .i64 (valV s (gth s.th n).re),.tuple #[wdT (evH s.hd s.tl s.md s.sl.length (gth s.th n).re) s.tl s.md,vD false],thT (pcT (gth s.th n) 10),stT ((s).onTh n (pcT · 2))])
  (an (ac_rruns h.ru h.ok h.few)<|an h.ix<|an (h.ix)<|an (ac_rvalue h.ck h.re0 h.rei h.ok h.few)<|an (h.evi hb)<|an (h.ix)<|an (ac_rwith (s) n (pcT (pcT (gth s.th n) 10) 2) h.hn h.few.th) trivial) (by kernel_rfl)
theorem ds_evictY (h:Dn s n 10) (hb:evwB s.hd s.tl s.md s.sl.length (gth s.th n).re=true) (hH:evH s.hd s.tl s.md s.sl.length (gth s.th n).re=s.hd+1) (hA:hasB (s.toWord (s.hd+1) s.tl s.md) n=true) (ho:(s.toWord (s.hd+1) s.tl s.md).ok):AC Tryz.prog 49 [stT s,.int .i64 n] (stT (toldS (s.toWord (s.hd+1) s.tl s.md) n 9 1 (valV s (gth s.th n).re) 11)) :=
 ac_path mixed (ext:=[86,56,157,95,155,87,144,98,91,101,150,156,93,94,153,154,99,158]) (fuel:=9) (n:=6) (orc:=[vD true,thT (pcT (gth s.th n) 10),.nilFunc,.nilFunc,.nilFunc,.nilFunc,.nilFunc,.nilFunc,.nilFunc,.nilFunc,.nilFunc,.nilFunc,.nilFunc,thT (pcT (gth s.th n) 10),.int .i64 (valV s (gth s.th n).re),.tuple #[wdT (s.hd+1) s.tl s.md,vD true],stT (tellS (s.toWord (s.hd+1) s.tl s.md) n 9 1 (valV s (gth s.th n).re)),thT (gth (tellS (s.toWord (s.hd+1) s.tl s.md) n 9 1 (valV s (gth s.th n).re)).th n),stT (toldS (s.toWord (s.hd+1) s.tl s.md) n 9 1 (valV s (gth s.th n).re) 11)])
  (an (ac_rruns h.ru h.ok h.few)<|an h.ix<|an (h.ix)<|an (ac_rvalue h.ck h.re0 h.rei h.ok h.few)<|an (hH ▸ h.evi hb)<|an (ac_rtell (k:=9) (r:=1) (g:=valV s (gth s.th n).re) hA ho h.few10)<|an (ixT (l:=(tellS (s.toWord (s.hd+1) s.tl s.md) n 9 1 (valV s (gth s.th n).re)).th) (by rw [tell_len];exact h.hn))<|an (ac_rwith (tellS (s.toWord (s.hd+1) s.tl s.md) n 9 1 (valV s (gth s.th n).re)) n (pcT (gth (tellS (s.toWord (s.hd+1) s.tl s.md) n 9 1 (valV s (gth s.th n).re)).th n) 11) (by rw [tell_len];exact h.hn) (by rw [tell_len];exact h.few.th)) trivial) (by kernel_rfl)
theorem ds_release (h:Dn s n 11) (he:rlE s.sl (gth s.th n).re=0):AC Tryz.prog 49 [stT s,.int .i64 n] (stT ((s.toSl (rlL s.sl (gth s.th n).re)).onTh n (pcT · 2))) :=
 ac_path mixed (ext:=[86,56,157,95,155,87,144,98,91,101,150,156,93,94,153,154,99,158]) (fuel:=9) (n:=6) (orc:=[vD true,thT (pcT (gth s.th n) 11),.nilFunc,.nilFunc,.nilFunc,.nilFunc,.nilFunc,.nilFunc,.nilFunc,.nilFunc,.nilFunc,.nilFunc,.nilFunc,.tuple #[rowS (rlL s.sl (gth s.th n).re),.int .i64 0],.nilFunc,thT (pcT (gth s.th n) 11),stT ((s.toSl (rlL s.sl (gth s.th n).re)).onTh n (pcT · 2))])
  (an (ac_rruns h.ru h.ok h.few)<|an h.ix<|an (he ▸ ac_rrelease h.sl h.re0 h.rei)<|an (h.ix)<|an (ac_rwith (s.toSl (rlL s.sl (gth s.th n).re)) n (pcT (pcT (gth s.th n) 11) 2) h.hn h.few.th) trivial) (by kernel_rfl)
theorem ds_releaseN (h:Dn s n 11) (he:(rlE s.sl (gth s.th n).re==0)=false):AC Tryz.prog 49 [stT s,.int .i64 n] (stT (s.onTh n (pcT · 2))) :=
 ac_path mixed (ext:=[86,56,157,95,155,87,144,98,91,101,150,156,93,94,153,154,99,158]) (fuel:=9) (n:=6) (orc:=[vD true,thT (pcT (gth s.th n) 11),.nilFunc,.nilFunc,.nilFunc,.nilFunc,.nilFunc,.nilFunc,.nilFunc,.nilFunc,.nilFunc,.nilFunc,.nilFunc,.tuple #[rowS (rlL s.sl (gth s.th n).re),.int .i64 (rlE s.sl (gth s.th n).re)],.bool false,thT (pcT (gth s.th n) 11),stT ((s).onTh n (pcT · 2))])
  (an (ac_rruns h.ru h.ok h.few)<|an h.ix<|an (ac_rrelease h.sl h.re0 h.rei)<|an (he)<|an (h.ix)<|an (ac_rwith (s) n (pcT (pcT (gth s.th n) 11) 2) h.hn h.few.th) trivial) (by kernel_rfl)
end
end
section
open Go.RowKit
section
variable {s:St} {n:Nat} {c:Int}
theorem Dn.sp (h:Dn s n c) (hl:s.lg.length≤999999):Sp s n 1 0:=⟨by decide,h.ck,h.ok,h.hn,h.st,h.sd,hl,by constructor <;> omega⟩
theorem try_or (t:Th):decide (t.tr<1099511627776)=true∨decide (t.tr<1099511627776)=false:=by cases decide (t.tr<1099511627776) <;> simp
theorem dfirst (h:Dn s n 1):AC Tryz.prog 49 [stT s,.int .i64 n] (stT (firstS s n)):=by
 unfold firstS
 split
 ·next hp=>exact ds_first h (by simp [hp])
 ·next hp =>
  split
  ·next hl=>exact ds_firstL h (bne_of hp) hl
  ·next hl =>
   have hl' : (gth s.th n).la=false:=by simpa using hl
   rcases try_or (gth s.th n) with hr | hr
   ·exact ds_firstT h (bne_of hp) hl' hr
   ·exact ds_firstX h (bne_of hp) hl' hr
theorem dlook (h:Dn s n 2):AC Tryz.prog 49 [stT s,.int .i64 n] (stT (lookS s n)):=by
 unfold lookS
 split
 ·next hs=>exact ds_lookR h hs
 ·next h1 =>
  split
  ·next hs =>
   unfold fullS
   split
   ·next hp=>exact ds_lookN h hs (by simp [hp])
   ·next hp =>
    split
    ·next hq=>exact ds_lookO h hs (bne_of hp) (by simp [hq])
    ·next hq =>
     split
     ·next hk=>exact ds_lookB h hs (bne_of hp) (bne_of hq) (by simp [hk])
     ·next hk =>
      split
      ·next hl=>exact ds_lookL h hs (bne_of hp) (bne_of hq) (bne_of hk) hl
      ·next hl =>
       have hl' : (gth s.th n).la=false:=by simpa using hl
       split
       ·next hw=>exact ds_lookP h hs (bne_of hp) (bne_of hq) (bne_of hk) hl' hw
       ·next hw =>
        rcases try_or (gth s.th n) with hr | hr
        ·exact ds_lookT h hs (bne_of hp) (bne_of hq) (bne_of hk) hl' (bne_of hw) hr
        ·exact ds_lookX h hs (bne_of hp) (bne_of hq) (bne_of hk) hl' (bne_of hw) hr
  ·next h2=>exact ds_lookE h (bne_of h1) (bne_of h2)
theorem acT_no (h:seesS s≠1):acT s.hd s.tl s.md s.sl.length=s.tl:=by unfold acT;exact if_neg h
theorem daccept (h:Dn s n 4) (hl:s.lg.length≤999999):AC Tryz.prog 49 [stT s,.int .i64 n] (stT (acceptS s n)):=by
 unfold acceptS
 split
 ·next hs =>
  obtain ⟨h1,h2⟩:=acc_ok (h.sp hl) hs
  exact ds_acceptR h hs (ac_y hs).1 (has_of h1 h.hn) h2
 ·next h1 =>
  split
  ·next hs=>exact ds_acceptF h hs (acT_no h1)
  ·next h2=>exact ds_acceptE h (bne_of h1) (bne_of h2) (acT_no h1)
theorem dnotify (h:Dn s n 6) (hl:s.lg.length≤999999) (hv:Vk s):AC Tryz.prog 49 [stT s,.int .i64 n] (stT (notifyS s n)):=by
 obtain ⟨h1,h2⟩:=empty_ok (h.sp hl)
 unfold notifyS
 split
 ·next hb =>
  obtain ⟨-,-,-,d,-,e⟩:=full_lines h.ck
  have hth:=th_len h.ck
  have hq:∃ q:Nat,hdI (ntT 1 s.ee s.el)=q∧q<s.th.length:=by
   have hb' := hb
   simp only [ntT,e,if_true] at hb' ⊢
   cases hl:s.el with
   | nil=>rw [hl] at hb';cases hb'
   | cons y r =>
    have hy:y∈s.el:=by rw [hl];exact List.mem_cons_self
    have h3:=(stn_iff.1 d).2 y hy
    have h4:=(okl_iff.1 (stn_iff.1 d).1).1 y hy
    exact ⟨y.toNat,by show y=_;omega,by omega⟩
  obtain ⟨q,hq,hql⟩:=hq
  have h9:stB ((s.toEmpty (ntE s.ee s.el) (ntL 1 s.ee s.el)).onTh n (pcT · 9))=true:=onTh_stB h1 (pcT_ok (gth_ok h.ck h.hn) (by have:=h.st;omega) (by decide))
  have hA:hasB ((s.toEmpty (ntE s.ee s.el) (ntL 1 s.ee s.el)).onTh n (pcT · 9)) q=true:=has_of h9 (by show q<(s.th.set n _).length;rw [List.length_set];exact hql)
  have hv9:Vk ((s.toEmpty (ntE s.ee s.el) (ntL 1 s.ee s.el)).onTh n (pcT · 9)):=Vk.on (s:=s.toEmpty (ntE s.ee s.el) (ntL 1 s.ee s.el)) (f:=(pcT · 9)) ⟨hv.cf,hv.sl,hv.th⟩ h.hn fun _=>⟨rfl,rfl⟩
  have hf:((s.toEmpty (ntE s.ee s.el) (ntL 1 s.ee s.el)).onTh n (pcT · 9)).few:=⟨h.few.sl,h.few.sn,h.few.rc,h.few.fl,by show (ntL 1 s.ee s.el).length≤1000;simp only [ntL,e,if_true,List.length_drop];have:=h.few.el;omega,by show (s.th.set n _).length≤1000;rw [List.length_set];exact h.few.th,h.few.lg⟩
  have:=ds_notifyW h hb hq hA (ok_of h9 hv9 (by show s.lg.length≤1000000;omega)) hf
  rw [hq]
  unfold wakeS
  rw [if_pos hA,Int.toNat_natCast]
  exact this
 ·next hb=>exact ds_notifyN h (by simpa using hb)
theorem dcommit (h:Dn s n 8):AC Tryz.prog 49 [stT s,.int .i64 n] (stT (commitS s n)):=by
 unfold commitS
 split
 ·next hl=>exact ds_commitL h hl
 ·next hl =>
  have hl' : (gth s.th n).la=false:=by simpa using hl
  split
  ·next hb=>exact ds_commitW h hl' hb
  ·next hb=>exact ds_commitN h hl' (by simpa using hb)
theorem devict (h:Dn s n 10) (hl:s.lg.length≤999999):AC Tryz.prog 49 [stT s,.int .i64 n] (stT (evictS s n)):=by
 unfold evictS
 split
 ·next hb =>
  obtain ⟨h1,h2⟩:=ev_ok (h.sp hl) hb
  exact ds_evictY h hb (by unfold evH;rw [if_pos hb]) (has_of h1 h.hn) h2
 ·next hb=>exact ds_evictN h (by simpa using hb)
theorem drelease (h:Dn s n 11):AC Tryz.prog 49 [stT s,.int .i64 n] (stT ((s.toSl (rlL s.sl (gth s.th n).re)).onTh n (pcT · 2))):=by
 by_cases he:rlE s.sl (gth s.th n).re=0
 ·exact ds_release h he
 ·have:=ds_releaseN h (bne_of he)
  have e:rlL s.sl (gth s.th n).re=s.sl:=by
   unfold rlE at he
   unfold rlL
   split at he
   ·exact absurd rfl he
   ·next hb=>rw [if_neg hb]
  rw [e]
  exact this
theorem dwrite (h:Dn s n 3):AC Tryz.prog 49 [stT s,.int .i64 n] (stT (sendN s n)):=by
 rw [sendN_3 h.pc]
 split
 ·next hw=>exact ds_write h hw
 ·next hw=>exact ds_writeE h (by simp [hw])
theorem dagain (h:Dn s n 7):AC Tryz.prog 49 [stT s,.int .i64 n] (stT (sendN s n)):=by
 rw [sendN_7 h.pc]
 by_cases hs:seesS s=2
 ·cases hl:(gth s.th n).la
  ·rw [if_pos ⟨hs,rfl⟩];exact ds_againY h hs (by rw [hl];rfl)
  ·rw [if_neg (by simp)];exact ds_againL h hs (by rw [hl];rfl)
 ·rw [if_neg (fun e=>hs e.1)];exact ds_againN h (bne_of hs)
theorem dstep (hB:stB s=true) (hv:Vk s) (hw:s.few) (hn:n<s.th.length) (hst:(gth s.th n).st=1) (hsd:opSide (gth s.th n).ki=1):AC Tryz.prog 49 [stT s,.int .i64 n] (stT (sendN s n)):=by
 have hlg:s.lg.length≤999999:=by have:=hw.lg;omega
 have ho:=ok_of hB hv (by omega)
 have D:∀ {c:Int},(gth s.th n).pc=c→Dn s n c:=fun hc=>⟨hB,ho,hw,hn,hst,hsd,hc⟩
 obtain p | p | p | p | p | p | p | p | p | p | p | p:=pc_or (gth_ok hB hn)
 ·rw [sendN_0 p];exact ds_enter (D p)
 ·rw [sendN_1 p];exact dfirst (D p)
 ·rw [sendN_2 p];exact dlook (D p)
 ·exact dwrite (D p)
 ·rw [sendN_4 p];exact daccept (D p) hlg
 ·rw [sendN_5 p];exact ds_prep (D p)
 ·rw [sendN_6 p];exact dnotify (D p) hlg hv
 ·exact dagain (D p)
 ·rw [sendN_8 p];exact dcommit (D p)
 ·rw [sendN_9 p];exact ds_leave (D p)
 ·rw [sendN_10 p];exact devict (D p) hlg
 ·rw [sendN_11 p];exact drelease (D p)
end
theorem ac_rstep {s:St} {i:Int} (ho:s.ok) (hw:s.few):AC Tryz.prog 49 [stT s,.int .i64 i] (stT (sendS s i)):=by
 cases hr:runsB s i 1
 ·rw [show sendS s i=s by unfold sendS;rw [hr];rfl]
  exact ac_path mixed (ext:=[86]) (fuel:=9) (n:=3) (orc:=[vD false]) (an (ac_rruns hr ho hw) trivial) (by kernel_rfl)
 ·obtain ⟨h1,h2,h3⟩:=runs_iff.1 hr
  obtain ⟨hB,hi0,hi1⟩:=has_iff.1 h1
  obtain ⟨n,rfl⟩:∃ n:Nat,i=n:=⟨i.toNat,by omega⟩
  rw [sendS_is hr]
  rw [Int.toNat_natCast] at h2 h3
  exact dstep hB (.of ho) hw (by omega) h2 h3
end
section
open Go.RowKit
def bS (s:St):Option Blk:=some ⟨true,false,20,1,[stT s]⟩
theorem few_of {s:St} (h:stB s=true) (hl:s.lg.length≤1000):s.few:=by
 obtain ⟨a,b,c,d,-,-⟩:=full_lines h
 have h1:=th_len h
 have h2:=ok_len (stn_iff.1 a).1
 have h3:=ok_len (stn_iff.1 b).1
 have h4:=ok_len (stn_iff.1 c).1
 have h5:=ok_len (stn_iff.1 d).1
 have h6:=(ok_iff.1 (word_ok h).2.1).1
 exact ⟨by omega,by omega,by omega,by omega,by omega,by omega,hl⟩
section
variable {s:St} {i m o:Int} {b:Bool}
end
end
section
open Go.RowKit
section
variable {h t m r:Int}
theorem er_take (hh:In64 h) (ht:In64 t) (hm:In64 m) (hr:In64 r):AC Tryz.prog 159 [wdT h t m,.int .i64 r] (.tuple #[wdT (tkH h t m r) t m,.int .i64 (tkP h t m r),.int .i64 (tkR h t m r)]):=by
 cases hc:checkB h t m r
 ·have e:tkR h t m r=7:=by simp [tkR,haltB,hc]
  rw [(tk_n (by omega)).1,(tk_n (by omega)).2,e]
  exact ac_path mixed (ext:=[82]) (fuel:=9) (n:=6) (orc:=[vD false]) (an (ac_rposchk hc hh ht hm hr) trivial) (by kernel_rfl)
 ·have hb:=check_len hc
  by_cases h2:m=2
  ·have e:tkR h t m r=7:=by simp [tkR,haltB,h2]
   rw [(tk_n (by omega)).1,(tk_n (by omega)).2,e]
   exact ac_path mixed (ext:=[82]) (fuel:=9) (n:=6) (orc:=[vD true,.bool true]) (an (ac_rposchk hc hh ht hm hr)<|an (show (m==2)=true by simp [h2]) trivial) (by kernel_rfl)
  ·have e0:=tk_of hc
   rw [if_neg h2] at e0
   by_cases hs:h<t
   ·have e:tkR h t m r=1:=by rw [e0,if_pos hs]
    rw [(tk_y e).1,(tk_y e).2,e]
    exact ac_path mixed (ext:=[82]) (fuel:=9) (n:=6) (orc:=[vD true,.bool false,.bool true]) (an (ac_rposchk hc hh ht hm hr)<|an (show (m==2)=false by simp [h2])<|an (show decide (h<t)=true by simp [hs])<|an (show In64 (h+1) by simp only [In64];omega) trivial) (by kernel_rfl)
   ·rw [if_neg hs] at e0
    by_cases h1:m=1
    ·have e:tkR h t m r=6:=by rw [e0,if_pos h1]
     rw [(tk_n (by omega)).1,(tk_n (by omega)).2,e]
     exact ac_path mixed (ext:=[82]) (fuel:=9) (n:=6) (orc:=[vD true,.bool false,.bool false,.bool true]) (an (ac_rposchk hc hh ht hm hr)<|an (show (m==2)=false by simp [h2])<|an (show decide (h<t)=false by simp [hs])<|an (show (m==1)=true by simp [h1]) trivial) (by kernel_rfl)
    ·have e:tkR h t m r=4:=by rw [e0,if_neg h1]
     rw [(tk_n (by omega)).1,(tk_n (by omega)).2,e]
     exact ac_path mixed (ext:=[82]) (fuel:=9) (n:=6) (orc:=[vD true,.bool false,.bool false,.bool false]) (an (ac_rposchk hc hh ht hm hr)<|an (show (m==2)=false by simp [h2])<|an (show decide (h<t)=false by simp [hs])<|an (show (m==1)=false by simp [h1]) trivial) (by kernel_rfl)
end
end
section
def shr (s:St):(Int×Int×Int)×List Slo×List Int×List Int×(Int×List Int)×(Int×List Int):=((s.hd,s.tl,s.md),s.sl,s.sn,s.rc,(s.fe,s.fl),(s.ee,s.el))
def diffL:List Slo→List Slo→Nat
 | a::l,b::m=>(if a=b then 0 else 1)+diffL l m
 | _,_=>0
def oneI (p:Prop) [Decidable p]:Nat:=if p then 0 else 1
def thingsN (a b:St):Nat :=
 oneI ((a.hd,a.tl,a.md)=(b.hd,b.tl,b.md))+diffL a.sl b.sl+oneI (a.sn=b.sn)+oneI (a.rc=b.rc)+oneI (a.fe=b.fe∧a.fl=b.fl)+oneI (a.ee=b.ee∧a.el=b.el)
theorem diffL_self:∀ l:List Slo,diffL l l=0
 | []=>rfl
 | a::l=>by simp [diffL,diffL_self l]
theorem diffL_set (x:Slo):∀ (l:List Slo) (i:Nat),diffL l (l.set i x)≤1
 | [],i=>by simp [diffL]
 | a::l,0=>by simp only [List.set_cons_zero,diffL,diffL_self];split <;> omega
 | a::l,i+1=>by have:=diffL_set x l i;simp only [List.set_cons_succ,diffL,if_true];omega
theorem oneI_le (p:Prop) [Decidable p]:oneI p≤1:=by unfold oneI;split <;> omega
theorem oneI_t [Decidable True]:oneI True=0:=if_pos trivial
theorem things_shr {a b c:St} (h:shr b=shr c):thingsN a b=thingsN a c:=by
 simp only [shr,Prod.mk.injEq] at h
 obtain ⟨⟨h1,h2,h3⟩,h4,h5,h6,⟨h7,h8⟩,h9,h10⟩:=h
 simp only [thingsN,h1,h2,h3,h4,h5,h6,h7,h8,h9,h10]
theorem things_self (s:St):thingsN s s=0:=by simp [thingsN,diffL_self,oneI]
theorem things_none {a b:St} (h:shr b=shr a):thingsN a b≤1:=by rw [things_shr h,things_self];omega
theorem things_word (s:St) (x y z:Int):thingsN s (s.toWord x y z)≤1:=by
 simp only [thingsN,St.toWord,diffL_self,and_self,oneI_t,Nat.add_zero,Nat.zero_add];exact oneI_le _
theorem things_sl (s:St) (l:List Slo) (h:diffL s.sl l≤1):thingsN s (s.toSl l)≤1:=by
 simp only [thingsN,St.toSl,diffL_self,and_self,oneI_t];omega
theorem things_sn (s:St) (l:List Int):thingsN s (s.toSn l)≤1:=by
 simp only [thingsN,St.toSn,diffL_self,and_self,oneI_t,Nat.add_zero,Nat.zero_add];exact oneI_le _
theorem things_rc (s:St) (l:List Int):thingsN s (s.toRc l)≤1:=by
 simp only [thingsN,St.toRc,diffL_self,and_self,oneI_t,Nat.add_zero,Nat.zero_add];exact oneI_le _
theorem things_full (s:St) (e:Int) (l:List Int):thingsN s (s.toFull e l)≤1:=by
 simp only [thingsN,St.toFull,diffL_self,and_self,oneI_t,Nat.add_zero,Nat.zero_add];exact oneI_le _
theorem things_empty (s:St) (e:Int) (l:List Int):thingsN s (s.toEmpty e l)≤1:=by
 simp only [thingsN,St.toEmpty,diffL_self,and_self,oneI_t,Nat.add_zero,Nat.zero_add];exact oneI_le _
theorem shr_on (s:St) (n:Nat) (f:Th→Th):shr (s.onTh n f)=shr s:=rfl
theorem shr_tell (s:St) (i k r g:Int):shr (tellS s i k r g)=shr s:=by unfold tellS;split <;> rfl
theorem shr_told (s:St) (n:Nat) (k r g p:Int):shr (toldS s n k r g p)=shr s:=by unfold toldS;rw [shr_on,shr_tell]
theorem shr_wake (s:St) (i:Int):shr (wakeS s i)=shr s:=by unfold wakeS;split <;> rfl
theorem sendN_ind {P:St→Prop} {s:St} {n:Nat} (h0:P ((s.toSn (entL s.sn n)).onTh n (pcT · 1))) (h1:P (firstS s n)) (h2:P (lookS s n)) (h3:P (if wrE s.sl (gth s.th n).re=0 then (s.toSl (wrL s.sl (gth s.th n).re (gth s.th n).va)).onTh n (pcT · 4) else s)) (h4:P (acceptS s n)) (h5:P (s.onTh n (seenT · s.fe 7))) (h6:P (notifyS s n)) (h7:P (if seesS s=2∧(gth s.th n).la=false then s.onTh n (pcT · 8) else s.onTh n (pcT · 2))) (h8:P (commitS s n)) (h9:P ((s.toSn (lvL s.sn n)).onTh n doneT)) (h10:P (evictS s n)) (h11:P ((s.toSl (rlL s.sl (gth s.th n).re)).onTh n (pcT · 2))):P (sendN s n):=by
 unfold sendN
 by_cases c0:(gth s.th n).pc=0
 ·rw [if_pos c0];exact h0
 rw [if_neg c0]
 by_cases c1:(gth s.th n).pc=1
 ·rw [if_pos c1];exact h1
 rw [if_neg c1]
 by_cases c2:(gth s.th n).pc=2
 ·rw [if_pos c2];exact h2
 rw [if_neg c2]
 by_cases c3:(gth s.th n).pc=3
 ·rw [if_pos c3];exact h3
 rw [if_neg c3]
 by_cases c4:(gth s.th n).pc=4
 ·rw [if_pos c4];exact h4
 rw [if_neg c4]
 by_cases c5:(gth s.th n).pc=5
 ·rw [if_pos c5];exact h5
 rw [if_neg c5]
 by_cases c6:(gth s.th n).pc=6
 ·rw [if_pos c6];exact h6
 rw [if_neg c6]
 by_cases c7:(gth s.th n).pc=7
 ·rw [if_pos c7];exact h7
 rw [if_neg c7]
 by_cases c8:(gth s.th n).pc=8
 ·rw [if_pos c8];exact h8
 rw [if_neg c8]
 by_cases c9:(gth s.th n).pc=9
 ·rw [if_pos c9];exact h9
 rw [if_neg c9]
 by_cases c10:(gth s.th n).pc=10
 ·rw [if_pos c10];exact h10
 rw [if_neg c10]
 exact h11
theorem sendN_things {s:St} {n:Nat}:thingsN s (sendN s n)≤1:=by
 refine sendN_ind (P:=fun u=>thingsN s u≤1) ?_ ?_ ?_ ?_ ?_ ?_ ?_ ?_ ?_ ?_ ?_ ?_
 ·rw [things_shr (shr_on _ _ _)];exact things_sn _ _
 ·unfold firstS;refine things_none ?_;(repeat' split) <;> first | exact shr_told _ _ _ _ _ _ | rfl
 ·unfold lookS fullS;refine things_none ?_;(repeat' split) <;> first | exact shr_told _ _ _ _ _ _ | rfl
 ·split
  ·rw [things_shr (shr_on _ _ _)]
   refine things_sl _ _ ?_
   unfold wrL;split
   ·exact diffL_set _ _ _
   ·rw [diffL_self];omega
  ·rw [things_self];omega
 ·unfold acceptS;split
  ·rw [things_shr (shr_told _ _ _ _ _ _)];exact things_word _ _ _ _
  ·refine things_none ?_;(repeat' split) <;> first | exact shr_told _ _ _ _ _ _ | rfl
 ·exact things_none rfl
 ·unfold notifyS;split
  ·rw [things_shr (shr_wake _ _),things_shr (shr_on _ _ _)];exact things_empty _ _ _
  ·rw [things_shr (shr_on _ _ _)];exact things_empty _ _ _
 ·refine things_none ?_;split <;> rfl
 ·unfold commitS;split
  ·exact things_none rfl
  ·split
   ·rw [things_shr (shr_on _ _ _)];exact things_full _ _ _
   ·exact things_none rfl
 ·rw [things_shr (shr_on _ _ _)];exact things_sn _ _
 ·unfold evictS;split
  ·rw [things_shr (shr_told _ _ _ _ _ _)];exact things_word _ _ _ _
  ·exact things_none rfl
 ·rw [things_shr (shr_on _ _ _)]
  refine things_sl _ _ ?_
  unfold rlL;split
  ·exact diffL_set _ _ _
  ·rw [diffL_self];omega
theorem sendS_things (s:St) (i:Int):thingsN s (sendS s i)≤1:=by
 unfold sendS;split
 ·exact sendN_things
 ·rw [things_self];omega
structure Oth (l m:List Th) (i:Int):Prop where
 len:m.length=l.length
 one:∃ w:Nat,∀ j:Nat,j<l.length→(j:Int)≠i→gth m j=gth l j∨(j=w∧(gth l j).st=2∧gth m j=wakeT (gth l j))
theorem Oth.refl (l:List Th) (i:Int):Oth l l i:=⟨rfl,0,fun _ _ _=>.inl rfl⟩
theorem Oth.set {l:List Th} {n:Nat} (t:Th):Oth l (l.set n t) n:=⟨by simp,0,fun j hj hne=>.inl (by
 by_cases hn:n<l.length
 ·rw [gth_set hn,if_neg (by omega)]
 ·rw [List.set_eq_of_length_le (by omega)])⟩
theorem Oth.wake {l:List Th} {n w:Nat} (t:Th) (hw:w<l.length):Oth l ((l.set n t).set w (wakeT (gth (l.set n t) w))) n:=⟨by simp,w,fun j hj hne=>by
 have e1:gth (l.set n t) j=gth l j:=by
  by_cases hn:n<l.length
  ·rw [gth_set hn,if_neg (by omega)]
  ·rw [List.set_eq_of_length_le (by omega)]
 rw [gth_set (by simpa using hw)]
 split
 ·next e =>
  subst e
  rw [e1]
  by_cases h2:(gth l w).st=2
  ·exact .inr ⟨rfl,h2,rfl⟩
  ·left;unfold wakeT;rw [if_neg h2]
 ·exact .inl e1⟩
theorem th_tell (s:St) (n:Nat) (k r g:Int):∃ t,(tellS s n k r g).th=s.th.set n t:=by
 unfold tellS;split
 ·exact ⟨_,by simp [St.setTh,St.addLg];rfl⟩
 ·exact ⟨gth s.th n,gth_set_self.symm⟩
theorem th_told (s:St) (n:Nat) (k r g p:Int):∃ t,(toldS s n k r g p).th=s.th.set n t:=by
 obtain ⟨t,ht⟩:=th_tell s n k r g
 exact ⟨pcT (gth (tellS s n k r g).th n) p,by show (tellS s n k r g).th.set n _=_;rw [ht,List.set_set]⟩
def LgOk (a b:List En):Prop:=b=a∨∃ x,b=a++[x]
theorem lg_tell (s:St) (i k r g:Int):LgOk s.lg (tellS s i k r g).lg:=by
 unfold tellS;split
 ·exact .inr ⟨_,rfl⟩
 ·exact .inl rfl
theorem lg_told (s:St) (n:Nat) (k r g p:Int):LgOk s.lg (toldS s n k r g p).lg:=lg_tell s n k r g
theorem cf_tell (s:St) (i k r g:Int):(tellS s i k r g).cf=s.cf∧(tellS s i k r g).nw=s.nw:=by unfold tellS;split <;> exact ⟨rfl,rfl⟩
theorem sendN_lgOk {s:St} {n:Nat}:LgOk s.lg (sendN s n).lg∧(sendN s n).cf=s.cf∧(sendN s n).nw=s.nw:=by
 have tl:∀ (u:St) (k r g p:Int),u.lg=s.lg→u.cf=s.cf→u.nw=s.nw→LgOk s.lg (toldS u n k r g p).lg∧(toldS u n k r g p).cf=s.cf∧(toldS u n k r g p).nw=s.nw:=fun u k r g p h1 h2 h3 =>
  ⟨h1 ▸ lg_told u n k r g p,(cf_tell u n k r g).1.trans h2,(cf_tell u n k r g).2.trans h3⟩
 have no:∀ (u:St),u.lg=s.lg→u.cf=s.cf→u.nw=s.nw→LgOk s.lg u.lg∧u.cf=s.cf∧u.nw=s.nw:=fun u h1 h2 h3=>⟨.inl h1,h2,h3⟩
 refine sendN_ind (P:=fun u=>LgOk s.lg u.lg∧u.cf=s.cf∧u.nw=s.nw) ?_ ?_ ?_ ?_ ?_ ?_ ?_ ?_ ?_ ?_ ?_ ?_
 all_goals (try unfold firstS);(try unfold lookS);(try unfold fullS);(try unfold acceptS);(try unfold notifyS);(try unfold wakeS);(try unfold commitS);(try unfold evictS)
 all_goals (repeat' split) <;> first | exact tl _ _ _ _ _ rfl rfl rfl | exact no _ rfl rfl rfl
theorem sendS_lgOk (s:St) (i:Int):LgOk s.lg (sendS s i).lg∧(sendS s i).cf=s.cf∧(sendS s i).nw=s.nw:=by
 unfold sendS;split
 ·exact sendN_lgOk
 ·exact ⟨.inl rfl,rfl,rfl⟩
end
section
theorem lg_is {s:St} (h:stB s=true) {n:Nat} (hn:n<s.th.length) (k r g p:Int):(toldS s n k r g p).lg=s.lg++[⟨n,k,(gth s.th n).va,r,g⟩]:=by
 show (tellS s n k r g).lg=_;rw [tell_th h hn];rfl
end
section
def gotT (t:Th) (g p:Int):Th:=⟨t.st,t.ki,t.va,t.un,p,t.re,t.se,t.tr,t.la,t.rs,g⟩
def seesR (s:St):Int:=tkR s.hd s.tl s.md s.sl.length
def firstR (s:St) (n:Nat):St :=
 if plI s.rc n=0 then s.onTh n (pcT · 2)
 else if (gth s.th n).la=true then toldS s n (gth s.th n).ki 5 0 9
 else s.onTh n onT
def lookR (s:St) (n:Nat):St :=
 if seesR s=1 then s.onTh n (pcT · 3)
 else if seesR s≠4 then toldS s n (gth s.th n).ki (seesR s) 0 9
 else if (gth s.th n).ki=5 then toldS s n (gth s.th n).ki 4 0 9
 else if (gth s.th n).la=true then toldS s n (gth s.th n).ki 5 0 9
 else if waySt s (gth s.th n).tr=2 then s.onTh n (pcT · 5)
 else s.onTh n onT
def takeR (s:St) (n:Nat):St :=
 if seesR s=4 then s.onTh n (pcT · 2)
 else if seesR s≠1 then toldS s n (gth s.th n).ki (seesR s) 0 9
 else toldS ((s.toWord (s.hd+1) s.tl s.md).onTh n (regT · s.hd 4)) n (gth s.th n).ki 1 (valV s s.hd) 4
def readR (s:St) (n:Nat):St:=(s.toSl (rlL s.sl (gth s.th n).re)).onTh n (gotT · (rdV s.sl (gth s.th n).re) 6)
def notifyR (s:St) (n:Nat):St :=
 if hdB (ntT 1 s.fe s.fl)=true then wakeS ((s.toFull (ntE s.fe s.fl) (ntL 1 s.fe s.fl)).onTh n (pcT · 9)) (hdI (ntT 1 s.fe s.fl))
 else (s.toFull (ntE s.fe s.fl) (ntL 1 s.fe s.fl)).onTh n (pcT · 9)
def commitR (s:St) (n:Nat):St :=
 if (gth s.th n).la=true then s.onTh n (pcT · 2)
 else if cmB s.ee s.el (gth s.th n).se n=true then (s.toEmpty s.ee (s.el++[(n:Int)])).onTh n (parkT · 2)
 else s.onTh n (pcT · 2)
def recvN (s:St) (n:Nat):St :=
 if (gth s.th n).pc=0 then (s.toRc (entL s.rc n)).onTh n (pcT · 1)
 else if (gth s.th n).pc=1 then firstR s n
 else if (gth s.th n).pc=2 then lookR s n
 else if (gth s.th n).pc=3 then takeR s n
 else if (gth s.th n).pc=4 then readR s n
 else if (gth s.th n).pc=5 then s.onTh n (seenT · s.ee 7)
 else if (gth s.th n).pc=6 then notifyR s n
 else if (gth s.th n).pc=7 then (if seesR s=4∧(gth s.th n).la=false then s.onTh n (pcT · 8) else s.onTh n (pcT · 2))
 else if (gth s.th n).pc=8 then commitR s n
 else (s.toRc (lvL s.rc n)).onTh n doneT
def recvS (s:St) (i:Int):St:=if runsB s i 2=true then recvN s i.toNat else s
def recvK (s:St) (i:Int):Nat→St×Nat
 | 0=>(s,0)
 | k+1=>if runsB s i 2=true then ((recvK (recvS s i) i k).1,(recvK (recvS s i) i k).2+1) else (s,0)
theorem recvN_ind {P:St→Prop} {s:St} {n:Nat} (h0:P ((s.toRc (entL s.rc n)).onTh n (pcT · 1))) (h1:P (firstR s n)) (h2:P (lookR s n)) (h3:P (takeR s n)) (h4:P (readR s n)) (h5:P (s.onTh n (seenT · s.ee 7))) (h6:P (notifyR s n)) (h7:P (if seesR s=4∧(gth s.th n).la=false then s.onTh n (pcT · 8) else s.onTh n (pcT · 2))) (h8:P (commitR s n)) (h9:P ((s.toRc (lvL s.rc n)).onTh n doneT)):P (recvN s n):=by
 unfold recvN
 by_cases c0:(gth s.th n).pc=0
 ·rw [if_pos c0];exact h0
 rw [if_neg c0]
 by_cases c1:(gth s.th n).pc=1
 ·rw [if_pos c1];exact h1
 rw [if_neg c1]
 by_cases c2:(gth s.th n).pc=2
 ·rw [if_pos c2];exact h2
 rw [if_neg c2]
 by_cases c3:(gth s.th n).pc=3
 ·rw [if_pos c3];exact h3
 rw [if_neg c3]
 by_cases c4:(gth s.th n).pc=4
 ·rw [if_pos c4];exact h4
 rw [if_neg c4]
 by_cases c5:(gth s.th n).pc=5
 ·rw [if_pos c5];exact h5
 rw [if_neg c5]
 by_cases c6:(gth s.th n).pc=6
 ·rw [if_pos c6];exact h6
 rw [if_neg c6]
 by_cases c7:(gth s.th n).pc=7
 ·rw [if_pos c7];exact h7
 rw [if_neg c7]
 by_cases c8:(gth s.th n).pc=8
 ·rw [if_pos c8];exact h8
 rw [if_neg c8]
 exact h9
theorem recvN_0 {s:St} {n:Nat} (h:(gth s.th n).pc=0):recvN s n=(s.toRc (entL s.rc n)).onTh n (pcT · 1):=by unfold recvN;rw [h];rfl
theorem recvN_1 {s:St} {n:Nat} (h:(gth s.th n).pc=1):recvN s n=firstR s n:=by unfold recvN;rw [h];rfl
theorem recvN_2 {s:St} {n:Nat} (h:(gth s.th n).pc=2):recvN s n=lookR s n:=by unfold recvN;rw [h];rfl
theorem recvN_3 {s:St} {n:Nat} (h:(gth s.th n).pc=3):recvN s n=takeR s n:=by unfold recvN;rw [h];rfl
theorem recvN_4 {s:St} {n:Nat} (h:(gth s.th n).pc=4):recvN s n=readR s n:=by unfold recvN;rw [h];rfl
theorem recvN_5 {s:St} {n:Nat} (h:(gth s.th n).pc=5):recvN s n=s.onTh n (seenT · s.ee 7):=by unfold recvN;rw [h];rfl
theorem recvN_6 {s:St} {n:Nat} (h:(gth s.th n).pc=6):recvN s n=notifyR s n:=by unfold recvN;rw [h];rfl
theorem recvN_7 {s:St} {n:Nat} (h:(gth s.th n).pc=7):recvN s n=(if seesR s=4∧(gth s.th n).la=false then s.onTh n (pcT · 8) else s.onTh n (pcT · 2)):=by unfold recvN;rw [h];rfl
theorem recvN_8 {s:St} {n:Nat} (h:(gth s.th n).pc=8):recvN s n=commitR s n:=by unfold recvN;rw [h];rfl
theorem recvN_9 {s:St} {n:Nat} (h:(gth s.th n).pc=9∨(gth s.th n).pc=10∨(gth s.th n).pc=11):recvN s n=(s.toRc (lvL s.rc n)).onTh n doneT:=by unfold recvN;rcases h with h | h | h <;> rw [h] <;> rfl
theorem pc_or' {t:Th} (h:thB t=true):t.pc=0∨t.pc=1∨t.pc=2∨t.pc=3∨t.pc=4∨t.pc=5∨t.pc=6∨t.pc=7∨t.pc=8∨(t.pc=9∨t.pc=10∨t.pc=11):=by
 rcases pc_or h with p | p | p | p | p | p | p | p | p | p | p | p <;> simp [p]
theorem gotT_ok {t:Th} (h:thB t=true) (h1:t.st≠0) {g p:Int} (hp:0≤p∧p≤11):thB (gotT t g p)=true:=by
 obtain ⟨st,ki,va,un,pc,re,se,tr,la,rs,go⟩:=t
 simp only [gotT] at *;rw [thB_iff] at *;omega
theorem seesR_bd (s:St):0≤seesR s∧seesR s≤7:=by
 unfold seesR tkR;repeat' split
 all_goals omega
theorem seesR_or {s:St} (h:stB s=true):(seesR s=1∧s.md≠2∧s.hd<s.tl)∨(seesR s=4∧s.md=0∧s.hd=s.tl)∨(seesR s=6∧s.md=1∧s.hd=s.tl)∨(seesR s=7∧s.md=2):=by
 have c:=(word_ok h).1
 have hl:=check_len c
 unfold seesR tkR haltB
 rw [c,some_iff c]
 by_cases h2:s.md=2
 ·simp [h2]
 ·by_cases hs:s.hd<s.tl
  ·simp [h2,hs]
  ·by_cases h1:s.md=1
   ·simp [h1,hs];omega
   ·simp [h1,h2,hs];omega
theorem takeW_ok {s:St} (h:stB s=true) (hs:seesR s=1):stB (s.toWord (s.hd+1) s.tl s.md)=true:=by
 have hl:=check_len (word_ok h).1
 refine word_stB h (check_iff.2 ?_)
 rcases seesR_or h with ⟨-,h2,h3⟩ | ⟨h1,-⟩ | ⟨h1,-⟩ | ⟨h1,-⟩ <;> omega
theorem firstR_stB {s:St} (h:stB s=true) {n:Nat} (hn:n<s.th.length) (h1:(gth s.th n).st≠0):stB (firstR s n)=true:=by
 unfold firstR
 repeat' split
 ·exact onTh_stB h (pcT_ok (gth_ok h hn) h1 (by decide))
 ·exact told_stB h hn h1 (by decide) (by decide)
 ·exact onTh_stB h (onT_ok (gth_ok h hn) h1)
theorem lookR_stB {s:St} (h:stB s=true) {n:Nat} (hn:n<s.th.length) (h1:(gth s.th n).st≠0):stB (lookR s n)=true:=by
 unfold lookR
 repeat' split
 ·exact onTh_stB h (pcT_ok (gth_ok h hn) h1 (by decide))
 ·exact told_stB h hn h1 (seesR_bd s) (by decide)
 ·exact told_stB h hn h1 (by decide) (by decide)
 ·exact told_stB h hn h1 (by decide) (by decide)
 ·exact onTh_stB h (pcT_ok (gth_ok h hn) h1 (by decide))
 ·exact onTh_stB h (onT_ok (gth_ok h hn) h1)
theorem gth_on {s:St} {n:Nat} (hn:n<s.th.length) (f:Th→Th):gth (s.onTh n f).th n=f (gth s.th n):=by show gth (s.th.set n _) n=_;rw [gth_set hn,if_pos rfl]
theorem takeB_ok {s:St} (h:stB s=true) {n:Nat} (hn:n<s.th.length) (h1:(gth s.th n).st≠0) (hs:seesR s=1):stB ((s.toWord (s.hd+1) s.tl s.md).onTh n (regT · s.hd 4))=true:=by
 have hl:=check_len (word_ok h).1
 exact onTh_stB (takeW_ok h hs) (regT_ok (gth_ok h hn) h1 (by omega) (by decide))
theorem takeR_stB {s:St} (h:stB s=true) {n:Nat} (hn:n<s.th.length) (h1:(gth s.th n).st≠0):stB (takeR s n)=true:=by
 unfold takeR
 repeat' split
 ·exact onTh_stB h (pcT_ok (gth_ok h hn) h1 (by decide))
 ·exact told_stB h hn h1 (seesR_bd s) (by decide)
 ·next h2 h3 =>
  have hs:seesR s=1:=Classical.not_not.1 h3
  refine told_stB (takeB_ok h hn h1 hs) (by show n<(s.th.set n _).length;simpa using hn) ?_ (by decide) (by decide)
  have:=gth_on (s:=s.toWord (s.hd+1) s.tl s.md) (n:=n) hn (regT · s.hd 4)
  rw [this];exact h1
theorem readR_stB {s:St} (h:stB s=true) {n:Nat} (hn:n<s.th.length) (h1:(gth s.th n).st≠0):stB (readR s n)=true :=
 onTh_stB (sl_stB h (rl_len _ _) (rlL_ok (word_ok h).2.1 _)) (gotT_ok (gth_ok h hn) h1 (by decide))
theorem notifyR_stB {s:St} (h:stB s=true) {n:Nat} (hn:n<s.th.length) (h1:(gth s.th n).st≠0):stB (notifyR s n)=true:=by
 obtain ⟨-,-,d,-,e,-⟩:=full_lines h
 have h2:stB (s.toFull (ntE s.fe s.fl) (ntL 1 s.fe s.fl))=true:=by
  refine full_stB h ?_ ?_
  ·simp only [ntE,ntL,e,if_true];exact okE_nx e (ok_drop (okE_ln e) 1)
  ·simp only [ntL,e,if_true];exact stn_sub d (ok_drop (okE_ln e) 1) (fun x hx=>List.mem_of_mem_drop hx)
 have h3:stB ((s.toFull (ntE s.fe s.fl) (ntL 1 s.fe s.fl)).onTh n (pcT · 9))=true:=onTh_stB h2 (pcT_ok (gth_ok h hn) h1 (by decide))
 unfold notifyR
 split
 ·exact wake_stB h3 _
 ·exact h3
theorem commitR_stB {s:St} (h:stB s=true) {n:Nat} (hn:n<s.th.length) (h1:(gth s.th n).st≠0):stB (commitR s n)=true:=by
 obtain ⟨-,-,-,c,-,e⟩:=full_lines h
 unfold commitR
 repeat' split
 ·exact onTh_stB h (pcT_ok (gth_ok h hn) h1 (by decide))
 ·next hb =>
  have hE:entE s.el n=0:=by simp only [cmB,Bool.and_eq_true,beq_iff_eq] at hb;exact hb.1.2
  have h2:=stn_ent c (ok_th h hn).1
  rw [ent_yes hE] at h2
  exact onTh_stB (s:=s.toEmpty s.ee (s.el++[(n:Int)])) (empty_stB h (okE_with e (ok_snoc hE)) h2) (parkT_ok (gth_ok h hn) h1 (by decide))
 ·exact onTh_stB h (pcT_ok (gth_ok h hn) h1 (by decide))
theorem recvN_stB {s:St} (h:stB s=true) {n:Nat} (hn:n<s.th.length) (h1:(gth s.th n).st≠0):stB (recvN s n)=true:=by
 obtain ⟨-,a,-,-,-,e⟩:=full_lines h
 have he:=okE_iff.1 e
 have hg:=gth_ok h hn
 refine recvN_ind (P:=fun u=>stB u=true) ?_ ?_ ?_ ?_ ?_ ?_ ?_ ?_ ?_ ?_
 ·exact onTh_stB (rc_stB h (stn_ent a (ok_th h hn).1)) (pcT_ok hg h1 (by decide))
 ·exact firstR_stB h hn h1
 ·exact lookR_stB h hn h1
 ·exact takeR_stB h hn h1
 ·exact readR_stB h hn h1
 ·exact onTh_stB h (seenT_ok hg h1 (by omega) (by decide))
 ·exact notifyR_stB h hn h1
 ·split
  ·exact onTh_stB h (pcT_ok hg h1 (by decide))
  ·exact onTh_stB h (pcT_ok hg h1 (by decide))
 ·exact commitR_stB h hn h1
 ·exact onTh_stB (rc_stB h (stn_lv a)) (doneT_ok hg h1)
theorem recvS_stB (s:St) (i:Int):stB (recvS s i)=stB s:=by
 unfold recvS
 split
 ·next hr =>
  obtain ⟨hh,h1,-⟩:=runs_iff.1 hr
  obtain ⟨h,h2,h3⟩:=has_iff.1 hh
  rw [h]
  exact recvN_stB h (by omega) (by omega)
 ·rfl
theorem recvN_things {s:St} {n:Nat}:thingsN s (recvN s n)≤1:=by
 refine recvN_ind (P:=fun u=>thingsN s u≤1) ?_ ?_ ?_ ?_ ?_ ?_ ?_ ?_ ?_ ?_
 ·rw [things_shr (shr_on _ _ _)];exact things_rc _ _
 ·unfold firstR;refine things_none ?_;(repeat' split) <;> first | exact shr_told _ _ _ _ _ _ | rfl
 ·unfold lookR;refine things_none ?_;(repeat' split) <;> first | exact shr_told _ _ _ _ _ _ | rfl
 ·unfold takeR;split
  ·exact things_none rfl
  ·split
   ·exact things_none (shr_told _ _ _ _ _ _)
   ·rw [things_shr (shr_told _ _ _ _ _ _),things_shr (shr_on _ _ _)];exact things_word _ _ _ _
 ·unfold readR
  rw [things_shr (shr_on _ _ _)]
  refine things_sl _ _ ?_
  unfold rlL;split
  ·exact diffL_set _ _ _
  ·rw [diffL_self];omega
 ·exact things_none rfl
 ·unfold notifyR;split
  ·rw [things_shr (shr_wake _ _),things_shr (shr_on _ _ _)];exact things_full _ _ _
  ·rw [things_shr (shr_on _ _ _)];exact things_full _ _ _
 ·refine things_none ?_;split <;> rfl
 ·unfold commitR;split
  ·exact things_none rfl
  ·split
   ·rw [things_shr (shr_on _ _ _)];exact things_empty _ _ _
   ·exact things_none rfl
 ·rw [things_shr (shr_on _ _ _)];exact things_rc _ _
theorem recvS_things (s:St) (i:Int):thingsN s (recvS s i)≤1:=by
 unfold recvS;split
 ·exact recvN_things
 ·rw [things_self];omega
theorem recvN_lgOk {s:St} {n:Nat}:LgOk s.lg (recvN s n).lg∧(recvN s n).cf=s.cf∧(recvN s n).nw=s.nw:=by
 have tl:∀ (u:St) (k r g p:Int),u.lg=s.lg→u.cf=s.cf→u.nw=s.nw→LgOk s.lg (toldS u n k r g p).lg∧(toldS u n k r g p).cf=s.cf∧(toldS u n k r g p).nw=s.nw:=fun u k r g p h1 h2 h3 =>
  ⟨h1 ▸ lg_told u n k r g p,(cf_tell u n k r g).1.trans h2,(cf_tell u n k r g).2.trans h3⟩
 have no:∀ (u:St),u.lg=s.lg→u.cf=s.cf→u.nw=s.nw→LgOk s.lg u.lg∧u.cf=s.cf∧u.nw=s.nw:=fun u h1 h2 h3=>⟨.inl h1,h2,h3⟩
 refine recvN_ind (P:=fun u=>LgOk s.lg u.lg∧u.cf=s.cf∧u.nw=s.nw) ?_ ?_ ?_ ?_ ?_ ?_ ?_ ?_ ?_ ?_
 all_goals (try unfold firstR);(try unfold lookR);(try unfold takeR);(try unfold readR);(try unfold notifyR);(try unfold wakeS);(try unfold commitR)
 all_goals (repeat' split) <;> first | exact tl _ _ _ _ _ rfl rfl rfl | exact no _ rfl rfl rfl
theorem recvS_lgOk (s:St) (i:Int):LgOk s.lg (recvS s i).lg∧(recvS s i).cf=s.cf∧(recvS s i).nw=s.nw:=by
 unfold recvS;split
 ·exact recvN_lgOk
 ·exact ⟨.inl rfl,rfl,rfl⟩
end
section
open Go.RowKit
structure Dr (s:St) (n:Nat) (c:Int):Prop where
 ck:stB s=true
 ok:s.ok
 few:s.few
 hn:n<s.th.length
 st:(gth s.th n).st=1
 sd:opSide (gth s.th n).ki=2
 pc:(gth s.th n).pc=c
section
variable {s:St} {n:Nat} {c:Int}
theorem Dr.ht (h:Dr s n c):gth s.th n=pcT (gth s.th n) c:=by rw [← h.pc];rfl
theorem Dr.ix (h:Dr s n c):IxP ((s.th.map thT).toArray) (n:Int) (thT (pcT (gth s.th n) c)):=by
 have:=ixT h.hn
 rw [h.ht] at this
 exact this
theorem Dr.has (h:Dr s n c):hasB s n=true:=has_of h.ck h.hn
theorem Dr.ru (h:Dr s n c):runsB s n 2=true:=runs_iff.2 ⟨h.has,by simpa using h.st,by simpa using h.sd⟩
theorem Dr.rs (h:Dr s n c):thRuns (gth s.th n).st=0:=by rw [h.st];rfl
theorem Dr.lrc (h:Dr s n c):okLn s.rc=true:=(stn_iff.1 (full_lines h.ck).2.1).1
theorem Dr.i15 (h:Dr s n c):(0:Int)≤n∧(n:Int)≤15:=(ok_th h.ck h.hn).2
theorem Dr.ful (h:Dr s n c):okE s.fe s.fl=true:=(full_lines h.ck).2.2.2.2.1
theorem Dr.emp (h:Dr s n c):okE s.ee s.el=true:=(full_lines h.ck).2.2.2.2.2
theorem Dr.sl (h:Dr s n c):okSl s.sl=true:=(word_ok h.ck).2.1
theorem Dr.bd (h:Dr s n c):0≤(gth s.th n).re∧(gth s.th n).re≤1099511627776∧0≤(gth s.th n).tr∧(gth s.th n).tr≤1099511627776:=by
 have h1:=gth_ok h.ck h.hn
 generalize gth s.th n=t at h1
 obtain ⟨st,ki,va,un,pc,re,se,tr,la,rs,go⟩:=t
 rw [thB_iff] at h1
 simp only
 omega
theorem Dr.re0 (h:Dr s n c):0≤(gth s.th n).re:=h.bd.1
theorem Dr.rei (h:Dr s n c):In64 (gth s.th n).re:=by have:=h.bd;constructor <;> omega
theorem Dr.tr1 (h:Dr s n c) (_hr:decide ((gth s.th n).tr<1099511627776)=true):In64 ((gth s.th n).tr+1):=by have:=h.bd;constructor <;> omega
theorem Dr.onw (h:Dr s n c) (hr:decide ((gth s.th n).tr<1099511627776)=true):AC Tryz.prog 56 [stT s,.int .i64 n,thT (upT (gth s.th n) c)] (stT (s.onTh n onT)):=by
 have e:s.onTh n onT=s.setTh n (upT (gth s.th n) c):=by
  unfold St.onTh onT upT
  rw [if_pos (of_decide_eq_true hr),h.pc]
 rw [e]
 exact ac_rwith s n (upT (gth s.th n) c) h.hn h.few.th
theorem Dr.onx (h:Dr s n c) (hr:decide ((gth s.th n).tr<1099511627776)=false):AC Tryz.prog 56 [stT s,.int .i64 n,thT (pcT (gth s.th n) c)] (stT (s.onTh n onT)):=by
 have e:s.onTh n onT=s.setTh n (pcT (gth s.th n) c):=by
  unfold St.onTh onT pcT
  rw [if_neg (of_decide_eq_false hr),h.pc]
 rw [e]
 exact ac_rwith s n (pcT (gth s.th n) c) h.hn h.few.th
theorem Dr.len (h:Dr s n c):In64 (s.sl.length:Int):=by have:=h.few.sl;constructor <;> omega
theorem Dr.see {r:Int} (h:Dr s n c) (hs:seesR s=r):AC Tryz.prog 159 [wdT s.hd s.tl s.md,.int .i64 s.sl.length] (.tuple #[wdT (tkH s.hd s.tl s.md s.sl.length) s.tl s.md,.int .i64 (tkP s.hd s.tl s.md s.sl.length),.int .i64 r]):=hs ▸ er_take h.ok.hd h.ok.tl h.ok.md h.len
theorem Dr.see1 (h:Dr s n c) (hs:seesR s=1):AC Tryz.prog 159 [wdT s.hd s.tl s.md,.int .i64 s.sl.length] (.tuple #[wdT (s.hd+1) s.tl s.md,.int .i64 s.hd,.int .i64 1]):=by
 have:=h.see hs
 rw [(tk_y hs).1,(tk_y hs).2] at this
 exact this
theorem Dr.ix3 (h:Dr s n 3):IxP ((((s.toWord (s.hd+1) s.tl s.md).onTh n (regT · s.hd 4)).th.map thT).toArray) (n:Int) (thT (regT (pcT (gth s.th n) 3) s.hd 4)):=by
 have:=ixT (l:=((s.toWord (s.hd+1) s.tl s.md).onTh n (regT · s.hd 4)).th) (n:=n) (by show n<(s.th.set n _).length;rw [List.length_set];exact h.hn)
 rw [gth_on (s:=s.toWord (s.hd+1) s.tl s.md) h.hn] at this
 exact this
theorem hA3 (h:n<s.th.length):n<((s.toWord (s.hd+1) s.tl s.md).onTh n (regT · s.hd 4)).th.length:=by show n<(s.th.set n _).length;rw [List.length_set];exact h
theorem Dr.nx {v:Int} (_h:Dr s n c) (hn:waySt s (gth s.th n).tr=v):AC Tryz.prog 158 [cfT s.cf,.int .i64 (gth s.th n).tr] (.int .i64 v):=by subst hn;exact ac_rnext s.cf (gth s.th n).tr
theorem Dr.com (h:Dr s n c) (hb:cmB s.ee s.el (gth s.th n).se n=true):AC Tryz.prog 153 [evT s.ee s.el,.int .i64 (gth s.th n).se,.int .i64 n] (.tuple #[evT s.ee (s.el++[(n:Int)]),.bool true,.int .i64 (entE s.el n)]):=by
 have:=ac_rcommit hb h.emp h.i15
 rw [show cmL s.ee s.el (gth s.th n).se n=s.el++[(n:Int)] by unfold cmL;rw [if_pos hb]] at this
 exact this
theorem Dr.con (h:Dr s n c) (hb:cmB s.ee s.el (gth s.th n).se n=false):AC Tryz.prog 153 [evT s.ee s.el,.int .i64 (gth s.th n).se,.int .i64 n] (.tuple #[evT s.ee s.el,.bool false,.int .i64 (entE s.el n)]):=by
 have:=ac_rcommit hb h.emp h.i15
 rw [show cmL s.ee s.el (gth s.th n).se n=s.el by unfold cmL;rw [hb];rfl] at this
 exact this
theorem dr_enter (h:Dr s n 0)  : AC Tryz.prog 50 [stT s,.int .i64 n] (stT ((s.toRc (entL s.rc n)).onTh n (pcT · 1))) :=
 ac_path mixed (ext:=[86,56,157,95,155,87,144,98,105,101,159,93,94,153,154,99,158]) (fuel:=9) (n:=6) (orc:=[vD true,thT (pcT (gth s.th n) 0),.nilFunc,.tuple #[rowI (entL s.rc n),.int .i64 (entE s.rc n)],thT (pcT (gth s.th n) 0),stT ((s.toRc (entL s.rc n)).onTh n (pcT · 1))])
  (an (ac_rruns h.ru h.ok h.few)<|an h.ix<|an (ac_renter h.lrc h.i15)<|an (h.ix)<|an (ac_rwith (s.toRc (entL s.rc n)) n (pcT (pcT (gth s.th n) 0) 1) h.hn h.few.th) trivial) (by kernel_rfl)
theorem dr_first (h:Dr s n 1) (hp:(plI s.rc n==0)=true):AC Tryz.prog 50 [stT s,.int .i64 n] (stT (s.onTh n (pcT · 2))) :=
 ac_path mixed (ext:=[86,56,157,95,155,87,144,98,105,101,159,93,94,153,154,99,158]) (fuel:=9) (n:=6) (orc:=[vD true,thT (pcT (gth s.th n) 1),.nilFunc,.nilFunc,.int .i64 (plI s.rc n),.bool true,thT (pcT (gth s.th n) 1),stT ((s).onTh n (pcT · 2))])
  (an (ac_rruns h.ru h.ok h.few)<|an h.ix<|an (ac_rlplace (l:=s.rc) (i:=n) rfl)<|an (hp)<|an (h.ix)<|an (ac_rwith (s) n (pcT (pcT (gth s.th n) 1) 2) h.hn h.few.th) trivial) (by kernel_rfl)
theorem dr_firstL (h:Dr s n 1) (hp:(plI s.rc n==0)=false) (hl:(gth s.th n).la=true):AC Tryz.prog 50 [stT s,.int .i64 n] (stT (toldS s n (gth s.th n).ki 5 0 9)) :=
 ac_path mixed (ext:=[86,56,157,95,155,87,144,98,105,101,159,93,94,153,154,99,158]) (fuel:=9) (n:=6) (orc:=[vD true,thT (pcT (gth s.th n) 1),.nilFunc,.nilFunc,.int .i64 (plI s.rc n),.bool false,thT (pcT (gth s.th n) 1),.bool true,thT (pcT (gth s.th n) 1),stT (tellS (s) n (gth s.th n).ki (5) 0),thT (gth (tellS (s) n (gth s.th n).ki (5) 0).th n),stT (toldS (s) n (gth s.th n).ki (5) 0 9)])
  (an (ac_rruns h.ru h.ok h.few)<|an h.ix<|an (ac_rlplace (l:=s.rc) (i:=n) rfl)<|an (hp)<|an (h.ix)<|an (hl)<|an (h.ix)<|an (ac_rtell (k:=(gth s.th n).ki) (r:=5) (g:=0) h.has h.ok h.few)<|an (ixT (l:=(tellS (s) n (gth s.th n).ki (5) 0).th) (by rw [tell_len];exact h.hn))<|an (ac_rwith (tellS (s) n (gth s.th n).ki (5) 0) n (pcT (gth (tellS (s) n (gth s.th n).ki (5) 0).th n) 9) (by rw [tell_len];exact h.hn) (by rw [tell_len];exact h.few.th)) trivial) (by kernel_rfl)
theorem dr_firstT (h:Dr s n 1) (hp:(plI s.rc n==0)=false) (hl:(gth s.th n).la=false) (hr:decide ((gth s.th n).tr<1099511627776)=true):AC Tryz.prog 50 [stT s,.int .i64 n] (stT (s.onTh n onT)) :=
 ac_path mixed (ext:=[86,56,157,95,155,87,144,98,105,101,159,93,94,153,154,99,158]) (fuel:=9) (n:=6) (orc:=[vD true,thT (pcT (gth s.th n) 1),.nilFunc,.nilFunc,.int .i64 (plI s.rc n),.bool false,thT (pcT (gth s.th n) 1),.bool false,thT (pcT (gth s.th n) 1),.bool true,stT (s.onTh n onT)])
  (an (ac_rruns h.ru h.ok h.few)<|an h.ix<|an (ac_rlplace (l:=s.rc) (i:=n) rfl)<|an (hp)<|an (h.ix)<|an (hl)<|an (h.ix)<|an (hr)<|an (h.tr1 hr)<|an (h.onw hr) trivial) (by kernel_rfl)
theorem dr_firstX (h:Dr s n 1) (hp:(plI s.rc n==0)=false) (hl:(gth s.th n).la=false) (hr:decide ((gth s.th n).tr<1099511627776)=false):AC Tryz.prog 50 [stT s,.int .i64 n] (stT (s.onTh n onT)) :=
 ac_path mixed (ext:=[86,56,157,95,155,87,144,98,105,101,159,93,94,153,154,99,158]) (fuel:=9) (n:=6) (orc:=[vD true,thT (pcT (gth s.th n) 1),.nilFunc,.nilFunc,.int .i64 (plI s.rc n),.bool false,thT (pcT (gth s.th n) 1),.bool false,thT (pcT (gth s.th n) 1),.bool false,stT (s.onTh n onT)])
  (an (ac_rruns h.ru h.ok h.few)<|an h.ix<|an (ac_rlplace (l:=s.rc) (i:=n) rfl)<|an (hp)<|an (h.ix)<|an (hl)<|an (h.ix)<|an (hr)<|an (h.onx hr) trivial) (by kernel_rfl)
theorem dr_lookR (h:Dr s n 2) (hs:seesR s=1):AC Tryz.prog 50 [stT s,.int .i64 n] (stT (s.onTh n (pcT · 3))) :=
 ac_path mixed (ext:=[86,56,157,95,155,87,144,98,105,101,159,93,94,153,154,99,158]) (fuel:=9) (n:=6) (orc:=[vD true,thT (pcT (gth s.th n) 2),.nilFunc,.nilFunc,.nilFunc,.tuple #[wdT (tkH s.hd s.tl s.md s.sl.length) s.tl s.md,.int .i64 (tkP s.hd s.tl s.md s.sl.length),.int .i64 1],.nilFunc,thT (pcT (gth s.th n) 2),stT ((s).onTh n (pcT · 3))])
  (an (ac_rruns h.ru h.ok h.few)<|an h.ix<|an (h.see hs)<|an (h.ix)<|an (ac_rwith (s) n (pcT (pcT (gth s.th n) 2) 3) h.hn h.few.th) trivial) (by kernel_rfl)
theorem dr_lookE (h:Dr s n 2) (h1:(seesR s==1)=false) (h4:(seesR s != 4)=true):AC Tryz.prog 50 [stT s,.int .i64 n] (stT (toldS s n (gth s.th n).ki (seesR s) 0 9)) :=
 ac_path mixed (ext:=[86,56,157,95,155,87,144,98,105,101,159,93,94,153,154,99,158]) (fuel:=9) (n:=6) (orc:=[vD true,thT (pcT (gth s.th n) 2),.nilFunc,.nilFunc,.nilFunc,.tuple #[wdT (tkH s.hd s.tl s.md s.sl.length) s.tl s.md,.int .i64 (tkP s.hd s.tl s.md s.sl.length),.int .i64 (seesR s)],.bool false,.bool true,thT (pcT (gth s.th n) 2),stT (tellS (s) n (gth s.th n).ki (seesR s) 0),thT (gth (tellS (s) n (gth s.th n).ki (seesR s) 0).th n),stT (toldS (s) n (gth s.th n).ki (seesR s) 0 9)])
  (an (ac_rruns h.ru h.ok h.few)<|an h.ix<|an (h.see rfl)<|an (h1)<|an (h4)<|an (h.ix)<|an (ac_rtell (k:=(gth s.th n).ki) (r:=seesR s) (g:=0) h.has h.ok h.few)<|an (ixT (l:=(tellS (s) n (gth s.th n).ki (seesR s) 0).th) (by rw [tell_len];exact h.hn))<|an (ac_rwith (tellS (s) n (gth s.th n).ki (seesR s) 0) n (pcT (gth (tellS (s) n (gth s.th n).ki (seesR s) 0).th n) 9) (by rw [tell_len];exact h.hn) (by rw [tell_len];exact h.few.th)) trivial) (by kernel_rfl)
theorem dr_lookB (h:Dr s n 2) (hs:seesR s=4) (hk:((gth s.th n).ki==5)=true):AC Tryz.prog 50 [stT s,.int .i64 n] (stT (toldS s n (gth s.th n).ki 4 0 9)) :=
 ac_path mixed (ext:=[86,56,157,95,155,87,144,98,105,101,159,93,94,153,154,99,158]) (fuel:=9) (n:=6) (orc:=[vD true,thT (pcT (gth s.th n) 2),.nilFunc,.nilFunc,.nilFunc,.tuple #[wdT (tkH s.hd s.tl s.md s.sl.length) s.tl s.md,.int .i64 (tkP s.hd s.tl s.md s.sl.length),.int .i64 4],.nilFunc,.nilFunc,thT (pcT (gth s.th n) 2),.bool true,thT (pcT (gth s.th n) 2),stT (tellS (s) n (gth s.th n).ki (4) 0),thT (gth (tellS (s) n (gth s.th n).ki (4) 0).th n),stT (toldS (s) n (gth s.th n).ki (4) 0 9)])
  (an (ac_rruns h.ru h.ok h.few)<|an h.ix<|an (h.see hs)<|an (h.ix)<|an (hk)<|an (h.ix)<|an (ac_rtell (k:=(gth s.th n).ki) (r:=4) (g:=0) h.has h.ok h.few)<|an (ixT (l:=(tellS (s) n (gth s.th n).ki (4) 0).th) (by rw [tell_len];exact h.hn))<|an (ac_rwith (tellS (s) n (gth s.th n).ki (4) 0) n (pcT (gth (tellS (s) n (gth s.th n).ki (4) 0).th n) 9) (by rw [tell_len];exact h.hn) (by rw [tell_len];exact h.few.th)) trivial) (by kernel_rfl)
theorem dr_lookL (h:Dr s n 2) (hs:seesR s=4) (hk:((gth s.th n).ki==5)=false) (hl:(gth s.th n).la=true):AC Tryz.prog 50 [stT s,.int .i64 n] (stT (toldS s n (gth s.th n).ki 5 0 9)) :=
 ac_path mixed (ext:=[86,56,157,95,155,87,144,98,105,101,159,93,94,153,154,99,158]) (fuel:=9) (n:=6) (orc:=[vD true,thT (pcT (gth s.th n) 2),.nilFunc,.nilFunc,.nilFunc,.tuple #[wdT (tkH s.hd s.tl s.md s.sl.length) s.tl s.md,.int .i64 (tkP s.hd s.tl s.md s.sl.length),.int .i64 4],.nilFunc,.nilFunc,thT (pcT (gth s.th n) 2),.bool false,.bool true,thT (pcT (gth s.th n) 2),stT (tellS (s) n (gth s.th n).ki (5) 0),thT (gth (tellS (s) n (gth s.th n).ki (5) 0).th n),stT (toldS (s) n (gth s.th n).ki (5) 0 9)])
  (an (ac_rruns h.ru h.ok h.few)<|an h.ix<|an (h.see hs)<|an (h.ix)<|an (hk)<|an (hl)<|an (h.ix)<|an (ac_rtell (k:=(gth s.th n).ki) (r:=5) (g:=0) h.has h.ok h.few)<|an (ixT (l:=(tellS (s) n (gth s.th n).ki (5) 0).th) (by rw [tell_len];exact h.hn))<|an (ac_rwith (tellS (s) n (gth s.th n).ki (5) 0) n (pcT (gth (tellS (s) n (gth s.th n).ki (5) 0).th n) 9) (by rw [tell_len];exact h.hn) (by rw [tell_len];exact h.few.th)) trivial) (by kernel_rfl)
theorem dr_lookP (h:Dr s n 2) (hs:seesR s=4) (hk:((gth s.th n).ki==5)=false) (hl:(gth s.th n).la=false) (hn:waySt s (gth s.th n).tr=2):AC Tryz.prog 50 [stT s,.int .i64 n] (stT (s.onTh n (pcT · 5))) :=
 ac_path mixed (ext:=[86,56,157,95,155,87,144,98,105,101,159,93,94,153,154,99,158]) (fuel:=9) (n:=6) (orc:=[vD true,thT (pcT (gth s.th n) 2),.nilFunc,.nilFunc,.nilFunc,.tuple #[wdT (tkH s.hd s.tl s.md s.sl.length) s.tl s.md,.int .i64 (tkP s.hd s.tl s.md s.sl.length),.int .i64 4],.nilFunc,.nilFunc,thT (pcT (gth s.th n) 2),.bool false,.bool false,.int .i64 2,.nilFunc,thT (pcT (gth s.th n) 2),stT ((s).onTh n (pcT · 5))])
  (an (ac_rruns h.ru h.ok h.few)<|an h.ix<|an (h.see hs)<|an (h.ix)<|an (hk)<|an (hl)<|an (h.nx hn)<|an (h.ix)<|an (ac_rwith (s) n (pcT (pcT (gth s.th n) 2) 5) h.hn h.few.th) trivial) (by kernel_rfl)
theorem dr_lookT (h:Dr s n 2) (hs:seesR s=4) (hk:((gth s.th n).ki==5)=false) (hl:(gth s.th n).la=false) (hn:(waySt s (gth s.th n).tr==2)=false) (hr:decide ((gth s.th n).tr<1099511627776)=true):AC Tryz.prog 50 [stT s,.int .i64 n] (stT (s.onTh n onT)) :=
 ac_path mixed (ext:=[86,56,157,95,155,87,144,98,105,101,159,93,94,153,154,99,158]) (fuel:=9) (n:=6) (orc:=[vD true,thT (pcT (gth s.th n) 2),.nilFunc,.nilFunc,.nilFunc,.tuple #[wdT (tkH s.hd s.tl s.md s.sl.length) s.tl s.md,.int .i64 (tkP s.hd s.tl s.md s.sl.length),.int .i64 4],.nilFunc,.nilFunc,thT (pcT (gth s.th n) 2),.bool false,.bool false,.int .i64 (waySt s (gth s.th n).tr),.bool false,thT (pcT (gth s.th n) 2),.bool true,stT (s.onTh n onT)])
  (an (ac_rruns h.ru h.ok h.few)<|an h.ix<|an (h.see hs)<|an (h.ix)<|an (hk)<|an (hl)<|an (h.nx rfl)<|an (hn)<|an (h.ix)<|an (hr)<|an (h.tr1 hr)<|an (h.onw hr) trivial) (by kernel_rfl)
theorem dr_lookX (h:Dr s n 2) (hs:seesR s=4) (hk:((gth s.th n).ki==5)=false) (hl:(gth s.th n).la=false) (hn:(waySt s (gth s.th n).tr==2)=false) (hr:decide ((gth s.th n).tr<1099511627776)=false):AC Tryz.prog 50 [stT s,.int .i64 n] (stT (s.onTh n onT)) :=
 ac_path mixed (ext:=[86,56,157,95,155,87,144,98,105,101,159,93,94,153,154,99,158]) (fuel:=9) (n:=6) (orc:=[vD true,thT (pcT (gth s.th n) 2),.nilFunc,.nilFunc,.nilFunc,.tuple #[wdT (tkH s.hd s.tl s.md s.sl.length) s.tl s.md,.int .i64 (tkP s.hd s.tl s.md s.sl.length),.int .i64 4],.nilFunc,.nilFunc,thT (pcT (gth s.th n) 2),.bool false,.bool false,.int .i64 (waySt s (gth s.th n).tr),.bool false,thT (pcT (gth s.th n) 2),.bool false,stT (s.onTh n onT)])
  (an (ac_rruns h.ru h.ok h.few)<|an h.ix<|an (h.see hs)<|an (h.ix)<|an (hk)<|an (hl)<|an (h.nx rfl)<|an (hn)<|an (h.ix)<|an (hr)<|an (h.onx hr) trivial) (by kernel_rfl)
theorem dr_takeF (h:Dr s n 3) (hs:seesR s=4):AC Tryz.prog 50 [stT s,.int .i64 n] (stT (s.onTh n (pcT · 2))) :=
 ac_path mixed (ext:=[86,56,157,95,155,87,144,98,105,101,159,93,94,153,154,99,158]) (fuel:=9) (n:=6) (orc:=[vD true,thT (pcT (gth s.th n) 3),.nilFunc,.nilFunc,.nilFunc,.nilFunc,.tuple #[wdT (tkH s.hd s.tl s.md s.sl.length) s.tl s.md,.int .i64 (tkP s.hd s.tl s.md s.sl.length),.int .i64 4],.nilFunc,thT (pcT (gth s.th n) 3),stT ((s).onTh n (pcT · 2))])
  (an (ac_rruns h.ru h.ok h.few)<|an h.ix<|an (h.see hs)<|an (h.ix)<|an (ac_rwith (s) n (pcT (pcT (gth s.th n) 3) 2) h.hn h.few.th) trivial) (by kernel_rfl)
theorem dr_takeE (h:Dr s n 3) (h4:(seesR s==4)=false) (h1:(seesR s != 1)=true):AC Tryz.prog 50 [stT s,.int .i64 n] (stT (toldS s n (gth s.th n).ki (seesR s) 0 9)) :=
 ac_path mixed (ext:=[86,56,157,95,155,87,144,98,105,101,159,93,94,153,154,99,158]) (fuel:=9) (n:=6) (orc:=[vD true,thT (pcT (gth s.th n) 3),.nilFunc,.nilFunc,.nilFunc,.nilFunc,.tuple #[wdT (tkH s.hd s.tl s.md s.sl.length) s.tl s.md,.int .i64 (tkP s.hd s.tl s.md s.sl.length),.int .i64 (seesR s)],.bool false,.bool true,thT (pcT (gth s.th n) 3),stT (tellS (s) n (gth s.th n).ki (seesR s) 0),thT (gth (tellS (s) n (gth s.th n).ki (seesR s) 0).th n),stT (toldS (s) n (gth s.th n).ki (seesR s) 0 9)])
  (an (ac_rruns h.ru h.ok h.few)<|an h.ix<|an (h.see rfl)<|an (h4)<|an (h1)<|an (h.ix)<|an (ac_rtell (k:=(gth s.th n).ki) (r:=seesR s) (g:=0) h.has h.ok h.few)<|an (ixT (l:=(tellS (s) n (gth s.th n).ki (seesR s) 0).th) (by rw [tell_len];exact h.hn))<|an (ac_rwith (tellS (s) n (gth s.th n).ki (seesR s) 0) n (pcT (gth (tellS (s) n (gth s.th n).ki (seesR s) 0).th n) 9) (by rw [tell_len];exact h.hn) (by rw [tell_len];exact h.few.th)) trivial) (by kernel_rfl)
theorem dr_takeR (h:Dr s n 3) (hs:seesR s=1) (hA:hasB ((s.toWord (s.hd+1) s.tl s.md).onTh n (regT · s.hd 4)) n=true) (ho:((s.toWord (s.hd+1) s.tl s.md).onTh n (regT · s.hd 4)).ok) (hf:((s.toWord (s.hd+1) s.tl s.md).onTh n (regT · s.hd 4)).few) (hh:0≤s.hd):AC Tryz.prog 50 [stT s,.int .i64 n] (stT (toldS ((s.toWord (s.hd+1) s.tl s.md).onTh n (regT · s.hd 4)) n (gth s.th n).ki 1 (valV s s.hd) 4)) :=
 ac_path mixed (ext:=[86,56,157,95,155,87,144,98,105,101,159,93,94,153,154,99,158]) (fuel:=9) (n:=6) (orc:=[vD true,thT (pcT (gth s.th n) 3),.nilFunc,.nilFunc,.nilFunc,.nilFunc,.tuple #[wdT (s.hd+1) s.tl s.md,.int .i64 s.hd,.int .i64 1],.nilFunc,.nilFunc,.int .i64 (valV s s.hd),thT (pcT (gth s.th n) 3),stT ((s.toWord (s.hd+1) s.tl s.md).onTh n (regT · s.hd 4)),thT (regT (pcT (gth s.th n) 3) s.hd 4),stT (tellS ((s.toWord (s.hd+1) s.tl s.md).onTh n (regT · s.hd 4)) n (gth s.th n).ki 1 (valV s s.hd)),thT (gth (tellS ((s.toWord (s.hd+1) s.tl s.md).onTh n (regT · s.hd 4)) n (gth s.th n).ki 1 (valV s s.hd)).th n),stT (toldS ((s.toWord (s.hd+1) s.tl s.md).onTh n (regT · s.hd 4)) n (gth s.th n).ki 1 (valV s s.hd) 4)])
  (an (ac_rruns h.ru h.ok h.few)<|an h.ix<|an (h.see1 hs)<|an (ac_rvalue h.ck hh h.ok.hd h.ok h.few)<|an (h.ix)<|an (ac_rwith (s.toWord (s.hd+1) s.tl s.md) n (regT (pcT (gth s.th n) 3) s.hd 4) h.hn h.few.th)<|an (h.ix3)<|an (ac_rtell (k:=(gth s.th n).ki) (r:=1) (g:=valV s s.hd) hA ho hf)<|an (ixT (l:=(tellS ((s.toWord (s.hd+1) s.tl s.md).onTh n (regT · s.hd 4)) n (gth s.th n).ki 1 (valV s s.hd)).th) (by rw [tell_len];exact hA3 h.hn))<|an (ac_rwith (tellS ((s.toWord (s.hd+1) s.tl s.md).onTh n (regT · s.hd 4)) n (gth s.th n).ki 1 (valV s s.hd)) n (pcT (gth (tellS ((s.toWord (s.hd+1) s.tl s.md).onTh n (regT · s.hd 4)) n (gth s.th n).ki 1 (valV s s.hd)).th n) 4) (by rw [tell_len];exact hA3 h.hn) (by rw [tell_len];exact hf.th)) trivial) (by kernel_rfl)
theorem dr_read (h:Dr s n 4) (he:rlE s.sl (gth s.th n).re=0):AC Tryz.prog 50 [stT s,.int .i64 n] (stT (readR s n)) :=
 ac_path mixed (ext:=[86,56,157,95,155,87,144,98,105,101,159,93,94,153,154,99,158]) (fuel:=9) (n:=6) (orc:=[vD true,thT (pcT (gth s.th n) 4),.nilFunc,.nilFunc,.nilFunc,.nilFunc,.nilFunc,.tuple #[.int .i64 (rdV s.sl (gth s.th n).re),.int .i64 (rdE s.sl (gth s.th n).re)],.tuple #[rowS (rlL s.sl (gth s.th n).re),.int .i64 0],.nilFunc,stT (readR s n)])
  (an (ac_rruns h.ru h.ok h.few)<|an h.ix<|an (ac_rsread s.sl (gth s.th n).re h.few.sl h.rei)<|an (he ▸ ac_rrelease h.sl h.re0 h.rei)<|an (ac_rwith (s.toSl (rlL s.sl (gth s.th n).re)) n (gotT (gth s.th n) (rdV s.sl (gth s.th n).re) 6) h.hn h.few.th) trivial) (by kernel_rfl)
theorem dr_readN (h:Dr s n 4) (he:(rlE s.sl (gth s.th n).re==0)=false):AC Tryz.prog 50 [stT s,.int .i64 n] (stT (s.onTh n (gotT · (rdV s.sl (gth s.th n).re) 6))) :=
 ac_path mixed (ext:=[86,56,157,95,155,87,144,98,105,101,159,93,94,153,154,99,158]) (fuel:=9) (n:=6) (orc:=[vD true,thT (pcT (gth s.th n) 4),.nilFunc,.nilFunc,.nilFunc,.nilFunc,.nilFunc,.tuple #[.int .i64 (rdV s.sl (gth s.th n).re),.int .i64 (rdE s.sl (gth s.th n).re)],.tuple #[rowS (rlL s.sl (gth s.th n).re),.int .i64 (rlE s.sl (gth s.th n).re)],.bool false,stT (s.onTh n (gotT · (rdV s.sl (gth s.th n).re) 6))])
  (an (ac_rruns h.ru h.ok h.few)<|an h.ix<|an (ac_rsread s.sl (gth s.th n).re h.few.sl h.rei)<|an (ac_rrelease h.sl h.re0 h.rei)<|an (he)<|an (ac_rwith (s) n (gotT (gth s.th n) (rdV s.sl (gth s.th n).re) 6) h.hn h.few.th) trivial) (by kernel_rfl)
theorem dr_prep (h:Dr s n 5)  : AC Tryz.prog 50 [stT s,.int .i64 n] (stT (s.onTh n (seenT · s.ee 7))) :=
 ac_path mixed (ext:=[86,56,157,95,155,87,144,98,105,101,159,93,94,153,154,99,158]) (fuel:=9) (n:=6) (orc:=[vD true,thT (pcT (gth s.th n) 5),.nilFunc,.nilFunc,.nilFunc,.nilFunc,.nilFunc,.nilFunc,.int .i64 s.ee,stT (s.onTh n (seenT · s.ee 7))])
  (an (ac_rruns h.ru h.ok h.few)<|an h.ix<|an (ac_rprep h.emp)<|an (ac_rwith (s) n (seenT (gth s.th n) s.ee 7) h.hn h.few.th) trivial) (by kernel_rfl)
theorem dr_notifyN (h:Dr s n 6) (hb:hdB (ntT 1 s.fe s.fl)=false):AC Tryz.prog 50 [stT s,.int .i64 n] (stT ((s.toFull (ntE s.fe s.fl) (ntL 1 s.fe s.fl)).onTh n (pcT · 9))) :=
 ac_path mixed (ext:=[86,56,157,95,155,87,144,98,105,101,159,93,94,153,154,99,158]) (fuel:=9) (n:=6) (orc:=[vD true,thT (pcT (gth s.th n) 6),.nilFunc,.nilFunc,.nilFunc,.nilFunc,.nilFunc,.nilFunc,.nilFunc,.tuple #[evT (ntE s.fe s.fl) (ntL 1 s.fe s.fl),.int .i64 (hdI (ntT 1 s.fe s.fl)),vD false],thT (pcT (gth s.th n) 6),stT ((s.toFull (ntE s.fe s.fl) (ntL 1 s.fe s.fl)).onTh n (pcT · 9))])
  (an (ac_rruns h.ru h.ok h.few)<|an h.ix<|an (hb ▸ ac_rnotify h.ful)<|an (h.ix)<|an (ac_rwith (s.toFull (ntE s.fe s.fl) (ntL 1 s.fe s.fl)) n (pcT (pcT (gth s.th n) 6) 9) h.hn h.few.th) trivial) (by kernel_rfl)
theorem dr_notifyW (h:Dr s n 6) (hb:hdB (ntT 1 s.fe s.fl)=true) {q:Nat} (hq:hdI (ntT 1 s.fe s.fl)=q) (hA:hasB ((s.toFull (ntE s.fe s.fl) (ntL 1 s.fe s.fl)).onTh n (pcT · 9)) q=true) (ho:((s.toFull (ntE s.fe s.fl) (ntL 1 s.fe s.fl)).onTh n (pcT · 9)).ok) (hw:((s.toFull (ntE s.fe s.fl) (ntL 1 s.fe s.fl)).onTh n (pcT · 9)).few):AC Tryz.prog 50 [stT s,.int .i64 n] (stT (((s.toFull (ntE s.fe s.fl) (ntL 1 s.fe s.fl)).onTh n (pcT · 9)).onTh q wakeT)) :=
 ac_path mixed (ext:=[86,56,157,95,155,87,144,98,105,101,159,93,94,153,154,99,158]) (fuel:=9) (n:=6) (orc:=[vD true,thT (pcT (gth s.th n) 6),.nilFunc,.nilFunc,.nilFunc,.nilFunc,.nilFunc,.nilFunc,.nilFunc,.tuple #[evT (ntE s.fe s.fl) (ntL 1 s.fe s.fl),.int .i64 q,vD true],thT (pcT (gth s.th n) 6),stT ((s.toFull (ntE s.fe s.fl) (ntL 1 s.fe s.fl)).onTh n (pcT · 9)),stT (((s.toFull (ntE s.fe s.fl) (ntL 1 s.fe s.fl)).onTh n (pcT · 9)).onTh q wakeT)])
  (an (ac_rruns h.ru h.ok h.few)<|an h.ix<|an (hq ▸ hb ▸ ac_rnotify h.ful)<|an (h.ix)<|an (ac_rwith (s.toFull (ntE s.fe s.fl) (ntL 1 s.fe s.fl)) n (pcT (pcT (gth s.th n) 6) 9) h.hn h.few.th)<|an (ac_rwake hA ho hw) trivial) (by kernel_rfl)
theorem dr_againY (h:Dr s n 7) (hs:seesR s=4) (hl:(!(gth s.th n).la)=true):AC Tryz.prog 50 [stT s,.int .i64 n] (stT (s.onTh n (pcT · 8))) :=
 ac_path mixed (ext:=[86,56,157,95,155,87,144,98,105,101,159,93,94,153,154,99,158]) (fuel:=9) (n:=6) (orc:=[vD true,thT (pcT (gth s.th n) 7),.nilFunc,.nilFunc,.nilFunc,.nilFunc,.nilFunc,.nilFunc,.nilFunc,.nilFunc,.tuple #[wdT (tkH s.hd s.tl s.md s.sl.length) s.tl s.md,.int .i64 (tkP s.hd s.tl s.md s.sl.length),.int .i64 4],.nilFunc,.bool true,thT (pcT (gth s.th n) 7),stT ((s).onTh n (pcT · 8))])
  (an (ac_rruns h.ru h.ok h.few)<|an h.ix<|an (h.see hs)<|an (hl)<|an (h.ix)<|an (ac_rwith (s) n (pcT (pcT (gth s.th n) 7) 8) h.hn h.few.th) trivial) (by kernel_rfl)
theorem dr_againL (h:Dr s n 7) (hs:seesR s=4) (hl:(!(gth s.th n).la)=false):AC Tryz.prog 50 [stT s,.int .i64 n] (stT (s.onTh n (pcT · 2))) :=
 ac_path mixed (ext:=[86,56,157,95,155,87,144,98,105,101,159,93,94,153,154,99,158]) (fuel:=9) (n:=6) (orc:=[vD true,thT (pcT (gth s.th n) 7),.nilFunc,.nilFunc,.nilFunc,.nilFunc,.nilFunc,.nilFunc,.nilFunc,.nilFunc,.tuple #[wdT (tkH s.hd s.tl s.md s.sl.length) s.tl s.md,.int .i64 (tkP s.hd s.tl s.md s.sl.length),.int .i64 4],.nilFunc,.bool false,thT (pcT (gth s.th n) 7),stT ((s).onTh n (pcT · 2))])
  (an (ac_rruns h.ru h.ok h.few)<|an h.ix<|an (h.see hs)<|an (hl)<|an (h.ix)<|an (ac_rwith (s) n (pcT (pcT (gth s.th n) 7) 2) h.hn h.few.th) trivial) (by kernel_rfl)
theorem dr_againN (h:Dr s n 7) (h2:(seesR s==4)=false):AC Tryz.prog 50 [stT s,.int .i64 n] (stT (s.onTh n (pcT · 2))) :=
 ac_path mixed (ext:=[86,56,157,95,155,87,144,98,105,101,159,93,94,153,154,99,158]) (fuel:=9) (n:=6) (orc:=[vD true,thT (pcT (gth s.th n) 7),.nilFunc,.nilFunc,.nilFunc,.nilFunc,.nilFunc,.nilFunc,.nilFunc,.nilFunc,.tuple #[wdT (tkH s.hd s.tl s.md s.sl.length) s.tl s.md,.int .i64 (tkP s.hd s.tl s.md s.sl.length),.int .i64 (seesR s)],.bool false,thT (pcT (gth s.th n) 7),stT ((s).onTh n (pcT · 2))])
  (an (ac_rruns h.ru h.ok h.few)<|an h.ix<|an (h.see rfl)<|an (h2)<|an (h.ix)<|an (ac_rwith (s) n (pcT (pcT (gth s.th n) 7) 2) h.hn h.few.th) trivial) (by kernel_rfl)
theorem dr_commitL (h:Dr s n 8) (hl:(gth s.th n).la=true):AC Tryz.prog 50 [stT s,.int .i64 n] (stT (s.onTh n (pcT · 2))) :=
 ac_path mixed (ext:=[86,56,157,95,155,87,144,98,105,101,159,93,94,153,154,99,158]) (fuel:=9) (n:=6) (orc:=[vD true,thT (pcT (gth s.th n) 8),.nilFunc,.nilFunc,.nilFunc,.nilFunc,.nilFunc,.nilFunc,.nilFunc,.nilFunc,.nilFunc,thT (pcT (gth s.th n) 8),.bool true,thT (pcT (gth s.th n) 8),stT ((s).onTh n (pcT · 2))])
  (an (ac_rruns h.ru h.ok h.few)<|an h.ix<|an (h.ix)<|an (hl)<|an (h.ix)<|an (ac_rwith (s) n (pcT (pcT (gth s.th n) 8) 2) h.hn h.few.th) trivial) (by kernel_rfl)
theorem dr_commitW (h:Dr s n 8) (hl:(gth s.th n).la=false) (hb:cmB s.ee s.el (gth s.th n).se n=true):AC Tryz.prog 50 [stT s,.int .i64 n] (stT ((s.toEmpty s.ee (s.el++[(n:Int)])).onTh n (parkT · 2))) :=
 ac_path mixed (ext:=[86,56,157,95,155,87,144,98,105,101,159,93,94,153,154,99,158]) (fuel:=9) (n:=6) (orc:=[vD true,thT (pcT (gth s.th n) 8),.nilFunc,.nilFunc,.nilFunc,.nilFunc,.nilFunc,.nilFunc,.nilFunc,.nilFunc,.nilFunc,thT (pcT (gth s.th n) 8),.bool false,thT (pcT (gth s.th n) 8),.tuple #[evT s.ee (s.el++[(n:Int)]),vD true,.int .i64 (entE s.el n)],thT (pcT (gth s.th n) 8),.tuple #[thT (parkT (gth s.th n) 2),.int .i64 0],stT ((s.toEmpty s.ee (s.el++[(n:Int)])).onTh n (parkT · 2))])
  (an (ac_rruns h.ru h.ok h.few)<|an h.ix<|an (h.ix)<|an (hl)<|an (h.ix)<|an (h.com hb)<|an (h.ix)<|an (ac_rpark (park_of8 h.rs))<|an (ac_rwith (s.toEmpty s.ee (s.el++[(n:Int)])) n (parkT (gth s.th n) 2) h.hn h.few.th) trivial) (by kernel_rfl)
theorem dr_commitN (h:Dr s n 8) (hl:(gth s.th n).la=false) (hb:cmB s.ee s.el (gth s.th n).se n=false):AC Tryz.prog 50 [stT s,.int .i64 n] (stT (s.onTh n (pcT · 2))) :=
 ac_path mixed (ext:=[86,56,157,95,155,87,144,98,105,101,159,93,94,153,154,99,158]) (fuel:=9) (n:=6) (orc:=[vD true,thT (pcT (gth s.th n) 8),.nilFunc,.nilFunc,.nilFunc,.nilFunc,.nilFunc,.nilFunc,.nilFunc,.nilFunc,.nilFunc,thT (pcT (gth s.th n) 8),.bool false,thT (pcT (gth s.th n) 8),.tuple #[evT s.ee s.el,vD false,.int .i64 (entE s.el n)],thT (pcT (gth s.th n) 8),stT ((s).onTh n (pcT · 2))])
  (an (ac_rruns h.ru h.ok h.few)<|an h.ix<|an (h.ix)<|an (hl)<|an (h.ix)<|an (h.con hb)<|an (h.ix)<|an (ac_rwith (s) n (pcT (pcT (gth s.th n) 8) 2) h.hn h.few.th) trivial) (by kernel_rfl)
theorem dr_leave9 (h:Dr s n 9)  : AC Tryz.prog 50 [stT s,.int .i64 n] (stT ((s.toRc (lvL s.rc n)).onTh n doneT)) :=
 ac_path mixed (ext:=[86,56,157,95,155,87,144,98,105,101,159,93,94,153,154,99,158]) (fuel:=9) (n:=6) (orc:=[vD true,thT (pcT (gth s.th n) 9),.nilFunc,.nilFunc,.nilFunc,.nilFunc,.nilFunc,.nilFunc,.nilFunc,.nilFunc,.nilFunc,.tuple #[rowI (lvL s.rc n),.int .i64 (lvE s.rc n)],.tuple #[thT (doneT (gth s.th n)),.int .i64 0],stT ((s.toRc (lvL s.rc n)).onTh n doneT)])
  (an (ac_rruns h.ru h.ok h.few)<|an h.ix<|an (ac_rleave (i:=(n:Int)) h.lrc)<|an (ac_rdone (done_of (c:=9) h.rs))<|an (ac_rwith (s.toRc (lvL s.rc n)) n (doneT (gth s.th n)) h.hn h.few.th) trivial) (by kernel_rfl)
theorem dr_leave10 (h:Dr s n 10)  : AC Tryz.prog 50 [stT s,.int .i64 n] (stT ((s.toRc (lvL s.rc n)).onTh n doneT)) :=
 ac_path mixed (ext:=[86,56,157,95,155,87,144,98,105,101,159,93,94,153,154,99,158]) (fuel:=9) (n:=6) (orc:=[vD true,thT (pcT (gth s.th n) 10),.nilFunc,.nilFunc,.nilFunc,.nilFunc,.nilFunc,.nilFunc,.nilFunc,.nilFunc,.nilFunc,.tuple #[rowI (lvL s.rc n),.int .i64 (lvE s.rc n)],.tuple #[thT (doneT (gth s.th n)),.int .i64 0],stT ((s.toRc (lvL s.rc n)).onTh n doneT)])
  (an (ac_rruns h.ru h.ok h.few)<|an h.ix<|an (ac_rleave (i:=(n:Int)) h.lrc)<|an (ac_rdone (done_of (c:=10) h.rs))<|an (ac_rwith (s.toRc (lvL s.rc n)) n (doneT (gth s.th n)) h.hn h.few.th) trivial) (by kernel_rfl)
theorem dr_leave11 (h:Dr s n 11)  : AC Tryz.prog 50 [stT s,.int .i64 n] (stT ((s.toRc (lvL s.rc n)).onTh n doneT)) :=
 ac_path mixed (ext:=[86,56,157,95,155,87,144,98,105,101,159,93,94,153,154,99,158]) (fuel:=9) (n:=6) (orc:=[vD true,thT (pcT (gth s.th n) 11),.nilFunc,.nilFunc,.nilFunc,.nilFunc,.nilFunc,.nilFunc,.nilFunc,.nilFunc,.nilFunc,.tuple #[rowI (lvL s.rc n),.int .i64 (lvE s.rc n)],.tuple #[thT (doneT (gth s.th n)),.int .i64 0],stT ((s.toRc (lvL s.rc n)).onTh n doneT)])
  (an (ac_rruns h.ru h.ok h.few)<|an h.ix<|an (ac_rleave (i:=(n:Int)) h.lrc)<|an (ac_rdone (done_of (c:=11) h.rs))<|an (ac_rwith (s.toRc (lvL s.rc n)) n (doneT (gth s.th n)) h.hn h.few.th) trivial) (by kernel_rfl)
end
end
section
open Go.RowKit
theorem recvN_vk {s:St} {n:Nat} (h:Vk s) (hB:stB s=true) (hn:n<s.th.length) (h1:(gth s.th n).st≠0):Vk (recvN s n):=by
 have same:∀ {u:St},u.cf=s.cf→u.sl=s.sl→u.th=s.th→Vk u:=fun e1 e2 e3=>⟨e1 ▸ h.cf,fun x hx=>h.sl x (e2 ▸ hx),fun t ht=>h.th t (e3 ▸ ht)⟩
 have h0:(0:Int)=0:=rfl
 have z:In64 0:=by decide
 refine recvN_ind (P:=fun u=>Vk u) ?_ ?_ ?_ ?_ ?_ ?_ ?_ ?_ ?_ ?_
 ·exact (same (u:=s.toRc (entL s.rc n)) rfl rfl rfl).on hn fun _=>⟨rfl,rfl⟩
 ·unfold firstR;repeat' split
  ·exact h.on hn fun _=>⟨rfl,rfl⟩
  ·exact h.told hB hn (.inr z)
  ·exact h.on hn fun _=>⟨rfl,rfl⟩
 ·unfold lookR;repeat' split
  ·exact h.on hn fun _=>⟨rfl,rfl⟩
  ·exact h.told hB hn (.inr z)
  ·exact h.told hB hn (.inr z)
  ·exact h.told hB hn (.inr z)
  ·exact h.on hn fun _=>⟨rfl,rfl⟩
  ·exact h.on hn fun _=>⟨rfl,rfl⟩
 ·unfold takeR;repeat' split
  ·exact h.on hn fun _=>⟨rfl,rfl⟩
  ·exact h.told hB hn (.inr z)
  ·next h2 h3 =>
   have hs:seesR s=1:=Classical.not_not.1 h3
   have hv:Vk ((s.toWord (s.hd+1) s.tl s.md).onTh n (regT · s.hd 4)):=(same (u:=s.toWord (s.hd+1) s.tl s.md) rfl rfl rfl).on hn fun _=>⟨rfl,rfl⟩
   refine hv.told (takeB_ok hB hn h1 hs) (by show n<(s.th.set n _).length;simpa using hn) (.inr ?_)
   have hg:∀ q,In64 (gs s.sl q).vl:=fun q=>by
    unfold gs
    rw [List.getD_eq_getElem?_getD]
    cases hx:s.sl[q]? with
    | none=>exact z
    | some x=>exact h.sl x (List.mem_of_getElem? hx)
   unfold valV
   repeat' split
   all_goals first | exact z | exact hg _
 ·unfold readR
  have hsl:∀ x∈rlL s.sl (gth s.th n).re,In64 x.vl:=fun x hx=>by
   unfold rlL at hx
   split at hx
   ·rcases List.mem_or_eq_of_mem_set hx with h2 | rfl
    ·exact h.sl x h2
    ·show In64 (gs s.sl _).vl
     unfold gs
     rw [List.getD_eq_getElem?_getD]
     cases hx:s.sl[plc s.sl (gth s.th n).re]? with
     | none=>exact z
     | some x=>exact h.sl x (List.mem_of_getElem? hx)
   ·exact h.sl x hx
  have hv:Vk (s.toSl (rlL s.sl (gth s.th n).re)):=⟨h.cf,hsl,h.th⟩
  refine hv.set ⟨(h.th _ (gth_mem hn)).1,?_⟩
  show In64 (rdV s.sl (gth s.th n).re)
  unfold rdV
  split
  ·unfold gs
   rw [List.getD_eq_getElem?_getD]
   cases hx:s.sl[plc s.sl (gth s.th n).re]? with
   | none=>exact z
   | some x=>exact h.sl x (List.mem_of_getElem? hx)
  ·exact z
 ·exact h.on hn fun _=>⟨rfl,rfl⟩
 ·have hv:Vk ((s.toFull (ntE s.fe s.fl) (ntL 1 s.fe s.fl)).onTh n (pcT · 9)):=(same (u:=s.toFull (ntE s.fe s.fl) (ntL 1 s.fe s.fl)) rfl rfl rfl).on hn fun _=>⟨rfl,rfl⟩
  unfold notifyR;split
  ·exact hv.wake _
  ·exact hv
 ·split <;> exact h.on hn fun _=>⟨rfl,rfl⟩
 ·unfold commitR;repeat' split
  ·exact h.on hn fun _=>⟨rfl,rfl⟩
  ·exact (same (u:=s.toEmpty s.ee (s.el++[(n:Int)])) rfl rfl rfl).on hn fun _=>⟨rfl,rfl⟩
  ·exact h.on hn fun _=>⟨rfl,rfl⟩
 ·exact (same (u:=s.toRc (lvL s.rc n)) rfl rfl rfl).on hn fun _=>⟨rfl,rfl⟩
theorem recvS_is {s:St} {n:Nat} (h:runsB s n 2=true):recvS s n=recvN s n:=by unfold recvS;rw [if_pos h,Int.toNat_natCast]
theorem recvS_all {s:St} (hB:stB s=true) (ho:s.ok) (hl:s.lg.length≤900000) (i:Int):(recvS s i).ok∧(recvS s i).lg.length≤s.lg.length+1:=by
 have hlg:(recvS s i).lg.length≤s.lg.length+1:=by
  rcases (recvS_lgOk s i).1 with h | ⟨x,h⟩ <;> rw [h] <;> simp
 refine ⟨?_,hlg⟩
 cases hr:runsB s i 2
 ·have:recvS s i=s:=by simp [recvS,hr]
  rw [this];exact ho
 ·obtain ⟨h1,h2,h3⟩:=runs_iff.1 hr
  obtain ⟨-,hi0,hi1⟩:=has_iff.1 h1
  obtain ⟨n,rfl⟩:∃ n:Nat,i=n:=⟨i.toNat,by omega⟩
  have hn:n<s.th.length:=by omega
  rw [Int.toNat_natCast] at h2
  rw [recvS_is hr] at hlg ⊢
  exact ok_of (recvN_stB hB hn (by omega)) (recvN_vk (.of ho) hB hn (by omega)) (by omega)
end
section
open Go.RowKit
section
variable {s:St} {n:Nat} {c:Int}
theorem rfirst (h:Dr s n 1):AC Tryz.prog 50 [stT s,.int .i64 n] (stT (firstR s n)):=by
 unfold firstR
 split
 ·next hp=>exact dr_first h (by simp [hp])
 ·next hp =>
  split
  ·next hl=>exact dr_firstL h (bne_of hp) hl
  ·next hl =>
   have hl' : (gth s.th n).la=false:=by simpa using hl
   rcases try_or (gth s.th n) with hr | hr
   ·exact dr_firstT h (bne_of hp) hl' hr
   ·exact dr_firstX h (bne_of hp) hl' hr
theorem rlook (h:Dr s n 2):AC Tryz.prog 50 [stT s,.int .i64 n] (stT (lookR s n)):=by
 unfold lookR
 split
 ·next hs=>exact dr_lookR h hs
 ·next h1 =>
  split
  ·next h4=>exact dr_lookE h (bne_of h1) (by simp [h4])
  ·next h4 =>
   have hs:seesR s=4:=Classical.not_not.1 h4
   split
   ·next hk=>exact dr_lookB h hs (by simp [hk])
   ·next hk =>
    split
    ·next hl=>exact dr_lookL h hs (bne_of hk) hl
    ·next hl =>
     have hl' : (gth s.th n).la=false:=by simpa using hl
     split
     ·next hw=>exact dr_lookP h hs (bne_of hk) hl' hw
     ·next hw =>
      rcases try_or (gth s.th n) with hr | hr
      ·exact dr_lookT h hs (bne_of hk) hl' (bne_of hw) hr
      ·exact dr_lookX h hs (bne_of hk) hl' (bne_of hw) hr
theorem rtake (h:Dr s n 3) (hl:s.lg.length≤999999) (hv:Vk s):AC Tryz.prog 50 [stT s,.int .i64 n] (stT (takeR s n)):=by
 unfold takeR
 split
 ·next hs=>exact dr_takeF h hs
 ·next h4 =>
  split
  ·next h1=>exact dr_takeE h (bne_of h4) (by simp [h1])
  ·next h1 =>
   have hs:seesR s=1:=Classical.not_not.1 h1
   have hB:=takeB_ok h.ck h.hn (by have:=h.st;omega) hs
   have hv3:Vk ((s.toWord (s.hd+1) s.tl s.md).onTh n (regT · s.hd 4)):=Vk.on (s:=s.toWord (s.hd+1) s.tl s.md) (f:=(regT · s.hd 4)) ⟨hv.cf,hv.sl,hv.th⟩ h.hn fun _=>⟨rfl,rfl⟩
   have hf:((s.toWord (s.hd+1) s.tl s.md).onTh n (regT · s.hd 4)).few:=⟨h.few.sl,h.few.sn,h.few.rc,h.few.fl,h.few.el,by show (s.th.set n _).length≤1000;rw [List.length_set];exact h.few.th,h.few.lg⟩
   exact dr_takeR h hs (has_of hB (hA3 h.hn)) (ok_of hB hv3 (by show s.lg.length≤1000000;omega)) hf (by have:=check_len (word_ok h.ck).1;omega)
theorem rread (h:Dr s n 4):AC Tryz.prog 50 [stT s,.int .i64 n] (stT (readR s n)):=by
 by_cases he:rlE s.sl (gth s.th n).re=0
 ·exact dr_read h he
 ·have:=dr_readN h (bne_of he)
  have e:rlL s.sl (gth s.th n).re=s.sl:=by
   unfold rlE at he
   unfold rlL
   split at he
   ·exact absurd rfl he
   ·next hb=>rw [if_neg hb]
  unfold readR
  rw [e]
  exact this
theorem rnotify (h:Dr s n 6) (hl:s.lg.length≤999999) (hv:Vk s):AC Tryz.prog 50 [stT s,.int .i64 n] (stT (notifyR s n)):=by
 obtain ⟨-,-,d,-,e,-⟩:=full_lines h.ck
 have h1:stB (s.toFull (ntE s.fe s.fl) (ntL 1 s.fe s.fl))=true:=by
  refine full_stB h.ck ?_ ?_
  ·simp only [ntE,ntL,e,if_true];exact okE_nx e (ok_drop (okE_ln e) 1)
  ·simp only [ntL,e,if_true];exact stn_sub d (ok_drop (okE_ln e) 1) (fun x hx=>List.mem_of_mem_drop hx)
 unfold notifyR
 split
 ·next hb =>
  have hth:=th_len h.ck
  have hq:∃ q:Nat,hdI (ntT 1 s.fe s.fl)=q∧q<s.th.length:=by
   have hb' := hb
   simp only [ntT,e,if_true] at hb' ⊢
   cases hl:s.fl with
   | nil=>rw [hl] at hb';cases hb'
   | cons y r =>
    have hy:y∈s.fl:=by rw [hl];exact List.mem_cons_self
    have h3:=(stn_iff.1 d).2 y hy
    have h4:=(okl_iff.1 (stn_iff.1 d).1).1 y hy
    exact ⟨y.toNat,by show y=_;omega,by omega⟩
  obtain ⟨q,hq,hql⟩:=hq
  have h9:stB ((s.toFull (ntE s.fe s.fl) (ntL 1 s.fe s.fl)).onTh n (pcT · 9))=true:=onTh_stB h1 (pcT_ok (gth_ok h.ck h.hn) (by have:=h.st;omega) (by decide))
  have hA:hasB ((s.toFull (ntE s.fe s.fl) (ntL 1 s.fe s.fl)).onTh n (pcT · 9)) q=true:=has_of h9 (by show q<(s.th.set n _).length;rw [List.length_set];exact hql)
  have hv9:Vk ((s.toFull (ntE s.fe s.fl) (ntL 1 s.fe s.fl)).onTh n (pcT · 9)):=Vk.on (s:=s.toFull (ntE s.fe s.fl) (ntL 1 s.fe s.fl)) (f:=(pcT · 9)) ⟨hv.cf,hv.sl,hv.th⟩ h.hn fun _=>⟨rfl,rfl⟩
  have hf:((s.toFull (ntE s.fe s.fl) (ntL 1 s.fe s.fl)).onTh n (pcT · 9)).few:=⟨h.few.sl,h.few.sn,h.few.rc,by show (ntL 1 s.fe s.fl).length≤1000;simp only [ntL,e,if_true,List.length_drop];have:=h.few.fl;omega,h.few.el,by show (s.th.set n _).length≤1000;rw [List.length_set];exact h.few.th,h.few.lg⟩
  have:=dr_notifyW h hb hq hA (ok_of h9 hv9 (by show s.lg.length≤1000000;omega)) hf
  rw [hq]
  unfold wakeS
  rw [if_pos hA,Int.toNat_natCast]
  exact this
 ·next hb=>exact dr_notifyN h (by simpa using hb)
theorem rcommit (h:Dr s n 8):AC Tryz.prog 50 [stT s,.int .i64 n] (stT (commitR s n)):=by
 unfold commitR
 split
 ·next hl=>exact dr_commitL h hl
 ·next hl =>
  have hl' : (gth s.th n).la=false:=by simpa using hl
  split
  ·next hb=>exact dr_commitW h hl' hb
  ·next hb=>exact dr_commitN h hl' (by simpa using hb)
theorem ragain (h:Dr s n 7):AC Tryz.prog 50 [stT s,.int .i64 n] (stT (recvN s n)):=by
 rw [recvN_7 h.pc]
 by_cases hs:seesR s=4
 ·cases hl:(gth s.th n).la
  ·rw [if_pos ⟨hs,rfl⟩];exact dr_againY h hs (by rw [hl];rfl)
  ·rw [if_neg (by simp)];exact dr_againL h hs (by rw [hl];rfl)
 ·rw [if_neg (fun e=>hs e.1)];exact dr_againN h (bne_of hs)
theorem rstep (hB:stB s=true) (hv:Vk s) (hw:s.few) (hn:n<s.th.length) (hst:(gth s.th n).st=1) (hsd:opSide (gth s.th n).ki=2):AC Tryz.prog 50 [stT s,.int .i64 n] (stT (recvN s n)):=by
 have hlg:s.lg.length≤999999:=by have:=hw.lg;omega
 have ho:=ok_of hB hv (by omega)
 have D:∀ {c:Int},(gth s.th n).pc=c→Dr s n c:=fun hc=>⟨hB,ho,hw,hn,hst,hsd,hc⟩
 obtain p | p | p | p | p | p | p | p | p | p:=pc_or' (gth_ok hB hn)
 ·rw [recvN_0 p];exact dr_enter (D p)
 ·rw [recvN_1 p];exact rfirst (D p)
 ·rw [recvN_2 p];exact rlook (D p)
 ·rw [recvN_3 p];exact rtake (D p) hlg hv
 ·rw [recvN_4 p];exact rread (D p)
 ·rw [recvN_5 p];exact dr_prep (D p)
 ·rw [recvN_6 p];exact rnotify (D p) hlg hv
 ·exact ragain (D p)
 ·rw [recvN_8 p];exact rcommit (D p)
 ·rw [recvN_9 p]
  rcases p with p | p | p
  ·exact dr_leave9 (D p)
  ·exact dr_leave10 (D p)
  ·exact dr_leave11 (D p)
end
theorem ac_rrstep {s:St} {i:Int} (ho:s.ok) (hw:s.few):AC Tryz.prog 50 [stT s,.int .i64 i] (stT (recvS s i)):=by
 cases hr:runsB s i 2
 ·rw [show recvS s i=s by unfold recvS;rw [hr];rfl]
  exact ac_path mixed (ext:=[86]) (fuel:=9) (n:=3) (orc:=[vD false]) (an (ac_rruns hr ho hw) trivial) (by kernel_rfl)
 ·obtain ⟨h1,h2,h3⟩:=runs_iff.1 hr
  obtain ⟨hB,hi0,hi1⟩:=has_iff.1 h1
  obtain ⟨n,rfl⟩:∃ n:Nat,i=n:=⟨i.toNat,by omega⟩
  rw [recvS_is hr]
  rw [Int.toNat_natCast] at h2 h3
  exact rstep hB (.of ho) hw (by omega) h2 h3
end
section
def modeI (k:Int):Int:=if k=7 then 1 else if k=8 then 2 else 0
def wakesS:List Int→St→St
 | [],s=>s
 | i::l,s=>wakesS l (wakeS s i)
def shutC (s:St) (n:Nat):St:=toldS (s.toWord s.hd s.tl (clM s.md (modeI (gth s.th n).ki))) n (gth s.th n).ki 1 0 1
def fullC (s:St) (n:Nat):St:=wakesS (ntT s.fl.length s.fe s.fl) ((s.toFull (ntE s.fe s.fl) (ntL s.fl.length s.fe s.fl)).onTh n (pcT · 2))
def emptyC (s:St) (n:Nat):St:=wakesS (ntT s.el.length s.ee s.el) ((s.toEmpty (ntE s.ee s.el) (ntL s.el.length s.ee s.el)).onTh n doneT)
def closeN (s:St) (n:Nat):St:=if (gth s.th n).pc=0 then shutC s n else if (gth s.th n).pc=1 then fullC s n else emptyC s n
def closeS (s:St) (i:Int):St:=if runsB s i 3=true then closeN s i.toNat else s
def closeK (s:St) (i:Int):Nat→St×Nat
 | 0=>(s,0)
 | k+1=>if runsB s i 3=true then ((closeK (closeS s i) i k).1,(closeK (closeS s i) i k).2+1) else (s,0)
theorem closeN_ind {P:St→Prop} {s:St} {n:Nat} (h0:P (shutC s n)) (h1:P (fullC s n)) (h2:P (emptyC s n)):P (closeN s n):=by
 unfold closeN;split
 ·exact h0
 ·split
  ·exact h1
  ·exact h2
theorem wake_wake (t:Th):wakeT (wakeT t)=wakeT t:=by unfold wakeT;split <;> simp_all
theorem shr_wakes:∀ (l:List Int) (s:St),shr (wakesS l s)=shr s
 | [],s=>rfl
 | i::l,s=>by show shr (wakesS l (wakeS s i))=_;rw [shr_wakes l,shr_wake]
theorem wake_rest (s:St) (i:Int):(wakeS s i).lg=s.lg∧(wakeS s i).cf=s.cf∧(wakeS s i).nw=s.nw∧(wakeS s i).th.length=s.th.length:=by
 unfold wakeS;split
 ·exact ⟨rfl,rfl,rfl,by simp [St.onTh,St.setTh]⟩
 ·exact ⟨rfl,rfl,rfl,rfl⟩
theorem wakes_rest:∀ (l:List Int) (s:St),(wakesS l s).lg=s.lg∧(wakesS l s).cf=s.cf∧(wakesS l s).nw=s.nw∧(wakesS l s).th.length=s.th.length
 | [],s=>⟨rfl,rfl,rfl,rfl⟩
 | i::l,s=>by
  obtain ⟨a,b,c,d⟩:=wakes_rest l (wakeS s i)
  obtain ⟨a',b',c',d'⟩:=wake_rest s i
  exact ⟨a.trans a',b.trans b',c.trans c',d.trans d'⟩
theorem wakes_stB:∀ (l:List Int) {s:St},stB s=true→stB (wakesS l s)=true
 | [],_,h=>h
 | i::l,_,h=>wakes_stB l (wake_stB h i)
theorem wake_th {s:St} (h:stB s=true) (i:Int) {j:Nat} (hj:j<s.th.length):gth (wakeS s i).th j=if (j:Int)=i then wakeT (gth s.th j) else gth s.th j:=by
 unfold wakeS
 split
 ·next hh =>
  have hi:=has_iff.1 hh
  show gth (s.th.set i.toNat (wakeT (gth s.th i.toNat))) j=_
  rw [gth_set (by omega)]
  by_cases e:i.toNat=j
  ·rw [if_pos e,if_pos (by omega),e]
  ·rw [if_neg e,if_neg (by omega)]
 ·next hh =>
  rw [if_neg]
  rintro rfl
  exact hh (has_of h hj)
theorem wakes_th:∀ (l:List Int) {s:St},stB s=true→∀ {j:Nat},j<s.th.length→gth (wakesS l s).th j=if (j:Int)∈l then wakeT (gth s.th j) else gth s.th j
 | [],s,h,j,hj=>by simp [wakesS]
 | i::l,s,h,j,hj=>by
  show gth (wakesS l (wakeS s i)).th j=_
  rw [wakes_th l (wake_stB h i) (by rw [(wake_rest s i).2.2.2];exact hj),wake_th h i hj]
  by_cases e:(j:Int)=i
  ·subst e
   simp [wake_wake]
  ·simp [e]
theorem mode_is (k:Int):modeI k=0∨modeI k=1∨modeI k=2:=by unfold modeI;(repeat' split) <;> simp
theorem clM_bd {m d:Int} (h:0≤m∧m≤2):0≤clM m d∧clM m d≤2:=by unfold clM;split <;> omega
theorem shut_word {s:St} (h:stB s=true) (d:Int):stB (s.toWord s.hd s.tl (clM s.md d))=true:=by
 have c:=check_iff.1 (word_ok h).1
 have:=clM_bd (m:=s.md) (d:=d) (by omega)
 exact word_stB h (check_iff.2 (by omega))
theorem nt_all {ep:Int} {l:List Int} (h:okE ep l=true):ntE ep l=nxE ep∧ntL l.length ep l=[]∧ntT l.length ep l=l:=by simp [ntE,ntL,ntT,h]
theorem nil_stn (m:Int):stnB m []=true:=rfl
theorem full_off {s:St} (h:stB s=true):stB (s.toFull (ntE s.fe s.fl) (ntL s.fl.length s.fe s.fl))=true:=by
 obtain ⟨-,-,-,-,e,-⟩:=full_lines h
 obtain ⟨e1,e2,-⟩:=nt_all e
 rw [e1,e2]
 exact full_stB h (okE_nx e rfl) (nil_stn _)
theorem empty_off {s:St} (h:stB s=true):stB (s.toEmpty (ntE s.ee s.el) (ntL s.el.length s.ee s.el))=true:=by
 obtain ⟨-,-,-,-,-,e⟩:=full_lines h
 obtain ⟨e1,e2,-⟩:=nt_all e
 rw [e1,e2]
 exact empty_stB h (okE_nx e rfl) (nil_stn _)
theorem full_on {s:St} (h:stB s=true) {n:Nat} (hn:n<s.th.length) (h1:(gth s.th n).st≠0):stB ((s.toFull (ntE s.fe s.fl) (ntL s.fl.length s.fe s.fl)).onTh n (pcT · 2))=true :=
 onTh_stB (full_off h) (pcT_ok (gth_ok h hn) h1 (by decide))
theorem empty_on {s:St} (h:stB s=true) {n:Nat} (hn:n<s.th.length) (h1:(gth s.th n).st≠0):stB ((s.toEmpty (ntE s.ee s.el) (ntL s.el.length s.ee s.el)).onTh n doneT)=true :=
 onTh_stB (empty_off h) (doneT_ok (gth_ok h hn) h1)
theorem closeN_stB {s:St} (h:stB s=true) {n:Nat} (hn:n<s.th.length) (h1:(gth s.th n).st≠0):stB (closeN s n)=true :=
 closeN_ind (P:=fun u=>stB u=true) (told_stB (shut_word h _) hn h1 (by decide) (by decide)) (wakes_stB _ (full_on h hn h1)) (wakes_stB _ (empty_on h hn h1))
theorem closeS_stB (s:St) (i:Int):stB (closeS s i)=stB s:=by
 unfold closeS
 split
 ·next hr =>
  obtain ⟨hh,h1,-⟩:=runs_iff.1 hr
  obtain ⟨h,h2,h3⟩:=has_iff.1 hh
  rw [h]
  exact closeN_stB h (by omega) (by omega)
 ·rfl
theorem closeK_off {s:St} {i:Int} (h:runsB s i 3=false) (k:Nat):closeK s i k=(s,0):=by
 cases k with
 | zero=>rfl
 | succ k=>simp [closeK,h]
theorem closeK_on {s:St} {i:Int} (h:runsB s i 3=true) (k:Nat):closeK s i (k+1)=((closeK (closeS s i) i k).1,(closeK (closeS s i) i k).2+1):=by simp [closeK,h]
theorem closeN_things {s:St} {n:Nat}:thingsN s (closeN s n)≤1:=by
 refine closeN_ind (P:=fun u=>thingsN s u≤1) ?_ ?_ ?_
 ·unfold shutC;rw [things_shr (shr_told _ _ _ _ _ _)];exact things_word _ _ _ _
 ·unfold fullC;rw [things_shr (shr_wakes _ _),things_shr (shr_on _ _ _)];exact things_full _ _ _
 ·unfold emptyC;rw [things_shr (shr_wakes _ _),things_shr (shr_on _ _ _)];exact things_empty _ _ _
theorem closeS_things (s:St) (i:Int):thingsN s (closeS s i)≤1:=by
 unfold closeS;split
 ·exact closeN_things
 ·rw [things_self];omega
structure OthM (l m:List Th) (i:Int):Prop where
 len:m.length=l.length
 one:∀ j:Nat,j<l.length→(j:Int)≠i→gth m j=gth l j∨((gth l j).st=2∧gth m j=wakeT (gth l j))
theorem OthM.refl (l:List Th) (i:Int):OthM l l i:=⟨rfl,fun _ _ _=>.inl rfl⟩
theorem OthM.set {l:List Th} {n:Nat} (t:Th):OthM l (l.set n t) n:=⟨by simp,fun j hj hne=>.inl (by
 by_cases hn:n<l.length
 ·rw [gth_set hn,if_neg (by omega)]
 ·rw [List.set_eq_of_length_le (by omega)])⟩
theorem OthM.wakes {l:List Th} {i:Int} {s:St} (h:OthM l s.th i) (hs:stB s=true) (k:List Int):OthM l (wakesS k s).th i:=⟨(wakes_rest k s).2.2.2.trans h.len,fun j hj hne=>by
 rw [wakes_th k hs (by rw [h.len];exact hj)]
 have key:∀ t:Th,wakeT t=t∨(t.st=2∧wakeT t=wakeT t):=fun t=>by
  by_cases h2:t.st=2
  ·exact .inr ⟨h2,rfl⟩
  ·left;unfold wakeT;rw [if_neg h2]
 split
 ·rcases h.one j hj hne with e | ⟨e1,e2⟩
  ·rw [e];exact key _
  ·rw [e2,wake_wake];exact .inr ⟨e1,rfl⟩
 ·exact h.one j hj hne⟩
theorem closeN_oth {s:St} (h:stB s=true) {n:Nat} (hn:n<s.th.length) (h1:(gth s.th n).st≠0):OthM s.th (closeN s n).th n:=by
 refine closeN_ind (P:=fun u=>OthM s.th u.th n) ?_ ?_ ?_
 ·unfold shutC
  obtain ⟨t,ht⟩:=th_told (s.toWord s.hd s.tl (clM s.md (modeI (gth s.th n).ki))) n (gth s.th n).ki 1 0 1
  rw [ht];exact OthM.set t
 ·exact OthM.wakes (s:=(s.toFull (ntE s.fe s.fl) (ntL s.fl.length s.fe s.fl)).onTh n (pcT · 2)) (OthM.set _) (full_on h hn h1) _
 ·exact OthM.wakes (s:=(s.toEmpty (ntE s.ee s.el) (ntL s.el.length s.ee s.el)).onTh n doneT) (OthM.set _) (empty_on h hn h1) _
theorem closeN_lgOk {s:St} {n:Nat}:LgOk s.lg (closeN s n).lg∧(closeN s n).cf=s.cf∧(closeN s n).nw=s.nw:=by
 refine closeN_ind (P:=fun u=>LgOk s.lg u.lg∧u.cf=s.cf∧u.nw=s.nw) ?_ ?_ ?_
 ·unfold shutC
  exact ⟨lg_told _ n _ _ _ _,cf_tell _ n _ _ _⟩
 ·unfold fullC
  obtain ⟨a,b,c,-⟩:=wakes_rest (ntT s.fl.length s.fe s.fl) ((s.toFull (ntE s.fe s.fl) (ntL s.fl.length s.fe s.fl)).onTh n (pcT · 2))
  exact ⟨.inl a,b,c⟩
 ·unfold emptyC
  obtain ⟨a,b,c,-⟩:=wakes_rest (ntT s.el.length s.ee s.el) ((s.toEmpty (ntE s.ee s.el) (ntL s.el.length s.ee s.el)).onTh n doneT)
  exact ⟨.inl a,b,c⟩
theorem closeS_lgOk (s:St) (i:Int):LgOk s.lg (closeS s i).lg∧(closeS s i).cf=s.cf∧(closeS s i).nw=s.nw:=by
 unfold closeS;split
 ·exact closeN_lgOk
 ·exact ⟨.inl rfl,rfl,rfl⟩
end
section
open Go.RowKit
section
variable {k h t m d:Int}
theorem ac_pmode (k:Int):AC Tryz.prog 278 [.int .i64 k] (.int .i64 (modeI k)):=by
 by_cases h7:k=7
 ·subst h7;exact ac_path mixed (ext:=[]) (fuel:=9) (n:=3) (orc:=[.nilFunc]) trivial (by kernel_rfl)
 ·by_cases h8:k=8
  ·subst h8;exact ac_path mixed (ext:=[]) (fuel:=9) (n:=3) (orc:=[.nilFunc,.nilFunc]) trivial (by kernel_rfl)
  ·rw [show modeI k=0 by simp [modeI,h7,h8]]
   exact ac_path mixed (ext:=[]) (fuel:=9) (n:=3) (orc:=[.bool false,.bool false]) (an (show (k==7)=false by simp [h7])<|an (show (k==8)=false by simp [h8]) trivial) (by kernel_rfl)
theorem ac_rmode (k:Int):AC Tryz.prog 109 [.int .i64 k] (.int .i64 (modeI k)):=by
 by_cases h7:k=7
 ·subst h7;exact ac_path mixed (ext:=[]) (fuel:=9) (n:=3) (orc:=[.nilFunc]) trivial (by kernel_rfl)
 ·by_cases h8:k=8
  ·subst h8;exact ac_path mixed (ext:=[]) (fuel:=9) (n:=3) (orc:=[.nilFunc,.nilFunc]) trivial (by kernel_rfl)
  ·rw [show modeI k=0 by simp [modeI,h7,h8]]
   exact ac_path mixed (ext:=[]) (fuel:=9) (n:=3) (orc:=[.bool false,.bool false]) (an (show (k==7)=false by simp [h7])<|an (show (k==8)=false by simp [h8]) trivial) (by kernel_rfl)
theorem cl_of (h:m<d) (hd:d=1∨d=2):clM m d=d:=by unfold clM;rw [if_pos ⟨hd,h⟩]
theorem cl_no (h:¬ m<d):clM m d=m:=by unfold clM;rw [if_neg (fun e=>h e.2)]
theorem ac_pclose (hd:d=0∨d=1∨d=2):AC Tryz.prog 277 [wdT h t m,.int .i64 d] (wdT h t (clM m d)):=by
 rcases hd with rfl | rfl | rfl
 ·rw [show clM m 0=m by simp [clM]]
  exact ac_path mixed (ext:=[]) (fuel:=9) (n:=3) (orc:=[.nilFunc,.nilFunc]) trivial (by kernel_rfl)
 ·by_cases hm:m<1
  ·rw [cl_of hm (.inl rfl)]
   exact ac_path mixed (ext:=[]) (fuel:=9) (n:=3) (orc:=[.nilFunc,.bool false]) (an (show decide ((1:Int)≤m)=false by simp;omega) trivial) (by kernel_rfl)
  ·rw [cl_no hm]
   exact ac_path mixed (ext:=[]) (fuel:=9) (n:=3) (orc:=[.nilFunc,.bool true]) (an (show decide ((1:Int)≤m)=true by simp;omega) trivial) (by kernel_rfl)
 ·by_cases hm:m<2
  ·rw [cl_of hm (.inr rfl)]
   exact ac_path mixed (ext:=[]) (fuel:=9) (n:=3) (orc:=[.nilFunc,.nilFunc,.bool false]) (an (show decide ((2:Int)≤m)=false by simp;omega) trivial) (by kernel_rfl)
  ·rw [cl_no hm]
   exact ac_path mixed (ext:=[]) (fuel:=9) (n:=3) (orc:=[.nilFunc,.nilFunc,.bool true]) (an (show decide ((2:Int)≤m)=true by simp;omega) trivial) (by kernel_rfl)
theorem ac_rclose (hd:d=0∨d=1∨d=2):AC Tryz.prog 108 [wdT h t m,.int .i64 d] (wdT h t (clM m d)):=by
 rcases hd with rfl | rfl | rfl
 ·rw [show clM m 0=m by simp [clM]]
  exact ac_path mixed (ext:=[]) (fuel:=9) (n:=3) (orc:=[.nilFunc,.nilFunc]) trivial (by kernel_rfl)
 ·by_cases hm:m<1
  ·rw [cl_of hm (.inl rfl)]
   exact ac_path mixed (ext:=[]) (fuel:=9) (n:=3) (orc:=[.nilFunc,.bool true]) (an (show decide (m<1)=true by simpa using hm) trivial) (by kernel_rfl)
  ·rw [cl_no hm]
   exact ac_path mixed (ext:=[]) (fuel:=9) (n:=3) (orc:=[.nilFunc,.bool false]) (an (show decide (m<1)=false by simpa using hm) trivial) (by kernel_rfl)
 ·by_cases hm:m<2
  ·rw [cl_of hm (.inr rfl)]
   exact ac_path mixed (ext:=[]) (fuel:=9) (n:=3) (orc:=[.nilFunc,.nilFunc,.bool true]) (an (show decide (m<2)=true by simpa using hm) trivial) (by kernel_rfl)
  ·rw [cl_no hm]
   exact ac_path mixed (ext:=[]) (fuel:=9) (n:=3) (orc:=[.nilFunc,.nilFunc,.bool false]) (an (show decide (m<2)=false by simpa using hm) trivial) (by kernel_rfl)
end
end
end Go.Proofs.YtbckpadeamlidaaGreat
