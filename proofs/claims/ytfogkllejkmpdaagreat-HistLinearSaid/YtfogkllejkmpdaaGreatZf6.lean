/- Texts merged: WordGT, WayFT, SendFT, StInT, TreT, EngGT, AcAT, ConfBT, ConfCT, ConfDT, SlVT, AskT, OpVT, AppT. -/
import Derived.Test.YtfogkllejkmpdaaGreatZf5
import Derived.Test.YtfogkllejkmpdaaGreatZf4
namespace Go.Proofs.YtfogkllejkmpdaaGreat
set_option linter.unusedVariables false
set_option linter.unusedSimpArgs false
set_option maxRecDepth 100000
section
theorem I7 {h t m r:Int}:H6 h t m r=true↔0≤h∧h≤t∧t≤1099511627776∧0≤m∧m≤2∧t - h≤r:=by
 constructor
 ·intro c;have:=M3 c;omega
 ·intro c
  have:bV h t=t - h:=by unfold bV;split <;> omega
  simp [H6,this];omega
theorem a3d (h t m r:Int):(acR h t m r=1∧acT h t m r=t+1∧acP h t m r=t∧H6 h t m r=true∧m=0∧t - h<r∧t<1099511627776)∨(acR h t m r≠1∧acT h t m r=t∧acP h t m r=0):=by
 by_cases c:acR h t m r=1
 ·exact .inl ⟨c,(DW c).1,(DW c).2,WS.1 c⟩
 ·exact .inr ⟨c,a3w c⟩
theorem a2i (h t m r x:Int):(dA h t m r x=true∧evH h t m r x=h+1∧H6 h t m r=true∧m=0∧h=x∧t - h=r∧h<t)∨(dA h t m r x=false∧evH h t m r x=h):=by
 cases c:dA h t m r x
 ·exact .inr ⟨rfl,by simp [evH,c]⟩
 ·exact .inl ⟨rfl,by simp [evH,c],PY.1 c⟩
theorem lY {h t m r:Int} (c:H6 h t m r=true):H6 h (acT h t m r) m r=true:=by
 rcases a3d h t m r with ⟨_,e,_,_,_,_,_⟩ | ⟨_,e,_⟩
 ·rw [e];rw [I7] at c ⊢;omega
 ·rw [e];exact c
theorem mI {h t m r x:Int} (c:H6 h t m r=true):H6 (evH h t m r x) t m r=true:=by
 rcases a2i h t m r x with ⟨_,e,_,_,_,_⟩ | ⟨_,e⟩
 ·rw [e];rw [I7] at c ⊢;omega
 ·rw [e];exact c
end
section
def a1s (wt sp yi n:Int):Int:=if wt=0 then 0 else if wt=1 then 1 else if wt=2 then (if n<sp then 0 else if n<sp+yi then 1 else 2) else 2
def Ih (lg th po wt sp yi n:Int):Int:=if fD lg th po wt sp yi then a1s wt sp yi n else 0
end
section
def pcT (t:Th) (p:Int):Th:=⟨t.st,t.ki,t.va,t.un,p,t.re,t.se,t.tr,t.la,t.rs,t.go⟩
def onT (t:Th):Th:=⟨t.st,t.ki,t.va,t.un,t.pc,t.re,t.se,if t.tr<1099511627776 then t.tr+1 else t.tr,t.la,t.rs,t.go⟩
def l8 (t:Th) (r p:Int):Th:=⟨t.st,t.ki,t.va,t.un,p,r,t.se,t.tr,t.la,t.rs,t.go⟩
def o9 (t:Th) (e p:Int):Th:=⟨t.st,t.ki,t.va,t.un,p,t.re,e,t.tr,t.la,t.rs,t.go⟩
def z8 (t:Th) (p:Int):Th:=⟨2,t.ki,t.va,t.un,p,t.re,t.se,0,t.la,t.rs,t.go⟩
def E9 (t:Th):Th:=⟨0,t.ki,t.va,t.un,0,0,0,0,false,t.rs,t.go⟩
def D8 (t:Th):Th:=if t.st=2 then ⟨1,t.ki,t.va,t.un,t.pc,t.re,t.se,t.tr,t.la,t.rs,t.go⟩ else t
def St.onTh (s:St) (n:Nat) (f:Th→Th):St:=s.setTh n (f (gth s.th n))
def St.toWord (s:St) (h t m:Int):St:=⟨s.cf,h,t,m,s.sl,s.sn,s.rc,s.fe,s.fl,s.ee,s.el,s.nw,s.th,s.lg⟩
def St.toSl (s:St) (l:List Slo):St:=⟨s.cf,s.hd,s.tl,s.md,l,s.sn,s.rc,s.fe,s.fl,s.ee,s.el,s.nw,s.th,s.lg⟩
def St.toSn (s:St) (l:List Int):St:=⟨s.cf,s.hd,s.tl,s.md,s.sl,l,s.rc,s.fe,s.fl,s.ee,s.el,s.nw,s.th,s.lg⟩
def St.toRc (s:St) (l:List Int):St:=⟨s.cf,s.hd,s.tl,s.md,s.sl,s.sn,l,s.fe,s.fl,s.ee,s.el,s.nw,s.th,s.lg⟩
def St.toFull (s:St) (e:Int) (l:List Int):St:=⟨s.cf,s.hd,s.tl,s.md,s.sl,s.sn,s.rc,e,l,s.ee,s.el,s.nw,s.th,s.lg⟩
def St.toEmpty (s:St) (e:Int) (l:List Int):St:=⟨s.cf,s.hd,s.tl,s.md,s.sl,s.sn,s.rc,s.fe,s.fl,e,l,s.nw,s.th,s.lg⟩
def G9 (s:St) (i:Int):St:=if hasB s i=true then s.onTh i.toNat D8 else s
def D7 (s:St) (n:Nat) (k r g p:Int):St:=(bH s n k r g).onTh n (pcT · p)
def J8 (s:St) (i d:Int):Bool:=hasB s i&&((gth s.th i.toNat).st==1&&j6 (gth s.th i.toNat).ki==d)
def F8 (s:St):Int:=acR s.hd s.tl s.md s.sl.length
def ve (s:St) (n:Int):Int:=Ih s.cf.lg s.cf.th s.cf.po s.cf.wt s.cf.sp s.cf.yi n
def bD (s:St) (n:Nat):St :=
 if s.cf.po=1 then D7 s n (gth s.th n).ki 3 0 9
 else if s.cf.po=2 then s.onTh n (l8 · s.hd 10)
 else if (gth s.th n).ki=2 then D7 s n (gth s.th n).ki 2 0 9
 else if (gth s.th n).la=true then D7 s n (gth s.th n).ki 5 0 9
 else if ve s (gth s.th n).tr=2 then s.onTh n (pcT · 5)
 else s.onTh n onT
def cZ (s:St) (n:Nat):St :=
 if F8 s=1 then s.onTh n (l8 · s.tl 3)
 else if F8 s=2 then bD s n
 else D7 s n (gth s.th n).ki (F8 s) 0 9
def Y4 (s:St) (n:Nat):St :=
 if plI s.sn n=0 then s.onTh n (pcT · 2)
 else if (gth s.th n).la=true then D7 s n (gth s.th n).ki 5 0 9
 else s.onTh n onT
def Q6 (s:St) (n:Nat):St :=
 if F8 s=1 then D7 (s.toWord s.hd (s.tl+1) s.md) n (gth s.th n).ki 1 0 6
 else if F8 s=2 then s.onTh n (pcT · 2)
 else D7 s n (gth s.th n).ki (F8 s) 0 9
def L9 (s:St) (n:Nat):St :=
 if hdB (ntT 1 s.ee s.el)=true then G9 ((s.toEmpty (ntE s.ee s.el) (ntL 1 s.ee s.el)).onTh n (pcT · 9)) (hdI (ntT 1 s.ee s.el))
 else (s.toEmpty (ntE s.ee s.el) (ntL 1 s.ee s.el)).onTh n (pcT · 9)
def Q8 (s:St) (n:Nat):St :=
 if (gth s.th n).la=true then s.onTh n (pcT · 2)
 else if cmB s.fe s.fl (gth s.th n).se n=true then (s.toFull s.fe (s.fl++[(n:Int)])).onTh n (z8 · 2)
 else s.onTh n (pcT · 2)
def Y6 (s:St) (n:Nat):St :=
 if dA s.hd s.tl s.md s.sl.length (gth s.th n).re=true then D7 (s.toWord (s.hd+1) s.tl s.md) n 9 1 (Q7 s (gth s.th n).re) 11
 else s.onTh n (pcT · 2)
def sendN (s:St) (n:Nat):St :=
 if (gth s.th n).pc=0 then (s.toSn (Z0 s.sn n)).onTh n (pcT · 1)
 else if (gth s.th n).pc=1 then Y4 s n
 else if (gth s.th n).pc=2 then cZ s n
 else if (gth s.th n).pc=3 then (if wrE s.sl (gth s.th n).re=0 then (s.toSl (wrL s.sl (gth s.th n).re (gth s.th n).va)).onTh n (pcT · 4) else s)
 else if (gth s.th n).pc=4 then Q6 s n
 else if (gth s.th n).pc=5 then s.onTh n (o9 · s.fe 7)
 else if (gth s.th n).pc=6 then L9 s n
 else if (gth s.th n).pc=7 then (if F8 s=2∧(gth s.th n).la=false then s.onTh n (pcT · 8) else s.onTh n (pcT · 2))
 else if (gth s.th n).pc=8 then Q8 s n
 else if (gth s.th n).pc=9 then (s.toSn (lvL s.sn n)).onTh n E9
 else if (gth s.th n).pc=10 then Y6 s n
 else (s.toSl (rlL s.sl (gth s.th n).re)).onTh n (pcT · 2)
def aB (s:St) (i:Int):St:=if J8 s i 1=true then sendN s i.toNat else s
def ah (s:St) (i:Int):Nat→St×Nat
 | 0=>(s,0)
 | k+1=>if J8 s i 1=true then ((ah (aB s i) i k).1,(ah (aB s i) i k).2+1) else (s,0)
theorem kR {s:St} (h:stB s=true) {n:Nat} {t:Th} (ht:thB t=true):stB (s.setTh n t)=true:=by
 obtain ⟨h1,h2,h3,h4,h5,h6,h7,h8⟩:=N7.1 h
 refine N7.2 ⟨h1,h2,h3,h4,h5,h6,h7,?_⟩
 simp only [iU,Bool.and_eq_true,decide_eq_true_eq,Bool.not_eq_true'] at h8 ⊢
 refine ⟨by show ((s.th.set n t).length:Int)=s.cf.th;rw [List.length_set];exact h8.1,?_⟩
 rw [List.any_eq_false] at h8 ⊢
 intro x hx
 rcases List.mem_or_eq_of_mem_set hx with h9 | rfl
 ·exact h8.2 x h9
 ·simp [mg,ht]
theorem r9 {s:St} (h:stB s=true) {n:Nat} {f:Th→Th} (ht:thB (f (gth s.th n))=true):stB (s.onTh n f)=true:=kR h ht
theorem l9 {s:St} (h:stB s=true) {n:Nat} (hn:n<s.th.length):thB (gth s.th n)=true:=by
 have h8:=(N7.1 h).2.2.2.2.2.2.2
 simp only [iU,Bool.and_eq_true,decide_eq_true_eq,Bool.not_eq_true',List.any_eq_false] at h8
 have:=h8.2 (gth s.th n) (by rw [pO hn];exact List.getElem_mem hn)
 simpa [mg] using this
theorem Y3 {s:St} (h:stB s=true):(s.th.length:Int)=s.cf.th∧1≤s.th.length∧s.th.length≤16:=by
 have h8:=(N7.1 h).2.2.2.2.2.2.2
 simp only [iU,Bool.and_eq_true,decide_eq_true_eq] at h8
 have:=xe (N7.1 h).1
 omega
theorem C8 {s:St} (h:stB s=true):H6 s.hd s.tl s.md s.sl.length=true∧fH s.sl=true∧(s.sl.length:Int)=cfR s.cf:=by
 have h2:=(N7.1 h).2.1
 simp only [bY,Bool.and_eq_true,decide_eq_true_eq] at h2
 exact ⟨by rw [h2.2.1];exact h2.1,h2.2.2,h2.2.1⟩
theorem M6 {s:St} (h:stB s=true) {a b c:Int} (hc:H6 a b c s.sl.length=true):stB (s.toWord a b c)=true:=by
 obtain ⟨h1,h2,h3,h4,h5,h6,h7,h8⟩:=N7.1 h
 refine N7.2 ⟨h1,?_,h3,h4,h5,h6,h7,h8⟩
 simp only [bY,Bool.and_eq_true,decide_eq_true_eq] at h2 ⊢
 exact ⟨by rw [h2.2.1] at hc;exact hc,h2.2⟩
theorem Jg {s:St} (h:stB s=true) {l:List Slo} (hl:l.length=s.sl.length) (hk:fH l=true):stB (s.toSl l)=true:=by
 obtain ⟨h1,h2,h3,h4,h5,h6,h7,h8⟩:=N7.1 h
 refine N7.2 ⟨h1,?_,h3,h4,h5,h6,h7,h8⟩
 simp only [bY,Bool.and_eq_true,decide_eq_true_eq] at h2 ⊢
 exact ⟨h2.1,by show (l.length:Int)=_;rw [hl];exact h2.2.1,hk⟩
theorem H8 {m:Int} {l:List Int}:W9 m l=true↔P5 l=true∧∀ x∈l,x<m:=by
 simp only [W9,Bool.and_eq_true,Bool.not_eq_true',List.any_eq_false]
 refine and_congr_right fun _=>forall_congr' fun x=>?_
 simp [EP]
theorem dS {s:St}:oq s=true↔W9 s.cf.th s.sn=true∧W9 s.cf.th s.rc=true∧W9 s.cf.th s.fl=true∧W9 s.cf.th s.el=true:=by
 simp [oq]
theorem Sr {s:St} (h:stB s=true) {l:List Int} (hl:W9 s.cf.th l=true):stB (s.toSn l)=true:=by
 obtain ⟨h1,h2,h3,h4,h5,h6,h7,h8⟩:=N7.1 h
 obtain ⟨a,b,c,d⟩:=dS.1 h3
 exact N7.2 ⟨h1,h2,dS.2 ⟨hl,b,c,d⟩,h4,h5,h6,h7,h8⟩
theorem QA {s:St} (h:stB s=true) {l:List Int} (hl:W9 s.cf.th l=true):stB (s.toRc l)=true:=by
 obtain ⟨h1,h2,h3,h4,h5,h6,h7,h8⟩:=N7.1 h
 obtain ⟨a,b,c,d⟩:=dS.1 h3
 exact N7.2 ⟨h1,h2,dS.2 ⟨a,hl,c,d⟩,h4,h5,h6,h7,h8⟩
theorem eu {s:St} (h:stB s=true) {e:Int} {l:List Int} (he:okE e l=true) (hl:W9 s.cf.th l=true):stB (s.toFull e l)=true:=by
 obtain ⟨h1,h2,h3,h4,h5,h6,h7,h8⟩:=N7.1 h
 obtain ⟨a,b,c,d⟩:=dS.1 h3
 exact N7.2 ⟨h1,h2,dS.2 ⟨a,b,hl,d⟩,he,h5,h6,h7,h8⟩
theorem bL {s:St} (h:stB s=true) {e:Int} {l:List Int} (he:okE e l=true) (hl:W9 s.cf.th l=true):stB (s.toEmpty e l)=true:=by
 obtain ⟨h1,h2,h3,h4,h5,h6,h7,h8⟩:=N7.1 h
 obtain ⟨a,b,c,d⟩:=dS.1 h3
 exact N7.2 ⟨h1,h2,dS.2 ⟨a,b,c,hl⟩,h4,he,h6,h7,h8⟩
theorem bN {m:Int} {l k:List Int} (h:W9 m l=true) (hk:P5 k=true) (hs:∀ x∈k,x∈l):W9 m k=true :=
 H8.2 ⟨hk,fun x hx=>(H8.1 h).2 x (hs x hx)⟩
theorem vT {m:Int} {l:List Int} {i:Int} (h:W9 m l=true) (hi:i<m):W9 m (Z0 l i)=true:=by
 obtain ⟨h1,h2⟩:=H8.1 h
 refine H8.2 ⟨Gd h1,fun x hx=>?_⟩
 unfold Z0 at hx
 split at hx
 ·rcases List.mem_append.1 hx with h3 | h3
  ·exact h2 x h3
  ·simp at h3;omega
 ·exact h2 x hx
theorem IV {m:Int} {l:List Int} {i:Int} (h:W9 m l=true):W9 m (lvL l i)=true:=by
 refine bN h (YM (H8.1 h).1 i) fun x hx=>?_
 unfold lvL at hx
 split at hx
 ·exact hx
 ·exact List.mem_of_mem_eraseIdx hx
theorem Af {s:St} {n:Nat} (h:stB s=true) (hn:n<s.th.length):(n:Int)<s.cf.th∧(0:Int)≤n∧(n:Int)≤15:=by
 have:=Y3 h;omega
theorem D9 {t:Th} (h:thB t=true) (h1:t.st≠0) {p:Int} (hp:0≤p∧p≤11):thB (pcT t p)=true:=by
 obtain ⟨st,ki,va,un,pc,re,se,tr,la,rs,go⟩:=t
 simp only [pcT] at *;rw [K6] at *;omega
theorem jf {t:Th} (h:thB t=true) (h1:t.st≠0):thB (onT t)=true:=by
 obtain ⟨st,ki,va,un,pc,re,se,tr,la,rs,go⟩:=t
 simp only [onT] at *;rw [K6] at *;split <;> omega
theorem iX {t:Th} (h:thB t=true) (h1:t.st≠0) {r p:Int} (hr:0≤r∧r≤1099511627776) (hp:0≤p∧p≤11):thB (l8 t r p)=true:=by
 obtain ⟨st,ki,va,un,pc,re,se,tr,la,rs,go⟩:=t
 simp only [l8] at *;rw [K6] at *;omega
theorem jJ {t:Th} (h:thB t=true) (h1:t.st≠0) {e p:Int} (hr : -1≤e∧e≤1099511627776) (hp:0≤p∧p≤11):thB (o9 t e p)=true:=by
 obtain ⟨st,ki,va,un,pc,re,se,tr,la,rs,go⟩:=t
 simp only [o9] at *;rw [K6] at *;omega
theorem FI {t:Th} (h:thB t=true) (h1:t.st≠0) {p:Int} (hp:0≤p∧p≤11):thB (z8 t p)=true:=by
 obtain ⟨st,ki,va,un,pc,re,se,tr,la,rs,go⟩:=t
 simp only [z8] at *;rw [K6] at *;omega
theorem xU {t:Th} (h:thB t=true) (h1:t.st≠0):thB (E9 t)=true:=by
 obtain ⟨st,ki,va,un,pc,re,se,tr,la,rs,go⟩:=t
 simp only [E9] at *;rw [K6] at *;have hf:bI false=0:=rfl;omega
theorem OT {t:Th} (h:thB t=true):thB (D8 t)=true:=by
 unfold D8
 split
 ·obtain ⟨st,ki,va,un,pc,re,se,tr,la,rs,go⟩:=t
  simp only at *;rw [K6] at *;omega
 ·exact h
theorem jW {t:Th} (h:thB t=true) {k r g:Int} (hr:0≤r∧r≤7):thB (F3 t k r g)=true:=by
 unfold F3
 split
 ·exact h
 ·obtain ⟨st,ki,va,un,pc,re,se,tr,la,rs,go⟩:=t
  simp only;rw [K6] at *;omega
theorem ZZ (s:St) (e:En):stB (s.addLg e)=stB s:=rfl
theorem OQ {s:St} (h:stB s=true) {i k r g:Int} (hr:0≤r∧r≤7):stB (bH s i k r g)=true:=by
 unfold bH
 split
 ·next hh =>
  have hi:=J5.1 hh
  rw [ZZ]
  exact kR h (jW (l9 h (by omega)) hr)
 ·exact h
theorem aa {s:St} (h:stB s=true) {n:Nat} (hn:n<s.th.length):hasB s n=true:=J5.2 ⟨h,by omega,by omega⟩
theorem dQ {s:St} (h:stB s=true) {n:Nat} (hn:n<s.th.length) (k r g:Int):bH s n k r g=(s.setTh n (F3 (gth s.th n) k r g)).addLg ⟨n,k,(gth s.th n).va,r,g⟩:=by
 unfold bH;rw [if_pos (aa h hn)];simp
theorem wV (t:Th) (k r g:Int):(F3 t k r g).st=t.st:=by unfold F3;split <;> rfl
theorem OW {s:St} (h:stB s=true) {n:Nat} (hn:n<s.th.length) (k r g:Int):gth (bH s n k r g).th n=F3 (gth s.th n) k r g:=by
 rw [dQ h hn]
 show gth (s.th.set n _) n=_
 rw [H9 hn,if_pos rfl]
theorem O9 {s:St} (h:stB s=true) {n:Nat} (hn:n<s.th.length) (h1:(gth s.th n).st≠0) {k r g p:Int} (hr:0≤r∧r≤7) (hp:0≤p∧p≤11):stB (D7 s n k r g p)=true:=by
 refine r9 (OQ h hr) ?_
 rw [OW h hn]
 exact D9 (jW (l9 h hn) hr) (by rw [wV];exact h1) hp
theorem nH (s:St):0≤F8 s∧F8 s≤7:=by
 unfold F8 acR;repeat' split
 all_goals omega
theorem eU {s:St} (h:stB s=true) (i:Int):stB (G9 s i)=true:=by
 unfold G9
 split
 ·next hh=>exact r9 h (OT (l9 h (by have:=J5.1 hh;omega)))
 ·exact h
theorem ZK {l:List Slo} (h:fH l=true) (p v:Int):fH (wrL l p v)=true:=by rw [ZF (Hm l p v)];exact h
theorem Qh {l:List Slo} (h:fH l=true) (p:Int):fH (rlL l p)=true:=by
 cases hb:rlB l p
 ·unfold rlL;rw [hb];exact h
 ·simp only [rlB,Bool.and_eq_true,decide_eq_true_eq] at hb
  exact (WK hb.1 hb.2).1
theorem I6 {s:St} {i d:Int}:J8 s i d=true↔hasB s i=true∧(gth s.th i.toNat).st=1∧j6 (gth s.th i.toNat).ki=d:=by simp [J8]
theorem l6 {s:St} (h:stB s=true):W9 s.cf.th s.sn=true∧W9 s.cf.th s.rc=true∧W9 s.cf.th s.fl=true∧W9 s.cf.th s.el=true∧okE s.fe s.fl=true∧okE s.ee s.el=true:=by
 obtain ⟨h1,h2,h3,h4,h5,h6,h7,h8⟩:=N7.1 h
 obtain ⟨a,b,c,d⟩:=dS.1 h3
 exact ⟨a,b,c,d,h4,h5⟩
theorem zQ {s:St} (h:stB s=true) {n:Nat} (hn:n<s.th.length) (h1:(gth s.th n).st≠0):stB (bD s n)=true:=by
 have hc:=I7.1 (C8 h).1
 unfold bD
 repeat' split
 ·exact O9 h hn h1 (by decide) (by decide)
 ·exact r9 h (iX (l9 h hn) h1 (by omega) (by decide))
 ·exact O9 h hn h1 (by decide) (by decide)
 ·exact O9 h hn h1 (by decide) (by decide)
 ·exact r9 h (D9 (l9 h hn) h1 (by decide))
 ·exact r9 h (jf (l9 h hn) h1)
theorem NM {s:St} (h:stB s=true) {n:Nat} (hn:n<s.th.length) (h1:(gth s.th n).st≠0):stB (cZ s n)=true:=by
 have hc:=I7.1 (C8 h).1
 unfold cZ
 repeat' split
 ·exact r9 h (iX (l9 h hn) h1 (by omega) (by decide))
 ·exact zQ h hn h1
 ·exact O9 h hn h1 (nH s) (by decide)
theorem Ii {s:St} (h:stB s=true) {n:Nat} (hn:n<s.th.length) (h1:(gth s.th n).st≠0):stB (Y4 s n)=true:=by
 unfold Y4
 repeat' split
 ·exact r9 h (D9 (l9 h hn) h1 (by decide))
 ·exact O9 h hn h1 (by decide) (by decide)
 ·exact r9 h (jf (l9 h hn) h1)
theorem Es {s:St} (h:stB s=true) {n:Nat} (hn:n<s.th.length) (h1:(gth s.th n).st≠0):stB (Q6 s n)=true:=by
 unfold Q6
 repeat' split
 ·next hs =>
  have h2:=lY (C8 h).1
  rw [(DW hs).1] at h2
  exact O9 (s:=s.toWord s.hd (s.tl+1) s.md) (M6 h h2) hn h1 (by decide) (by decide)
 ·exact r9 h (D9 (l9 h hn) h1 (by decide))
 ·exact O9 h hn h1 (nH s) (by decide)
theorem FP {s:St} (h:stB s=true) {n:Nat} (hn:n<s.th.length) (h1:(gth s.th n).st≠0):stB (L9 s n)=true:=by
 obtain ⟨-,-,-,d,-,e⟩:=l6 h
 have h2:stB (s.toEmpty (ntE s.ee s.el) (ntL 1 s.ee s.el))=true:=by
  refine bL h ?_ ?_
  ·simp only [ntE,ntL,e,if_true];exact fF e (O6 (R8 e) 1)
  ·simp only [ntL,e,if_true];exact bN d (O6 (R8 e) 1) (fun x hx=>List.mem_of_mem_drop hx)
 have h3:stB ((s.toEmpty (ntE s.ee s.el) (ntL 1 s.ee s.el)).onTh n (pcT · 9))=true:=r9 h2 (D9 (l9 h hn) h1 (by decide))
 unfold L9
 split
 ·exact eU h3 _
 ·exact h3
theorem uP {s:St} (h:stB s=true) {n:Nat} (hn:n<s.th.length) (h1:(gth s.th n).st≠0):stB (Q8 s n)=true:=by
 obtain ⟨-,-,c,-,e,-⟩:=l6 h
 unfold Q8
 repeat' split
 ·exact r9 h (D9 (l9 h hn) h1 (by decide))
 ·next hb =>
  have hE:aX s.fl n=0:=by simp only [cmB,Bool.and_eq_true,beq_iff_eq] at hb;exact hb.1.2
  have h2:=vT c (Af h hn).1
  rw [qf hE] at h2
  exact r9 (s:=s.toFull s.fe (s.fl++[(n:Int)])) (eu h (Em e (Dw hE)) h2) (FI (l9 h hn) h1 (by decide))
 ·exact r9 h (D9 (l9 h hn) h1 (by decide))
theorem Hq {s:St} (h:stB s=true) {n:Nat} (hn:n<s.th.length) (h1:(gth s.th n).st≠0):stB (Y6 s n)=true:=by
 unfold Y6
 split
 ·next hb =>
  have h2:=mI (x:=(gth s.th n).re) (C8 h).1
  rw [show evH s.hd s.tl s.md s.sl.length (gth s.th n).re=s.hd+1 by unfold evH;rw [if_pos hb]] at h2
  exact O9 (s:=s.toWord (s.hd+1) s.tl s.md) (M6 h h2) hn h1 (by decide) (by decide)
 ·exact r9 h (D9 (l9 h hn) h1 (by decide))
theorem ja {s:St} {n:Nat} (h:(gth s.th n).pc=0):sendN s n=(s.toSn (Z0 s.sn n)).onTh n (pcT · 1):=by unfold sendN;rw [h];rfl
theorem iZ {s:St} {n:Nat} (h:(gth s.th n).pc=1):sendN s n=Y4 s n:=by unfold sendN;rw [h];rfl
theorem iG {s:St} {n:Nat} (h:(gth s.th n).pc=2):sendN s n=cZ s n:=by unfold sendN;rw [h];rfl
theorem dR {s:St} {n:Nat} (h:(gth s.th n).pc=3):sendN s n=(if wrE s.sl (gth s.th n).re=0 then (s.toSl (wrL s.sl (gth s.th n).re (gth s.th n).va)).onTh n (pcT · 4) else s):=by unfold sendN;rw [h];rfl
theorem iP {s:St} {n:Nat} (h:(gth s.th n).pc=4):sendN s n=Q6 s n:=by unfold sendN;rw [h];rfl
theorem iR {s:St} {n:Nat} (h:(gth s.th n).pc=5):sendN s n=s.onTh n (o9 · s.fe 7):=by unfold sendN;rw [h];rfl
theorem iV {s:St} {n:Nat} (h:(gth s.th n).pc=6):sendN s n=L9 s n:=by unfold sendN;rw [h];rfl
theorem iI {s:St} {n:Nat} (h:(gth s.th n).pc=7):sendN s n=(if F8 s=2∧(gth s.th n).la=false then s.onTh n (pcT · 8) else s.onTh n (pcT · 2)):=by unfold sendN;rw [h];rfl
theorem iQ {s:St} {n:Nat} (h:(gth s.th n).pc=8):sendN s n=Q8 s n:=by unfold sendN;rw [h];rfl
theorem fZ {s:St} {n:Nat} (h:(gth s.th n).pc=9):sendN s n=(s.toSn (lvL s.sn n)).onTh n E9:=by unfold sendN;rw [h];rfl
theorem eZ {s:St} {n:Nat} (h:(gth s.th n).pc=10):sendN s n=Y6 s n:=by unfold sendN;rw [h];rfl
theorem aU {s:St} {n:Nat} (h:(gth s.th n).pc=11):sendN s n=(s.toSl (rlL s.sl (gth s.th n).re)).onTh n (pcT · 2):=by unfold sendN;rw [h];rfl
theorem iW {t:Th} (h:thB t=true):t.pc=0∨t.pc=1∨t.pc=2∨t.pc=3∨t.pc=4∨t.pc=5∨t.pc=6∨t.pc=7∨t.pc=8∨t.pc=9∨t.pc=10∨t.pc=11:=by
 obtain ⟨st,ki,va,un,pc,re,se,tr,la,rs,go⟩:=t
 rw [K6] at h;simp only;omega
theorem aL {s:St} (h:stB s=true) {n:Nat} (hn:n<s.th.length) (h1:(gth s.th n).st≠0):stB (sendN s n)=true:=by
 obtain ⟨a,-,-,-,e,-⟩:=l6 h
 have ho:=C8 h
 have he:=O7.1 e
 have hg:=l9 h hn
 obtain p | p | p | p | p | p | p | p | p | p | p | p:=iW hg
 ·rw [ja p];exact r9 (Sr h (vT a (Af h hn).1)) (D9 hg h1 (by decide))
 ·rw [iZ p];exact Ii h hn h1
 ·rw [iG p];exact NM h hn h1
 ·rw [dR p]
  split
  ·exact r9 (Jg h (Da _ _ _) (ZK ho.2.1 _ _)) (D9 hg h1 (by decide))
  ·exact h
 ·rw [iP p];exact Es h hn h1
 ·rw [iR p];exact r9 h (jJ hg h1 (by omega) (by decide))
 ·rw [iV p];exact FP h hn h1
 ·rw [iI p]
  split
  ·exact r9 h (D9 hg h1 (by decide))
  ·exact r9 h (D9 hg h1 (by decide))
 ·rw [iQ p];exact uP h hn h1
 ·rw [fZ p];exact r9 (Sr h (IV a)) (xU hg h1)
 ·rw [eZ p];exact Hq h hn h1
 ·rw [aU p];exact r9 (Jg h (ig _ _) (Qh ho.2.1 _)) (D9 hg h1 (by decide))
theorem LQ (s:St) (i:Int):stB (aB s i)=stB s:=by
 unfold aB
 split
 ·next hr =>
  obtain ⟨hh,h1,-⟩:=I6.1 hr
  obtain ⟨h,h2,h3⟩:=J5.1 hh
  rw [h]
  exact aL h (by omega) (by omega)
 ·rfl
end
section
open Go.ChangeShapes Go.WideShapes Go.ChangeAt Go.RowKit
structure SlP {α:Type} (P:Nat→Prop) (W:World) (k:Nat) (enc:α→List Value) (xs:List α) (p:Option Addr) (n c:Nat):Prop where
 s:Sl W k enc xs (.slice p n c)
 i:xs≠[]→∀ a,p=some a→P a.block
theorem Sl.out {α:Type} {W W' : World} {k n c b:Nat} {enc:α→List Value} {xs:List α} {p:Option Addr} (h:Sl W k enc xs (.slice p n c)) (ho:Out [b] W W') (hne:xs≠[]→∀ a,p=some a→a.block≠b):Sl W' k enc xs (.slice p n c):=by
 obtain ⟨q,cap,hv,h1,h2,h3,h4⟩:=h.is
 cases hv
 refine ⟨p,c,rfl,h1,h2,h3,fun hx=>?_⟩
 obtain ⟨g,o,rfl,hg,hc⟩:=h4 hx
 refine ⟨g,o,rfl,Nat.lt_of_lt_of_le hg ho.size,fun i x hi l hl=>?_⟩
 have hb:=ho.block g hg (by simpa using hne hx _ rfl)
 rw [← hc i x hi l hl]
 simp [World.cell?,hb]
theorem SlP.kept {α:Type} {P:Nat→Prop} {W W' : World} {k n c:Nat} {enc:α→List Value} {xs:List α} {p:Option Addr} (h:SlP P W k enc xs p n c) (hg:Below W.heap.size W W'):SlP P W' k enc xs p n c:=⟨h.s.kept hg,h.i⟩
theorem SlP.out {α:Type} {P:Nat→Prop} {W W' : World} {k n c b:Nat} {enc:α→List Value} {xs:List α} {p:Option Addr} (h:SlP P W k enc xs p n c) (ho:Out [b] W W') (hb:¬ P b):SlP P W' k enc xs p n c:=⟨h.s.out ho (fun hx a ha e=>hb (e ▸ h.i hx a ha)),h.i⟩
theorem SlP.mono {α:Type} {P P' : Nat→Prop} {W:World} {k n c:Nat} {enc:α→List Value} {xs:List α} {p:Option Addr} (h:SlP P W k enc xs p n c) (hp:∀ g,P g→P' g):SlP P' W k enc xs p n c:=⟨h.s,fun hx a ha=>hp _ (h.i hx a ha)⟩
theorem SlP.lt {α:Type} {P:Nat→Prop} {W:World} {k n c:Nat} {enc:α→List Value} {xs:List α} {p:Option Addr} (h:SlP P W k enc xs p n c):SlP (fun g=>P g∧g<W.heap.size) W k enc xs p n c:=⟨h.s,fun hx a ha=>⟨h.i hx a ha,by
 obtain ⟨q,cap,hv,_,_,_,h4⟩:=h.s.is
 cases hv
 obtain ⟨g,o,e,hg,_⟩:=h4 hx
 rw [ha] at e;cases e;exact hg⟩⟩
theorem Sl.loc {α:Type} {W:World} {k n c:Nat} {enc:α→List Value} {xs:List α} {p:Option Addr} (h:Sl W k enc xs (.slice p n c)):SlP (fun g=>g<W.heap.size) W k enc xs p n c:=⟨h,fun hx a ha=>by
 obtain ⟨q,cap,hv,_,_,_,h4⟩:=h.is
 cases hv
 obtain ⟨g,o,e,hg,_⟩:=h4 hx
 rw [ha] at e;cases e;exact hg⟩
theorem Ow.loc {α:Type} {W:World} {base k n c:Nat} {e:TypeId} {enc:α→List Value} {xs:List α} {p:Option Addr} (he:Enc k enc) (h:Ow W base e k enc xs (.slice p n c)):SlP (fun g=>base≤g) W k enc xs p n c:=⟨Ow.sl he h,fun _ a ha=>by subst ha;exact (Ow.lt h a.block rfl).1⟩
structure St.few (s:St):Prop where
 sl:s.sl.length≤1000
 sn:s.sn.length≤1000
 rc:s.rc.length≤1000
 fl:s.fl.length≤1000
 el:s.el.length≤1000
 th:s.th.length≤1000
 lg:s.lg.length≤1000
structure StIn (P:Nat→Prop) (W:World) (s:St) (z:Pz):Prop where
 sl:SlP P W 2 Slo.cells s.sl z.p1 s.sl.length z.k1
 sn:SlP P W 1 Z8 s.sn z.p2 s.sn.length z.k2
 rc:SlP P W 1 Z8 s.rc z.p3 s.rc.length z.k3
 fl:SlP P W 1 Z8 s.fl z.p4 s.fl.length z.k4
 el:SlP P W 1 Z8 s.el z.p5 s.el.length z.k5
 th:SlP P W 11 Th.cells s.th z.p6 s.th.length z.k6
 lg:SlP P W 5 En.cells s.lg z.p7 s.lg.length z.k7
variable {P P' : Nat→Prop} {W W' : World} {s:St} {z:Pz}
theorem StIn.at (h:StIn P W s z):StAt W s z:=⟨h.sl.s,h.sn.s,h.rc.s,h.fl.s,h.el.s,h.th.s,h.lg.s⟩
theorem StIn.kept (h:StIn P W s z) (hg:Below W.heap.size W W'):StIn P W' s z:=⟨h.sl.kept hg,h.sn.kept hg,h.rc.kept hg,h.fl.kept hg,h.el.kept hg,h.th.kept hg,h.lg.kept hg⟩
theorem StIn.out {b:Nat} (h:StIn P W s z) (ho:Out [b] W W') (hb:¬ P b):StIn P W' s z:=⟨h.sl.out ho hb,h.sn.out ho hb,h.rc.out ho hb,h.fl.out ho hb,h.el.out ho hb,h.th.out ho hb,h.lg.out ho hb⟩
theorem StIn.mono (h:StIn P W s z) (hp:∀ g,P g→P' g):StIn P' W s z:=⟨h.sl.mono hp,h.sn.mono hp,h.rc.mono hp,h.fl.mono hp,h.el.mono hp,h.th.mono hp,h.lg.mono hp⟩
theorem StIn.lt (h:StIn P W s z):StIn (fun g=>P g∧g<W.heap.size) W s z:=⟨h.sl.lt,h.sn.lt,h.rc.lt,h.fl.lt,h.el.lt,h.th.lt,h.lg.lt⟩
theorem StAt.loc (h:StAt W s z):StIn (fun g=>g<W.heap.size) W s z:=⟨h.sl.loc,h.sn.loc,h.rc.loc,h.fl.loc,h.el.loc,h.th.loc,h.lg.loc⟩
def KP.st (P:Nat→Prop) (r:St):KP:=⟨fun v W=>∃ z:Pz,v = .agg #[.int .i64 r.cf.lg,.int .i64 r.cf.th,.int .i64 r.cf.po,.int .i64 r.cf.wt,.int .i64 r.cf.sp,.int .i64 r.cf.yi,.bool r.cf.si,.int .i64 r.hd,.int .i64 r.tl,.int .i64 r.md,.slice z.p1 r.sl.length z.k1,.slice z.p2 r.sn.length z.k2,.slice z.p3 r.rc.length z.k3,.int .i64 r.fe,.slice z.p4 r.fl.length z.k4,.int .i64 r.ee,.slice z.p5 r.el.length z.k5,.int .i64 r.nw,.slice z.p6 r.th.length z.k6,.slice z.p7 r.lg.length z.k7]∧StIn P W r z,fun ⟨z,e,h⟩ hg=>⟨z,e,h.kept hg⟩⟩
end
section
open Go.RowKit
def slT (x:Slo):Value:=.agg #[.int .i64 x.st,.int .i64 x.vl]
def thT (t:Th):Value:=.agg #[.int .i64 t.st,.int .i64 t.ki,.int .i64 t.va,.int .i64 t.un,.int .i64 t.pc,.int .i64 t.re,.int .i64 t.se,.int .i64 t.tr,.bool t.la,.int .i64 t.rs,.int .i64 t.go]
def enT (e:En):Value:=.agg #[.int .i64 e.th,.int .i64 e.ki,.int .i64 e.va,.int .i64 e.re,.int .i64 e.go]
def cfT (c:Cf):Value:=.agg #[.int .i64 c.lg,.int .i64 c.th,.int .i64 c.po,.int .i64 c.wt,.int .i64 c.sp,.int .i64 c.yi,.bool c.si]
def l5 (l:List Int):Value:=F4 l.length (l.map (.int .i64 ·))
def U0 (l:List Slo):Value:=F4 l.length (l.map slT)
def aT (l:List Th):Value:=F4 l.length (l.map thT)
def K5 (l:List En):Value:=F4 l.length (l.map enT)
def stT (s:St):Value:=.agg #[.int .i64 s.cf.lg,.int .i64 s.cf.th,.int .i64 s.cf.po,.int .i64 s.cf.wt,.int .i64 s.cf.sp,.int .i64 s.cf.yi,.bool s.cf.si,.int .i64 s.hd,.int .i64 s.tl,.int .i64 s.md,U0 s.sl,l5 s.sn,l5 s.rc,.int .i64 s.fe,l5 s.fl,.int .i64 s.ee,l5 s.el,.int .i64 s.nw,aT s.th,K5 s.lg]
def wdT (h t m:Int):Value:=.agg #[.int .i64 h,.int .i64 t,.int .i64 m]
def evT (e:Int) (l:List Int):Value:=.agg #[.int .i64 e,l5 l]
section
variable {O:Nat→Prop} {W:World}
def LP (v:Value):Prop:=∀ (ρ:A8) (O:Nat→Prop) (W:World) (c:Value),Rp ρ O W v c↔c=v
theorem WR (k:IntKind) (n:Int):LP (.int k n):=fun _ _ _ _=>p8
theorem Rh (b:Bool):LP (.bool b):=fun _ _ _ _=>H5
def Tq:Value→Bool
 | .int _ _ | .bool _=>true
 | _=>false
theorem nI {xs:List Value} (h:xs.all Tq=true):∀ x∈xs,LP x:=fun x hx=>by
 have:=List.all_eq_true.1 h x hx
 unfold Tq at this
 split at this
 ·exact WR _ _
 ·exact Rh _
 ·cases this
theorem qi {α:Type} {f:α→Value} {enc:α→List Value} {k:Nat} (hf:∀ x,(f x).cells=(enc x).toArray) (hk:∀ x,(enc x).length=k) (ha0:∀ x,(enc x).all Tq=true) {xs:List α} {c:Value} :
  Rp nowhere O W (F4 xs.length (xs.map f)) c↔∃ p cap,c = .slice p xs.length cap∧SlP (fun g=>¬ O g) W k enc xs p xs.length cap:=by
 have ha:∀ x,∀ u∈enc x,LP u:=fun x=>nI (ha0 x)
 unfold F4
 rw [kH]
 have hsz:(xs.map f).toArray.size=xs.length:=by simp
 constructor
 ·rintro ⟨p,cap,-,-,rfl,h1,h2,h3,h4⟩
  rw [hsz] at h1 h4 ⊢
  refine ⟨p,cap,rfl,⟨⟨p,cap,rfl,h1,h2,h3,fun hne=>?_⟩⟩,fun hne a hpa=>?_⟩
  ·obtain ⟨g,o,k',rfl,hg,hO,hc⟩:=h4 (by cases xs with | nil=>exact absurd rfl hne | cons _ _=>simp)
   have hk' : k' = k:=by
    cases xs with
    | nil=>exact absurd rfl hne
    | cons x r=>have:=(hc 0 (f x) (by simp)).1;rw [hf] at this;simp [hk] at this;exact this.symm
   subst hk'
   refine ⟨g,o,rfl,hg,fun i x hi j hj=>?_⟩
   obtain ⟨-,hcell⟩:=hc i (f x) (by simp [hi])
   rw [hf] at hcell
   have hj' : j<(enc x).length:=by rw [hk];exact hj
   obtain ⟨u,hu,hr⟩:=hcell j (enc x)[j] (by simp [hj'])
   rw [(ha x _ (List.getElem_mem hj')) nowhere O W u] at hr
   rw [hu,hr,List.getElem?_eq_getElem hj']
  ·obtain ⟨g,o,k',hp,hg,hO,hc⟩:=h4 (by cases xs with | nil=>exact absurd rfl hne | cons _ _=>simp)
   rw [hpa] at hp;cases hp;exact hO
 ·rintro ⟨p,cap,rfl,h1,h2⟩
  obtain ⟨p',cap',he,h3,h4,h5,h6⟩:=h1.is
  cases he
  refine ⟨p,cap,rfl,by simp,by simp,by simpa using h3,h4,h5,fun hne=>?_⟩
  have hx:xs≠[]:=by intro e;subst e;simp at hne
  obtain ⟨g,o,hp,hg,hc⟩:=h6 hx
  refine ⟨g,o,k,hp,hg,h2 hx _ hp,fun n el hel=>?_⟩
  simp only [List.getElem?_toArray,List.getElem?_map] at hel
  obtain ⟨x,hx',rfl⟩:=Option.map_eq_some_iff.1 hel
  rw [hf]
  refine ⟨by simp [hk],fun j u hu=>?_⟩
  have hu' : (enc x)[j]? = some u:=by simpa using hu
  have hj:j<k:=by rw [← hk x];exact (List.getElem?_eq_some_iff.1 hu').1
  refine ⟨u,(hc n x hx' j hj).trans hu',(ha x u (List.mem_of_getElem? hu') nowhere O W u).2 rfl⟩
theorem V5 {l:List Int} {c:Value}:Rp nowhere O W (l5 l) c↔∃ p cap,c = .slice p l.length cap∧SlP (fun g=>¬ O g) W 1 Z8 l p l.length cap :=
 qi (f:=(.int .i64 ·)) (enc:=Z8) (fun _=>rfl) (fun _=>rfl) (fun _=>rfl)
theorem JJ {l:List Slo} {c:Value}:Rp nowhere O W (U0 l) c↔∃ p cap,c = .slice p l.length cap∧SlP (fun g=>¬ O g) W 2 Slo.cells l p l.length cap :=
 qi (f:=slT) (enc:=Slo.cells) (fun _=>rfl) (fun _=>rfl) (fun _=>rfl)
theorem Kw {l:List Th} {c:Value}:Rp nowhere O W (aT l) c↔∃ p cap,c = .slice p l.length cap∧SlP (fun g=>¬ O g) W 11 Th.cells l p l.length cap :=
 qi (f:=thT) (enc:=Th.cells) (fun _=>rfl) (fun _=>rfl) (fun _=>rfl)
theorem Dx {l:List En} {c:Value}:Rp nowhere O W (K5 l) c↔∃ p cap,c = .slice p l.length cap∧SlP (fun g=>¬ O g) W 5 En.cells l p l.length cap :=
 qi (f:=enT) (enc:=En.cells) (fun _=>rfl) (fun _=>rfl) (fun _=>rfl)
def Cells (R:Value→Value→Prop):List Value→List Value→Prop
 | [],ys=>ys=[]
 | x::xs,ys=>∃ y r,ys=y::r∧R x y∧Cells R xs r
theorem X7 {R:Value→Value→Prop}:∀ {xs ys:List Value},AtAll R xs.toArray ys.toArray↔Cells R xs ys
 | [],ys=>by
  constructor
  ·intro h;have:=h.1;simp at this;exact this
  ·intro h;cases h;exact ⟨rfl,fun i x hx=>by simp at hx⟩
 | x::xs,ys=>by
  constructor
  ·intro h
   match ys,h with
   | [],h=>have:=h.1;simp at this
   | y::r,h =>
    obtain ⟨u,hu,hr⟩:=h.2 0 x (by simp)
    simp at hu;subst hu
    exact ⟨y,r,rfl,hr,X7.1 ⟨by have:=h.1;simpa using this,fun i z hz=>by
     obtain ⟨u,hu,hr⟩:=h.2 (i+1) z (by simpa using hz)
     exact ⟨u,by simpa using hu,hr⟩⟩⟩
  ·rintro ⟨y,r,rfl,h1,h2⟩
   have h3:=X7.2 h2
   refine ⟨by have:=h3.1;simpa using this,fun i z hz=>?_⟩
   cases i with
   | zero=>simp at hz;subst hz;exact ⟨y,by simp,h1⟩
   | succ i =>
    obtain ⟨u,hu,hr⟩:=h3.2 i z (by simpa using hz)
    exact ⟨u,by simpa using hu,hr⟩
theorem vQ {ρ:A8} {xs:List Value} {c:Value}:Rp ρ O W (.agg xs.toArray) c↔∃ ys:List Value,c = .agg ys.toArray∧Cells (Rp ρ O W) xs ys:=by
 rw [R9]
 constructor
 ·rintro ⟨ys,rfl,h⟩;exact ⟨ys.toList,by simp,X7.1 (by simpa using h)⟩
 ·rintro ⟨ys,rfl,h⟩;exact ⟨ys.toArray,rfl,X7.2 h⟩
theorem vX {ρ:A8} {xs:List Value} {c:Value}:Rp ρ O W (.tuple xs.toArray) c↔∃ ys:List Value,c = .tuple ys.toArray∧Cells (Rp ρ O W) xs ys:=by
 rw [G8]
 constructor
 ·rintro ⟨ys,rfl,h⟩;exact ⟨ys.toList,by simp,X7.1 (by simpa using h)⟩
 ·rintro ⟨ys,rfl,h⟩;exact ⟨ys.toArray,rfl,X7.2 h⟩
theorem nX:∀ {xs ys:List Value} {ρ:A8},(∀ x∈xs,LP x)→(Cells (Rp ρ O W) xs ys↔ys=xs)
 | [],ys,ρ,_=>Iff.rfl
 | x::xs,ys,ρ,h=>by
  simp only [Cells]
  constructor
  ·rintro ⟨y,r,rfl,h1,h2⟩
   rw [h x (by simp) ρ O W y] at h1
   rw [nX fun z hz=>h z (by simp [hz])] at h2
   rw [h1,h2]
  ·rintro rfl
   exact ⟨x,xs,rfl,(h x (by simp) ρ O W x).2 rfl,(nX fun z hz=>h z (by simp [hz])).2 rfl⟩
theorem Hg {ρ:A8} {xs:List Value} (h:∀ x∈xs,LP x) {c:Value}:Rp ρ O W (.agg xs.toArray) c↔c = .agg xs.toArray:=by
 rw [vQ]
 constructor
 ·rintro ⟨ys,rfl,h1⟩;rw [nX h] at h1;rw [h1]
 ·rintro rfl;exact ⟨xs,rfl,(nX h).2 rfl⟩
theorem a0T {ρ:A8} {t:Th} {c:Value}:Rp ρ O W (thT t) c↔c = .agg #[.int .i64 t.st,.int .i64 t.ki,.int .i64 t.va,.int .i64 t.un,.int .i64 t.pc,.int .i64 t.re,.int .i64 t.se,.int .i64 t.tr,.bool t.la,.int .i64 t.rs,.int .i64 t.go]:=Hg (nI rfl)
theorem ng {ρ:A8} {s:Cf} {c:Value}:Rp ρ O W (cfT s) c↔c = .agg #[.int .i64 s.lg,.int .i64 s.th,.int .i64 s.po,.int .i64 s.wt,.int .i64 s.sp,.int .i64 s.yi,.bool s.si]:=Hg (nI rfl)
theorem Br {ρ:A8} {h t m:Int} {c:Value}:Rp ρ O W (wdT h t m) c↔c = .agg #[.int .i64 h,.int .i64 t,.int .i64 m]:=Hg (nI rfl)
theorem Qk {s:St} {c:Value}:Rp nowhere O W (stT s) c↔∃ z:Pz,c = .agg #[.int .i64 s.cf.lg,.int .i64 s.cf.th,.int .i64 s.cf.po,.int .i64 s.cf.wt,.int .i64 s.cf.sp,.int .i64 s.cf.yi,.bool s.cf.si,.int .i64 s.hd,.int .i64 s.tl,.int .i64 s.md,.slice z.p1 s.sl.length z.k1,.slice z.p2 s.sn.length z.k2,.slice z.p3 s.rc.length z.k3,.int .i64 s.fe,.slice z.p4 s.fl.length z.k4,.int .i64 s.ee,.slice z.p5 s.el.length z.k5,.int .i64 s.nw,.slice z.p6 s.th.length z.k6,.slice z.p7 s.lg.length z.k7]∧StIn (fun g=>¬ O g) W s z:=by
 unfold stT
 rw [show (#[.int .i64 s.cf.lg,.int .i64 s.cf.th,.int .i64 s.cf.po,.int .i64 s.cf.wt,.int .i64 s.cf.sp,.int .i64 s.cf.yi,.bool s.cf.si,.int .i64 s.hd,.int .i64 s.tl,.int .i64 s.md,U0 s.sl,l5 s.sn,l5 s.rc,.int .i64 s.fe,l5 s.fl,.int .i64 s.ee,l5 s.el,.int .i64 s.nw,aT s.th,K5 s.lg]:Array Value)=[.int .i64 s.cf.lg,.int .i64 s.cf.th,.int .i64 s.cf.po,.int .i64 s.cf.wt,.int .i64 s.cf.sp,.int .i64 s.cf.yi,.bool s.cf.si,.int .i64 s.hd,.int .i64 s.tl,.int .i64 s.md,U0 s.sl,l5 s.sn,l5 s.rc,.int .i64 s.fe,l5 s.fl,.int .i64 s.ee,l5 s.el,.int .i64 s.nw,aT s.th,K5 s.lg].toArray from rfl,vQ]
 constructor
 ·rintro ⟨ys,rfl,_,_,rfl,h0,_,_,rfl,h1,_,_,rfl,h2,_,_,rfl,h3,_,_,rfl,h4,_,_,rfl,h5,_,_,rfl,h6,_,_,rfl,h7,_,_,rfl,h8,_,_,rfl,h9,_,_,rfl,h10,_,_,rfl,h11,_,_,rfl,h12,_,_,rfl,h13,_,_,rfl,h14,_,_,rfl,h15,_,_,rfl,h16,_,_,rfl,h17,_,_,rfl,h18,_,_,rfl,h19,rfl⟩
  rw [p8] at h0 h1 h2 h3 h4 h5 h7 h8 h9 h13 h15 h17
  rw [H5] at h6
  obtain ⟨p1,k1,rfl,s1⟩:=JJ.1 h10
  obtain ⟨p2,k2,rfl,s2⟩:=V5.1 h11
  obtain ⟨p3,k3,rfl,s3⟩:=V5.1 h12
  obtain ⟨p4,k4,rfl,s4⟩:=V5.1 h14
  obtain ⟨p5,k5,rfl,s5⟩:=V5.1 h16
  obtain ⟨p6,k6,rfl,s6⟩:=Kw.1 h18
  obtain ⟨p7,k7,rfl,s7⟩:=Dx.1 h19
  exact ⟨⟨p1,k1,p2,k2,p3,k3,p4,k4,p5,k5,p6,k6,p7,k7⟩,by rw [h0,h1,h2,h3,h4,h5,h6,h7,h8,h9,h13,h15,h17],⟨s1,s2,s3,s4,s5,s6,s7⟩⟩
 ·rintro ⟨z,rfl,h⟩
  exact ⟨_,rfl,_,_,rfl,p8.2 rfl,_,_,rfl,p8.2 rfl,_,_,rfl,p8.2 rfl,_,_,rfl,p8.2 rfl,_,_,rfl,p8.2 rfl,_,_,rfl,p8.2 rfl,_,_,rfl,H5.2 rfl,_,_,rfl,p8.2 rfl,_,_,rfl,p8.2 rfl,_,_,rfl,p8.2 rfl,_,_,rfl,JJ.2 ⟨_,_,rfl,h.sl⟩,_,_,rfl,V5.2 ⟨_,_,rfl,h.sn⟩,_,_,rfl,V5.2 ⟨_,_,rfl,h.rc⟩,_,_,rfl,p8.2 rfl,_,_,rfl,V5.2 ⟨_,_,rfl,h.fl⟩,_,_,rfl,p8.2 rfl,_,_,rfl,V5.2 ⟨_,_,rfl,h.el⟩,_,_,rfl,p8.2 rfl,_,_,rfl,Kw.2 ⟨_,_,rfl,h.th⟩,_,_,rfl,Dx.2 ⟨_,_,rfl,h.lg⟩,rfl⟩
theorem T9 {R:Value→Value→Prop} {xs:List Value} {vs:Array Value} (h:AtAll R xs.toArray vs):∃ ys:List Value,vs=ys.toArray∧Cells R xs ys:=⟨vs.toList,by simp,X7.1 (by simpa using h)⟩
end
end
section
open Go.RowKit
theorem an {a b:Prop} (h:a) (k:b):a∧b:=⟨h,k⟩
def loops:Code→List Code
 | .loop a=>a::loops a
 | .seq a b=>loops a++loops b
 | .cond _ a b=>loops a++loops b
 | .block _ a=>loops a
 | .rangeFunc _ _ a b=>loops a++loops b
 | .scope a=>loops a
 | _=>[]
def j3 (P:Program) (g:FuncId) (k:Nat):Code :=
 match P.funcs[g]? with
 | some fn=>match fn.body with
  | some c=>((loops c)[k]?).getD .skip
  | none=>.skip
 | none=>.skip
def regions:Code→List Code
 | .region id ops true=>[.region id ops true]
 | .loop a=>regions a
 | .seq a b=>regions a++regions b
 | .cond _ a b=>regions a++regions b
 | .block _ a=>regions a
 | .scope a=>regions a
 | _=>[]
def KU (P:Program) (g:FuncId) (k:Nat):Code :=
 match P.funcs[g]? with
 | some fn=>match fn.body with
  | some c=>((regions c)[k]?).getD .skip
  | none=>.skip
 | none=>.skip
def aZ (P:Program) (ext:List FuncId) (fuel n:Nat) (im keep:List Nat) (c:Code) (s:Sg) (orc:List Value):Option (Exit×Sg×Prop) :=
 match O1 P ext (zn P ext fuel n) fuel c s orc with
 | some (x,s1,[],ob)=>(canon im keep s1).map fun s2=>(x,s2,J3 ob)
 | _=>none
section
variable {P:Program}
theorem j5 (hm:P.follows .mixedOrders=true) {ext:List FuncId} {fuel n:Nat} {im keep:List Nat} {c:Code} {s s1 s' : Sg} {orc:List Value} {x:Exit} {A:Prop} (hA:A) (h:aZ P ext fuel n im keep c s orc=some (.normal,s1,A)) (hL:j4 P c s1 x s'):j4 P c s x s' := by
 unfold aZ at h
 split at h
 ·next x1 s2 ob hev =>
  obtain ⟨s3,hc,he⟩:=Option.map_eq_some_iff.1 h
  cases he
  obtain ⟨m,hm'⟩:=hL
  refine ⟨m+1,fun ρ O a W Q hH hT hK=>?_⟩
  rw [rounds_succ]
  refine I1 hm (bg hm n) c hev hA ρ O a W _ hH hT fun ρ' O' a' W' hH' hT' hE=>?_
  obtain ⟨h1,h2,h3,-⟩:=az hc hH' hT'
  exact hm' _ _ _ _ Q h1 h2 fun ρ'' O'' a'' W'' h4 h5 h6=>hK ρ'' O'' a'' W'' h4 h5 ((hE.toL hH).trans (h3.trans h6 hH'.low) hH.low)
 ·cases h
theorem o5 (hm:P.follows .mixedOrders=true) {ext:List FuncId} {fuel n:Nat} {im keep:List Nat} {c:Code} {s s1:Sg} {orc:List Value} {x:Exit} {A:Prop} (hA:A) (hx:x≠.normal) (h:aZ P ext fuel n im keep c s orc=some (x,s1,A)):j4 P c s x s1:=by
 unfold aZ at h
 split at h
 ·next x1 s2 ob hev =>
  obtain ⟨s3,hc,he⟩:=Option.map_eq_some_iff.1 h
  cases he
  refine ⟨1,fun ρ O a W Q hH hT hK=>?_⟩
  rw [rounds_succ]
  refine I1 hm (bg hm n) c hev hA ρ O a W _ hH hT fun ρ' O' a' W' hH' hT' hE=>?_
  obtain ⟨h1,h2,h3,-⟩:=az hc hH' hT'
  have:=hK _ _ a' W' h1 h2 ((hE.toL hH).trans h3 hH.low)
  cases x with
  | normal=>exact absurd rfl hx
  | _=>exact this
 ·cases h
theorem tQ (hm:P.follows .mixedOrders=true) {ext:List FuncId} {fuel n l:Nat} {im keep:List Nat} {c:Code} {s s1 s' : Sg} {orc:List Value} {x:Exit} {A:Prop} (hA:A) (h:aZ P ext fuel n im keep c s orc=some (.goto l,s1,A)) (hL:X3 P l c s1 x s'):X3 P l c s x s' := by
 unfold aZ at h
 split at h
 ·next x1 s2 ob hev =>
  obtain ⟨s3,hc,he⟩:=Option.map_eq_some_iff.1 h
  cases he
  obtain ⟨m,hm'⟩:=hL
  refine ⟨m+1,fun ρ O a W Q hH hT hK=>I1 hm (bg hm n) c hev hA ρ O a W _ hH hT fun ρ' O' a' W' hH' hT' hE=>?_⟩
  obtain ⟨h1,h2,h3,-⟩:=az hc hH' hT'
  exact ⟨rfl,hm' _ _ _ _ Q h1 h2 fun ρ'' O'' a'' W'' h4 h5 h6=>hK ρ'' O'' a'' W'' h4 h5 ((hE.toL hH).trans (h3.trans h6 hH'.low) hH.low)⟩
 ·cases h
theorem fw (hm:P.follows .mixedOrders=true) {ext:List FuncId} {fuel n l:Nat} {im keep:List Nat} {c:Code} {s s1:Sg} {orc:List Value} {x:Exit} {A:Prop} (hA:A) (hx:∀ l',x≠.goto l') (h:aZ P ext fuel n im keep c s orc=some (x,s1,A)):X3 P l c s x s1:=by
 unfold aZ at h
 split at h
 ·next x1 s2 ob hev =>
  obtain ⟨s3,hc,he⟩:=Option.map_eq_some_iff.1 h
  cases he
  refine ⟨1,fun ρ O a W Q hH hT hK=>I1 hm (bg hm n) c hev hA ρ O a W _ hH hT fun ρ' O' a' W' hH' hT' hE=>?_⟩
  obtain ⟨h1,h2,h3,-⟩:=az hc hH' hT'
  have:=hK _ _ a' W' h1 h2 ((hE.toL hH).trans h3 hH.low)
  cases x with
  | goto l' => exact absurd rfl (hx l')
  | _=>exact this
 ·cases h
def U2 (P:Program) (g:FuncId):Code :=
 match P.funcs[g]? with
 | some fn=>match fn.body with
  | some (.seq _ (.scope c))=>match lbl c with
   | some (_,r)=>r
   | none=>.skip
  | _=>.skip
 | none=>.skip
def idN (K:Nat) (im:List Nat) (n:Nat):Bool:=Nat.ble K n&&(List.range K).all fun k=>im[k]? == some k
theorem a1P {K n:Nat} {im:List Nat} (h:idN K im n=true):K≤n∧∀ k,k<K→im[k]? = some k:=by
 simp only [idN,Bool.and_eq_true,Nat.ble_eq] at h
 exact ⟨h.1,fun k hk=>by simpa using List.all_eq_true.1 h.2 k (List.mem_range.2 hk)⟩
theorem PX {ρ ρ' : A8} {O O' : Nat→Prop} {H H' : List (Option Blk)} {W W' : World} (hE:Ext ρ O H W ρ' O' H' W') {k:Nat} (hk:k<H.length):ρ' k=ρ k:=by
 cases h:ρ k with
 | some p=>exact hE.sub k p h
 | none =>
  cases h' : ρ' k with
  | none=>rfl
  | some p =>
   rcases hE.new k p h' with h1 | ⟨h1,-⟩
   ·rw [h] at h1;cases h1
   ·omega
theorem La {ρ ρ' : A8} {O O' : Nat→Prop} {H H' : List (Option Blk)} {W W' : World} (hE:Ext ρ O H W ρ' O' H' W') {K:Nat} {im:List Nat} (h:idN K im H.length=true) {k:Nat} (hk:k<K):jH ρ' im k=ρ k:=by
 obtain ⟨h1,h2⟩:=a1P h
 unfold jH
 rw [h2 k hk]
 exact PX hE (by omega)
theorem bC (hm:P.follows .mixedOrders=true) {ext:List FuncId} {fuel n K:Nat} {im keep:List Nat} {c:Code} {s s1 s' : Sg} {orc:List Value} {x:Exit} {A:Prop} (hA:A) (h:aZ P ext fuel n im keep c s orc=some (.normal,s1,A)) (hi:idN K im s.H.length=true) (hL:eY P K c s1 x s'):eY P K c s x s' := by
 unfold aZ at h
 split at h
 ·next x1 s2 ob hev =>
  obtain ⟨s3,hc,he⟩:=Option.map_eq_some_iff.1 h
  cases he
  obtain ⟨m,hm'⟩:=hL
  refine ⟨m+1,fun ρ O a W Q hH hT hK=>?_⟩
  rw [rounds_succ]
  refine I1 hm (bg hm n) c hev hA ρ O a W _ hH hT fun ρ' O' a' W' hH' hT' hE=>?_
  obtain ⟨h1,h2,h3,-⟩:=az hc hH' hT'
  exact hm' _ _ _ _ Q h1 h2 fun ρ'' O'' a'' W'' h4 h5 h6 h7=>hK ρ'' O'' a'' W'' h4 h5 ((hE.toL hH).trans (h3.trans h6 hH'.low) hH.low) fun k hk=>(h7 k hk).trans (La hE hi hk)
 ·cases h
theorem jo (hm:P.follows .mixedOrders=true) {ext:List FuncId} {fuel n K:Nat} {im keep:List Nat} {c:Code} {s s1:Sg} {orc:List Value} {x:Exit} {A:Prop} (hA:A) (hx:x≠.normal) (h:aZ P ext fuel n im keep c s orc=some (x,s1,A)) (hi:idN K im s.H.length=true):eY P K c s x s1:=by
 unfold aZ at h
 split at h
 ·next x1 s2 ob hev =>
  obtain ⟨s3,hc,he⟩:=Option.map_eq_some_iff.1 h
  cases he
  refine ⟨1,fun ρ O a W Q hH hT hK=>?_⟩
  rw [rounds_succ]
  refine I1 hm (bg hm n) c hev hA ρ O a W _ hH hT fun ρ' O' a' W' hH' hT' hE=>?_
  obtain ⟨h1,h2,h3,-⟩:=az hc hH' hT'
  have:=hK _ _ a' W' h1 h2 ((hE.toL hH).trans h3 hH.low) fun k hk=>La hE hi hk
  cases x with
  | normal=>exact absurd rfl hx
  | _=>exact this
 ·cases h
def UE (P:Program) (ext:List FuncId) (fuel n:Nat) (g:FuncId) (args orc:List Value) (pos:Nat):Option (List Value×Nat×Prop) :=
 match zn P ext fuel n g args [] orc with
 | some (.agg xs,H,[],ob)=>match xs.toList[pos]? with
  | some (.slice (some ⟨i,0,some 0⟩) m _)=>match look H i with
   | some b=>match iD (qB (look H)) (xs.toList.set pos (.slice none 0 0)) with
    | some (al,is,ps)=>if is.all (fun i=>(look H i).isSome) && !(is.any fun j=>j==i)&&b.arr then some (al.set pos (F4 b.n b.els),b.k,J3 (ob++(m=b.n∧m=b.els.length)::ps)) else none
    | none=>none
   | none=>none
  | _=>none
 | _=>none
theorem kS (hm:P.follows .mixedOrders=true) {ext:List FuncId} {fuel n:Nat} {g:FuncId} {args orc:List Value} {pos k:Nat} {cs:List Value} {A:Prop} (hA:A) (h:UE P ext fuel n g args orc pos=some (cs,k,A)):AO P g args cs.toArray pos k:=by
 unfold UE at h
 split at h
 ·next xs H ob hev =>
  split at h
  ·next i m m' hp =>
   split at h
   ·next b hb =>
    split at h
    ·next al is ps hl =>
     split at h
     ·next hc =>
      cases h
      simp only [Bool.and_eq_true,Bool.not_eq_true'] at hc
      obtain ⟨⟨his,hni⟩,hba⟩:=hc
      obtain ⟨hb1,⟨hmn,hme⟩,hb2⟩:=o6.1 hA
      subst hmn
      intro O W vs hlow hat
      have hH:HConc nowhere O [] W:=⟨hlow,fun _ _=>rfl,fun i=>by simp [look,HAt],fun i j b b' g k k' h1=>by simp [look] at h1⟩
      refine (bg hm n _ _ _ _ _ _ _ _ hev hb1 nowhere O W vs hH hat).mono ?_
      rintro e W' ⟨c,ρ',O',rfl,hr,hH',hE⟩
      obtain ⟨us,rfl,hau⟩:=R9.1 hr
      have hpl:pos<xs.toList.length:=(List.getElem?_eq_some_iff.1 hp).1
      obtain ⟨u,hu,hru⟩:=hau.2 pos _ (by simpa using hp)
      obtain ⟨g0,k0,cap,h1,⟨⟨h2,h2'⟩,h3⟩,rfl⟩:=di.1 hru
      have h1' : ρ' i=some (g0,k0):=h1
      have hhp:=hH'.hp i
      rw [hb] at hhp
      obtain ⟨g1,h4,hO',hB⟩:=hhp
      rw [h1'] at h4;cases h4
      simp only [Nat.zero_mul,Nat.zero_add] at h3 hu
      have fresh:∀ j p,ρ' j=some p→W.heap.size≤p.1:=fun j p hj=>by
       rcases hE.new j _ hj with h5 | ⟨-,h5 | ⟨m,bm,km,h5,-⟩⟩
       ·cases h5
       ·exact h5
       ·simp [look] at h5
      have hkeep:∀ g,O g→O' g:=fun g hg=>hE.keepO g hg fun i b hb=>by simp [look] at hb
      have hstU:Still (N9 ρ' O' is) W' (fun g=>O g∨g=g0) W' := by
       refine ⟨Nat.le_refl _,fun g hg hn=>⟨fun h6=>hn ?_,rfl⟩,Shp.of_same fun _ _=>rfl⟩
       rcases h6 with h6 | rfl
       ·refine ⟨hkeep g h6,fun j _ q hq=>?_⟩
        have:=hlow g h6
        have:=fresh j _ hq
        simp at this;omega
       ·refine ⟨hO',fun j hj q hq=>?_⟩
        obtain ⟨bj,hbj⟩:=Option.isSome_iff_exists.1 (List.all_eq_true.1 his j hj)
        have:=hH'.inj j i bj b g q _ hbj hb hq h1'
        subst this
        have h7:(is.any fun y=>y==j)=true:=List.any_eq_true.2 ⟨j,hj,by simp⟩
        rw [hni] at h7;cases h7
      have hset:AtAll (Rp ρ' O' W') (xs.toList.set pos (.slice none 0 0)).toArray (us.toList.set pos (.slice none 0 0)).toArray:=by
       refine ⟨by simpa using hau.1,fun j x hx=>?_⟩
       simp only [List.getElem?_toArray,List.getElem?_set] at hx ⊢
       have hsz:us.toList.length=xs.toList.length:=by simpa using hau.1
       split at hx
       ·next e =>
        subst e
        rw [if_pos rfl,hsz,if_pos hpl]
        cases hx
        exact ⟨_,rfl,Y2.2 ⟨rfl,rfl,rfl⟩⟩
       ·next e =>
        rw [if_neg e]
        obtain ⟨y,hy,hr'⟩:=hau.2 j x (by simpa using hx)
        exact ⟨y,by simpa using hy,hr'⟩
      have h5:=bW (H:=look H) (fun v v' c is ob=>gX) hl hb2 hset (fun j _=>hH'.hp j)
      have hlen:al.length=us.toList.length:=by have:=h5.1;simpa using this.symm
      refine ⟨us,g0,b.n,b.els,cap,rfl,by simpa using hlen.symm,⟨hE.str.2.1,hE.str.1,hE.str.2.2,hE.still.size,fun g hg=>hE.blk g hg fun i b hb=>by simp [look] at hb⟩,by have:=fresh i _ h1';simpa using this,?_,h2,⟨h2',h3⟩,by simpa using hu,?_,fun j x hj hx=>?_⟩
      ·have hlt:pos<al.length:=by rw [hlen];have:us.toList.length=xs.toList.length:=(by simpa using hau.1);omega
       simp [List.getElem?_set,hlt,F4]
      ·have hpm:∀ r:A8,b.pm r=nowhere:=fun r=>by unfold Blk.pm;rw [hba]
       obtain ⟨arr,ty,h6,h7,h8⟩:=(I4 (Z7 hba)).1 hB
       rw [hpm] at h8
       refine (I4 (Z7 rfl)).2 ⟨arr,ty,h6,by simpa using h7,fun q el hq=>?_⟩
       obtain ⟨h9,h10⟩:=h8 q el (by simpa using hq)
       refine ⟨h9,fun j x hx=>?_⟩
       obtain ⟨y,hy,hr'⟩:=h10 j x hx
       refine ⟨y,hy,hr'.mono ⟨Nat.le_refl _,fun g hg hn=>⟨fun h11=>hn ?_,rfl⟩,Shp.of_same fun _ _=>rfl⟩ (Sub.refl _)⟩
       rcases h11 with h11 | rfl
       ·exact hkeep g h11
       ·exact hO'
      ·rw [List.getElem?_toArray,List.getElem?_set,if_neg (Ne.symm hj)] at hx
       obtain ⟨y,hy,hr'⟩:=h5.2 j x (by simpa using hx)
       rw [List.getElem?_toArray,List.getElem?_set,if_neg (Ne.symm hj)] at hy
       exact ⟨y,by simpa using hy,hr'.mono hstU (Sub.refl _)⟩
     ·cases h
    ·cases h
   ·cases h
  ·cases h
 ·cases h
end
end
section
open Go.RowKit
theorem mixed:Tryz.prog.follows .mixedOrders=true:=by kernel_rfl
theorem vO {l:List Th} {n:Nat} (h:n<l.length):IxP ((l.map thT).toArray) (n:Int) (thT (gth l n)):=⟨by omega,by simp [pO h,h]⟩
theorem jS {α:Type} {f:α→Value} {k:Nat} (h:∀ x,(f x).cells.size=k∧(f x).cells.toList.all lD=true) (l:List α):uD k (l.map f):=fun el hel=>by
 obtain ⟨x,-,rfl⟩:=List.mem_map.1 hel
 exact h x
theorem N8 (l:List Int):uD 1 (l.map (.int .i64 ·)):=jS (f:=(Value.int .i64 ·)) (fun _=>⟨rfl,rfl⟩) l
theorem mQ (l:List Slo):uD 2 (l.map slT):=jS (f:=slT) (fun _=>⟨rfl,rfl⟩) l
theorem kD (l:List Th):uD 11 (l.map thT):=jS (f:=thT) (fun _=>⟨rfl,rfl⟩) l
theorem X5 (l:List En):uD 5 (l.map enT):=jS (f:=enT) (fun _=>⟨rfl,rfl⟩) l
theorem P6 {α:Type} {f:α→Value} {l:List α} (h:l≠[]) (hm:l.length≤1000000):0<l.length∧vo l.length (l.map f) 0 [] l.length (l.map f) :=
 ⟨List.length_pos_iff.2 h,by simp,by simp,by omega⟩
theorem l7 {α:Type} {f:α→Value} (l:List α):pu l.length l.length (l.map f):=⟨by simp,by simp⟩
theorem idT {n:Nat} {l:List Th} (h:n<l.length):0≤(n:Int)∧(n:Int).toNat<l.length:=⟨by omega,by simpa using h⟩
theorem elT {n:Nat} {l:List Th} (h:n<l.length):ElP (l.map thT) (0+(n:Int).toNat) (thT (gth l n)):=by simp [ElP,pO h,h]
theorem K4 (l:List Th) (n:Nat) (t:Th):(l.set n t).map thT=(l.map thT).set (0+(n:Int).toNat) (thT t):=by simp [List.map_set]
theorem UG {g:FuncId} {args:List Value} {vs:Array Value} {W:World} {b:Bool} (h:AC Tryz.prog g args (.bool b)) (hv:AtAll (Rp nowhere (fun _=>False) W) args.toArray vs):Calls Tryz.prog g vs W fun e W' => e = .returned (.bool b)∧Kept W W' := by
 refine (h (fun _=>False) W vs (fun g hg=>hg.elim) hv).mono ?_
 rintro e W' ⟨c,rfl,hr,hk⟩
 rw [H5] at hr
 exact ⟨by rw [hr],hk⟩
end
section
open Go.ChangeShapes Go.WideShapes Go.ChangeAt Go.RowKit Go.Shelf
attribute [local go_sem] Oper.semAt_some
theorem xm (n low high:Int) (w:World) :
  Calls Tryz.prog 82 #[.agg #[.int .i64 n,.int .i64 low,.int .i64 high]] w fun e w' => e = .returned (.bool (inB n low high))∧Kept w w' := by
 go_enter Tryz.func82,Tryz.ntmps82
 go_wp2
 all_goals (go_ret;exact ⟨M7 (by first | (rw [Bool.eq_iff_iff];simp [inB];omega) | (simp [inB, *];done) | (simp [inB, *];omega) | (simp [inB, *];intros;omega)),by exact F6⟩)
set_option maxHeartbeats 4000000 in
theorem DJ (lg th po wt sp yi:Int) (si:Bool) (n₀:Nat) (w:World) :
  Iter Tryz.prog 81 #[.agg #[.int .i64 lg,.int .i64 th,.int .i64 po,.int .i64 wt,.int .i64 sp,.int .i64 yi,.bool si]] #[] Bd.val n₀ (zf lg th po wt sp yi) w:=by
 intro l J Jx W hW hJ hJx hY h0
 refine (callsIn_wide (n:=10)).1 ?_
 refine callsIn_of_wp Tryz.func81 rfl trivial ?_
 simp only [Tryz.ntmps81,List.size_toArray,List.length_cons,List.length_nil,Nat.reduceAdd,Nat.reduceSub,Array.replicate_succ,Array.replicate_zero,List.push_toArray,List.append_toArray,List.nil_append,List.cons_append]
 by_cases hwt:wt=2
 ·subst hwt
  (have hL:Hid (zf lg th po 2 sp yi=[⟨lg,1,6⟩,⟨th,1,16⟩,⟨po,0,2⟩,⟨2,0,3⟩,⟨sp,0,8⟩,⟨yi,0,8⟩]):=Lib.hid (by simp [zf,sP,sP]);have x0:∀ w:World,(Instr.index 156 (.agg #[.int .i64 lg,.int .i64 1,.int .i64 6,.int .i64 th,.int .i64 1,.int .i64 16,.int .i64 po,.int .i64 0,.int .i64 2,.int .i64 2,.int .i64 0,.int .i64 3,.int .i64 sp,.int .i64 0,.int .i64 8,.int .i64 yi,.int .i64 0,.int .i64 8]) (.int .i64 0)).run Tryz.prog w = .ok (.agg #[.int .i64 lg,.int .i64 1,.int .i64 6]) w:=fun _=>(by kernel_rfl);have x1:∀ w:World,(Instr.index 156 (.agg #[.int .i64 lg,.int .i64 1,.int .i64 6,.int .i64 th,.int .i64 1,.int .i64 16,.int .i64 po,.int .i64 0,.int .i64 2,.int .i64 2,.int .i64 0,.int .i64 3,.int .i64 sp,.int .i64 0,.int .i64 8,.int .i64 yi,.int .i64 0,.int .i64 8]) (.int .i64 1)).run Tryz.prog w = .ok (.agg #[.int .i64 th,.int .i64 1,.int .i64 16]) w:=fun _=>(by kernel_rfl);have x2:∀ w:World,(Instr.index 156 (.agg #[.int .i64 lg,.int .i64 1,.int .i64 6,.int .i64 th,.int .i64 1,.int .i64 16,.int .i64 po,.int .i64 0,.int .i64 2,.int .i64 2,.int .i64 0,.int .i64 3,.int .i64 sp,.int .i64 0,.int .i64 8,.int .i64 yi,.int .i64 0,.int .i64 8]) (.int .i64 2)).run Tryz.prog w = .ok (.agg #[.int .i64 po,.int .i64 0,.int .i64 2]) w:=fun _=>(by kernel_rfl);have x3:∀ w:World,(Instr.index 156 (.agg #[.int .i64 lg,.int .i64 1,.int .i64 6,.int .i64 th,.int .i64 1,.int .i64 16,.int .i64 po,.int .i64 0,.int .i64 2,.int .i64 2,.int .i64 0,.int .i64 3,.int .i64 sp,.int .i64 0,.int .i64 8,.int .i64 yi,.int .i64 0,.int .i64 8]) (.int .i64 3)).run Tryz.prog w = .ok (.agg #[.int .i64 2,.int .i64 0,.int .i64 3]) w:=fun _=>(by kernel_rfl);have x4:∀ w:World,(Instr.index 156 (.agg #[.int .i64 lg,.int .i64 1,.int .i64 6,.int .i64 th,.int .i64 1,.int .i64 16,.int .i64 po,.int .i64 0,.int .i64 2,.int .i64 2,.int .i64 0,.int .i64 3,.int .i64 sp,.int .i64 0,.int .i64 8,.int .i64 yi,.int .i64 0,.int .i64 8]) (.int .i64 4)).run Tryz.prog w = .ok (.agg #[.int .i64 sp,.int .i64 0,.int .i64 8]) w:=fun _=>(by kernel_rfl);have x5:∀ w:World,(Instr.index 156 (.agg #[.int .i64 lg,.int .i64 1,.int .i64 6,.int .i64 th,.int .i64 1,.int .i64 16,.int .i64 po,.int .i64 0,.int .i64 2,.int .i64 2,.int .i64 0,.int .i64 3,.int .i64 sp,.int .i64 0,.int .i64 8,.int .i64 yi,.int .i64 0,.int .i64 8]) (.int .i64 5)).run Tryz.prog w = .ok (.agg #[.int .i64 yi,.int .i64 0,.int .i64 8]) w:=fun _=>(by kernel_rfl);gi_wp2;gi_loopw [31] (fun i wr=>∃ k:Nat,k≤6∧i = .int .i64 k∧J ((zf lg th po 2 sp yi).take k) wr) (fun i _=>6 - (intOf i).toNat);(case atStart=>exact ⟨0,by omega,rfl,hJ _ _ _ h0 ((Below.refl _ _).alloc (Nat.le_refl _) _)⟩);(case round=>obtain ⟨k,hk,rfl,hj⟩:=hrel;rw [hL.out] at hj;obtain rfl | rfl | rfl | rfl | rfl | rfl | rfl:k=0∨k=1∨k=2∨k=3∨k=4∨k=5∨k=6:=(by omega);((obtain ⟨fn,tmps,assign,body,hy,hR⟩:=hY (10 - 1) [] ⟨lg,1,6⟩ [⟨th,1,16⟩,⟨po,0,2⟩,⟨2,0,3⟩,⟨sp,0,8⟩,⟨yi,0,8⟩] (wr.alloc (.cells #[.int .i64 (⟨lg,1,6⟩:Bd).n,.int .i64 (⟨lg,1,6⟩:Bd).low,.int .i64 (⟨lg,1,6⟩:Bd).high] 122)) (by omega) hL.out (hJ _ _ _ hj ((Below.refl _ _).alloc (Nat.le_refl _) _));simp only [Bd.val] at hy;gi_wp2;refine hR.mono ?_;rintro e C (⟨rfl,hj',hr⟩ | ⟨rfl,hx⟩);(gi_wp2;go_roundw;(case rel=>exact ⟨1,by omega,rfl,by rw [hL.out];exact hj'⟩);(case measure=>simp [intOf]));(gi_wp2;refine bodyPost_ret (results_none rfl _ _ _) rfl ?_;exact ⟨⟨_,rfl⟩,.inr ⟨_,hx⟩⟩)));((obtain ⟨fn,tmps,assign,body,hy,hR⟩:=hY (10 - 1) [⟨lg,1,6⟩] ⟨th,1,16⟩ [⟨po,0,2⟩,⟨2,0,3⟩,⟨sp,0,8⟩,⟨yi,0,8⟩] (wr.alloc (.cells #[.int .i64 (⟨th,1,16⟩:Bd).n,.int .i64 (⟨th,1,16⟩:Bd).low,.int .i64 (⟨th,1,16⟩:Bd).high] 122)) (by omega) hL.out (hJ _ _ _ hj ((Below.refl _ _).alloc (Nat.le_refl _) _));simp only [Bd.val] at hy;gi_wp2;refine hR.mono ?_;rintro e C (⟨rfl,hj',hr⟩ | ⟨rfl,hx⟩);(gi_wp2;go_roundw;(case rel=>exact ⟨2,by omega,rfl,by rw [hL.out];exact hj'⟩);(case measure=>simp [intOf]));(gi_wp2;refine bodyPost_ret (results_none rfl _ _ _) rfl ?_;exact ⟨⟨_,rfl⟩,.inr ⟨_,hx⟩⟩)));((obtain ⟨fn,tmps,assign,body,hy,hR⟩:=hY (10 - 1) [⟨lg,1,6⟩,⟨th,1,16⟩] ⟨po,0,2⟩ [⟨2,0,3⟩,⟨sp,0,8⟩,⟨yi,0,8⟩] (wr.alloc (.cells #[.int .i64 (⟨po,0,2⟩:Bd).n,.int .i64 (⟨po,0,2⟩:Bd).low,.int .i64 (⟨po,0,2⟩:Bd).high] 122)) (by omega) hL.out (hJ _ _ _ hj ((Below.refl _ _).alloc (Nat.le_refl _) _));simp only [Bd.val] at hy;gi_wp2;refine hR.mono ?_;rintro e C (⟨rfl,hj',hr⟩ | ⟨rfl,hx⟩);(gi_wp2;go_roundw;(case rel=>exact ⟨3,by omega,rfl,by rw [hL.out];exact hj'⟩);(case measure=>simp [intOf]));(gi_wp2;refine bodyPost_ret (results_none rfl _ _ _) rfl ?_;exact ⟨⟨_,rfl⟩,.inr ⟨_,hx⟩⟩)));((obtain ⟨fn,tmps,assign,body,hy,hR⟩:=hY (10 - 1) [⟨lg,1,6⟩,⟨th,1,16⟩,⟨po,0,2⟩] ⟨2,0,3⟩ [⟨sp,0,8⟩,⟨yi,0,8⟩] (wr.alloc (.cells #[.int .i64 (⟨2,0,3⟩:Bd).n,.int .i64 (⟨2,0,3⟩:Bd).low,.int .i64 (⟨2,0,3⟩:Bd).high] 122)) (by omega) hL.out (hJ _ _ _ hj ((Below.refl _ _).alloc (Nat.le_refl _) _));simp only [Bd.val] at hy;gi_wp2;refine hR.mono ?_;rintro e C (⟨rfl,hj',hr⟩ | ⟨rfl,hx⟩);(gi_wp2;go_roundw;(case rel=>exact ⟨4,by omega,rfl,by rw [hL.out];exact hj'⟩);(case measure=>simp [intOf]));(gi_wp2;refine bodyPost_ret (results_none rfl _ _ _) rfl ?_;exact ⟨⟨_,rfl⟩,.inr ⟨_,hx⟩⟩)));((obtain ⟨fn,tmps,assign,body,hy,hR⟩:=hY (10 - 1) [⟨lg,1,6⟩,⟨th,1,16⟩,⟨po,0,2⟩,⟨2,0,3⟩] ⟨sp,0,8⟩ [⟨yi,0,8⟩] (wr.alloc (.cells #[.int .i64 (⟨sp,0,8⟩:Bd).n,.int .i64 (⟨sp,0,8⟩:Bd).low,.int .i64 (⟨sp,0,8⟩:Bd).high] 122)) (by omega) hL.out (hJ _ _ _ hj ((Below.refl _ _).alloc (Nat.le_refl _) _));simp only [Bd.val] at hy;gi_wp2;refine hR.mono ?_;rintro e C (⟨rfl,hj',hr⟩ | ⟨rfl,hx⟩);(gi_wp2;go_roundw;(case rel=>exact ⟨5,by omega,rfl,by rw [hL.out];exact hj'⟩);(case measure=>simp [intOf]));(gi_wp2;refine bodyPost_ret (results_none rfl _ _ _) rfl ?_;exact ⟨⟨_,rfl⟩,.inr ⟨_,hx⟩⟩)));((obtain ⟨fn,tmps,assign,body,hy,hR⟩:=hY (10 - 1) [⟨lg,1,6⟩,⟨th,1,16⟩,⟨po,0,2⟩,⟨2,0,3⟩,⟨sp,0,8⟩] ⟨yi,0,8⟩ [] (wr.alloc (.cells #[.int .i64 (⟨yi,0,8⟩:Bd).n,.int .i64 (⟨yi,0,8⟩:Bd).low,.int .i64 (⟨yi,0,8⟩:Bd).high] 122)) (by omega) hL.out (hJ _ _ _ hj ((Below.refl _ _).alloc (Nat.le_refl _) _));simp only [Bd.val] at hy;gi_wp2;refine hR.mono ?_;rintro e C (⟨rfl,hj',hr⟩ | ⟨rfl,hx⟩);(gi_wp2;go_roundw;(case rel=>exact ⟨6,by omega,rfl,by rw [hL.out];exact hj'⟩);(case measure=>simp [intOf]));(gi_wp2;refine bodyPost_ret (results_none rfl _ _ _) rfl ?_;exact ⟨⟨_,rfl⟩,.inr ⟨_,hx⟩⟩)));(gi_wp2;go_end0;exact ⟨⟨_,rfl⟩,.inl (by rw [hL.out];exact hj)⟩)))
 ·have hwb:(wt==2)=false:=by simpa using hwt
  (have hL:Hid (zf lg th po wt sp yi=[⟨lg,1,6⟩,⟨th,1,16⟩,⟨po,0,2⟩,⟨wt,0,3⟩,⟨sp,0,0⟩,⟨yi,0,0⟩]):=Lib.hid (by simp [zf,sP,hwt]);have x0:∀ w:World,(Instr.index 156 (.agg #[.int .i64 lg,.int .i64 1,.int .i64 6,.int .i64 th,.int .i64 1,.int .i64 16,.int .i64 po,.int .i64 0,.int .i64 2,.int .i64 wt,.int .i64 0,.int .i64 3,.int .i64 sp,.int .i64 0,.int .i64 0,.int .i64 yi,.int .i64 0,.int .i64 0]) (.int .i64 0)).run Tryz.prog w = .ok (.agg #[.int .i64 lg,.int .i64 1,.int .i64 6]) w:=fun _=>(by kernel_rfl);have x1:∀ w:World,(Instr.index 156 (.agg #[.int .i64 lg,.int .i64 1,.int .i64 6,.int .i64 th,.int .i64 1,.int .i64 16,.int .i64 po,.int .i64 0,.int .i64 2,.int .i64 wt,.int .i64 0,.int .i64 3,.int .i64 sp,.int .i64 0,.int .i64 0,.int .i64 yi,.int .i64 0,.int .i64 0]) (.int .i64 1)).run Tryz.prog w = .ok (.agg #[.int .i64 th,.int .i64 1,.int .i64 16]) w:=fun _=>(by kernel_rfl);have x2:∀ w:World,(Instr.index 156 (.agg #[.int .i64 lg,.int .i64 1,.int .i64 6,.int .i64 th,.int .i64 1,.int .i64 16,.int .i64 po,.int .i64 0,.int .i64 2,.int .i64 wt,.int .i64 0,.int .i64 3,.int .i64 sp,.int .i64 0,.int .i64 0,.int .i64 yi,.int .i64 0,.int .i64 0]) (.int .i64 2)).run Tryz.prog w = .ok (.agg #[.int .i64 po,.int .i64 0,.int .i64 2]) w:=fun _=>(by kernel_rfl);have x3:∀ w:World,(Instr.index 156 (.agg #[.int .i64 lg,.int .i64 1,.int .i64 6,.int .i64 th,.int .i64 1,.int .i64 16,.int .i64 po,.int .i64 0,.int .i64 2,.int .i64 wt,.int .i64 0,.int .i64 3,.int .i64 sp,.int .i64 0,.int .i64 0,.int .i64 yi,.int .i64 0,.int .i64 0]) (.int .i64 3)).run Tryz.prog w = .ok (.agg #[.int .i64 wt,.int .i64 0,.int .i64 3]) w:=fun _=>(by kernel_rfl);have x4:∀ w:World,(Instr.index 156 (.agg #[.int .i64 lg,.int .i64 1,.int .i64 6,.int .i64 th,.int .i64 1,.int .i64 16,.int .i64 po,.int .i64 0,.int .i64 2,.int .i64 wt,.int .i64 0,.int .i64 3,.int .i64 sp,.int .i64 0,.int .i64 0,.int .i64 yi,.int .i64 0,.int .i64 0]) (.int .i64 4)).run Tryz.prog w = .ok (.agg #[.int .i64 sp,.int .i64 0,.int .i64 0]) w:=fun _=>(by kernel_rfl);have x5:∀ w:World,(Instr.index 156 (.agg #[.int .i64 lg,.int .i64 1,.int .i64 6,.int .i64 th,.int .i64 1,.int .i64 16,.int .i64 po,.int .i64 0,.int .i64 2,.int .i64 wt,.int .i64 0,.int .i64 3,.int .i64 sp,.int .i64 0,.int .i64 0,.int .i64 yi,.int .i64 0,.int .i64 0]) (.int .i64 5)).run Tryz.prog w = .ok (.agg #[.int .i64 yi,.int .i64 0,.int .i64 0]) w:=fun _=>(by kernel_rfl);gi_wp2;gi_loopw [31] (fun i wr=>∃ k:Nat,k≤6∧i = .int .i64 k∧J ((zf lg th po wt sp yi).take k) wr) (fun i _=>6 - (intOf i).toNat);(case atStart=>exact ⟨0,by omega,rfl,hJ _ _ _ h0 ((Below.refl _ _).alloc (Nat.le_refl _) _)⟩);(case round=>obtain ⟨k,hk,rfl,hj⟩:=hrel;rw [hL.out] at hj;obtain rfl | rfl | rfl | rfl | rfl | rfl | rfl:k=0∨k=1∨k=2∨k=3∨k=4∨k=5∨k=6:=(by omega);((obtain ⟨fn,tmps,assign,body,hy,hR⟩:=hY (10 - 1) [] ⟨lg,1,6⟩ [⟨th,1,16⟩,⟨po,0,2⟩,⟨wt,0,3⟩,⟨sp,0,0⟩,⟨yi,0,0⟩] (wr.alloc (.cells #[.int .i64 (⟨lg,1,6⟩:Bd).n,.int .i64 (⟨lg,1,6⟩:Bd).low,.int .i64 (⟨lg,1,6⟩:Bd).high] 122)) (by omega) hL.out (hJ _ _ _ hj ((Below.refl _ _).alloc (Nat.le_refl _) _));simp only [Bd.val] at hy;gi_wp2;refine hR.mono ?_;rintro e C (⟨rfl,hj',hr⟩ | ⟨rfl,hx⟩);(gi_wp2;go_roundw;(case rel=>exact ⟨1,by omega,rfl,by rw [hL.out];exact hj'⟩);(case measure=>simp [intOf]));(gi_wp2;refine bodyPost_ret (results_none rfl _ _ _) rfl ?_;exact ⟨⟨_,rfl⟩,.inr ⟨_,hx⟩⟩)));((obtain ⟨fn,tmps,assign,body,hy,hR⟩:=hY (10 - 1) [⟨lg,1,6⟩] ⟨th,1,16⟩ [⟨po,0,2⟩,⟨wt,0,3⟩,⟨sp,0,0⟩,⟨yi,0,0⟩] (wr.alloc (.cells #[.int .i64 (⟨th,1,16⟩:Bd).n,.int .i64 (⟨th,1,16⟩:Bd).low,.int .i64 (⟨th,1,16⟩:Bd).high] 122)) (by omega) hL.out (hJ _ _ _ hj ((Below.refl _ _).alloc (Nat.le_refl _) _));simp only [Bd.val] at hy;gi_wp2;refine hR.mono ?_;rintro e C (⟨rfl,hj',hr⟩ | ⟨rfl,hx⟩);(gi_wp2;go_roundw;(case rel=>exact ⟨2,by omega,rfl,by rw [hL.out];exact hj'⟩);(case measure=>simp [intOf]));(gi_wp2;refine bodyPost_ret (results_none rfl _ _ _) rfl ?_;exact ⟨⟨_,rfl⟩,.inr ⟨_,hx⟩⟩)));((obtain ⟨fn,tmps,assign,body,hy,hR⟩:=hY (10 - 1) [⟨lg,1,6⟩,⟨th,1,16⟩] ⟨po,0,2⟩ [⟨wt,0,3⟩,⟨sp,0,0⟩,⟨yi,0,0⟩] (wr.alloc (.cells #[.int .i64 (⟨po,0,2⟩:Bd).n,.int .i64 (⟨po,0,2⟩:Bd).low,.int .i64 (⟨po,0,2⟩:Bd).high] 122)) (by omega) hL.out (hJ _ _ _ hj ((Below.refl _ _).alloc (Nat.le_refl _) _));simp only [Bd.val] at hy;gi_wp2;refine hR.mono ?_;rintro e C (⟨rfl,hj',hr⟩ | ⟨rfl,hx⟩);(gi_wp2;go_roundw;(case rel=>exact ⟨3,by omega,rfl,by rw [hL.out];exact hj'⟩);(case measure=>simp [intOf]));(gi_wp2;refine bodyPost_ret (results_none rfl _ _ _) rfl ?_;exact ⟨⟨_,rfl⟩,.inr ⟨_,hx⟩⟩)));((obtain ⟨fn,tmps,assign,body,hy,hR⟩:=hY (10 - 1) [⟨lg,1,6⟩,⟨th,1,16⟩,⟨po,0,2⟩] ⟨wt,0,3⟩ [⟨sp,0,0⟩,⟨yi,0,0⟩] (wr.alloc (.cells #[.int .i64 (⟨wt,0,3⟩:Bd).n,.int .i64 (⟨wt,0,3⟩:Bd).low,.int .i64 (⟨wt,0,3⟩:Bd).high] 122)) (by omega) hL.out (hJ _ _ _ hj ((Below.refl _ _).alloc (Nat.le_refl _) _));simp only [Bd.val] at hy;gi_wp2;refine hR.mono ?_;rintro e C (⟨rfl,hj',hr⟩ | ⟨rfl,hx⟩);(gi_wp2;go_roundw;(case rel=>exact ⟨4,by omega,rfl,by rw [hL.out];exact hj'⟩);(case measure=>simp [intOf]));(gi_wp2;refine bodyPost_ret (results_none rfl _ _ _) rfl ?_;exact ⟨⟨_,rfl⟩,.inr ⟨_,hx⟩⟩)));((obtain ⟨fn,tmps,assign,body,hy,hR⟩:=hY (10 - 1) [⟨lg,1,6⟩,⟨th,1,16⟩,⟨po,0,2⟩,⟨wt,0,3⟩] ⟨sp,0,0⟩ [⟨yi,0,0⟩] (wr.alloc (.cells #[.int .i64 (⟨sp,0,0⟩:Bd).n,.int .i64 (⟨sp,0,0⟩:Bd).low,.int .i64 (⟨sp,0,0⟩:Bd).high] 122)) (by omega) hL.out (hJ _ _ _ hj ((Below.refl _ _).alloc (Nat.le_refl _) _));simp only [Bd.val] at hy;gi_wp2;refine hR.mono ?_;rintro e C (⟨rfl,hj',hr⟩ | ⟨rfl,hx⟩);(gi_wp2;go_roundw;(case rel=>exact ⟨5,by omega,rfl,by rw [hL.out];exact hj'⟩);(case measure=>simp [intOf]));(gi_wp2;refine bodyPost_ret (results_none rfl _ _ _) rfl ?_;exact ⟨⟨_,rfl⟩,.inr ⟨_,hx⟩⟩)));((obtain ⟨fn,tmps,assign,body,hy,hR⟩:=hY (10 - 1) [⟨lg,1,6⟩,⟨th,1,16⟩,⟨po,0,2⟩,⟨wt,0,3⟩,⟨sp,0,0⟩] ⟨yi,0,0⟩ [] (wr.alloc (.cells #[.int .i64 (⟨yi,0,0⟩:Bd).n,.int .i64 (⟨yi,0,0⟩:Bd).low,.int .i64 (⟨yi,0,0⟩:Bd).high] 122)) (by omega) hL.out (hJ _ _ _ hj ((Below.refl _ _).alloc (Nat.le_refl _) _));simp only [Bd.val] at hy;gi_wp2;refine hR.mono ?_;rintro e C (⟨rfl,hj',hr⟩ | ⟨rfl,hx⟩);(gi_wp2;go_roundw;(case rel=>exact ⟨6,by omega,rfl,by rw [hL.out];exact hj'⟩);(case measure=>simp [intOf]));(gi_wp2;refine bodyPost_ret (results_none rfl _ _ _) rfl ?_;exact ⟨⟨_,rfl⟩,.inr ⟨_,hx⟩⟩)));(gi_wp2;go_end0;exact ⟨⟨_,rfl⟩,.inl (by rw [hL.out];exact hj)⟩)))
end
section
open Go.ChangeShapes Go.WideShapes Go.ChangeAt Go.RowKit Go.Shelf
attribute [local go_sem] Oper.semAt_some
set_option maxHeartbeats 4000000 in
theorem oV (lg th po wt sp yi:Int) (si:Bool) (w:World) :
  Calls Tryz.prog 58 #[.agg #[.int .i64 lg,.int .i64 th,.int .i64 po,.int .i64 wt,.int .i64 sp,.int .i64 yi,.bool si]] w fun e w' => e = .returned (.int .i64 (ckI lg th po wt sp yi))∧Kept w w' := by
 refine (callsIn_wide (n:=20)).1 ?_
 refine callsIn_of_wp_marks Tryz.func58 rfl trivial ?_
 simp only [Tryz.ntmps58,List.size_toArray,List.length_cons,List.length_nil,Nat.reduceAdd,Nat.reduceSub,Array.replicate_succ,Array.replicate_zero,List.push_toArray,List.append_toArray,List.nil_append,List.cons_append]
 gi_wp2
 have hc0:((w.alloc (.cells #[.int .i64 lg,.int .i64 th,.int .i64 po,.int .i64 wt,.int .i64 sp,.int .i64 yi,.bool si] 23)).alloc (.cells #[.int .i64 0] 53)).cell? ⟨w.heap.size+1,0,none⟩=some (.int .i64 0):=by simp
 have hf0:((w.alloc (.cells #[.int .i64 lg,.int .i64 th,.int .i64 po,.int .i64 wt,.int .i64 sp,.int .i64 yi,.bool si] 23)).alloc (.cells #[.int .i64 0] 53)).frozen? ⟨w.heap.size+1,0,none⟩=false:=by simp
 have hB0:Below w.heap.size w ((w.alloc (.cells #[.int .i64 lg,.int .i64 th,.int .i64 po,.int .i64 wt,.int .i64 sp,.int .i64 yi,.bool si] 23)).alloc (.cells #[.int .i64 0] 53)):=((Below.refl _ _).alloc (Nat.le_refl _) _).alloc (by simp) _
 have hs0:((w.alloc (.cells #[.int .i64 lg,.int .i64 th,.int .i64 po,.int .i64 wt,.int .i64 sp,.int .i64 yi,.bool si] 23)).alloc (.cells #[.int .i64 0] 53)).heap.size=w.heap.size+2:=by simp
 revert hc0 hf0 hB0 hs0
 generalize ((w.alloc (.cells #[.int .i64 lg,.int .i64 th,.int .i64 po,.int .i64 wt,.int .i64 sp,.int .i64 yi,.bool si] 23)).alloc (.cells #[.int .i64 0] 53))=V
 intro hc0 hf0 hB0 hs0
 refine Mq (gf:=81) (bd:=#[.agg #[.int .i64 lg,.int .i64 th,.int .i64 po,.int .i64 wt,.int .i64 sp,.int .i64 yi,.bool si]]) (lb:=#[]) rfl (enters_of Tryz.func81 (by kernel_rfl) rfl) (DJ lg th po wt sp yi si w.heap.size V) (by omega) rfl
  (fun pre A=>A.cell? ⟨w.heap.size+1,0,none⟩=some (.int .i64 0)∧A.frozen? ⟨w.heap.size+1,0,none⟩=false∧Below w.heap.size w A∧okL pre=true)
  (fun c pre A=>c = .ret∧A.cell? ⟨w.heap.size+1,0,none⟩=some (.int .i64 20)∧Below w.heap.size w A∧fD lg th po wt sp yi=false)
  (fun s A C hs ht=>⟨ht.cell hs.1,(ht.frozen hs.1).trans hs.2.1,ht.below (by omega) hs.2.2.1,hs.2.2.2⟩)
  (fun c s A C hs ht=>⟨hs.1,ht.cell hs.2.1,ht.below (by omega) hs.2.2.1,hs.2.2.2⟩)
  ⟨hc0,hf0,hB0,rfl⟩ ?round ?done ?stop
 case round =>
  rintro m l pre suf ⟨n,low,high⟩ A hm hxs hsz ⟨hc,hf,hB,hp⟩
  simp only [Bd.val]
  have hbl:(⟨w.heap.size+1,0,none⟩:Addr).block<A.heap.size:=by show w.heap.size+1<A.heap.size;omega
  gi_wp2
  refine ⟨(Below.refl _ _).alloc (Nat.le_refl _) _,fun C ht hsC=>?_⟩
  have h1m:1≤m:=by omega
  have hn0:C.cell? ⟨A.heap.size,0,none⟩=some (.int .i64 n):=ht.cell (by simp)
  have hn1:C.cell? ⟨A.heap.size,1,none⟩=some (.int .i64 low):=ht.cell (by simp)
  have hn2:C.cell? ⟨A.heap.size,2,none⟩=some (.int .i64 high):=ht.cell (by simp)
  have hA1:Below A.heap.size A (A.alloc (.cells #[.int .i64 n,.int .i64 low,.int .i64 high] 122)):=(Below.refl _ _).alloc (Nat.le_refl _) _
  have hcC:=ht.cell ((hA1.cell (p:=⟨w.heap.size+1,0,none⟩) hbl).trans hc)
  have hfC:=(ht.frozen ((hA1.cell (p:=⟨w.heap.size+1,0,none⟩) hbl).trans hc)).trans ((hA1.frozen (p:=⟨w.heap.size+1,0,none⟩) hbl).trans hf)
  have hBC:Below w.heap.size w C:=ht.below (by omega) (hB.trans (hA1.mono hB.size))
  clear ht hc hf hA1
  cases hx:inB n low high
  ·gi_wp2_with (refine ⟨trivial,?_⟩;gi_at_call 82;refine (CallsIn.inRound l (callsIn_wide.2 (xm _ _ _ _))).mono ?_;rintro e D ⟨rfl,hD⟩;have hcD:=(hD.cell (p:=⟨w.heap.size+1,0,none⟩) (by show w.heap.size+1<C.heap.size;omega)).trans hcC;have hfD:=(hD.frozen (p:=⟨w.heap.size+1,0,none⟩) (by show w.heap.size+1<C.heap.size;omega)).trans hfC)
   refine ⟨(Rnd.of_below hD (by omega) (by omega)).setCell (by simp) (by simp) _,rfl,World.cell?_setCell_same' _ _ _ (by rw [hcD];rfl),(hBC.trans (hD.mono (by omega))).setCell (by simp) _,Xa hxs hx⟩
  ·gi_wp2_with (refine ⟨trivial,?_⟩;gi_at_call 82;refine (CallsIn.inRound l (callsIn_wide.2 (xm _ _ _ _))).mono ?_;rintro e D ⟨rfl,hD⟩;have hcD:=(hD.cell (p:=⟨w.heap.size+1,0,none⟩) (by show w.heap.size+1<C.heap.size;omega)).trans hcC;have hfD:=(hD.frozen (p:=⟨w.heap.size+1,0,none⟩) (by show w.heap.size+1<C.heap.size;omega)).trans hfC)
   exact ⟨Rnd.of_below hD (by omega) (by omega),hcD,hfD,hBC.trans (hD.mono (by omega)),Sj hp hx⟩
 case done =>
  rintro D W hD ⟨hc,hf,hB,hp⟩ hK
  gi_wp2
  have hK1:=(Below.heap_setCell W ⟨w.heap.size+1,0,none⟩ (.int .i64 0) D (by show D≠w.heap.size+1;omega)).trans hK
  have hT:Turn (w.heap.size+2) (W.setCell ⟨w.heap.size+1,0,none⟩ (.int .i64 0)) ((W.setCell ⟨w.heap.size+1,0,none⟩ (.int .i64 0)).putObj D (.deferred none)):=Turn.putObj hK1 rfl (by omega) _
  have hW:=hT.cell (p:=⟨w.heap.size+1,0,none⟩) (World.cell?_setCell_same' _ _ _ (by rw [hc];rfl))
  have hBW:=hT.below (by omega) (hB.setCell (p:=⟨w.heap.size+1,0,none⟩) (by simp) (.int .i64 0))
  refine ⟨by simp,.inl ⟨_,_,rfl,run_takeDeferred hK1,?_⟩⟩
  revert hW hBW
  generalize ((W.setCell ⟨w.heap.size+1,0,none⟩ (.int .i64 0)).putObj D (.deferred none))=X
  intro hW hBW
  exact ⟨.int .i64 0,by simp [results,Tryz.results58,go_sem,hW],cO (by rw [ckI,if_pos (show fD lg th po wt sp yi=true from hp)]),hBW⟩
 case stop =>
  rintro D c pre W hD ⟨rfl,hc,hB,hm⟩ hK
  gi_wp2
  have hT:Turn (w.heap.size+2) W (W.putObj D (.deferred none)):=Turn.putObj hK rfl (by omega) _
  have hW:=hT.cell hc
  have hBW:=hT.below (by omega) hB
  refine ⟨by simp,.inl ⟨_,_,rfl,run_takeDeferred hK,?_⟩⟩
  revert hW hBW
  generalize (W.putObj D (.deferred none))=X
  intro hW hBW
  exact ⟨.int .i64 20,by simp [results,Tryz.results58,go_sem,hW],cO (by rw [ckI,hm];rfl),hBW⟩
end
section
open Go.ChangeShapes Go.WideShapes Go.ChangeAt Go.RowKit
theorem DD (lg th po wt sp yi:Int) (si:Bool) (w:World):Calls Tryz.prog 72 #[.agg #[.int .i64 lg,.int .i64 th,.int .i64 po,.int .i64 wt,.int .i64 sp,.int .i64 yi,.bool si]] w fun e w' => e = .returned (.bool (fD lg th po wt sp yi))∧Kept w w' := by
 cases hm:fD lg th po wt sp yi
 ·have hk:=PR hm
  go_enter Tryz.func72,Tryz.ntmps72
  go_wp2_with (first | (go_at_call 58;refine (oV _ _ _ _ _ _ _ _).mono ?_;rintro e wx ⟨rfl,hgx⟩;obtain ⟨hcx,hfx⟩:=aY hgx;have hz0:w.heap.size<wx.heap.size:=(by have:=hgx.size;(try simp at this);omega)))
  go_ret
  exact ⟨rfl,by exact F6⟩
 ·have hk:=IA hm
  go_enter Tryz.func72,Tryz.ntmps72
  go_wp2_with (first | (go_at_call 58;refine (oV _ _ _ _ _ _ _ _).mono ?_;rintro e wx ⟨rfl,hgx⟩;obtain ⟨hcx,hfx⟩:=aY hgx;have hz0:w.heap.size<wx.heap.size:=(by have:=hgx.size;(try simp at this);omega)))
  go_ret
  exact ⟨rfl,by exact F6⟩
theorem Bg (lg th po wt sp yi:Int) (si:Bool) (w:World):Calls Tryz.prog 43 #[.agg #[.int .i64 lg,.int .i64 th,.int .i64 po,.int .i64 wt,.int .i64 sp,.int .i64 yi,.bool si]] w fun e w' => e = .returned (.int .i64 (rH lg th po wt sp yi))∧Kept w w' := by
 cases hm:fD lg th po wt sp yi
 ·have hk:=WX hm
  go_enter Tryz.func43,Tryz.ntmps43
  go_wp2_with (first | (go_at_call 72;refine (DD _ _ _ _ _ _ _ _).mono ?_;rintro e wx ⟨rfl,hgx⟩;obtain ⟨hcx,hfx⟩:=aY hgx;have hz0:w.heap.size<wx.heap.size:=(by have:=hgx.size;(try simp at this);omega)))
  go_ret
  exact ⟨cO (by rw [hk]),by exact F6⟩
 ·have hk:=Fj hm
  have hp:=nA.1 hm
  obtain rfl | rfl | rfl | rfl | rfl | rfl:lg=1∨lg=2∨lg=3∨lg=4∨lg=5∨lg=6:=by omega
  all_goals
   clear hp
   go_enter Tryz.func43,Tryz.ntmps43
   go_wp2_with (first | (go_at_call 72;refine (DD _ _ _ _ _ _ _ _).mono ?_;rintro e wx ⟨rfl,hgx⟩;obtain ⟨hcx,hfx⟩:=aY hgx;have hz0:w.heap.size<wx.heap.size:=(by have:=hgx.size;(try simp at this);omega)))
   go_ret
   exact ⟨cO (by rw [hk];rfl),by exact F6⟩
set_option maxHeartbeats 4000000 in
theorem Gh (lg th po wt sp yi:Int) (si:Bool) (w:World):Calls Tryz.prog 50 #[.agg #[.int .i64 lg,.int .i64 th,.int .i64 po,.int .i64 wt,.int .i64 sp,.int .i64 yi,.bool si]] w fun e w' => e = .returned (.int .i64 (ckI lg th po wt sp yi))∧Kept w w' := by
 go_enter Tryz.func50,Tryz.ntmps50
 go_wp2
 all_goals (go_ret;exact ⟨cO (by (try simp only [bne_eq_false_iff_eq,beq_eq_false_iff_ne,ne_eq,bne_iff_ne,beq_iff_eq] at *);first | rw [IA (nA.2 (by omega))] | rw [PR (a3k (by omega))]),by exact F6⟩)
end
abbrev qL6:=j4 Tryz.prog (j3 Tryz.prog 101 0)
abbrev qL16:=j4 Tryz.prog (j3 Tryz.prog 59 0)
section
open Go.RowKit
theorem rZ {p r:Int} (hp:In64 p) (hr:In64 r):AC Tryz.prog 74 [.int .i64 p,.int .i64 r] (.int .i64 (I9 p r)):=by
 intro O W vs hl hat
 obtain ⟨ys,rfl,_,_,rfl,h0,_,_,rfl,h1,rfl⟩:=T9 hat
 rw [p8] at h0 h1
 subst h0 h1
 refine (zZ p r hp hr W).mono ?_
 rintro e W' ⟨rfl,hk⟩
 exact ⟨_,rfl,p8.2 rfl,hk⟩
theorem lJ {r:Int} {b:Bool} (hb:pV r=b):AC Tryz.prog 83 [.int .i64 r] (.bool b):=by
 subst hb;unfold pV
 cases h:decide (1≤r)
 ·exact d9 mixed (ext:=[]) (fuel:=9) (n:=6) (orc:=[.bool false]) (an h trivial) (by kernel_rfl)
 ·exact d9 mixed (ext:=[]) (fuel:=9) (n:=6) (orc:=[.bool true]) (an h trivial) (by kernel_rfl)
def sM (l:List Slo) (i:Int):Sg:=⟨mkT 34 [(0,U0 l),(9,U0 l),(10,.int .i64 l.length),(11,.int .i64 i)],[]⟩
def Qn:Sg:=⟨mkT 34 [(2,vD false)],[]⟩
theorem NL {l:List Slo} {i:Nat} (h:i<l.length):IxP ((l.map slT).toArray) (i:Int) (slT (gs l i)):=⟨by omega,by simp [oG h,h]⟩
section
variable {l:List Slo} {i:Nat} {S:Sg} {y:Exit}
section
variable (lt:decide ((i:Int)<l.length)=true) (hi:i<l.length)
include lt hi
theorem ZT (h0:decide ((gs l i).st<0)=true):qL6 (sM l i) .ret Qn:=o5 mixed (ext:=[83,350,352,101,74]) (fuel:=9) (n:=6) (im:=[]) (keep:=[2]) (orc:=[.bool true,slT (gs l i),.bool true]) (an lt<|an (NL hi)<|an h0 trivial) (by intro e;cases e) (by kernel_rfl)
variable (h0:decide ((gs l i).st<0)=false)
include h0
theorem Wu (h1:decide (2199023255552<(gs l i).st)=true):qL6 (sM l i) .ret Qn:=o5 mixed (ext:=[83,350,352,101,74]) (fuel:=9) (n:=6) (im:=[]) (keep:=[2]) (orc:=[.bool true,slT (gs l i),.bool false,.bool true]) (an lt<|an (NL hi)<|an h0<|an h1 trivial) (by intro e;cases e) (by kernel_rfl)
variable (h1:decide (2199023255552<(gs l i).st)=false) (hp:AC Tryz.prog 74 [.int .i64 (gs l i).st,.int .i64 l.length] (.int .i64 (I9 (gs l i).st l.length)))
include h1 hp
theorem a1W (h2:(I9 (gs l i).st l.length != i)=true):qL6 (sM l i) .ret Qn:=o5 mixed (ext:=[83,350,352,101,74]) (fuel:=9) (n:=6) (im:=[]) (keep:=[2]) (orc:=[.bool true,slT (gs l i),.bool false,.bool false,.int .i64 (I9 (gs l i).st l.length),.bool true]) (an lt<|an (NL hi)<|an h0<|an h1<|an hp<|an h2 trivial) (by intro e;cases e) (by kernel_rfl)
theorem a2n (h2:(I9 (gs l i).st l.length != i)=false) (j1:In64 ((i:Int)+1)) (hL:qL6 (sM l (i+1)) y S):qL6 (sM l i) y S:=j5 mixed (ext:=[83,350,352,101,74]) (fuel:=9) (n:=6) (im:=[]) (keep:=[0,9,10,11]) (orc:=[.bool true,slT (gs l i),.bool false,.bool false,.int .i64 (I9 (gs l i).st l.length),.bool false]) (an lt<|an (NL hi)<|an h0<|an h1<|an hp<|an h2<|an j1 trivial) (by kernel_rfl) hL
end
theorem Zz {j:Int} (lt:decide (j<l.length)=false):qL6 (sM l j) (.exit 0) (sM l j):=o5 mixed (ext:=[83,350,352,101,74]) (fuel:=9) (n:=6) (im:=[]) (keep:=[0,9,10,11]) (orc:=[.bool false]) (an lt trivial) (by intro e;cases e) (by kernel_rfl)
theorem IQ (hm:l.length≤1000) (hi:i<l.length):(lN l.length i (gs l i)=true∧∀ {S:Sg} {y:Exit},qL6 (sM l (i+1)) y S→qL6 (sM l i) y S)∨(lN l.length i (gs l i)=false∧qL6 (sM l i) .ret Qn):=by
 have lt:decide ((i:Int)<l.length)=true:=by simp;omega
 have j1:In64 ((i:Int)+1):=by constructor <;> omega
 unfold lN
 cases h0:decide ((gs l i).st<0)
 ·cases h1:decide (2199023255552<(gs l i).st)
  ·have a0:=of_decide_eq_false h0
   have a1:=of_decide_eq_false h1
   have hp:=rZ (p:=(gs l i).st) (r:=l.length) (by constructor <;> omega) (by constructor <;> omega)
   cases h2:I9 (gs l i).st l.length != i
   ·exact .inl ⟨by simp at h2;simp [h2];omega,fun hL=>a2n lt hi h0 h1 hp h2 j1 hL⟩
   ·exact .inr ⟨by simp at h2;simp [h2],a1W lt hi h0 h1 hp h2⟩
  ·exact .inr ⟨by have:=of_decide_eq_true h1;simp;omega,Wu lt hi h0 h1⟩
 ·exact .inr ⟨by have:=of_decide_eq_true h0;simp;omega,ZT lt hi h0⟩
theorem TJ (hm:l.length≤1000) (h:∀ i,i<l.length→lN l.length i (gs l i)=true):∀ (k i:Nat),l.length - i=k→i≤l.length→qL6 (sM l i) (.exit 0) (sM l l.length)
 | 0,i,hk,hi=>by
  have:i=l.length:=by omega
  subst this
  exact Zz (by simp)
 | k+1,i,hk,hi=>by
  rcases IQ hm (show i<l.length by omega) with ⟨-,f⟩ | ⟨e,-⟩
  ·exact f (TJ hm h k (i+1) (by omega) (by omega))
  ·rw [h i (by omega)] at e;cases e
theorem Rl (hm:l.length≤1000) {m:Nat} (hml:m<l.length) (h:lN l.length m (gs l m)=false):∀ (k i:Nat),m - i=k→i≤m→qL6 (sM l i) .ret Qn
 | 0,i,hk,hi=>by
  have:i=m:=by omega
  subst this
  rcases IQ hm hml with ⟨e,-⟩ | ⟨-,f⟩
  ·rw [h] at e;cases e
  ·exact f
 | k+1,i,hk,hi=>by
  rcases IQ hm (show i<l.length by omega) with ⟨-,f⟩ | ⟨-,f⟩
  ·exact f (Rl hm hml h k (i+1) (by omega) (by omega))
  ·exact f
end
theorem yS {l:List Slo} {b:Bool} (h:fH l=b) (hm:l.length≤1000):AC Tryz.prog 101 [U0 l] (.bool b):=by
 cases hr:pV l.length
 ·rw [show b=false by rw [← h];simp [fH,hr]]
  exact d9 mixed (ext:=[83,350,352,101,74]) (fuel:=9) (n:=6) (orc:=[vD false]) (an (lJ hr) trivial) (by kernel_rfl)
 ·by_cases ha:∀ i,i<l.length→lN l.length i (gs l i)=true
  ·rw [show b=true by rw [← h];exact aR.2 ⟨by have:=iw.1 hr;omega,ha⟩]
   exact d9 mixed (ext:=[83,350,352,101,74]) (fuel:=9) (n:=6) (orc:=[vD true,oL [] [0,9,10,11] 0 [(0,U0 l),(9,U0 l),(10,.int .i64 l.length),(11,.int .i64 l.length)] []]) (an (lJ hr)<|an (TJ hm ha l.length 0 (by omega) (by omega)) trivial) (by kernel_rfl)
  ·obtain ⟨m,hml,hb⟩:∃ m,m<l.length∧lN l.length m (gs l m)=false:=by
    simp only [Classical.not_forall] at ha
    obtain ⟨m,h1,h2⟩:=ha
    exact ⟨m,h1,by simpa using h2⟩
   rw [show b=false by rw [← h];cases e:fH l;rfl;rw [(aR.1 e).2 m hml] at hb;cases hb]
   exact d9 mixed (ext:=[83,350,352,101,74]) (fuel:=9) (n:=6) (orc:=[vD true,oL [] [0,9,10,11] (-1) [(2,vD false)] []]) (an (lJ hr)<|an (Rl hm hml hb m 0 (by omega) (by omega)) trivial) (by kernel_rfl)
theorem mK {l:List Slo} {q:Int} {b:Bool} (h:dY l q=b) (hm:l.length≤1000):AC Tryz.prog 350 [U0 l,.int .i64 q] (.bool b):=by
 subst h;unfold dY
 cases h0:decide (0≤q)
 ·exact d9 mixed (ext:=[83,350,352,101,74]) (fuel:=9) (n:=6) (orc:=[.bool false]) (an h0 trivial) (by kernel_rfl)
 ·exact d9 mixed (ext:=[83,350,352,101,74]) (fuel:=9) (n:=6) (orc:=[.bool true,.bool (fH l)]) (an h0<|an (yS rfl hm) trivial) (by kernel_rfl)
theorem Ky {l:List Slo} {q:Int} (h:dY l q=true) (hm:l.length≤1000) (hq:In64 q):AC Tryz.prog 74 [.int .i64 q,.int .i64 l.length] (.int .i64 (plc l q))∧plc l q<l.length:=by
 obtain ⟨h1,h2⟩:=oW h
 have:=rZ (p:=q) (r:=l.length) hq (by constructor <;> omega)
 rw [h2] at this
 exact ⟨this,h1⟩
theorem dM {l:List Slo} {q:Int} {b:Bool} (h:dz l q=b) (hm:l.length≤1000) (hq:In64 q):AC Tryz.prog 352 [U0 l,.int .i64 q] (.bool b):=by
 subst h;unfold dz
 cases h0:dY l q
 ·exact d9 mixed (ext:=[83,350,352,101,74]) (fuel:=9) (n:=6) (orc:=[vD false]) (an (mK h0 hm) trivial) (by kernel_rfl)
 ·obtain ⟨h1,h2⟩:=Ky h0 hm hq
  exact d9 mixed (ext:=[83,350,352,101,74]) (fuel:=9) (n:=6) (orc:=[vD true,.int .i64 (plc l q),slT (gs l (plc l q))]) (an (mK h0 hm)<|an h1<|an (NL h2) trivial) (by kernel_rfl)
theorem OM (l:List Slo) (q:Int) (hm:l.length≤1000) (hq:In64 q):AC Tryz.prog 343 [U0 l,.int .i64 q] (.tuple #[.int .i64 (rdV l q),.int .i64 (rdE l q)]):=by
 unfold rdV rdE
 cases h0:dz l q
 ·exact d9 mixed (ext:=[83,350,352,101,74]) (fuel:=9) (n:=6) (orc:=[vD false]) (an (dM h0 hm hq) trivial) (by kernel_rfl)
 ·obtain ⟨h1,h2⟩:=Ky (dZ h0).1 hm hq
  exact d9 mixed (ext:=[83,350,352,101,74]) (fuel:=9) (n:=6) (orc:=[vD true,.int .i64 (plc l q),slT (gs l (plc l q))]) (an (dM h0 hm hq)<|an h1<|an (NL h2) trivial) (by kernel_rfl)
def zS (n:Nat):List Slo:=List.replicate n ⟨0,0⟩
def Nf (l:List Slo):Value:=F4 l.length ((zS l.length).map slT)
theorem Ak {l:List Slo} (hm:l.length≤1000):Lg l.length l.length l.length ((zS l.length).map slT) (slT ⟨0,0⟩):=⟨rfl,by omega,by omega,by unfold zS;simp⟩
theorem AU (l:List Slo):l.length=l.length∧l.length=((zS l.length).map slT).length:=by simp [zS]
theorem ul {l m:List Slo} (h:m.length=l.length):pu l.length m.length (m.map slT):=⟨by simp [h],by simp⟩
theorem a0v {l:List Slo} {i:Nat} (h:i<l.length):ElP (l.map slT) (0+(i:Int).toNat) (slT (gs l i)):=by simp [ElP,oG h,h]
theorem a2o {l:List Slo} {i:Nat} (h:i<l.length):0≤(i:Int)∧(i:Int).toNat<l.length:=⟨by omega,by simpa using h⟩
theorem Sd (l:List Slo) (i:Nat) (u:Slo):(l.set i u).map slT=(l.map slT).set (0+(i:Int).toNat) (slT u):=by simp [List.map_set]
theorem Ar (l:List Slo) (q v:Int) (hm:l.length≤1000) (hq:In64 q):AC Tryz.prog 327 [U0 l,.int .i64 q,.int .i64 v] (.tuple #[U0 (wrL l q v),.int .i64 (wrE l q)]):=by
 unfold wrL wrE
 cases h0:dY l q
 ·rw [show dz l q=false by simp [dz,h0]]
  exact d9 mixed (ext:=[83,350,352,101,74]) (fuel:=9) (n:=6) (orc:=[vD false,Nf l]) (an (mK h0 hm)<|an (Ak hm)<|an (mQ l)<|an (AU l)<|an (ul (l:=l) rfl) trivial) (by kernel_rfl)
 ·cases h1:dz l q
  ·exact d9 mixed (ext:=[83,350,352,101,74]) (fuel:=9) (n:=6) (orc:=[vD true,vD false,Nf l]) (an (mK h0 hm)<|an (dM h1 hm hq)<|an (Ak hm)<|an (mQ l)<|an (AU l)<|an (ul (l:=l) rfl) trivial) (by kernel_rfl)
  ·obtain ⟨h2,h3⟩:=Ky h0 hm hq
   have e:(gs l (plc l q)).st=q:=(dZ h1).2
   have e2:(⟨q,v⟩:Slo)=⟨(gs l (plc l q)).st,v⟩:=by rw [e]
   rw [if_pos rfl,e2]
   exact d9 mixed (ext:=[83,350,352,101,74]) (fuel:=9) (n:=6) (orc:=[vD true,vD true,Nf l,.int .i64 (plc l q),slT (gs l (plc l q)),U0 (l.set (plc l q) ⟨(gs l (plc l q)).st,v⟩)]) (an (mK h0 hm)<|an (dM h1 hm hq)<|an (Ak hm)<|an (mQ l)<|an (AU l)<|an h2<|an (a2o h3)<|an (a0v h3)<|an (Sd l (plc l q) ⟨(gs l (plc l q)).st,v⟩)<|an (ul (l:=l) (m:=l.set (plc l q) ⟨(gs l (plc l q)).st,v⟩) (by simp)) trivial) (by kernel_rfl)
theorem uO (l:List Slo) (q:Int) (hm:l.length≤1000) (hq:In64 q):AC Tryz.prog 337 [U0 l,.int .i64 q] (.tuple #[U0 (rlL l q),.int .i64 (rlE l q)]):=by
 unfold rlL rlE rlB
 cases h1:dz l q
 ·exact d9 mixed (ext:=[83,350,352,101,74]) (fuel:=9) (n:=6) (orc:=[vD false,Nf l]) (an (dM h1 hm hq)<|an (Ak hm)<|an (mQ l)<|an (AU l)<|an (ul (l:=l) rfl) trivial) (by kernel_rfl)
 ·cases h4:decide (1099511627776<q)
  ·have h5:=of_decide_eq_false h4
   obtain ⟨h2,h3⟩:=Ky (dZ h1).1 hm hq
   rw [if_pos (by simp;omega),if_pos (by simp;omega)]
   have h0:=(eP.1 (dZ h1).1).1
   exact d9 mixed (ext:=[83,350,352,101,74]) (fuel:=9) (n:=6) (orc:=[vD true,.bool false,Nf l,.int .i64 (plc l q),slT (gs l (plc l q)),U0 (l.set (plc l q) ⟨q+l.length,(gs l (plc l q)).vl⟩)]) (an (dM h1 hm hq)<|an h4<|an (Ak hm)<|an (mQ l)<|an (AU l)<|an h2<|an (a2o h3)<|an (show In64 (q+(l.length:Int)) by constructor <;> omega)<|an (a0v h3)<|an (Sd l (plc l q) ⟨q+l.length,(gs l (plc l q)).vl⟩)<|an (ul (l:=l) (m:=l.set (plc l q) ⟨q+l.length,(gs l (plc l q)).vl⟩) (by simp)) trivial) (by kernel_rfl)
  ·have h5:=of_decide_eq_true h4
   rw [if_neg (by simp;omega),if_neg (by simp;omega)]
   exact d9 mixed (ext:=[83,350,352,101,74]) (fuel:=9) (n:=6) (orc:=[vD true,.bool true,Nf l]) (an (dM h1 hm hq)<|an h4<|an (Ak hm)<|an (mQ l)<|an (AU l)<|an (ul (l:=l) rfl) trivial) (by kernel_rfl)
def soS (k j:Nat):List Slo:=(List.range k).map fun (i:Nat)=>(⟨if i<j then (i:Int) else 0,0⟩:Slo)
theorem Kc (k j:Nat):(soS k j).length=k:=by simp [soS]
theorem RN (k:Nat):soS k 0=List.replicate k ⟨0,0⟩:=by
 apply List.ext_getElem
 ·simp [soS]
 ·intro i h1 h2;simp [soS]
theorem VB (k:Nat):soS k k=(List.range k).map fun (i:Nat)=>(⟨(i:Int),0⟩:Slo):=by
 unfold soS
 apply List.map_congr_left
 intro i hi
 rw [if_pos (List.mem_range.1 hi)]
theorem Xd (k j:Nat) (hj:j<k):(soS k j).set j ⟨(j:Int),(gs (soS k j) j).vl⟩=soS k (j+1):=by
 have hv:(gs (soS k j) j).vl=0:=by rw [oG (by rw [Kc];exact hj)];simp [soS]
 rw [hv]
 apply List.ext_getElem
 ·simp [soS]
 ·intro i h1 h2
  simp only [soS,List.getElem_set,List.getElem_map,List.getElem_range]
  by_cases h:j=i
  ·subst h;simp
  ·rw [if_neg h]
   by_cases h3:i<j
   ·rw [if_pos h3,if_pos (by omega)]
   ·rw [if_neg h3,if_neg (by omega)]
def Oh (n:Nat) (j:Int) (m:List Slo):Sg:=⟨mkT 22 [(3,.slice (some ⟨0,0,some 0⟩) n 0),(11,.int .i64 n),(12,.int .i64 j)],[some ⟨true,true,2,n,m.map slT⟩]⟩
section
variable {n j:Nat} {m:List Slo} {S:Sg} {y:Exit}
theorem Yk (lt:decide ((j:Int)<n)=true) (hj:j<n) (hm:m.length=n) (j1:In64 ((j:Int)+1)) (hL:qL16 (Oh n (j+1) (m.set j ⟨j,(gs m j).vl⟩)) y S):qL16 (Oh n j m) y S:=j5 mixed (ext:=[83,350,352,101,74]) (fuel:=9) (n:=6) (im:=[0]) (keep:=[3,11,12]) (orc:=[.bool true,slT (gs m j),F4 n ((m.set j ⟨j,(gs m j).vl⟩).map slT)]) (an lt<|an (show 0≤(j:Int)∧(j:Int).toNat<n from ⟨by omega,by simpa using hj⟩)<|an (a0v (hm ▸ hj))<|an (Sd m j ⟨j,(gs m j).vl⟩)<|an j1 trivial) (by kernel_rfl) hL
theorem a1E (lt:decide ((j:Int)<n)=false):qL16 (Oh n j m) (.exit 0) (Oh n j m):=o5 mixed (ext:=[83,350,352,101,74]) (fuel:=9) (n:=6) (im:=[0]) (keep:=[3,11,12]) (orc:=[.bool false]) (an lt trivial) (by intro e;cases e) (by kernel_rfl)
theorem Yr (hn:n≤1000):∀ (k j:Nat),n - j=k→j≤n→qL16 (Oh n j (soS n j)) (.exit 0) (Oh n n (soS n n))
 | 0,j,hk,hj=>by
  have:j=n:=by omega
  subst this
  exact a1E (by simp)
 | k+1,j,hk,hj=>by
  have hj' : j<n:=by omega
  have ih:=Yr hn k (j+1) (by omega) (by omega)
  rw [← Xd n j hj'] at ih
  exact Yk (by simp;omega) hj' (Kc n j) (by constructor <;> omega) ih
end
theorem Lh (r:Int) (_hr:In64 r):AC Tryz.prog 59 [.int .i64 r] (U0 (iE r)):=by
 unfold iE
 cases hb:pV r
 ·exact d9 mixed (ext:=[83,350,352,101,74]) (fuel:=9) (n:=6) (orc:=[vD false]) (an (lJ hb) trivial) (by kernel_rfl)
 ·have h:=iw.1 hb
  obtain ⟨n,rfl⟩:∃ n:Nat,r=n:=⟨r.toNat,by omega⟩
  have hL:=Yr (n:=n) (by omega) n 0 (by omega) (by omega)
  rw [RN,VB] at hL
  rw [if_pos rfl,Int.toNat_natCast]
  generalize hg:(List.range n).map (fun (i:Nat)=>(⟨(i:Int),0⟩:Slo))=g at hL
  have hl:g.length=n:=by rw [← hg];simp
  have key:AC Tryz.prog 59 [.int .i64 n] (F4 n (g.map slT)) :=
   d9 mixed (ext:=[83,350,352,101,74]) (fuel:=9) (n:=6) (orc:=[vD true,F4 n ((zS n).map slT),oL [0] [3,11,12] 0 [(3,.slice (some ⟨0,0,some 0⟩) n 0),(11,.int .i64 n),(12,.int .i64 n)] [some ⟨true,true,2,n,g.map slT⟩]]) (an (lJ hb)<|an (show Lg (n:Int) n n ((zS n).map slT) (slT ⟨0,0⟩) from ⟨rfl,by omega,by omega,by unfold zS;simp⟩)<|an hL<|an (show pu n n (g.map slT) from ⟨by simp [hl],by simp [hl]⟩) trivial) (by kernel_rfl)
  have e:U0 g=F4 n (g.map slT):=by unfold U0;rw [← hl]
  rw [e];exact key
end
section
open Go.RowKit
theorem Gv {f:Operand→Value} {x y:Operand} {a b:Value} (h:[x,y].map f=[a,b]):f x=a∧f y=b:=by simpa using h
theorem gF {t:TypeId} (hg:Tryz.prog.eqGuardType Tryz.prog.depth t=false) (x y:Operand) (a b:Array Value) (W:World):(eqGuard .neq t x y (.agg a) (.agg b)).run Tryz.prog W = .ok () W∧(eqGuard .eql t x y (.agg a) (.agg b)).run Tryz.prog W = .ok () W:=by
 constructor <;> simp [eqGuard,hg]
theorem nQ {t:TypeId} {bo:BinOp} {a b:Array Value} {r:Value} (hg:∀ x y W,(eqGuard bo t x y (.agg a) (.agg b)).run Tryz.prog W = .ok () W) (h:∀ W,(binOp bo t (.agg a) (.agg b)).run Tryz.prog W = .ok r W) (x y:Operand):uj Tryz.prog (.binOp bo t x y t) [.agg a,.agg b] r:=by
 intro W o f ho hm
 obtain ⟨h1,h2⟩:=Gv hm
 simp [execOp,ho,h1,h2,hg,h]
end
section
open Go.RowKit
theorem O8 (k:Int):AC Tryz.prog 109 [.int .i64 k] (.int .i64 (j6 k)):=by
 rcases Tg k with rfl | rfl | rfl | rfl | rfl | rfl | rfl | rfl | h
 ·exact d9 mixed (ext:=[]) (fuel:=9) (n:=6) (orc:=List.replicate 1 .nilFunc) trivial (by kernel_rfl)
 ·exact d9 mixed (ext:=[]) (fuel:=9) (n:=6) (orc:=List.replicate 2 .nilFunc) trivial (by kernel_rfl)
 ·exact d9 mixed (ext:=[]) (fuel:=9) (n:=6) (orc:=List.replicate 3 .nilFunc) trivial (by kernel_rfl)
 ·exact d9 mixed (ext:=[]) (fuel:=9) (n:=6) (orc:=List.replicate 4 .nilFunc) trivial (by kernel_rfl)
 ·exact d9 mixed (ext:=[]) (fuel:=9) (n:=6) (orc:=List.replicate 5 .nilFunc) trivial (by kernel_rfl)
 ·exact d9 mixed (ext:=[]) (fuel:=9) (n:=6) (orc:=List.replicate 6 .nilFunc) trivial (by kernel_rfl)
 ·exact d9 mixed (ext:=[]) (fuel:=9) (n:=6) (orc:=List.replicate 7 .nilFunc) trivial (by kernel_rfl)
 ·exact d9 mixed (ext:=[]) (fuel:=9) (n:=6) (orc:=List.replicate 8 .nilFunc) trivial (by kernel_rfl)
 ·have no:∀ j:Int,1≤j→j≤8→(k==j)=false:=fun j _ _=>by simp;omega
  rw [show j6 k=0 by have:=X0 k;omega]
  exact d9 mixed (ext:=[]) (fuel:=9) (n:=6) (orc:=List.replicate 8 (.bool false)) (an (no 1 (by omega) (by omega))<|an (no 2 (by omega) (by omega))<|an (no 3 (by omega) (by omega))<|an (no 4 (by omega) (by omega))<|an (no 5 (by omega) (by omega))<|an (no 6 (by omega) (by omega))<|an (no 7 (by omega) (by omega))<|an (no 8 (by omega) (by omega)) trivial) (by kernel_rfl)
theorem XE (k:Int):(j6 k != 0)=opB k:=by
 have:=X0 k
 rw [Bool.eq_iff_iff]
 simp [opB];omega
theorem J7 {k:Int} {b:Bool} (hb:opB k=b):AC Tryz.prog 75 [.int .i64 k] (.bool b):=by
 rw [← hb,← XE]
 exact d9 mixed (ext:=[109]) (fuel:=9) (n:=6) (orc:=[.int .i64 (j6 k)]) (an (O8 k) trivial) (by kernel_rfl)
theorem R5 {k:Int} {b:Bool} (hb:K3 k=b):AC Tryz.prog 198 [.int .i64 k] (.bool b):=by
 rw [← hb];unfold K3
 cases h:k==3
 ·exact d9 mixed (ext:=[]) (fuel:=9) (n:=6) (orc:=[.bool false]) (an h trivial) (by kernel_rfl)
 ·exact d9 mixed (ext:=[]) (fuel:=9) (n:=6) (orc:=[.bool true]) (an h trivial) (by kernel_rfl)
theorem fC {k:Int} {b:Bool} (hb:fE k=b):AC Tryz.prog 364 [.int .i64 k] (.bool b):=by
 rw [← hb];unfold fE
 cases h:k==2
 ·exact d9 mixed (ext:=[]) (fuel:=9) (n:=6) (orc:=[.bool false]) (an h trivial) (by kernel_rfl)
 ·exact d9 mixed (ext:=[]) (fuel:=9) (n:=6) (orc:=[.bool true]) (an h trivial) (by kernel_rfl)
theorem Ka {c:Cf} {i k r:Int} (h:iO c.th c.si i k=r):AC Tryz.prog 232 [cfT c,.int .i64 i,.int .i64 k] (.int .i64 r):=by
 subst h;unfold iO
 cases h0:decide (i<0)
 ·cases h1:decide (c.th≤i)
  ·rw [if_neg (by simp at h0 h1;omega)]
   cases h2:opB k
   ·rw [if_pos rfl]
    exact d9 mixed (ext:=[75,109]) (fuel:=9) (n:=6) (orc:=[.bool false,.bool false,vD false]) (an h0<|an h1<|an (J7 h2) trivial) (by kernel_rfl)
   ·rw [if_neg (by simp)]
    cases h3:c.si
    ·rw [if_neg (by simp)]
     exact d9 mixed (ext:=[75,109]) (fuel:=9) (n:=6) (orc:=[.bool false,.bool false,vD true,.bool false]) (an h0<|an h1<|an (J7 h2)<|an h3 trivial) (by kernel_rfl)
    ·cases h4:j6 k==2
     ·rw [if_neg (by simp at h4;simp [h4])]
      exact d9 mixed (ext:=[75,109]) (fuel:=9) (n:=6) (orc:=[.bool false,.bool false,vD true,.bool true,.int .i64 (j6 k),.bool false]) (an h0<|an h1<|an (J7 h2)<|an h3<|an (O8 k)<|an h4 trivial) (by kernel_rfl)
     ·cases h5:i != 0
      ·rw [if_neg (by simp at h5;simp [h5])]
       exact d9 mixed (ext:=[75,109]) (fuel:=9) (n:=6) (orc:=[.bool false,.bool false,vD true,.bool true,.int .i64 (j6 k),.bool true,.bool false]) (an h0<|an h1<|an (J7 h2)<|an h3<|an (O8 k)<|an h4<|an h5 trivial) (by kernel_rfl)
      ·rw [if_pos (by simp at h4 h5;simp [h4,h5])]
       exact d9 mixed (ext:=[75,109]) (fuel:=9) (n:=6) (orc:=[.bool false,.bool false,vD true,.bool true,.int .i64 (j6 k),.bool true,.bool true]) (an h0<|an h1<|an (J7 h2)<|an h3<|an (O8 k)<|an h4<|an h5 trivial) (by kernel_rfl)
  ·rw [if_pos (by simp at h1;omega)]
   exact d9 mixed (ext:=[75,109]) (fuel:=9) (n:=6) (orc:=[.bool false,.bool true]) (an h0<|an h1 trivial) (by kernel_rfl)
 ·rw [if_pos (by simp at h0;omega)]
  exact d9 mixed (ext:=[75,109]) (fuel:=9) (n:=6) (orc:=[.bool true]) (an h0 trivial) (by kernel_rfl)
theorem G7 {n l h:Int} {b:Bool} (hb:gU n l h=b):AC Tryz.prog 195 [.int .i64 n,.int .i64 l,.int .i64 h] (.bool b):=by
 rw [← hb];unfold gU
 cases h1:decide (l≤n)
 ·exact d9 mixed (ext:=[]) (fuel:=9) (n:=6) (orc:=[.bool false]) (an h1 trivial) (by kernel_rfl)
 ·exact d9 mixed (ext:=[]) (fuel:=9) (n:=6) (orc:=[.bool true]) (an h1 trivial) (by kernel_rfl)
theorem mJ {t:Th} {b:Bool} (hb:uJ t.st t.ki=b):AC Tryz.prog 145 [thT t] (.bool b):=by
 subst hb;unfold uJ
 cases h1:t.st==0
 ·cases h3:gU t.st 0 2
  ·exact d9 mixed (ext:=[75,198,195]) (fuel:=9) (n:=6) (orc:=[.bool false,vD false]) (an h1<|an (G7 h3) trivial) (by kernel_rfl)
  ·exact d9 mixed (ext:=[75,198,195]) (fuel:=9) (n:=6) (orc:=[.bool false,vD true,.bool (opB t.ki)]) (an h1<|an (G7 h3)<|an (J7 (b:=opB t.ki) rfl) trivial) (by kernel_rfl)
 ·cases h2:t.ki==0
  ·cases h3:gU t.st 0 2
   ·exact d9 mixed (ext:=[75,198,195]) (fuel:=9) (n:=6) (orc:=[.bool true,.bool false,vD false]) (an h1<|an h2<|an (G7 h3) trivial) (by kernel_rfl)
   ·exact d9 mixed (ext:=[75,198,195]) (fuel:=9) (n:=6) (orc:=[.bool true,.bool false,vD true,.bool (opB t.ki)]) (an h1<|an h2<|an (G7 h3)<|an (J7 (b:=opB t.ki) rfl) trivial) (by kernel_rfl)
  ·exact d9 mixed (ext:=[75,198,195]) (fuel:=9) (n:=6) (orc:=[.bool true,.bool true]) (an h1<|an h2 trivial) (by kernel_rfl)
theorem nV {t:Th} {b:Bool} (hb:iT t.ki t.un t.la=b):AC Tryz.prog 146 [thT t] (.bool b):=by
 subst hb;unfold iT
 cases h1:K3 t.ki
 ·cases h2:t.un==0
  ·exact d9 mixed (ext:=[75,198,195]) (fuel:=9) (n:=6) (orc:=[vD false,.bool false]) (an (R5 h1)<|an h2 trivial) (by kernel_rfl)
  ·exact d9 mixed (ext:=[75,198,195]) (fuel:=9) (n:=6) (orc:=[vD false,.bool true]) (an (R5 h1)<|an h2 trivial) (by kernel_rfl)
 ·exact d9 mixed (ext:=[75,198,195]) (fuel:=9) (n:=6) (orc:=[vD true,.bool (gU t.un 0 1099511627776)]) (an (R5 h1)<|an (G7 (b:=gU t.un 0 1099511627776) rfl) trivial) (by kernel_rfl)
theorem pJ {t:Th} {b:Bool} (hb:mV t.pc t.re t.se t.tr t.rs=b):AC Tryz.prog 147 [thT t] (.bool b):=by
 subst hb;unfold mV
 cases h1:gU t.pc 0 11
 ·exact d9 mixed (ext:=[75,198,195]) (fuel:=9) (n:=6) (orc:=[vD false]) (an (G7 h1) trivial) (by kernel_rfl)
 cases h2:gU t.re 0 1099511627776
 ·exact d9 mixed (ext:=[75,198,195]) (fuel:=9) (n:=6) (orc:=[vD true,vD false]) (an (G7 h1)<|an (G7 h2) trivial) (by kernel_rfl)
 cases h3:gU t.se (-1) 1099511627776
 ·exact d9 mixed (ext:=[75,198,195]) (fuel:=9) (n:=6) (orc:=[vD true,vD true,vD false]) (an (G7 h1)<|an (G7 h2)<|an (G7 h3) trivial) (by kernel_rfl)
 cases h4:gU t.tr 0 1099511627776
 ·exact d9 mixed (ext:=[75,198,195]) (fuel:=9) (n:=6) (orc:=[vD true,vD true,vD true,vD false]) (an (G7 h1)<|an (G7 h2)<|an (G7 h3)<|an (G7 h4) trivial) (by kernel_rfl)
 ·exact d9 mixed (ext:=[75,198,195]) (fuel:=9) (n:=6) (orc:=[vD true,vD true,vD true,vD true,.bool (gU t.rs 0 7)]) (an (G7 h1)<|an (G7 h2)<|an (G7 h3)<|an (G7 h4)<|an (G7 (b:=gU t.rs 0 7) rfl) trivial) (by kernel_rfl)
theorem XC {t u:Th} {q:Bool} (h:decide (t=u)=q) (x y:Operand):uj Tryz.prog (.binOp .eql 57 x y 57) [thT t,thT u] (.bool q) :=
 nQ (fun x y W=>(gF (by kernel_rfl) x y _ _ W).2) (fun W=>by rw [← h];exact a0J t u W) x y
theorem Qs (t:Th):decide (t=(⟨0,t.ki,t.va,t.un,0,0,0,0,false,t.rs,t.go⟩:Th))=kW t.st t.pc t.re t.se t.tr t.la:=by
 obtain ⟨st,ki,va,un,pc,re,se,tr,la,rs,go⟩:=t
 rw [Bool.eq_iff_iff]
 simp only [decide_eq_true_eq,kW,Bool.and_eq_true,beq_iff_eq,Bool.not_eq_true',Th.mk.injEq]
 simp
theorem MX {t:Th} {b:Bool} (hb:kW t.st t.pc t.re t.se t.tr t.la=b):AC Tryz.prog 149 [thT t] (.bool b) :=
 d9 mixed (ext:=[75,198,195]) (fuel:=9) (n:=6) (orc:=[.bool b]) (an (XC ((Qs t).trans hb) (.tmp 4) (.tmp 6)) trivial) (by kernel_rfl)
theorem pI {t:Th} {b:Bool} (h:thB t=b):AC Tryz.prog 106 [thT t] (.bool b):=by
 subst h;unfold thB
 cases h1:uJ t.st t.ki
 ·exact d9 mixed (ext:=[145,146,147,149]) (fuel:=9) (n:=6) (orc:=[vD false]) (an (mJ h1) trivial) (by kernel_rfl)
 cases h2:iT t.ki t.un t.la
 ·exact d9 mixed (ext:=[145,146,147,149]) (fuel:=9) (n:=6) (orc:=[vD true,vD false]) (an (mJ h1)<|an (nV h2) trivial) (by kernel_rfl)
 cases h3:mV t.pc t.re t.se t.tr t.rs
 ·exact d9 mixed (ext:=[145,146,147,149]) (fuel:=9) (n:=6) (orc:=[vD true,vD true,vD false]) (an (mJ h1)<|an (nV h2)<|an (pJ h3) trivial) (by kernel_rfl)
 cases h4:t.st==0
 ·exact d9 mixed (ext:=[145,146,147,149]) (fuel:=9) (n:=6) (orc:=[vD true,vD true,vD true,.bool true]) (an (mJ h1)<|an (nV h2)<|an (pJ h3)<|an (show (!(t.st==0))=true by simp [h4]) trivial) (by kernel_rfl)
 ·exact d9 mixed (ext:=[145,146,147,149]) (fuel:=9) (n:=6) (orc:=[vD true,vD true,vD true,.bool false,.bool (kW t.st t.pc t.re t.se t.tr t.la)]) (an (mJ h1)<|an (nV h2)<|an (pJ h3)<|an (show (!(t.st==0))=false by simp [h4])<|an (MX (b:=kW t.st t.pc t.re t.se t.tr t.la) rfl) trivial) (by kernel_rfl)
end
section
open Go.ChangeShapes Go.WideShapes Go.ChangeAt Go.RowKit
section
variable {P:Program} {w:World}
theorem qj {base:Nat} (t ty e:TypeId) (i:TypeInfo) (z:Value) (size bytes:Nat) (ht:P.underlying t=some (.slice e)) (hi:P.info? e=some i) (hz:i.zero=some z)
  (hsize:i.size=size) (hby:i.bytes=bytes) (v:Value) (n:Nat) (xs:List Value) (hown:w.ownsRow base e size v n xs)
  (a:Addr) (m c:Nat) (news:List Value) (hl:news.length=m * size) (hnews:∀ j u,news[j]? = some u→w.cell? (a.add j)=some u) (h1:∀ u∈news,u.oneCell' = true)
  (h63:n+m≤maxLen) (hbytes:(n+m) * bytes≤140737488355328) {v' : Value} {w' : World} (hr:(Builtin.append_ #[t,t] ty #[v,.slice (some a) m c]).run P w = .ok v' w') :
  ∀ g,v'.ownBlock=some g→v.ownBlock=some g∨g=w.heap.size:=by
 subst hsize
 subst hby
 rcases hown.2 with ⟨rfl,rfl⟩ | ⟨g,cap,cur,rfl,hbg,hg,hnc,hcm,hcs,htake⟩
 ·by_cases hm:m=0
  ·subst hm
   have hn:news=[]:=List.eq_nil_of_length_eq_zero (by simpa using hl)
   subst hn
   have h2:(Builtin.append_ #[t,t] ty #[.slice none 0 0,.slice (some a) 0 c]).run P w = .ok (.slice none 0 0) w:=by
    simp [Builtin.append_,run_underlying ht,sizeOf,typeInfo,hi,Builtin.lenOf,Builtin.firstCells,loadCells,loadCellsFrom]
   rw [h2] at hr
   cases hr
   intro g hg;simp [Value.ownBlock] at hg
  ·have h2:=run_append_nil (P:=P) w t ty e i z ht hi hz a m c news hl hnews (by omega) (by simp only [maxLen] at h63;omega) (by have hb:=hbytes;simp only [Nat.zero_add] at hb;omega)
   rw [h2] at hr
   cases hr
   intro g hg;simp [Value.ownBlock] at hg;exact .inr hg.symm
 ·by_cases hroom:n+m≤cap
  ·have hfit:n * i.size+news.length≤cur.size:=by rw [hl,hcs,← Nat.add_mul];exact Nat.mul_le_mul_right _ hroom
   have h2:=run_append_room (P:=P) w t ty e i ht hi g n cap cur hg a m c news hl hnews h1 hroom hfit
   rw [h2] at hr
   cases hr
   intro g' hg';exact .inl hg'
  ·have holds:∀ j u,xs[j]? = some u→w.cell? ((⟨g,0,none⟩:Addr).add j)=some u:=hown.cells (g:=g) rfl
   have h2:=run_append_grow (P:=P) w t ty e i z ht hi hz ⟨g,0,none⟩ n cap xs hown.1 holds a m c news hl hnews (by omega) (by simp only [maxLen] at h63;omega) (growslice_fits (by omega) hbytes)
   rw [h2] at hr
   cases hr
   intro g' hg';simp [Value.ownBlock] at hg';exact .inr hg'.symm
theorem FO {wb:World} {α:Type} {ops:Array Oper} {rest:List Oper} {o:Oper} {a:Act} {Q:Exit→Act→World→Prop} (hgd:Region.wanted o (yielded ops a.tmps)=true) (s x:Operand) (t:TypeId)
  (ho:o.op = .call { callee:=.builtin .append,args:=#[s,x],argTypes:=#[t,t] }) {k:Nat} {e:TypeId} {enc:α→List Value} (z:Value) (bytes:Nat) (ht:P.underlying t=some (.slice e))
  (hinfo:(P.info? e).map (fun i=>(i.zero,i.size,i.bytes))=some (some z,k,bytes)) (hzs:z.cells.size=k) (hk:0<k) (he:Enc k enc)
  {v u:Value} {xs ys:List α} (hs:a.eval s=v) (hx:a.eval x=u) (hown:Ow w wb.heap.size e k enc xs v) (hu:Sl w k enc ys u) (hB:Below wb.heap.size wb w)
  (hm:xs.length+ys.length≤maxLen) (hbytes:(xs.length+ys.length) * bytes≤140737488355328)
  (h:∀ v' w',Ow w' wb.heap.size e k enc (xs++ys) v' → Below wb.heap.size wb w' → w.grownBy w' v.ownBlock→(∀ g,v'.ownBlock=some g→v.ownBlock=some g∨g=w.heap.size)→wpList P ops Q rest (a.put o.dst v') w'):wpList P ops Q (o::rest) a w:=by
 obtain ⟨i,hi,hz0,hz1,hz2⟩:=info_parts hinfo
 obtain ⟨p,cap,rfl,hlc,hcm,hp,hc⟩:=hu.is
 cases p with
 | none =>
  have:cap=0:=hp rfl
  subst this
  have:ys=[]:=List.length_eq_zero_iff.1 (by omega)
  subst this
  have hrun:=run_append_owned_none (P:=P) (w:=w) wb.heap.size t o.type e i k ht hi v _ _ hown
  have hx' : a.eval x = .slice none 0 0:=by rw [hx];rfl
  refine wpList_step fun _ hK=>?_
  rw [if_pos hgd]
  unfold Oper.wp
  simp [execOp,ho,resolve,invoke,builtin,hs,hx',hrun,Result.andThen]
  exact hK _ _ (h v w (by rw [List.append_nil];exact hown) hB ⟨rfl,rfl,rfl,Nat.le_refl _,fun _ _ _=>rfl⟩ (fun g hg=>.inl hg))
 | some ad =>
  have hnews:∀ j c,(ys.flatMap enc)[j]? = some c→w.cell? (ad.add j)=some c:=by
   intro j c hj
   have hj' := (List.getElem?_eq_some_iff.1 hj).1
   rw [X4 he] at hj'
   have hne:ys≠[]:=by rintro rfl;simp at hj'
   obtain ⟨b,off,hab,_,hcell⟩:=hc hne
   cases hab
   have hd:j / k<ys.length:=Nat.div_lt_of_lt_mul (by rw [Nat.mul_comm];exact hj')
   have hmo:=Nat.mod_lt j hk
   have hdm:j / k * k+j % k=j:=by rw [Nat.mul_comm];exact Nat.div_add_mod j k
   have h1:=hcell (j / k) ys[j / k] (List.getElem?_eq_getElem hd) (j % k) hmo
   have h2:=flat_get he ys (j / k) (j % k) ys[j / k] (List.getElem?_eq_getElem hd) hmo
   rw [hdm,hj] at h2
   rw [← h2,Nat.add_assoc,hdm] at h1
   rw [← h1]
   congr 1
   unfold Addr.add
   split
   ·rename_i h0;rw [h0];rfl
   ·rfl
  have hone:∀ c∈ys.flatMap enc,c.oneCell' = true:=by
   intro c hc'
   obtain ⟨y,_,hy⟩:=List.mem_flatMap.1 hc'
   exact he.one y c hy
  obtain ⟨v',w',hr,h2,h3,_⟩:=run_append_own (P:=P) w wb.heap.size t o.type e i z k bytes ht hi hz0 hz1 hz2 hzs hk v _ _ hown ad ys.length cap (ys.flatMap enc) (X4 he ys) hnews hone hm hbytes hB.size
  have hb:=qj (P:=P) (w:=w) t o.type e i z k bytes ht hi hz0 hz1 hz2 v _ _ hown ad ys.length cap (ys.flatMap enc) (X4 he ys) hnews hone hm hbytes hr
  have ho' : Ow w' wb.heap.size e k enc (xs++ys) v' := by unfold Ow;rw [List.length_append,List.flatMap_append];exact h2
  refine wpList_step fun _ hK=>?_
  rw [if_pos hgd]
  unfold Oper.wp
  simp [execOp,ho,resolve,invoke,builtin,hs,hx,hr,Result.andThen]
  exact hK _ _ (h v' w' ho' (Ow.below hown hB h3) h3 hb)
theorem uM {wb:World} {α:Type} {ops:Array Oper} {rest:List Oper} {o:Oper} {a:Act} {Q:Exit→Act→World→Prop} (hgd:o.guard=none) (s x:Operand) (t:TypeId)
  (ho:o.op = .call { callee:=.builtin .append,args:=#[s,x],argTypes:=#[t,t] }) {k:Nat} {e:TypeId} {enc:α→List Value} (z:Value) (bytes:Nat) (ht:P.underlying t=some (.slice e))
  (hinfo:(P.info? e).map (fun i=>(i.zero,i.size,i.bytes))=some (some z,k,bytes)) (hzs:z.cells.size=k) (hk:0<k) (he:Enc k enc)
  {v u:Value} {xs ys:List α} (hs:a.eval s=v) (hx:a.eval x=u) (hown:Ow w wb.heap.size e k enc xs v) (hu:Sl w k enc ys u) (hB:Below wb.heap.size wb w)
  (hm:xs.length+ys.length≤maxLen) (hbytes:(xs.length+ys.length) * bytes≤140737488355328)
  (h:∀ v' w',Ow w' wb.heap.size e k enc (xs++ys) v' → Below wb.heap.size wb w' → w.grownBy w' v.ownBlock→(∀ g,v'.ownBlock=some g→v.ownBlock=some g∨g=w.heap.size)→wpList P ops Q rest (a.put o.dst v') w'):wpList P ops Q (o::rest) a w :=
 FO (by simp [Region.wanted,hgd]) s x t ho z bytes ht hinfo hzs hk he hs hx hown hu hB hm hbytes h
theorem OA {α:Type} {ops:Array Oper} {o:Oper} {a:Act} {K:Act→World→Prop} {Q:Exit→Act→World→Prop} {E:Prop} (hgd:o.guard=none) (s x:Operand) (t:TypeId)
  (ho:o.op = .call { callee:=.builtin .append,args:=#[s,x],argTypes:=#[t,t] }) {base k:Nat} {e:TypeId} {enc:α→List Value} (z:Value) (bytes:Nat) (ht:P.underlying t=some (.slice e))
  (hinfo:(P.info? e).map (fun i=>(i.zero,i.size,i.bytes))=some (some z,k,bytes)) (hzs:z.cells.size=k) (hk:0<k) (he:Enc k enc)
  {v u:Value} {xs ys:List α} (hs:a.eval s=v) (hx:a.eval x=u) (hown:Ow w base e k enc xs v) (hu:Sl w k enc ys u) (hne:ys≠[]) (hbase:base≤w.heap.size)
  (hm:xs.length+ys.length≤maxLen) (hbytes:(xs.length+ys.length) * bytes≤140737488355328)
  (h:∀ v' w',Ow w' base e k enc (xs++ys) v' → w.grownBy w' v.ownBlock→(∀ g,v'.ownBlock=some g→v.ownBlock=some g∨g=w.heap.size)→K (a.put o.dst v') w') :
  if Region.wanted o (yielded ops a.tmps)=true then Oper.wp P o a w K Q else E:=by
 rw [if_pos (by simp [Region.wanted,hgd])]
 obtain ⟨i,hi,hz0,hz1,hz2⟩:=info_parts hinfo
 obtain ⟨p,cap,rfl,hlc,hcm,hp,hc⟩:=hu.is
 obtain ⟨b,off,rfl,_,hcell⟩:=hc hne
 have hnews:∀ j c,(ys.flatMap enc)[j]? = some c→w.cell? ((⟨b,off,none⟩:Addr).add j)=some c:=by
  intro j c hj
  have hj' := (List.getElem?_eq_some_iff.1 hj).1
  rw [X4 he] at hj'
  have hd:j / k<ys.length:=Nat.div_lt_of_lt_mul (by rw [Nat.mul_comm];exact hj')
  have hmo:=Nat.mod_lt j hk
  have hdm:j / k * k+j % k=j:=by rw [Nat.mul_comm];exact Nat.div_add_mod j k
  have h1:=hcell (j / k) ys[j / k] (List.getElem?_eq_getElem hd) (j % k) hmo
  have h2:=flat_get he ys (j / k) (j % k) ys[j / k] (List.getElem?_eq_getElem hd) hmo
  rw [hdm,hj] at h2
  rw [← h2,Nat.add_assoc,hdm] at h1
  rw [← h1]
  congr 1
  unfold Addr.add
  split
  ·rename_i h0;rw [h0];rfl
  ·rfl
 have hone:∀ c∈ys.flatMap enc,c.oneCell' = true:=by
  intro c hc'
  obtain ⟨y,_,hy⟩:=List.mem_flatMap.1 hc'
  exact he.one y c hy
 obtain ⟨v',w',hr,h2,h3,_⟩:=run_append_own (P:=P) w base t o.type e i z k bytes ht hi hz0 hz1 hz2 hzs hk v _ _ hown ⟨b,off,none⟩ ys.length cap (ys.flatMap enc) (X4 he ys) hnews hone hm hbytes hbase
 have hb:=qj (P:=P) (w:=w) t o.type e i z k bytes ht hi hz0 hz1 hz2 v _ _ hown ⟨b,off,none⟩ ys.length cap (ys.flatMap enc) (X4 he ys) hnews hone hm hbytes hr
 have ho' : Ow w' base e k enc (xs++ys) v' := by unfold Ow;rw [List.length_append,List.flatMap_append];exact h2
 unfold Oper.wp
 simp [execOp,ho,resolve,invoke,builtin,hs,hx,hr,Result.andThen]
 exact h v' w' ho' h3 hb
end
end
end Go.Proofs.YtfogkllejkmpdaaGreat
