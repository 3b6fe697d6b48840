/- Texts merged: TkCT, StepGT, StepDT, RcET, RcFT, RcGT, FxT, RgmT, RcHT, RcUT, StepHT, StepPT, StepCT. -/
import Derived.Test.YtfogkllejkmpdaaGreatZf15
import Derived.Test.YtfogkllejkmpdaaGreatZf8
import Derived.Test.YtfogkllejkmpdaaGreatZf6
import Derived.Test.YtfogkllejkmpdaaGreatZf11
import Derived.Test.YtfogkllejkmpdaaGreatZf9
import Derived.Test.YtfogkllejkmpdaaGreatZf10
import Derived.Test.YtfogkllejkmpdaaGreatZf4
namespace Go.Proofs.YtfogkllejkmpdaaGreat
set_option linter.unusedVariables false
set_option linter.unusedSimpArgs false
set_option maxRecDepth 100000
section
open Go.RowKit
section
variable {v u:St} {l:List Int} {N i c:Nat} {R:List Du} {x:Exit} {S:Sg}
end
end
section
open Go.RowKit
def RA (P:Program) (ext:List FuncId) (fuel n:Nat) (g:FuncId) (args orc:List Value) (pos:Nat):Option (List Value×Prop) :=
 match zn P ext fuel n g args [] orc with
 | some (.agg xs,H,[],ob)=>match xs.toList[pos]? with
  | some (.slice none 0 0)=>match iD (qB (look H)) xs.toList with
   | some (al,is,ps)=>if is.all (fun i=>(look H i).isSome) then some (al.set pos (.slice none 0 0),J3 (ob++ps)) else none
   | none=>none
  | _=>none
 | _=>none
theorem SQ {P:Program} (hm:P.follows .mixedOrders=true) {ext:List FuncId} {fuel n:Nat} {g:FuncId} {args orc:List Value} {pos:Nat} {cs:List Value} {A:Prop} (hA:A) (h:RA P ext fuel n g args orc pos=some (cs,A)):AC P g args (.agg cs.toArray):=by
 unfold RA at h
 split at h
 ·next xs H ob hev =>
  split at h
  ·next hp =>
   split at h
   ·next al is ps hl =>
    split at h
    ·next his =>
     cases h
     obtain ⟨hb1,hb2⟩:=o6.1 hA
     intro O W vs hlow hat
     have hH:HConc nowhere O [] W:=⟨hlow,fun _ _=>rfl,fun i=>by simp [look,HAt],fun i j b b' g k k' h1=>by simp [look] at h1⟩
     refine (bg hm n _ _ _ _ _ _ _ _ hev hb1 nowhere O W vs hH hat).mono ?_
     rintro e W' ⟨c,ρ',O',rfl,hr,hH',hE⟩
     obtain ⟨us,rfl,hau⟩:=R9.1 hr
     have h5:=bW (H:=look H) (fun v v' c is ob=>gX) hl hb2 (ys:=us.toList) (by simpa using hau) (fun j _=>hH'.hp j)
     have hlen:al.length=us.toList.length:=by have:=h5.1;simpa using this.symm
     have hat2:AtAll (Rp nowhere (N9 ρ' O' is) W') (al.set pos (.slice none 0 0)).toArray us:=by
      refine ⟨by simpa using hlen.symm,fun j x hx=>?_⟩
      simp only [List.getElem?_toArray,List.getElem?_set] at hx
      split at hx
      ·next e =>
       subst e
       obtain ⟨u,hu,hru⟩:=hau.2 pos _ (by simpa using hp)
       split at hx
       ·cases hx
        exact ⟨_,hu,Y2.2 (Y2.1 hru)⟩
       ·cases hx
      ·obtain ⟨y,hy,hr'⟩:=h5.2 j x (by simpa using hx)
       exact ⟨y,by simpa using hy,hr'⟩
     refine ⟨_,rfl,(R9.2 ⟨us,rfl,hat2⟩:Rp nowhere (N9 ρ' O' is) W' _ _).mono ⟨Nat.le_refl _,fun g _ hn=>⟨fun hO=>hn ⟨hE.keepO g hO fun i b hb=>by simp [look] at hb,fun i hi k hk=>?_⟩,rfl⟩,Shp.of_same fun _ _=>rfl⟩ (Sub.refl _),⟨hE.str.2.1,hE.str.1,hE.str.2.2,hE.still.size,fun g hg=>hE.blk g hg fun i b hb=>by simp [look] at hb⟩⟩
     rcases hE.new i _ hk with h2 | ⟨-,h2⟩
     ·cases h2
     ·have:=hlow g hO
      rcases h2 with h2 | ⟨j,b,k,h2,-⟩
      ·simp at h2;omega
      ·simp [look] at h2
    ·cases h
   ·cases h
  ·cases h
 ·cases h
def stN (s:St):Array Value:=#[.int .i64 s.cf.lg,.int .i64 s.cf.th,.int .i64 s.cf.po,.int .i64 s.cf.wt,.int .i64 s.cf.sp,.int .i64 s.cf.yi,.bool s.cf.si,.int .i64 s.hd,.int .i64 s.tl,.int .i64 s.md,U0 s.sl,l5 s.sn,l5 s.rc,.int .i64 s.fe,l5 s.fl,.int .i64 s.ee,l5 s.el,.int .i64 s.nw,aT s.th,.slice none 0 0]
theorem ni {s:St} {i:Int} (hA:hasB s i=false) (ho:s.ok) (hf:s.fit) (hl:s.lg≠[]):AO Tryz.prog 154 [stT s,.int .i64 i] (stL s) 19 5 :=
 kS mixed (ext:=[199,229,228,230]) (fuel:=9) (n:=5) (pos:=19) (orc:=[vD false,U0 s.sl,l5 s.sn,l5 s.rc,l5 s.fl,l5 s.el,aT s.th,K5 s.lg])
  (an (fQ hA ho)<|an (bi s.sl hf.sl)<|an (C9 s.sn hf.sn)<|an (C9 s.rc hf.rc)<|an (C9 s.fl hf.fl)<|an (C9 s.el hf.el)<|an (rP s.th hf.th)<|an (X5 s.lg)<|an (P6 (f:=enT) hl hf.lg)<|an (show s.lg.length=s.lg.length∧s.lg.length=(s.lg.map enT).length from ⟨rfl,by simp⟩) trivial) (by kernel_rfl)
theorem jK {s:St} {i:Int} (hA:hasB s i=false) (ho:s.ok) (hf:s.fit) (hl:s.lg=[]):AC Tryz.prog 154 [stT s,.int .i64 i] (.agg (stN s)) :=
 SQ mixed (ext:=[199,229,228,230]) (fuel:=9) (n:=5) (pos:=19) (orc:=[vD false,U0 s.sl,l5 s.sn,l5 s.rc,l5 s.fl,l5 s.el,aT s.th,.slice none 0 0])
  (an (fQ hA ho)<|an (bi s.sl hf.sl)<|an (C9 s.sn hf.sn)<|an (C9 s.rc hf.rc)<|an (C9 s.fl hf.fl)<|an (C9 s.el hf.el)<|an (rP s.th hf.th)<|an (X5 s.lg)<|an (show s.lg.length=0 by rw [hl];rfl) trivial) (by kernel_rfl)
end
section
open Go.RowKit
def stW (s:St) (v:Value):List Value:=[.int .i64 s.cf.lg,.int .i64 s.cf.th,.int .i64 s.cf.po,.int .i64 s.cf.wt,.int .i64 s.cf.sp,.int .i64 s.cf.yi,.bool s.cf.si,.int .i64 s.hd,.int .i64 s.tl,.int .i64 s.md,U0 s.sl,l5 s.sn,l5 s.rc,.int .i64 s.fe,l5 s.fl,.int .i64 s.ee,l5 s.el,.int .i64 s.nw,aT s.th,v]
def bSt (s:St) (v:Value):Option Blk:=some ⟨true,false,20,1,[.agg (stW s v).toArray]⟩
def bLg (l:List En):Option Blk:=some ⟨true,true,5,l.length,l.map enT⟩
def b1P (v:Value):Option Blk:=some ⟨true,false,1,1,[v]⟩
def lgO (l:List En):Value:=.slice (some ⟨8,0,some 0⟩) l.length 0
def lgN:Value:=.slice none 0 0
def sdV (f:FuncId):Value:=.agg #[.func (.func f) #[] #[]]
def bSd:Option Blk:=some ⟨true,false,0,0,[.agg #[.int .i64 1,sdV 249],.agg #[.int .i64 2,sdV 250],.agg #[.int .i64 3,sdV 251]]⟩
def pkH (s:St) (b:Bool) (v:Value):List (Option Blk):=[bSt s v,bZ,b1P (pt 0),b1P (pt 0),b1P (vD b),bSd,b1P (.func (.func 247) #[] #[pt 4,pt 3]),b1P (.map (some 5))]
def hO (s:St) (b:Bool):List (Option Blk):=pkH s b (lgO s.lg)++[bLg s.lg]
def hN (s:St) (b:Bool):List (Option Blk):=pkH s b lgN
def pkX:List FuncId:=[154,42,248,109,249,250,251]
end
section
open Go.RowKit
def UJ (x:Nat) (b:Value) (g:Nat) (k:Int):Value:=.func (.func 302) #[] #[vFz [.func (.func g) #[pt x] #[]],b,vFz [.int .i64 k]]
def BM (x:Nat) (g:Nat):Value:=.func (.func g) #[pt x] #[]
def vEn (k:Int) (v:Value):Value:=.agg #[.int .i64 k,v]
def GM (x:Nat) (b:Value):List Value:=[vEn 0 (UJ x b 304 1),vEn 1 (BM x 305),vEn 2 (BM x 306),vEn 3 (BM x 307),vEn 4 (UJ x b 308 6),vEn 5 (UJ x b 309 7),vEn 6 (UJ x b 310 9),vEn 7 (BM x 311),vEn 8 (BM x 312)]
def bMp (x:Nat) (b:Value):Option Blk:=some ⟨true,false,0,0,GM x b++[vEn 9 (BM x 313),vEn 10 (BM x 313),vEn 11 (BM x 313)]⟩
def bBx (x:Nat):Option Blk:=some ⟨true,false,1,1,[pt x]⟩
def hdV (s:St) (i m o:Int) (N:Nat):Sg:=⟨mkT 41 [(2,.int .i64 m),(6,pt 2),(8,pt 0),(9,.map (some 4)),(10,.int .i64 o)],[bX s i N,bT s.th N,bZ,bBx 0,bMp 0 (pt 3)]⟩
structure Rv (s:St) (n:Nat) (t:Th) (c m o:Int):Prop where
 lt:decide (o<min m 1000)=true
 ck:stB s=true
 ok:s.ok
 hn:n<s.th.length
 ht:gth s.th n=pcT t c
 rs:H7 t.st=0
 sd:j6 t.ki=2
 fit:s.fit
 o1:In64 (o+1)
section
variable {s:St} {n:Nat} {t:Th} {c m o:Int}
theorem Rv.ge (_h:Rv s n t c m o):decide ((n:Int)<0)=false:=by simp
theorem Rv.le (h:Rv s n t c m o):decide ((s.th.length:Int)≤n)=false:=by have:=h.hn;simp;omega
theorem Rv.el (h:Rv s n t c m o):ElP (s.th.map thT) (0+(n:Int).toNat) (thT (pcT t c)):=h.ht ▸ elT h.hn
theorem Rv.ru (h:Rv s n t c m o):AC Tryz.prog 248 [thT (pcT t c)] (.int .i64 0):=V6 (t:=pcT t c) h.rs
theorem Rv.si (h:Rv s n t c m o):AC Tryz.prog 109 [.int .i64 (pcT t c).ki] (.int .i64 2):=by have:=O8 (pcT t c).ki;exact h.sd ▸ this
theorem Rv.id (h:Rv s n t c m o):0≤(n:Int)∧(n:Int).toNat<s.th.length:=idT h.hn
theorem Rv.ln (_h:Rv s n t c m o):pu s.th.length s.th.length (s.th.map thT):=l7 s.th
theorem Rv.pa {B:Prop} (h:Rv s n t c m o) (k:B):decide (o<min m 1000)=true∧pu s.th.length s.th.length (s.th.map thT)∧AC Tryz.prog 42 [stT s] (.bool true)∧decide ((n:Int)<0)=false∧decide ((s.th.length:Int)≤n)=false∧(0≤(n:Int)∧(n:Int).toNat<s.th.length)∧ElP (s.th.map thT) (0+(n:Int).toNat) (thT (pcT t c))∧AC Tryz.prog 248 [thT (pcT t c)] (.int .i64 0)∧(0≤(n:Int)∧(n:Int).toNat<s.th.length)∧ElP (s.th.map thT) (0+(n:Int).toNat) (thT (pcT t c))∧AC Tryz.prog 109 [.int .i64 (pcT t c).ki] (.int .i64 2)∧(0≤(n:Int)∧(n:Int).toNat<s.th.length)∧ElP (s.th.map thT) (0+(n:Int).toNat) (thT (pcT t c))∧B:=an h.lt<|an h.ln<|an (o7 h.ck h.ok)<|an h.ge<|an h.le<|an h.id<|an h.el<|an h.ru<|an h.id<|an h.el<|an h.si<|an h.id<|an h.el k
theorem Rv.ln1 (_h:Rv s n t c m o) (u:Th):pu s.th.length (s.th.set n u).length ((s.th.set n u).map thT):=⟨by simp,by simp⟩
theorem Rv.has (h:Rv s n t c m o):hasB s n=true:=J5.2 ⟨h.ck,by omega,by have:=h.hn;omega⟩
theorem Rv.nk (h:Rv s n t c m o):(t.ki != 9)=true:=by
 have:=h.sd
 by_cases e:t.ki=9
 ·rw [e] at this;exact absurd this (by decide)
 ·simp [e]
theorem Rv.tell {r:Int} (h:Rv s n t c m o):AO Tryz.prog 335 [stT s,.int .i64 n,.int .i64 t.ki,.int .i64 r,.int .i64 0] (stL ((s.setTh n (rgT (pcT t c) r 0)).addLg (tlE s n t.ki r 0))) 18 11:=BR h.has h.ht h.nk h.ok h.fit
theorem Rv.ids (h:Rv s n t c m o) (u:Th):0≤(n:Int)∧(n:Int).toNat<(s.th.set n u).length:=idT (by rw [List.length_set];exact h.hn)
theorem Rv.idw (h:Rv s n t c m o) (q:Nat) (u:Th):0≤(n:Int)∧(n:Int).toNat<(s.th.set q u).length:=idT (by rw [List.length_set];exact h.hn)
theorem Rv.ids2 (h:Rv s n t c m o) (u v:Th):0≤(n:Int)∧(n:Int).toNat<((s.th.set n u).set n v).length:=idT (by rw [List.length_set,List.length_set];exact h.hn)
theorem Rv.el22 (h:Rv s n t c m o) (u v:Th):ElP (((s.th.set n u).set n v).map thT) (0+(n:Int).toNat) (thT v):=el2 (by rw [List.length_set];exact h.hn) v
theorem Rv.el23 (h:Rv s n t c m o) (u v w:Th):ElP ((((s.th.set n u).set n v).set n w).map thT) (0+(n:Int).toNat) (thT w):=el2 (by rw [List.length_set,List.length_set];exact h.hn) w
theorem Rv.len (h:Rv s n t c m o):In64 (s.sl.length:Int):=by have:=h.fit.sl;constructor <;> omega
theorem Rv.sees {r:Int} (h:Rv s n t c m o) (hs:G6 s=r):AC Tryz.prog 348 [wdT s.hd s.tl s.md,.int .i64 s.sl.length] (.tuple #[.int .i64 (F8 s),.int .i64 r]):=hs ▸ EO s.hd s.tl s.md s.sl.length h.ok.hd h.ok.tl h.ok.md h.len
theorem Rv.take {r v p:Int} (h:Rv s n t c m o) (hs:G6 s=r) (hH:tkH s.hd s.tl s.md s.sl.length=v) (hP:tkP s.hd s.tl s.md s.sl.length=p):AC Tryz.prog 342 [wdT s.hd s.tl s.md,.int .i64 s.sl.length] (.tuple #[wdT v s.tl s.md,.int .i64 p,.int .i64 r]):=hs ▸ hH ▸ hP ▸ Kl h.ok.hd h.ok.tl h.ok.md h.len
theorem Rv.tell3 {g:Int} (h:Rv s n t c m o) (hA:hasB ((s.toWord (s.hd+1) s.tl s.md).setTh n (l8 t s.hd 3)) n=true) (ho:((s.toWord (s.hd+1) s.tl s.md).setTh n (l8 t s.hd 3)).ok) (hf:((s.toWord (s.hd+1) s.tl s.md).setTh n (l8 t s.hd 3)).fit) :
  AO Tryz.prog 335 [stT ((s.toWord (s.hd+1) s.tl s.md).setTh n (l8 t s.hd 3)),.int .i64 n,.int .i64 t.ki,.int .i64 1,.int .i64 g] (stL ((((s.toWord (s.hd+1) s.tl s.md).setTh n (l8 t s.hd 3)).setTh n (rgT (l8 t s.hd 3) 1 g)).addLg (tlE ((s.toWord (s.hd+1) s.tl s.md).setTh n (l8 t s.hd 3)) n t.ki 1 g))) 18 11:=by
 have:=Lc (k:=t.ki) (r:=1) (g:=g) hA h.nk ho hf
 rw [show gth ((s.toWord (s.hd+1) s.tl s.md).setTh n (l8 t s.hd 3)).th n=l8 t s.hd 3 from by show gth (s.th.set n _) n=_;rw [H9 h.hn,if_pos rfl]] at this
 exact this
end
end
abbrev qL2:=j4 Tryz.prog (j3 Tryz.prog 262 0)
section
open Go.RowKit
section
variable {s:St} {n:Nat} {t:Th} {m o:Int} {x:Exit} {S:Sg}
theorem Rj (h:Rv s n t 0 m o) (hm:s.rc.length≤999999) (hL:qL2 (hdV ((s.toRc (Z0 s.rc n)).setTh n (pcT t 1)) n m (o+1) (s.th.length)) x S):qL2 (hdV s n m o s.th.length) x S :=
 j5 mixed (fuel:=9) (n:=12) (im:=[0,1,2,3,4]) (keep:=[2,6,8,9,10]) (ext:=[42,248,109,319]) (orc:=sPO t 0 2++[.tuple #[l5 (Z0 s.rc n),.int .i64 (aX s.rc n)],thT (pcT t 0),F4 s.th.length ((s.th.set n (pcT t 1)).map thT)])
  (h.pa<|an (uA s.rc n hm)<|an (h.id)<|an (h.el)<|an (K4 s.th n (pcT t 1)) <|  an h.o1 trivial) (by kernel_rfl) hL
theorem RB (h:Rv s n t 1 m o) (hp:(plI s.rc n==0)=true) (hL:qL2 (hdV (s.setTh n (pcT t 2)) n m (o+1) (s.th.length)) x S):qL2 (hdV s n m o s.th.length) x S :=
 j5 mixed (fuel:=9) (n:=12) (im:=[0,1,2,3,4]) (keep:=[2,6,8,9,10]) (ext:=[42,248,109,321]) (orc:=sPO t 1 2++[vD true,thT (pcT t 1),F4 s.th.length ((s.th.set n (pcT t 2)).map thT)])
  (h.pa<|an (gH hp)<|an (h.id)<|an (h.el)<|an (K4 s.th n (pcT t 2)) <|  an h.o1 trivial) (by kernel_rfl) hL
theorem ML (h:Rv s n t 1 m o) (hp:(plI s.rc n==0)=false) (hl:t.la=true) (hL:qL2 (hdV (((s.setTh n (rgT (pcT t 1) 5 0)).addLg (tlE s n t.ki 5 0)).setTh n (pcT (rgT t 5 0) 9)) n m (o+1) ((s.th.set n (rgT (pcT t 1) 5 0)).length)) x S):qL2 (hdV s n m o s.th.length) x S :=
 j5 mixed (fuel:=9) (n:=12) (im:=[0,5,2,3,4]) (keep:=[2,6,8,9,10]) (ext:=[42,248,109,321,335]) (orc:=sPO t 1 2++[vD false,thT (pcT t 1),.bool true,thT (pcT t 1),.iface 1000004 (.func (.yield 18) #[.agg (stL ((s.setTh n (rgT (pcT t 1) 5 0)).addLg (tlE s n t.ki 5 0))),.int .i64 11] #[]),thT (rgT (pcT t 1) 5 0),F4 (s.th.set n (rgT (pcT t 1) 5 0)).length (((s.th.set n (rgT (pcT t 1) 5 0)).set n (pcT (rgT t 5 0) 9)).map thT)])
  (h.pa<|an (gH hp)<|an (h.id)<|an (h.el)<|an (hl)<|an (h.id)<|an (h.el)<|an (h.ln)<|an (h.tell (r:=5))<|an (h.ids (rgT (pcT t 1) 5 0))<|an (el2 h.hn (rgT (pcT t 1) 5 0))<|an (K4 (s.th.set n (rgT (pcT t 1) 5 0)) n (pcT (rgT t 5 0) 9)) <|  an h.o1 trivial) (by kernel_rfl) hL
theorem Ox (h:Rv s n t 1 m o) (hp:(plI s.rc n==0)=false) (hl:t.la=false) (hr:In64 (t.tr+1)) (hL:qL2 (hdV (s.setTh n (qF (pcT t 1))) n m (o+1) (s.th.length)) x S):qL2 (hdV s n m o s.th.length) x S :=
 j5 mixed (fuel:=9) (n:=12) (im:=[0,1,2,3,4]) (keep:=[2,6,8,9,10]) (ext:=[42,248,109,321]) (orc:=sPO t 1 2++[vD false,thT (pcT t 1),.bool false,thT (pcT t 1),thT (pcT t 1),F4 s.th.length ((s.th.set n (qF (pcT t 1))).map thT)])
  (h.pa<|an (gH hp)<|an (h.id)<|an (h.el)<|an (hl)<|an (h.id)<|an (h.el)<|an (hr)<|an (h.el)<|an (K4 s.th n (qF (pcT t 1))) <|  an h.o1 trivial) (by kernel_rfl) hL
theorem RL (h:Rv s n t 2 m o) (hs:G6 s=1) (hL:qL2 (hdV (s.setTh n (pcT t 3)) n m (o+1) (s.th.length)) x S):qL2 (hdV s n m o s.th.length) x S :=
 j5 mixed (fuel:=9) (n:=12) (im:=[0,1,2,3,4]) (keep:=[2,6,8,9,10]) (ext:=[42,248,109,348]) (orc:=sPO t 2 2++[.tuple #[.int .i64 (F8 s),.int .i64 1],.nilFunc,thT (pcT t 2),F4 s.th.length ((s.th.set n (pcT t 3)).map thT)])
  (h.pa<|an (h.sees hs)<|an (h.id)<|an (h.el)<|an (K4 s.th n (pcT t 3)) <|  an h.o1 trivial) (by kernel_rfl) hL
theorem Qi (h:Rv s n t 2 m o) (hs:G6 s=4) (hk:fE t.ki=true) (hL:qL2 (hdV (((s.setTh n (rgT (pcT t 2) 4 0)).addLg (tlE s n t.ki 4 0)).setTh n (pcT (rgT t 4 0) 9)) n m (o+1) ((s.th.set n (rgT (pcT t 2) 4 0)).length)) x S):qL2 (hdV s n m o s.th.length) x S :=
 j5 mixed (fuel:=9) (n:=12) (im:=[0,5,2,3,4]) (keep:=[2,6,8,9,10]) (ext:=[42,248,109,348,335,364]) (orc:=sPO t 2 2++[.tuple #[.int .i64 (F8 s),.int .i64 4],.nilFunc,.nilFunc,thT (pcT t 2),vD true,thT (pcT t 2),.iface 1000004 (.func (.yield 18) #[.agg (stL ((s.setTh n (rgT (pcT t 2) 4 0)).addLg (tlE s n t.ki 4 0))),.int .i64 11] #[]),thT (rgT (pcT t 2) 4 0),F4 (s.th.set n (rgT (pcT t 2) 4 0)).length (((s.th.set n (rgT (pcT t 2) 4 0)).set n (pcT (rgT t 4 0) 9)).map thT)])
  (h.pa<|an (h.sees hs)<|an (h.id)<|an (h.el)<|an (fC hk)<|an (h.id)<|an (h.el)<|an (h.ln)<|an (h.tell (r:=4))<|an (h.ids (rgT (pcT t 2) 4 0))<|an (el2 h.hn (rgT (pcT t 2) 4 0))<|an (K4 (s.th.set n (rgT (pcT t 2) 4 0)) n (pcT (rgT t 4 0) 9)) <|  an h.o1 trivial) (by kernel_rfl) hL
theorem Tw (h:Rv s n t 2 m o) (hs:G6 s=4) (hk:fE t.ki=false) (hl:t.la=true) (hL:qL2 (hdV (((s.setTh n (rgT (pcT t 2) 5 0)).addLg (tlE s n t.ki 5 0)).setTh n (pcT (rgT t 5 0) 9)) n m (o+1) ((s.th.set n (rgT (pcT t 2) 5 0)).length)) x S):qL2 (hdV s n m o s.th.length) x S :=
 j5 mixed (fuel:=9) (n:=12) (im:=[0,5,2,3,4]) (keep:=[2,6,8,9,10]) (ext:=[42,248,109,348,335,364]) (orc:=sPO t 2 2++[.tuple #[.int .i64 (F8 s),.int .i64 4],.nilFunc,.nilFunc,thT (pcT t 2),vD false,thT (pcT t 2),.bool true,thT (pcT t 2),.iface 1000004 (.func (.yield 18) #[.agg (stL ((s.setTh n (rgT (pcT t 2) 5 0)).addLg (tlE s n t.ki 5 0))),.int .i64 11] #[]),thT (rgT (pcT t 2) 5 0),F4 (s.th.set n (rgT (pcT t 2) 5 0)).length (((s.th.set n (rgT (pcT t 2) 5 0)).set n (pcT (rgT t 5 0) 9)).map thT)])
  (h.pa<|an (h.sees hs)<|an (h.id)<|an (h.el)<|an (fC hk)<|an (h.el)<|an (hl)<|an (h.id)<|an (h.el)<|an (h.ln)<|an (h.tell (r:=5))<|an (h.ids (rgT (pcT t 2) 5 0))<|an (el2 h.hn (rgT (pcT t 2) 5 0))<|an (K4 (s.th.set n (rgT (pcT t 2) 5 0)) n (pcT (rgT t 5 0) 9)) <|  an h.o1 trivial) (by kernel_rfl) hL
theorem Pi (h:Rv s n t 2 m o) (hs:G6 s=4) (hk:fE t.ki=false) (hl:t.la=false) (hn:ve s (max t.tr 0)=2) (hL:qL2 (hdV (s.setTh n (pcT t 5)) n m (o+1) (s.th.length)) x S):qL2 (hdV s n m o s.th.length) x S :=
 j5 mixed (fuel:=9) (n:=12) (im:=[0,1,2,3,4]) (keep:=[2,6,8,9,10]) (ext:=[42,248,109,348,364,365]) (orc:=sPO t 2 2++[.tuple #[.int .i64 (F8 s),.int .i64 4],.nilFunc,.nilFunc,thT (pcT t 2),vD false,thT (pcT t 2),.bool false,thT (pcT t 2),.int .i64 2,.nilFunc,thT (pcT t 2),F4 s.th.length ((s.th.set n (pcT t 5)).map thT)])
  (h.pa<|an (h.sees hs)<|an (h.id)<|an (h.el)<|an (fC hk)<|an (h.el)<|an (hl)<|an (h.el)<|an (nL hn)<|an (h.id)<|an (h.el)<|an (K4 s.th n (pcT t 5)) <|  an h.o1 trivial) (by kernel_rfl) hL
theorem PD (h:Rv s n t 2 m o) (hs:G6 s=4) (hk:fE t.ki=false) (hl:t.la=false) {r:Int} (hn:ve s (max t.tr 0)=r) (hr2:(r==2)=false) (hr:In64 (t.tr+1)) (hL:qL2 (hdV (s.setTh n (qF (pcT t 2))) n m (o+1) (s.th.length)) x S):qL2 (hdV s n m o s.th.length) x S :=
 j5 mixed (fuel:=9) (n:=12) (im:=[0,1,2,3,4]) (keep:=[2,6,8,9,10]) (ext:=[42,248,109,348,364,365]) (orc:=sPO t 2 2++[.tuple #[.int .i64 (F8 s),.int .i64 4],.nilFunc,.nilFunc,thT (pcT t 2),vD false,thT (pcT t 2),.bool false,thT (pcT t 2),.int .i64 r,.bool false,thT (pcT t 2),thT (pcT t 2),F4 s.th.length ((s.th.set n (qF (pcT t 2))).map thT)])
  (h.pa<|an (h.sees hs)<|an (h.id)<|an (h.el)<|an (fC hk)<|an (h.el)<|an (hl)<|an (h.el)<|an (nL hn)<|an (hr2)<|an (h.id)<|an (h.el)<|an (hr)<|an (h.el)<|an (K4 s.th n (qF (pcT t 2))) <|  an h.o1 trivial) (by kernel_rfl) hL
theorem Px (h:Rv s n t 2 m o) {r:Int} (hs:G6 s=r) (h1:(r==1)=false) (h2:(r==4)=false) (hL:qL2 (hdV (((s.setTh n (rgT (pcT t 2) r 0)).addLg (tlE s n t.ki r 0)).setTh n (pcT (rgT t r 0) 9)) n m (o+1) ((s.th.set n (rgT (pcT t 2) r 0)).length)) x S):qL2 (hdV s n m o s.th.length) x S :=
 j5 mixed (fuel:=9) (n:=12) (im:=[0,5,2,3,4]) (keep:=[2,6,8,9,10]) (ext:=[42,248,109,348,335]) (orc:=sPO t 2 2++[.tuple #[.int .i64 (F8 s),.int .i64 r],.bool false,.bool false,thT (pcT t 2),.iface 1000004 (.func (.yield 18) #[.agg (stL ((s.setTh n (rgT (pcT t 2) r 0)).addLg (tlE s n t.ki r 0))),.int .i64 11] #[]),thT (rgT (pcT t 2) r 0),F4 (s.th.set n (rgT (pcT t 2) r 0)).length (((s.th.set n (rgT (pcT t 2) r 0)).set n (pcT (rgT t r 0) 9)).map thT)])
  (h.pa<|an (h.sees hs)<|an (h1)<|an (h2)<|an (h.id)<|an (h.el)<|an (h.ln)<|an (h.tell (r:=r))<|an (h.ids (rgT (pcT t 2) r 0))<|an (el2 h.hn (rgT (pcT t 2) r 0))<|an (K4 (s.th.set n (rgT (pcT t 2) r 0)) n (pcT (rgT t r 0) 9)) <|  an h.o1 trivial) (by kernel_rfl) hL
theorem Qe (h:Rv s n t 3 m o) (hs:G6 s=1) (hH:tkH s.hd s.tl s.md s.sl.length=s.hd+1) (hP:tkP s.hd s.tl s.md s.sl.length=s.hd) {g:Int} (hv:Q7 ((s.toWord (s.hd+1) s.tl s.md).setTh n (l8 t s.hd 3)) s.hd=g) (hA:hasB ((s.toWord (s.hd+1) s.tl s.md).setTh n (l8 t s.hd 3)) n=true) (ho:((s.toWord (s.hd+1) s.tl s.md).setTh n (l8 t s.hd 3)).ok) (hf:((s.toWord (s.hd+1) s.tl s.md).setTh n (l8 t s.hd 3)).fit) (hL:qL2 (hdV (((((s.toWord (s.hd+1) s.tl s.md).setTh n (l8 t s.hd 3)).setTh n (rgT (l8 t s.hd 3) 1 g)).addLg (tlE ((s.toWord (s.hd+1) s.tl s.md).setTh n (l8 t s.hd 3)) n t.ki 1 g)).setTh n (pcT (rgT (l8 t s.hd 3) 1 g) 4)) n m (o+1) (((s.th.set n (l8 t s.hd 3)).set n (rgT (l8 t s.hd 3) 1 g)).length)) x S):qL2 (hdV s n m o s.th.length) x S :=
 j5 mixed (fuel:=9) (n:=12) (im:=[0,6,2,3,4]) (keep:=[2,6,8,9,10]) (ext:=[42,248,109,342,336,335]) (orc:=sPO t 3 2++[.tuple #[wdT (s.hd+1) s.tl s.md,.int .i64 s.hd,.int .i64 1],.nilFunc,thT (pcT t 3),F4 (s.th.set n (l8 t s.hd 3)).length ((s.th.set n (l8 t s.hd 3)).map thT),.int .i64 g,thT (l8 t s.hd 3),.iface 1000004 (.func (.yield 18) #[.agg (stL ((((s.toWord (s.hd+1) s.tl s.md).setTh n (l8 t s.hd 3)).setTh n (rgT (l8 t s.hd 3) 1 g)).addLg (tlE ((s.toWord (s.hd+1) s.tl s.md).setTh n (l8 t s.hd 3)) n t.ki 1 g))),.int .i64 11] #[]),thT (rgT (l8 t s.hd 3) 1 g),F4 ((s.th.set n (l8 t s.hd 3)).set n (rgT (l8 t s.hd 3) 1 g)).length ((((s.th.set n (l8 t s.hd 3)).set n (rgT (l8 t s.hd 3) 1 g)).set n (pcT (rgT (l8 t s.hd 3) 1 g) 9)).map thT),thT (pcT (rgT (l8 t s.hd 3) 1 g) 9),F4 ((s.th.set n (l8 t s.hd 3)).set n (rgT (l8 t s.hd 3) 1 g)).length ((((s.th.set n (l8 t s.hd 3)).set n (rgT (l8 t s.hd 3) 1 g)).set n (pcT (rgT (l8 t s.hd 3) 1 g) 4)).map thT)])
  (h.pa<|an (h.take hs hH hP)<|an (h.id)<|an (h.el)<|an (K4 s.th n (l8 t s.hd 3))<|an (h.ln1 (l8 t s.hd 3))<|an (hv ▸ Bf ((s.toWord (s.hd+1) s.tl s.md).setTh n (l8 t s.hd 3)) s.hd ho h.ok.hd)<|an (h.id)<|an (el2 h.hn (l8 t s.hd 3))<|an (h.ln1 (l8 t s.hd 3))<|an (h.tell3 (g:=g) hA ho hf)<|an (h.ids2 (l8 t s.hd 3) (rgT (l8 t s.hd 3) 1 g))<|an (h.el22 (l8 t s.hd 3) (rgT (l8 t s.hd 3) 1 g))<|an (K4 ((s.th.set n (l8 t s.hd 3)).set n (rgT (l8 t s.hd 3) 1 g)) n (pcT (rgT (l8 t s.hd 3) 1 g) 9))<|an (h.ids2 (l8 t s.hd 3) (rgT (l8 t s.hd 3) 1 g))<|an (h.el23 (l8 t s.hd 3) (rgT (l8 t s.hd 3) 1 g) (pcT (rgT (l8 t s.hd 3) 1 g) 9))<|an (set2 ((s.th.set n (l8 t s.hd 3)).set n (rgT (l8 t s.hd 3) 1 g)) n (pcT (rgT (l8 t s.hd 3) 1 g) 9) (pcT (rgT (l8 t s.hd 3) 1 g) 4)) <|  an h.o1 trivial) (by kernel_rfl) hL
theorem TT (h:Rv s n t 3 m o) (hs:G6 s=4) (hL:qL2 (hdV (s.setTh n (pcT t 2)) n m (o+1) (s.th.length)) x S):qL2 (hdV s n m o s.th.length) x S :=
 j5 mixed (fuel:=9) (n:=12) (im:=[0,1,2,3,4]) (keep:=[2,6,8,9,10]) (ext:=[42,248,109,342]) (orc:=sPO t 3 2++[.tuple #[wdT (tkH s.hd s.tl s.md s.sl.length) s.tl s.md,.int .i64 (tkP s.hd s.tl s.md s.sl.length),.int .i64 4],.nilFunc,.nilFunc,thT (pcT t 3),F4 s.th.length ((s.th.set n (pcT t 2)).map thT)])
  (h.pa<|an (h.take hs rfl rfl)<|an (h.id)<|an (h.el)<|an (K4 s.th n (pcT t 2)) <|  an h.o1 trivial) (by kernel_rfl) hL
theorem Ui (h:Rv s n t 3 m o) {r:Int} (hs:G6 s=r) (h1:(r==1)=false) (h2:(r==4)=false) (hL:qL2 (hdV (((s.setTh n (rgT (pcT t 3) r 0)).addLg (tlE s n t.ki r 0)).setTh n (pcT (rgT t r 0) 9)) n m (o+1) ((s.th.set n (rgT (pcT t 3) r 0)).length)) x S):qL2 (hdV s n m o s.th.length) x S :=
 j5 mixed (fuel:=9) (n:=12) (im:=[0,6,2,3,4]) (keep:=[2,6,8,9,10]) (ext:=[42,248,109,342,335]) (orc:=sPO t 3 2++[.tuple #[wdT (tkH s.hd s.tl s.md s.sl.length) s.tl s.md,.int .i64 (tkP s.hd s.tl s.md s.sl.length),.int .i64 r],.bool false,.bool false,thT (pcT t 3),.iface 1000004 (.func (.yield 18) #[.agg (stL ((s.setTh n (rgT (pcT t 3) r 0)).addLg (tlE s n t.ki r 0))),.int .i64 11] #[]),thT (rgT (pcT t 3) r 0),F4 (s.th.set n (rgT (pcT t 3) r 0)).length (((s.th.set n (rgT (pcT t 3) r 0)).set n (pcT (rgT t r 0) 9)).map thT)])
  (h.pa<|an (h.take hs rfl rfl)<|an (h1)<|an (h2)<|an (h.id)<|an (h.el)<|an (h.ln)<|an (h.tell (r:=r))<|an (h.ids (rgT (pcT t 3) r 0))<|an (el2 h.hn (rgT (pcT t 3) r 0))<|an (K4 (s.th.set n (rgT (pcT t 3) r 0)) n (pcT (rgT t r 0) 9)) <|  an h.o1 trivial) (by kernel_rfl) hL
theorem VA (h:Rv s n t 4 m o) (hm:s.sl.length≤1000) (hr:In64 t.re) (hL:qL2 (hdV ((s.toSl (rlL s.sl t.re)).setTh n (G5 t (rdV s.sl t.re) 6)) n m (o+1) (s.th.length)) x S):qL2 (hdV s n m o s.th.length) x S :=
 j5 mixed (fuel:=9) (n:=12) (im:=[0,1,2,3,4]) (keep:=[2,6,8,9,10]) (ext:=[42,248,109,343,337]) (orc:=sPO t 4 2++[thT (pcT t 4),.tuple #[.int .i64 (rdV s.sl t.re),.int .i64 (rdE s.sl t.re)],thT (pcT t 4),F4 s.th.length ((s.th.set n (G5 t (rdV s.sl t.re) 4)).map thT),thT (G5 t (rdV s.sl t.re) 4),.tuple #[U0 (rlL s.sl t.re),.int .i64 (rlE s.sl t.re)],thT (G5 t (rdV s.sl t.re) 4),F4 s.th.length ((s.th.set n (G5 t (rdV s.sl t.re) 6)).map thT)])
  (h.pa<|an (h.id)<|an (h.el)<|an (OM s.sl t.re hm hr)<|an (h.el)<|an (K4 s.th n (G5 t (rdV s.sl t.re) 4))<|an (el2 h.hn (G5 t (rdV s.sl t.re) 4))<|an (uO s.sl t.re hm hr)<|an (h.id)<|an (el2 h.hn (G5 t (rdV s.sl t.re) 4))<|an (set2 s.th n (G5 t (rdV s.sl t.re) 4) (G5 t (rdV s.sl t.re) 6)) <|  an h.o1 trivial) (by kernel_rfl) hL
theorem Xx (h:Rv s n t 5 m o) (he:prE s.ee s.el=s.ee) (hL:qL2 (hdV (s.setTh n (o9 t s.ee 7)) n m (o+1) (s.th.length)) x S):qL2 (hdV s n m o s.th.length) x S :=
 j5 mixed (fuel:=9) (n:=12) (im:=[0,1,2,3,4]) (keep:=[2,6,8,9,10]) (ext:=[42,248,109,329]) (orc:=sPO t 5 2++[.int .i64 s.ee,thT (pcT t 5),F4 s.th.length ((s.th.set n (o9 t s.ee 5)).map thT),thT (o9 t s.ee 5),F4 s.th.length ((s.th.set n (o9 t s.ee 7)).map thT)])
  (h.pa<|an (h.id)<|an (Bn he)<|an (h.el)<|an (K4 s.th n (o9 t s.ee 5))<|an (h.id)<|an (el2 h.hn (o9 t s.ee 5))<|an (set2 s.th n (o9 t s.ee 5) (o9 t s.ee 7)) <|  an h.o1 trivial) (by kernel_rfl) hL
theorem Jw (h:Rv s n t 6 m o) (hm:s.fl.length≤999999) (hb:hdB (ntT 1 s.fe s.fl)=false) (hL:qL2 (hdV ((s.toFull (ntE s.fe s.fl) (ntL 1 s.fe s.fl)).setTh n (pcT t 9)) n m (o+1) (s.th.length)) x S):qL2 (hdV s n m o s.th.length) x S :=
 j5 mixed (fuel:=9) (n:=12) (im:=[0,1,2,3,4]) (keep:=[2,6,8,9,10]) (ext:=[42,248,109,330]) (orc:=sPO t 6 2++[.tuple #[evT (ntE s.fe s.fl) (ntL 1 s.fe s.fl),.int .i64 (hdI (ntT 1 s.fe s.fl)),vD false],thT (pcT t 6),F4 s.th.length ((s.th.set n (pcT t 9)).map thT)])
  (h.pa<|an (kM hb hm)<|an (h.id)<|an (h.el)<|an (K4 s.th n (pcT t 9)) <|  an h.o1 trivial) (by kernel_rfl) hL
theorem Ja (h:Rv s n t 6 m o) (hm:s.fl.length≤999999) (hb:hdB (ntT 1 s.fe s.fl)=true) {q:Nat} (hq:hdI (ntT 1 s.fe s.fl)=q) (hA:hasB (s.toFull (ntE s.fe s.fl) (ntL 1 s.fe s.fl)) q=true) (ho:(s.toFull (ntE s.fe s.fl) (ntL 1 s.fe s.fl)).ok) (hf:(s.toFull (ntE s.fe s.fl) (ntL 1 s.fe s.fl)).fit) (hg:gth (s.th.set q (D8 (gth s.th q))) n=pcT t 6) (hL:qL2 (hdV (((s.toFull (ntE s.fe s.fl) (ntL 1 s.fe s.fl)).onTh q D8).setTh n (pcT t 9)) n m (o+1) ((s.th.set q (D8 (gth s.th q))).length)) x S):qL2 (hdV s n m o s.th.length) x S :=
 j5 mixed (fuel:=9) (n:=12) (im:=[0,6,2,3,4]) (keep:=[2,6,8,9,10]) (ext:=[42,248,109,330,154]) (orc:=sPO t 6 2++[.tuple #[evT (ntE s.fe s.fl) (ntL 1 s.fe s.fl),.int .i64 q,vD true],.iface 1000004 (.func (.yield 18) #[.agg (stL ((s.toFull (ntE s.fe s.fl) (ntL 1 s.fe s.fl)).onTh q D8)),.int .i64 11] #[]),thT (pcT t 6),F4 (s.th.set q (D8 (gth s.th q))).length (((s.th.set q (D8 (gth s.th q))).set n (pcT t 9)).map thT)])
  (h.pa<|an (hq ▸ kM hb hm)<|an (h.ln)<|an (CE hA ho hf)<|an (h.idw q (D8 (gth s.th q)))<|an (hg ▸ elT (l:=(s.th.set q (D8 (gth s.th q)))) (by rw [List.length_set];exact h.hn))<|an (K4 (s.th.set q (D8 (gth s.th q))) n (pcT t 9)) <|  an h.o1 trivial) (by kernel_rfl) hL
theorem OL (h:Rv s n t 7 m o) (hs:G6 s=4) (hl:(!t.la)=true) (hL:qL2 (hdV (s.setTh n (pcT t 8)) n m (o+1) (s.th.length)) x S):qL2 (hdV s n m o s.th.length) x S :=
 j5 mixed (fuel:=9) (n:=12) (im:=[0,1,2,3,4]) (keep:=[2,6,8,9,10]) (ext:=[42,248,109,348]) (orc:=sPO t 7 2++[.tuple #[.int .i64 (F8 s),.int .i64 4],.nilFunc,thT (pcT t 7),.bool true,thT (pcT t 7),F4 s.th.length ((s.th.set n (pcT t 8)).map thT)])
  (h.pa<|an (h.sees hs)<|an (h.id)<|an (h.el)<|an (hl)<|an (h.id)<|an (h.el)<|an (K4 s.th n (pcT t 8)) <|  an h.o1 trivial) (by kernel_rfl) hL
theorem Nw (h:Rv s n t 7 m o) (hs:G6 s=4) (hl:(!t.la)=false) (hL:qL2 (hdV (s.setTh n (pcT t 2)) n m (o+1) (s.th.length)) x S):qL2 (hdV s n m o s.th.length) x S :=
 j5 mixed (fuel:=9) (n:=12) (im:=[0,1,2,3,4]) (keep:=[2,6,8,9,10]) (ext:=[42,248,109,348]) (orc:=sPO t 7 2++[.tuple #[.int .i64 (F8 s),.int .i64 4],.nilFunc,thT (pcT t 7),.bool false,thT (pcT t 7),F4 s.th.length ((s.th.set n (pcT t 2)).map thT)])
  (h.pa<|an (h.sees hs)<|an (h.id)<|an (h.el)<|an (hl)<|an (h.id)<|an (h.el)<|an (K4 s.th n (pcT t 2)) <|  an h.o1 trivial) (by kernel_rfl) hL
theorem LB (h:Rv s n t 7 m o) {r:Int} (hs:G6 s=r) (h2:(r==4)=false) (hL:qL2 (hdV (s.setTh n (pcT t 2)) n m (o+1) (s.th.length)) x S):qL2 (hdV s n m o s.th.length) x S :=
 j5 mixed (fuel:=9) (n:=12) (im:=[0,1,2,3,4]) (keep:=[2,6,8,9,10]) (ext:=[42,248,109,348]) (orc:=sPO t 7 2++[.tuple #[.int .i64 (F8 s),.int .i64 r],.bool false,thT (pcT t 7),F4 s.th.length ((s.th.set n (pcT t 2)).map thT)])
  (h.pa<|an (h.sees hs)<|an (h2)<|an (h.id)<|an (h.el)<|an (K4 s.th n (pcT t 2)) <|  an h.o1 trivial) (by kernel_rfl) hL
theorem GH (h:Rv s n t 8 m o) (hl:t.la=true) (hL:qL2 (hdV (s.setTh n (pcT t 2)) n m (o+1) (s.th.length)) x S):qL2 (hdV s n m o s.th.length) x S :=
 j5 mixed (fuel:=9) (n:=12) (im:=[0,1,2,3,4]) (keep:=[2,6,8,9,10]) (ext:=[42,248,109]) (orc:=sPO t 8 2++[thT (pcT t 8),F4 s.th.length ((s.th.set n (pcT t 2)).map thT),thT (pcT t 2),.bool true])
  (h.pa<|an (h.id)<|an (h.el)<|an (K4 s.th n (pcT t 2))<|an (h.id)<|an (el2 h.hn (pcT t 2))<|an (hl) <|  an h.o1 trivial) (by kernel_rfl) hL
theorem Ht (h:Rv s n t 8 m o) (hl:t.la=false) (hm:s.el.length≤999999) (hb:cmB s.ee s.el t.se n=true) (hL:qL2 (hdV ((s.toEmpty s.ee (cmL s.ee s.el t.se n)).setTh n (z8 t 2)) n m (o+1) (s.th.length)) x S):qL2 (hdV s n m o s.th.length) x S :=
 j5 mixed (fuel:=9) (n:=12) (im:=[0,1,2,3,4]) (keep:=[2,6,8,9,10]) (ext:=[42,248,109,331,332]) (orc:=sPO t 8 2++[thT (pcT t 8),F4 s.th.length ((s.th.set n (pcT t 2)).map thT),thT (pcT t 2),.bool false,thT (pcT t 2),.tuple #[evT s.ee (cmL s.ee s.el t.se n),vD true,.int .i64 (cmC s.ee s.el n)],thT (pcT t 2),.tuple #[thT (z8 t 2),.int .i64 0],thT (pcT t 2),F4 s.th.length ((s.th.set n (z8 t 2)).map thT)])
  (h.pa<|an (h.id)<|an (h.el)<|an (K4 s.th n (pcT t 2))<|an (h.id)<|an (el2 h.hn (pcT t 2))<|an (hl)<|an (h.id)<|an (el2 h.hn (pcT t 2))<|an (ku hb hm)<|an (h.id)<|an (h.id)<|an (el2 h.hn (pcT t 2))<|an (EF (KD (c:=2) h.rs))<|an (el2 h.hn (pcT t 2))<|an (set2 s.th n (pcT t 2) (z8 t 2)) <|  an h.o1 trivial) (by kernel_rfl) hL
theorem Jy (h:Rv s n t 8 m o) (hl:t.la=false) (hm:s.el.length≤999999) (hb:cmB s.ee s.el t.se n=false) (hL:qL2 (hdV (s.setTh n (pcT t 2)) n m (o+1) (s.th.length)) x S):qL2 (hdV s n m o s.th.length) x S :=
 j5 mixed (fuel:=9) (n:=12) (im:=[0,1,2,3,4]) (keep:=[2,6,8,9,10]) (ext:=[42,248,109,331]) (orc:=sPO t 8 2++[thT (pcT t 8),F4 s.th.length ((s.th.set n (pcT t 2)).map thT),thT (pcT t 2),.bool false,thT (pcT t 2),.tuple #[evT s.ee (cmL s.ee s.el t.se n),vD false,.int .i64 (cmC s.ee s.el n)]])
  (h.pa<|an (h.id)<|an (h.el)<|an (K4 s.th n (pcT t 2))<|an (h.id)<|an (el2 h.hn (pcT t 2))<|an (hl)<|an (h.id)<|an (el2 h.hn (pcT t 2))<|an (ku hb hm) <|  an h.o1 trivial) (by kernel_rfl) hL
theorem Nk (h:Rv s n t 9 m o) (hm:s.rc.length≤999999) (hL:qL2 (hdV ((s.toRc (lvL s.rc n)).setTh n (E9 t)) n m (o+1) (s.th.length)) x S):qL2 (hdV s n m o s.th.length) x S :=
 j5 mixed (fuel:=9) (n:=12) (im:=[0,1,2,3,4]) (keep:=[2,6,8,9,10]) (ext:=[42,248,109,269,333]) (orc:=sPO t 9 2++[.tuple #[l5 (lvL s.rc n),.int .i64 (lvE s.rc n)],thT (pcT t 9),.tuple #[thT (E9 t),.int .i64 0],thT (pcT t 9),F4 s.th.length ((s.th.set n (E9 t)).map thT)])
  (h.pa<|an (jA s.rc n hm)<|an (h.id)<|an (h.id)<|an (h.el)<|an (mf (qJ (c:=9) h.rs))<|an (h.el)<|an (K4 s.th n (E9 t)) <|  an h.o1 trivial) (by kernel_rfl) hL
theorem IR (h:Rv s n t 10 m o) (hm:s.rc.length≤999999) (hL:qL2 (hdV ((s.toRc (lvL s.rc n)).setTh n (E9 t)) n m (o+1) (s.th.length)) x S):qL2 (hdV s n m o s.th.length) x S :=
 j5 mixed (fuel:=9) (n:=12) (im:=[0,1,2,3,4]) (keep:=[2,6,8,9,10]) (ext:=[42,248,109,269,333]) (orc:=sPO t 10 2++[.tuple #[l5 (lvL s.rc n),.int .i64 (lvE s.rc n)],thT (pcT t 10),.tuple #[thT (E9 t),.int .i64 0],thT (pcT t 10),F4 s.th.length ((s.th.set n (E9 t)).map thT)])
  (h.pa<|an (jA s.rc n hm)<|an (h.id)<|an (h.id)<|an (h.el)<|an (mf (qJ (c:=10) h.rs))<|an (h.el)<|an (K4 s.th n (E9 t)) <|  an h.o1 trivial) (by kernel_rfl) hL
theorem Ip (h:Rv s n t 11 m o) (hm:s.rc.length≤999999) (hL:qL2 (hdV ((s.toRc (lvL s.rc n)).setTh n (E9 t)) n m (o+1) (s.th.length)) x S):qL2 (hdV s n m o s.th.length) x S :=
 j5 mixed (fuel:=9) (n:=12) (im:=[0,1,2,3,4]) (keep:=[2,6,8,9,10]) (ext:=[42,248,109,269,333]) (orc:=sPO t 11 2++[.tuple #[l5 (lvL s.rc n),.int .i64 (lvE s.rc n)],thT (pcT t 11),.tuple #[thT (E9 t),.int .i64 0],thT (pcT t 11),F4 s.th.length ((s.th.set n (E9 t)).map thT)])
  (h.pa<|an (jA s.rc n hm)<|an (h.id)<|an (h.id)<|an (h.el)<|an (mf (qJ (c:=11) h.rs))<|an (h.el)<|an (K4 s.th n (E9 t)) <|  an h.o1 trivial) (by kernel_rfl) hL
end
end
section
open Go.RowKit
structure Sv (s:St) (n:Nat) (m o:Int):Prop where
 lt:decide (o<min m 1000)=true
 ck:stB s=true
 ok:s.ok
 hn:n<s.th.length
 st:(gth s.th n).st=1
 sd:j6 (gth s.th n).ki=2
 lg:s.lg.length≤999999
 o1:In64 (o+1)
section
variable {s:St} {n:Nat} {m o:Int} {x:Exit} {S:Sg}
theorem Sv.rv (h:Sv s n m o) {c:Int} (hc:(gth s.th n).pc=c):Rv s n (gth s.th n) c m o :=
 ⟨h.lt,h.ck,h.ok,h.hn,by rw [← hc];rfl,by rw [h.st];rfl,h.sd,lK h.ck (by have:=h.lg;omega),h.o1⟩
def NxV (s:St) (n:Nat) (m o:Int) (x:Exit) (S:Sg):Prop:=∀ N,N=s.th.length→qL2 (hdV s n m o N) x S
theorem NxV.to {s s' : St} (h:NxV s n m o x S) (e:s=s') {N:Nat} (hN:N=s'.th.length):qL2 (hdV s' n m o N) x S:=by subst e;exact h N hN
theorem Sv.ki (h:Sv s n m o):(gth s.th n).ki≠9:=fun e=>by have:=h.sd;rw [e] at this;exact absurd this (by decide)
theorem Sv.tb (h:Sv s n m o):thB (gth s.th n)=true:=l9 h.ck h.hn
theorem Sv.tr (h:Sv s n m o):In64 ((gth s.th n).tr+1)∧In64 (gth s.th n).re∧max (gth s.th n).tr 0=(gth s.th n).tr:=by
 have:=h.tb
 generalize gth s.th n=t at this
 obtain ⟨st,ki,va,un,pc,re,se,tr,la,rs,go⟩:=t
 rw [K6] at this
 simp only [In64]
 omega
theorem Sv.few (h:Sv s n m o):s.rc.length≤999999∧s.fl.length≤999999∧s.el.length≤999999∧s.sl.length≤1000:=by
 obtain ⟨a,b,c,d,-,-⟩:=l6 h.ck
 have h2:=X9 (H8.1 b).1
 have h4:=X9 (H8.1 c).1
 have h5:=X9 (H8.1 d).1
 have h6:=(aR.1 (C8 h.ck).2.1).1
 omega
theorem RD (h:Sv s n m o) (hc:(gth s.th n).pc=1) (hL:NxV (firstR s n) n m (o+1) x S):qL2 (hdV s n m o s.th.length) x S:=by
 have hR:=h.rv hc
 unfold firstR at hL
 split at hL
 ·next hp=>exact RB hR (by simp [hp]) (hL.to rfl U7)
 ·next hp =>
  split at hL
  ·next hl=>exact ML hR (J4 hp) hl (hL.to (aN h.ck h.hn h.ki) aH)
  ·next hl=>exact Ox hR (J4 hp) (by simpa using hl) h.tr.1 (hL.to (by unfold St.onTh;rw [CO h.tb hc]) U7)
theorem XM (h:Sv s n m o) (hc:(gth s.th n).pc=2) (hL:NxV (lookR s n) n m (o+1) x S):qL2 (hdV s n m o s.th.length) x S:=by
 have hR:=h.rv hc
 unfold lookR at hL
 split at hL
 ·next hs=>exact RL hR hs (hL.to rfl U7)
 ·next h1 =>
  split at hL
  ·next h2=>exact Px hR rfl (J4 h1) (J4 h2) (hL.to (aN h.ck h.hn h.ki) aH)
  ·next h2 =>
   have hs:G6 s=4:=Classical.not_not.1 h2
   split at hL
   ·next hk=>exact Qi hR hs (by rw [hk];rfl) (hL.to (aN h.ck h.hn h.ki) aH)
   ·next hk =>
    have ho:fE (gth s.th n).ki=false:=by
     have:=h.sd
     generalize (gth s.th n).ki=k at this hk
     have h3:k=4∨k=6:=by rcases X0 k with h | h | h | h <;> omega
     rcases h3 with rfl | rfl <;> rfl
    split at hL
    ·next hl=>exact Tw hR hs ho hl (hL.to (aN h.ck h.hn h.ki) aH)
    ·next hl =>
     have hl' : (gth s.th n).la=false:=by simpa using hl
     split at hL
     ·next hw=>exact Pi hR hs ho hl' (by rw [h.tr.2.2];exact hw) (hL.to rfl U7)
     ·next hw=>exact PD hR hs ho hl' (by rw [h.tr.2.2]) (J4 hw) h.tr.1 (hL.to (by unfold St.onTh;rw [CO h.tb hc]) U7)
theorem SS (h:Sv s n m o) (hc:(gth s.th n).pc=7) (hL:NxV (recvN s n) n m (o+1) x S):qL2 (hdV s n m o s.th.length) x S:=by
 have hR:=h.rv hc
 rw [qx hc] at hL
 by_cases hs:G6 s=4
 ·cases hl:(gth s.th n).la
  ·rw [if_pos ⟨hs,hl⟩] at hL
   exact OL hR hs (by rw [hl];rfl) (hL.to rfl U7)
  ·rw [if_neg (by rw [hl];simp)] at hL
   exact Nw hR hs (by rw [hl];rfl) (hL.to rfl U7)
 ·rw [if_neg (fun e=>hs e.1)] at hL
  exact LB hR rfl (J4 hs) (hL.to rfl U7)
theorem Oa (h:Sv s n m o) (hc:(gth s.th n).pc=8) (hL:NxV (commitR s n) n m (o+1) x S):qL2 (hdV s n m o s.th.length) x S:=by
 have hR:=h.rv hc
 unfold commitR at hL
 split at hL
 ·next hl=>exact GH hR hl (hL.to rfl U7)
 ·next hl =>
  have hl' : (gth s.th n).la=false:=by simpa using hl
  split at hL
  ·next hb=>exact Ht hR hl' h.few.2.2.1 hb (hL.to (by unfold cmL;rw [if_pos hb];rfl) U7)
  ·next hb=>exact Jy hR hl' h.few.2.2.1 (by simpa using hb) (hL.to rfl U7)
theorem Xn (h:Sv s n m o) (hc:(gth s.th n).pc=3) (hL:NxV (takeR s n) n m (o+1) x S):qL2 (hdV s n m o s.th.length) x S:=by
 have hR:=h.rv hc
 unfold takeR at hL
 split at hL
 ·next hs=>exact TT hR hs (hL.to rfl U7)
 ·next h4 =>
  split at hL
  ·next h1=>exact Ui hR rfl (J4 h1) (J4 h4) (hL.to (aN h.ck h.hn h.ki) aH)
  ·next h1 =>
   have hs:G6 s=1:=Classical.not_not.1 h1
   have hl:=M3 (C8 h.ck).1
   have hy:=a0b hs
   have h1' : (gth s.th n).st≠0:=by have:=h.st;omega
   have hW:=Fb h.ck hs
   have hB:stB ((s.toWord (s.hd+1) s.tl s.md).setTh n (l8 (gth s.th n) s.hd 3))=true:=r9 (f:=fun t=>l8 t s.hd 3) hW (iX h.tb h1' (by omega) (by decide))
   have hB4:=mr h.ck h.hn h1' hs
   have hv0:=Vk.of h.ok
   have hv:Vk ((s.toWord (s.hd+1) s.tl s.md).setTh n (l8 (gth s.th n) s.hd 3)):=Vk.on (s:=s.toWord (s.hd+1) s.tl s.md) (f:=fun t=>l8 t s.hd 3) ⟨hv0.cf,hv0.sl,hv0.th⟩ h.hn fun _=>⟨rfl,rfl⟩
   have hlg:((s.toWord (s.hd+1) s.tl s.md).setTh n (l8 (gth s.th n) s.hd 3)).lg.length≤1000000:=by have:=h.lg;show s.lg.length≤1000000;omega
   have e1:Q7 ((s.toWord (s.hd+1) s.tl s.md).setTh n (l8 (gth s.th n) s.hd 3)) s.hd=Q7 s s.hd:=by unfold Q7;rw [hB,h.ck];rfl
   refine Qe (g:=Q7 s s.hd) hR hs hy.1 hy.2 e1 (aa hB (by show n<(s.th.set n _).length;rw [List.length_set];exact h.hn)) (Ao hB hv (by omega)) (lK hB hlg) (hL.to ?_ (by show ((s.th.set n _).set n _).length=(((s.th.set n _).set n _).set n _).length;simp))
   have hn4:n<((s.toWord (s.hd+1) s.tl s.md).onTh n (l8 · s.hd 4)).th.length:=by show n<(s.th.set n _).length;rw [List.length_set];exact h.hn
   have g4:=K7 (s:=s.toWord (s.hd+1) s.tl s.md) (n:=n) h.hn (l8 · s.hd 4)
   unfold D7
   rw [dQ hB4 hn4,g4]
   unfold St.onTh
   show St.mk _ _ _ _ _ _ _ _ _ _ _ _ (((s.th.set n _).set n _).set n (pcT (gth ((s.th.set n _).set n _) n) 4)) _=St.mk _ _ _ _ _ _ _ _ _ _ _ _ (((s.th.set n _).set n _).set n _) _
   have hk:(l8 (gth s.th n) s.hd 4).ki≠9:=h.ki
   have e2:F3 (l8 (gth s.th n) s.hd 4) (gth s.th n).ki 1 (Q7 s s.hd)=rgT (l8 (gth s.th n) s.hd 4) 1 (Q7 s s.hd):=by unfold F3;rw [if_neg h.ki];rfl
   have e3:gth ((s.th.set n (l8 (gth s.th n) s.hd 4)).set n (rgT (l8 (gth s.th n) s.hd 4) 1 (Q7 s s.hd))) n=rgT (l8 (gth s.th n) s.hd 4) 1 (Q7 s s.hd):=by rw [H9 (by rw [List.length_set];exact h.hn),if_pos rfl]
   have e5:gth (s.th.set n (l8 (gth s.th n) s.hd 3)) n=l8 (gth s.th n) s.hd 3:=by rw [H9 h.hn,if_pos rfl]
   have e6:gth ((s.toWord (s.hd+1) s.tl s.md).setTh n (l8 (gth s.th n) s.hd 3)).th n=l8 (gth s.th n) s.hd 3:=e5
   have e7:gth (s.toWord (s.hd+1) s.tl s.md).th n=gth s.th n:=rfl
   rw [e7,e2,e3,List.set_set,List.set_set,List.set_set,List.set_set]
   unfold tlE
   rw [e6]
   rfl
theorem Us (h:Sv s n m o):stB (s.toFull (ntE s.fe s.fl) (ntL 1 s.fe s.fl))=true∧(s.toFull (ntE s.fe s.fl) (ntL 1 s.fe s.fl)).ok:=by
 obtain ⟨-,-,d,-,e,-⟩:=l6 h.ck
 have h1:okE (ntE s.fe s.fl) (ntL 1 s.fe s.fl)=true:=by simp only [ntE,ntL,e,if_true];exact fF e (O6 (R8 e) 1)
 have h2:W9 s.cf.th (ntL 1 s.fe s.fl)=true:=by simp only [ntL,e,if_true];exact bN d (O6 (R8 e) 1) (fun x hx=>List.mem_of_mem_drop hx)
 have h3:=(O7.1 h1).1
 have hb:=h.ok.fl
 refine ⟨eu h.ck h1 h2,⟨h.ok.cf,h.ok.hd,h.ok.tl,h.ok.md,(show In64 (ntE s.fe s.fl) by constructor <;> omega),h.ok.ee,h.ok.nw,h.ok.sl,h.ok.sn,h.ok.rc,?_,h.ok.el,h.ok.th,h.ok.lg⟩⟩
 show (∀ x∈ntL 1 s.fe s.fl,In64 x)∧(ntL 1 s.fe s.fl).length≤maxLen
 simp only [ntL,e,if_true]
 exact ⟨fun x hx=>hb.1 x (List.mem_of_mem_drop hx),by rw [List.length_drop];omega⟩
theorem MR (h:Sv s n m o) (hc:(gth s.th n).pc=6) (hL:NxV (notifyR s n) n m (o+1) x S):qL2 (hdV s n m o s.th.length) x S:=by
 have hR:=h.rv hc
 obtain ⟨h1,h2⟩:=Us h
 unfold notifyR at hL
 split at hL
 ·next hb =>
  obtain ⟨-,-,d,-,e,-⟩:=l6 h.ck
  have hth:=Y3 h.ck
  have hq:∃ q:Nat,hdI (ntT 1 s.fe s.fl)=q∧q<s.th.length:=by
   have hb' := hb
   simp only [ntT,e,if_true] at hb' ⊢
   cases hl:s.fl with
   | nil=>rw [hl] at hb';cases hb'
   | cons y r =>
    have hy:y∈s.fl:=by rw [hl];exact List.mem_cons_self
    have h3:=(H8.1 d).2 y hy
    have h4:=(aO.1 (H8.1 d).1).1 y hy
    exact ⟨y.toNat,by show y=_;omega,by omega⟩
  obtain ⟨q,hq,hql⟩:=hq
  have h9:stB ((s.toFull (ntE s.fe s.fl) (ntL 1 s.fe s.fl)).onTh n (pcT · 9))=true:=r9 h1 (D9 h.tb (by have:=h.st;omega) (by decide))
  have e6:gth s.th n=pcT (gth s.th n) 6:=by conv=>lhs;rw [show gth s.th n=pcT (gth s.th n) (gth s.th n).pc from rfl,hc]
  have hA:hasB ((s.toFull (ntE s.fe s.fl) (ntL 1 s.fe s.fl)).onTh n (pcT · 9)) q=true:=aa h9 (by show q<(s.th.set n _).length;rw [List.length_set];exact hql)
  have hg:gth (s.th.set q (D8 (gth s.th q))) n=pcT (gth s.th n) 6:=by
   rw [H9 hql]
   split
   ·next e=>subst e;rw [rU h.st];exact e6
   ·exact e6
  refine Ja hR h.few.2.1 hb hq (aa h1 hql) h2 (lK h1 (by have:=h.lg;show s.lg.length≤1000000;omega)) hg (hL.to ?_ U7)
  rw [hq]
  unfold G9
  rw [if_pos hA]
  unfold St.onTh
  show St.mk _ _ _ _ _ _ _ _ _ _ _ _ ((s.th.set n (pcT (gth s.th n) 9)).set (q:Int).toNat (D8 (gth (s.th.set n (pcT (gth s.th n) 9)) (q:Int).toNat))) _=St.mk _ _ _ _ _ _ _ _ _ _ _ _ ((s.th.set q (D8 (gth s.th q))).set n (pcT (gth s.th n) 9)) _
  congr 1
  rw [Int.toNat_natCast,H9 h.hn]
  by_cases hqn:n=q
  ·subst hqn
   rw [if_pos rfl,List.set_set,List.set_set,rU (show (pcT (gth s.th n) 9).st=1 from h.st)]
  ·rw [if_neg hqn,List.set_comm _ _ hqn]
 ·next hb=>exact Jw hR h.few.2.1 (by simpa using hb) (hL.to rfl U7)
theorem VE (h:Sv s n m o) (hL:NxV (recvN s n) n m (o+1) x S):qL2 (hdV s n m o s.th.length) x S:=by
 obtain p | p | p | p | p | p | p | p | p | p | p | p:=iW h.tb
 ·rw [rW p] at hL;exact Rj (h.rv p) h.few.1 (hL.to rfl U7)
 ·rw [qY p] at hL;exact RD h p hL
 ·rw [pX p] at hL;exact XM h p hL
 ·rw [qD p] at hL;exact Xn h p hL
 ·rw [qw p] at hL;exact VA (h.rv p) h.few.2.2.2 h.tr.2.1 (hL.to rfl U7)
 ·rw [qK p] at hL
  obtain ⟨-,-,-,-,-,e⟩:=l6 h.ck
  exact Xx (h.rv p) (by unfold prE;rw [if_pos e]) (hL.to rfl U7)
 ·rw [rz p] at hL;exact MR h p hL
 ·exact SS h p hL
 ·rw [qR p] at hL;exact Oa h p hL
 ·rw [iH (.inl p)] at hL;exact Nk (h.rv p) h.few.1 (hL.to rfl U7)
 ·rw [iH (.inr (.inl p))] at hL;exact IR (h.rv p) h.few.1 (hL.to rfl U7)
 ·rw [iH (.inr (.inr p))] at hL;exact Ip (h.rv p) h.few.1 (hL.to rfl U7)
end
end
section
open Go.RowKit
structure KX (R:World→World→Prop) where
 p:Value→World→Prop
 k:∀ {v:Value} {W W' : World},p v W→R W W' → p v W'
def KX.eq (R:World→World→Prop) (u:Value):KX R:=⟨fun v _=>v=u,fun h _=>h⟩
def KX.tt (R:World→World→Prop):KX R:=⟨fun _ _=>True,fun _ _=>trivial⟩
def FX (R:World→World→Prop) (Fs:List (KX R)) (i:Nat) (v:Value) (W:World):Prop:=(Fs.getD i (KX.tt R)).p v W
def YN (D:List (Option Nat)):Bool:=(List.range D.length).all fun i=>(List.range D.length).all fun j=>i==j||D.getD i none==none || !(D.getD i none==D.getD j none)
theorem zI {D:List (Option Nat)} (h:YN D=true) {i j d:Nat} (hi:D[i]? = some (some d)) (hj:D[j]? = some (some d)):i=j:=by
 have hil:=(List.getElem?_eq_some_iff.1 hi).1
 have hjl:=(List.getElem?_eq_some_iff.1 hj).1
 have h1:=List.all_eq_true.1 (List.all_eq_true.1 h i (List.mem_range.2 hil)) j (List.mem_range.2 hjl)
 simpa [List.getD_eq_getElem?_getD,hi,hj] using h1
section
variable {P:Program} {Q:Exit→Act→World→Prop}
end
def OutG (X:List Nat) (G:World→Prop) (W W' : World):Prop:=Out X W W' ∧ (Below W.heap.size W W' ∨ G W')
theorem OutG.trans {X:List Nat} {G:World→Prop} (hG:∀ {W W' : World},G W→Below W.heap.size W W' → G W') {W1 W2 W3:World} (h:OutG X G W1 W2) (k:OutG X G W2 W3):OutG X G W1 W3:=by
 refine ⟨h.1.trans k.1 (fun _ h=>.inl h),?_⟩
 rcases k.2 with k2 | k2
 ·rcases h.2 with h2 | h2
  ·exact .inl (h2.trans (k2.mono h2.size))
  ·exact .inr (hG h2 k2)
 ·exact .inr k2
def KX.out {X:List Nat} {G:World→Prop} (p:Value→World→Prop) (k:∀ {v W W'},p v W→Out X W W' → p v W'):KX (OutG X G):=⟨p,fun h hk=>k h hk.1⟩
def KX.here {X:List Nat} {G:World→Prop} (hG:∀ {W W' : World},G W→Below W.heap.size W W' → G W'):KX (OutG X G):=⟨fun _ W=>G W,fun h hk=>by rcases hk.2 with h2 | h2;(exact hG h h2);exact h2⟩
end
section
open Go.RowKit
structure Rm (N:Nat) (W W' : World):Prop where
 tape:W'.tape=W.tape
 os:W'.os=W.os
 output:W'.output=W.output
 size:W.heap.size≤W'.heap.size
 low:∀ g:Nat,g<N→W'.heap[g]? = W.heap[g]?
 cels:∀ (g:Nat) (arr:Array Value) (ty:TypeId) (fz:Nat×Nat),W.heap[g]? = some (.cells arr ty fz)→W'.heap[g]? = W.heap[g]?
theorem Rm.of {N:Nat} {W W' : World} (h:Below W.heap.size W W') (hN:N≤W.heap.size):Rm N W W' :=
 ⟨h.tape,h.os,h.output,h.size,fun g hg=>h.block g (by omega),fun g arr ty fz hg=>h.block g (Array.getElem?_eq_some_iff.1 hg).1⟩
theorem Rm.trans {N:Nat} {A B C:World} (h:Rm N A B) (k:Rm N B C):Rm N A C :=
 ⟨k.tape.trans h.tape,k.os.trans h.os,k.output.trans h.output,Nat.le_trans h.size k.size,fun g hg=>(k.low g hg).trans (h.low g hg),fun g arr ty fz hg=>(k.cels g arr ty fz ((h.cels g arr ty fz hg).trans hg)).trans (h.cels g arr ty fz hg)⟩
theorem Rm.kept {N:Nat} {W W' : World} (h:Rm N W W') (hN:W.heap.size=N):Kept W W' := { tape:=h.tape,os:=h.os,output:=h.output,size:=h.size,block:=fun g hg=>h.low g (by omega) }
structure FactsM (N:Nat) (D:List (Option Nat)) (F:Nat→Value→World→Prop) (a:Act) (w:World) (done:Nat→Bool) (b:Act) (W:World):Prop where
 kept:Rm N w W
 defers:b.defers=a.defers
 size:b.tmps.size=a.tmps.size
 rest:∀ t,some t∉D→b.tmps[t]? = a.tmps[t]?
 fact:∀ i d,D[i]? = some d→done i=true→∃ v,(∀ t,d=some t→b.tmps[t]? = some v)∧F i v W
structure MapM (N:Nat) (F:Nat→Value→World→Prop) (ins:List (Nat×Int×Nat)) (dm:Nat) (done:Nat→Bool) (b:Act) (W:World) (mb:Nat) (l:List (Int×Value)):Prop where
 here:b.tmps[dm]? = some (.map (some mb))
 ge:N≤mb
 map:IMap W mb l
 nodup:(l.map (·.1)).Nodup
 from_:∀ d∈l,∃ r∈ins,done r.1=true∧d.1=r.2.1∧F r.2.2 d.2 W
 all:∀ r∈ins,done r.1=true→∃ d∈l,d.1=r.2.1
theorem wO {listed:Array Bool} {i:Nat} (h:i<listed.size):(listed.setIfInBounds i true).getD i false=true:=by simp [Array.getD,h]
theorem vg {listed:Array Bool} {i j:Nat} (h:j≠i):(listed.setIfInBounds i true).getD j false=listed.getD j false:=by
 by_cases hj:j<listed.size
 ·simp [Array.getD,hj,Array.getElem_setIfInBounds,Ne.symm h]
 ·simp [Array.getD,hj]
section
variable {P:Program} {Q:Exit→Act→World→Prop} {mty kt et:TypeId}
theorem CY {id:Nat} {a:Act} {w:World} {l:List Oper} (N n:Nat) (D:List (Option Nat)) (F:Nat→Value→World→Prop) (dm:Nat) (ins:List (Nat×Int×Nat)) (hNw:w.heap.size=N)
  (hu:P.underlying mty=some (.map kt et)) (hd:P.underlying kt=some (.int .i64))
  (hm:P.follows .mixedOrders=true) (ha:EJ l=true) (htl:Yo l n=true) (hn:n≤l.length) (hD:(l.take n).map (·.dst)=D) (hN:YN D=true) (hsz:∀ d,some d∈D→d<a.tmps.size)
  (hg:(l.take n).all (fun o=>o.guard.isNone)=true) (hmono:∀ i v W W',F i v W→Rm N W W' → F i v W')
  (hmk:∃ o,l[0]? = some o∧o.op = .makeMap mty none∧o.dst=some dm) (hF0:∀ v W,F 0 v W)
  (hins:∀ r∈ins,r.1<n∧r.1≠0∧∃ o d,l[r.1]? = some o∧o.dst=none∧o.op = .insert mty (.tmp dm) (.const (.int .i64 r.2.1)) (.tmp d)∧D[r.2.2]? = some (some d)∧r.2.2<n∧qo l r.1 0=true∧qo l r.1 r.2.2=true∧∀ v W,F r.1 v W)
  (hk1:(ins.map (·.1)).Nodup) (hk2:(ins.map (·.2.1)).Nodup)
  (hstep:∀ i o,l[i]? = some o→i<n→i≠0→(∀ r∈ins,r.1≠i)→∀ b W,FactsM N D F a w (fun j=>o.after.toList.any fun e=>Region.binds .any e&&e.on==j) b W →
   ∀ K:Act→World→Prop,(∀ v W',F i v W' → Below W.heap.size W W' → K (b.put o.dst v) W')→o.wp P b W K Q)
  (hend:∀ b W mb m,FactsM N D F a w (fun _=>true) b W→MapM N F ins dm (fun _=>true) b W mb m→wpList P l.toArray Q (l.drop n) b W) (h0n:0<n):(Code.region id l.toArray true).wp P Q a w:=by
 have hln:(l.take n).length=n:=by simp;omega
 have hlen:D.length=n:=by rw [← hD,List.length_map,hln]
 have htk:∀ {i:Nat},i<n→(l.take n)[i]? = l[i]? := fun hi=>List.getElem?_take_of_lt hi
 have hdst:∀ (i:Nat) o,i<n→l[i]? = some o→D[i]? = some o.dst:=fun i o hin hi=>by
  rw [← hD,List.getElem?_map,htk hin,hi];rfl
 have hinj:∀ r∈ins,∀ r' ∈ ins,r.1=r'.1→r=r' := fun r hr r' hr' e=>by
  obtain ⟨i,hi⟩:=List.getElem?_of_mem hr
  obtain ⟨j,hj⟩:=List.getElem?_of_mem hr'
  have e1:(ins.map (·.1))[i]? = some r.1:=by simp [hi]
  have e2:(ins.map (·.1))[j]? = some r.1:=by simp [hj,e]
  have:i=j:=(List.getElem?_inj (List.getElem?_eq_some_iff.1 e1).1 hk1).1 (e1.trans e2.symm)
  subst this
  rw [hi] at hj;exact Option.some.inj hj
 have hinj2:∀ r∈ins,∀ r' ∈ ins,r.2.1=r'.2.1→r=r' := fun r hr r' hr' e=>by
  obtain ⟨i,hi⟩:=List.getElem?_of_mem hr
  obtain ⟨j,hj⟩:=List.getElem?_of_mem hr'
  have e1:(ins.map (·.2.1))[i]? = some r.2.1:=by simp [hi]
  have e2:(ins.map (·.2.1))[j]? = some r.2.1:=by simp [hj,e]
  have:i=j:=(List.getElem?_inj (List.getElem?_eq_some_iff.1 e1).1 hk2).1 (e1.trans e2.symm)
  subst this
  rw [hi] at hj;exact Option.some.inj hj
 refine dV (fun listed b W=>Closed l listed∧(((∀ i,n≤i→i<l.length→listed.getD i false=false)∧FactsM N D F a w (fun i=>decide (i<n)&&listed.getD i false) b W ∧
   (listed.getD 0 false=true→∃ mb m,MapM N F ins dm (fun i=>listed.getD i false) b W mb m)∧(listed.getD 0 false=false→∀ r∈ins,listed.getD r.1 false=false)) ∨
   ∃ m,n<m∧(∀ i,i<l.length→listed.getD i false=decide (i<m))∧wpList P l.toArray Q (l.drop m) b W)) hm ha ?_ ?_ ?_
 ·refine ⟨fun k o hk hl=>by
   have:k<l.length:=(List.getElem?_eq_some_iff.1 hk).1
   simp [Array.getD,this] at hl,.inl ⟨fun i _ hi=>?_,⟨⟨rfl,rfl,rfl,Nat.le_refl _,fun _ _=>rfl,fun _ _ _ _ _=>rfl⟩,rfl,rfl,fun _ _=>rfl,fun i d hi h=>?_⟩,fun h=>?_,fun _ r hr=>?_⟩⟩
  ·simp [Array.getD,hi]
  ·simp only [Bool.and_eq_true,decide_eq_true_eq] at h
   have:i<l.length:=by omega
   simp [Array.getD,this] at h
  ·have:0<l.length:=by omega
   simp [Array.getD,this] at h
  ·have:r.1<l.length:=by have:=(hins r hr).1;omega
   simp [Array.getD,this]
 ·intro listed b W i o hs hI hi hnl hw
  have hil:i<l.length:=(List.getElem?_eq_some_iff.1 hi).1
  have hnl' : listed.getD i false=false:=by
   have h1:i<listed.size:=by omega
   simpa [Array.getD,h1] using hnl
  obtain ⟨hC,hI⟩:=hI
  have hC' := hC.set hi hw
  have hset:∀ j,j≠i→(listed.setIfInBounds i true).getD j false=listed.getD j false:=fun j hj=>vg hj
  have hself:(listed.setIfInBounds i true).getD i false=true:=wO (by omega)
  rcases hI with ⟨hT,hF,hM,hM0⟩ | ⟨m,hnm,hL,hwp⟩
  ·by_cases hin:i<n
   ·have hdo:=hdst i o hin hi
    have hgo:o.guard=none:=by
     have:=List.all_eq_true.1 hg o (List.mem_of_getElem? ((htk hin).trans hi))
     simpa using this
    have hTn:∀ j,n≤j→j<l.length→(listed.setIfInBounds i true).getD j false=false:=fun j hj1 hj2=>by
     rw [hset j (by omega)];exact hT j hj1 hj2
    -- the facts behind one more
    have hnext:∀ v W',F i v W' → Rm N W W' → FactsM N D F a w (fun i' => decide (i' < n)&&(listed.setIfInBounds i true).getD i' false) (b.put o.dst v) W' := fun v W' hFv hB=>by
     have hother:∀ j dj,D[j]? = some dj→(decide (j<n)&&(listed.setIfInBounds i true).getD j false)=true→j≠i→∃ u,(∀ t,dj=some t→b.tmps[t]? = some u)∧F j u W' := fun j dj hj hdone hji=>by
      simp only [Bool.and_eq_true,decide_eq_true_eq] at hdone
      have h4:listed.getD j false=true:=by rw [← hset j hji];exact hdone.2
      obtain ⟨u,hu,hFu⟩:=hF.fact j dj hj (by simp [h4,hdone.1])
      exact ⟨u,hu,hmono _ _ _ _ hFu hB⟩
     cases hod:o.dst with
     | none =>
      rw [hod] at hdo
      refine ⟨hF.kept.trans hB,hF.defers,hF.size,hF.rest,fun j dj hj hdone=>?_⟩
      by_cases hji:j=i
      ·subst hji
       rw [hdo] at hj;cases hj
       exact ⟨v,fun t ht=>(by cases ht),hFv⟩
      ·exact hother j dj hj hdone hji
     | some d =>
      rw [hod] at hdo
      have hdm:some d∈D:=List.mem_of_getElem? hdo
      have hdb:d<b.tmps.size:=by rw [hF.size];exact hsz d hdm
      refine ⟨hF.kept.trans hB,hF.defers,by simpa [Act.put] using hF.size,fun t ht=>?_,fun j dj hj hdone=>?_⟩
      ·have hne:t≠d:=fun h=>ht (h ▸ hdm)
       rw [← hF.rest t ht]
       simp [Act.put,Array.getElem?_setIfInBounds,Ne.symm hne]
      ·by_cases hji:j=i
       ·subst hji
        rw [hdo] at hj;cases hj
        exact ⟨v,fun t ht=>(by cases ht;simp [Act.put,hdb]),hFv⟩
       ·obtain ⟨u,hu,hFu⟩:=hother j dj hj hdone hji
        refine ⟨u,fun t ht=>?_,hFu⟩
        subst ht
        have hne:t≠d:=fun h=>hji (by subst h;exact zI hN hj hdo)
        simpa [Act.put,Array.getElem?_setIfInBounds,Ne.symm hne] using hu t rfl
    obtain ⟨om,hom,hopm,hdstm⟩:=hmk
    have hD0:D[0]? = some (some dm):=by rw [← hdstm];exact hdst 0 om h0n hom
    have hNW:N≤W.heap.size:=by rw [← hNw];exact hF.kept.size
    have hi' : l.toArray[i]? = some o:=by simpa using hi
    have wpo:o.wp P b W (fun b' W' => Closed l (listed.setIfInBounds i true)∧(((∀ j,n≤j→j<l.length→(listed.setIfInBounds i true).getD j false=false)∧FactsM N D F a w (fun j=>decide (j<n)&&(listed.setIfInBounds i true).getD j false) b' W' ∧
      ((listed.setIfInBounds i true).getD 0 false=true→∃ mb m,MapM N F ins dm (fun j=>(listed.setIfInBounds i true).getD j false) b' W' mb m)∧((listed.setIfInBounds i true).getD 0 false=false→∀ r∈ins,(listed.setIfInBounds i true).getD r.1 false=false)) ∨
      ∃ m,n<m∧(∀ j,j<l.length→(listed.setIfInBounds i true).getD j false=decide (j<m))∧wpList P l.toArray Q (l.drop m) b' W')) Q:=by
     by_cases hi0:i=0
     ·subst hi0
      obtain rfl:om=o:=Option.some.inj (hom.symm.trans hi)
      have hrun:(execOp b.eval om).run P W = .ok (.value (.map (some W.heap.size))) (W.alloc (.map #[] 0)):=by simp [execOp,hopm,run_makeMap]
      unfold Oper.wp
      rw [hrun]
      have hB:Rm N W (W.alloc (.map #[] 0)):=Rm.of ((show Below W.heap.size W W from ⟨rfl,rfl,rfl,Nat.le_refl _,fun _ _=>rfl⟩).alloc (Nat.le_refl _) _) hNW
      have hnx:=hnext (.map (some W.heap.size)) _ (hF0 _ _) hB
      refine ⟨hC',.inl ⟨hTn,hnx,fun _=>⟨W.heap.size,[],⟨?_,hNW,IMap.made W,by simp,fun d hd=>(by cases hd),fun r hr hdone=>?_⟩⟩,fun h=>?_⟩⟩
      ·obtain ⟨v,hv,-⟩:=hnx.fact 0 _ hD0 (by simp [h0n,hself])
       rw [hdstm]
       have hdb:dm<b.tmps.size:=by rw [hF.size];exact hsz dm (List.mem_of_getElem? hD0)
       simp [Act.put,hdb]
      ·rw [hset r.1 (hins r hr).2.1,hM0 hnl' r hr] at hdone;cases hdone
      ·rw [hself] at h;cases h
     ·have h00:(listed.setIfInBounds i true).getD 0 false=listed.getD 0 false:=hset 0 (Ne.symm hi0)
      by_cases hr:∃ r∈ins,r.1=i
      ·obtain ⟨r,hr,rfl⟩:=hr
       obtain ⟨-,-,o',d,ho',hdn,hop,hDs,hsn,hw0,hws,hFi⟩:=hins r hr
       obtain rfl:o' = o:=Option.some.inj (ho'.symm.trans hi)
       obtain ⟨e0,he0,hb0,hon0⟩:=il hw0 hi
       obtain ⟨e1,he1,hb1,hon1⟩:=il hws hi
       have hd0:listed.getD 0 false=true:=hon0 ▸ hw e0 he0 hb0
       have hds:listed.getD r.2.2 false=true:=hon1 ▸ hw e1 he1 hb1
       obtain ⟨mb,m,hMM⟩:=hM hd0
       obtain ⟨v,hv,hFv⟩:=hF.fact r.2.2 _ hDs (by simp [hsn,hds])
       have hv' := hv d rfl
       have hnk:∀ d' ∈ m,d'.1≠r.2.1:=fun d' hd' e=>by
        obtain ⟨r',hr',hdone,hk,-⟩:=hMM.from_ d' hd'
        have:=hinj2 r' hr' r hr (hk.symm.trans e)
        subst this
        rw [hnl'] at hdone;cases hdone
       obtain ⟨es,ck,hrun,hmap,hoth,-⟩:=zA (P:=P) hu hd hMM.map r.2.1 v hnk
       have hrun' : (execOp b.eval o').run P W = .ok .skip { W with heap:=W.heap.setIfInBounds mb (.map es ck) }:=by
        have h1:b.eval (.tmp dm) = .map (some mb):=by simp [Act.eval,hMM.here]
        have h2:b.eval (.tmp d)=v:=by simp [Act.eval,hv']
        have h3:b.eval (.const (.int .i64 r.2.1)) = .int .i64 r.2.1:=rfl
        simp [execOp,hop,h1,h2,h3,hrun]
       have hmbl:=hMM.map.lt
       have hB:Rm N W { W with heap:=W.heap.setIfInBounds mb (.map es ck) }:=⟨rfl,rfl,rfl,by simp,fun g hg' => hoth g (by have:=hMM.ge;omega),fun g arr ty fz hgc=>by
        have hne:g≠mb:=fun e=>by
         subst e
         obtain ⟨es,ck,hm1⟩:=hMM.map
         rw [hm1.obj] at hgc;cases hgc
        exact hoth g hne⟩
       unfold Oper.wp
       rw [hrun']
       have hnx:=hnext undef _ (hFi _ _) hB
       refine ⟨hC',.inl ⟨hTn,hnx,fun _=>⟨mb,m++[(r.2.1,v)],⟨by show (b.put o'.dst undef).tmps[dm]? = _;rw [hdn];exact hMM.here,hMM.ge,hmap,?_,fun d' hd' => ?_,fun r' hr' hdone=>?_⟩⟩,fun h=>?_⟩⟩
       ·rw [List.map_append]
        refine List.nodup_append.2 ⟨hMM.nodup,by simp,fun p hp q hq=>?_⟩
        simp only [List.map_cons,List.map_nil,List.mem_singleton] at hq
        subst hq
        obtain ⟨d',hd',rfl⟩:=List.mem_map.1 hp
        exact hnk d' hd'
       ·rcases List.mem_append.1 hd' with hd' | hd'
        ·obtain ⟨r',hr',hdone,hk,hFd⟩:=hMM.from_ d' hd'
         refine ⟨r',hr',?_,hk,hmono _ _ _ _ hFd hB⟩
         by_cases e:r'.1=r.1
         ·rw [e];exact hself
         ·rw [hset r'.1 e];exact hdone
        ·simp only [List.mem_singleton] at hd'
         subst hd'
         exact ⟨r,hr,hself,rfl,hmono _ _ _ _ hFv hB⟩
       ·by_cases e:r'.1=r.1
        ·have:=hinj r' hr' r hr e
         subst this
         exact ⟨(r'.2.1,v),by simp,rfl⟩
        ·rw [hset r'.1 e] at hdone
         obtain ⟨d',hd',hk⟩:=hMM.all r' hr' hdone
         exact ⟨d',List.mem_append_left _ hd',hk⟩
       ·rw [h00,hd0] at h;cases h
      ·have hno:∀ r∈ins,r.1≠i:=fun r hr' e=>hr ⟨r,hr',e⟩
       refine hstep i o hi hin hi0 hno b W ⟨hF.kept,hF.defers,hF.size,hF.rest,fun j dj hj hdone=>by
        obtain ⟨e,he,h2⟩:=List.any_eq_true.1 hdone
        simp only [Bool.and_eq_true,beq_iff_eq] at h2
        have h3:=hw e (Array.mem_toList_iff.1 he) h2.1
        rw [h2.2] at h3
        have hjl:j<n:=by rw [← hlen];exact (List.getElem?_eq_some_iff.1 hj).1
        exact hF.fact j dj hj (by simp [h3,hjl])⟩ _ fun v W' hFv hBl=>?_
       have hB:=Rm.of hBl hNW
       have hnx:=hnext v W' hFv hB
       refine ⟨hC',.inl ⟨hTn,hnx,fun h=>?_,fun h r hr' => ?_⟩⟩
       ·rw [h00] at h
        obtain ⟨mb,m,hMM⟩:=hM h
        refine ⟨mb,m,?_,hMM.ge,hMM.map.kept hBl,hMM.nodup,fun d' hd' => ?_,fun r' hr' hdone=>?_⟩
        ·cases hod:o.dst with
         | none=>exact hMM.here
         | some d =>
          have hne:d≠dm:=fun e=>by
           subst e
           rw [hod] at hdo
           exact hi0 (zI hN hdo hD0)
          simpa [Act.put,Array.getElem?_setIfInBounds,hne] using hMM.here
        ·obtain ⟨r',hr',hdone,hk,hFd⟩:=hMM.from_ d' hd'
         exact ⟨r',hr',by rw [hset r'.1 (hno r' hr')];exact hdone,hk,hmono _ _ _ _ hFd hB⟩
        ·rw [hset r'.1 (hno r' hr')] at hdone
         exact hMM.all r' hr' hdone
       ·rw [h00] at h
        rw [hset r.1 (hno r hr')]
        exact hM0 h r hr'
    unfold wpOp
    simp only [hi',Region.wanted,hgo,if_true]
    left
    exact wpo
   ·have hall:∀ j,j<i→listed.getD j false=true:=fun j hj=>uX htl hi (by omega) hj hC hw
    have hie:i=n:=by
     rcases Nat.lt_or_ge n i with h | h
     ·have h1:=hall n h
      rw [hT n (Nat.le_refl _) (by omega)] at h1
      cases h1
     ·omega
    subst hie
    obtain ⟨mb,m,hMM⟩:=hM (hall 0 h0n)
    have h1:=hend b W mb m ⟨hF.kept,hF.defers,hF.size,hF.rest,fun j dj hj _=>hF.fact j dj hj (by
     have hjl:j<i:=by rw [← hlen];exact (List.getElem?_eq_some_iff.1 hj).1
     simp [hjl,hall j hjl])⟩ ⟨hMM.here,hMM.ge,hMM.map,hMM.nodup,fun d hd' => let ⟨r,hr,_,hk,hFd⟩:=hMM.from_ d hd';⟨r,hr,rfl,hk,hFd⟩,fun r hr _=>hMM.all r hr (hall r.1 (hins r hr).1)⟩
    have hdr:l.drop i=o::l.drop (i+1):=by
     rw [List.drop_eq_getElem_cons hil]
     congr 1
     exact (List.getElem?_eq_some_iff.1 hi).2
    rw [hdr] at h1
    refine wpOp_mono (fun a' w' h' => ⟨hC',.inr ⟨i+1,by omega,fun j hj=>?_,h'⟩⟩) (sI hi h1)
    have hjs:j<listed.size:=by omega
    by_cases hji:j=i
    ·subst hji;simp [Array.getD,hjs]
    ·by_cases hlt:j<i
     ·have h4:=hall j hlt
      have:j<i+1:=by omega
      simpa [Array.getD,hjs,Array.getElem_setIfInBounds,Ne.symm hji,this] using h4
     ·have h4:=hT j (by omega) hj
      have:¬ j<i+1:=by omega
      simpa [Array.getD,hjs,Array.getElem_setIfInBounds,Ne.symm hji,this] using h4
  ·have hin:m≤i:=by
    have:=hL i hil
    rw [hnl'] at this
    simpa using this.symm
   have hie:i=m:=by
    rcases Nat.lt_or_ge m i with h | h
    ·have h1:=uX htl hi (by omega) h hC hw
     rw [hL m (by omega)] at h1
     simp at h1
    ·omega
   subst hie
   have hdr:l.drop i=o::l.drop (i+1):=by
    rw [List.drop_eq_getElem_cons hil]
    congr 1
    exact (List.getElem?_eq_some_iff.1 hi).2
   rw [hdr] at hwp
   refine wpOp_mono (fun a' w' h' => ⟨hC',.inr ⟨i+1,by omega,fun j hj=>?_,h'⟩⟩) (sI hi hwp)
   have hjs:j<listed.size:=by omega
   have h4:=hL j hj
   by_cases hji:j=i
   ·subst hji;simp [Array.getD,hjs]
   ·have h5:decide (j<i+1)=decide (j<i):=by
     by_cases h:j<i <;> simp [h] <;> omega
    rw [h5]
    simpa [Array.getD,hjs,Array.getElem_setIfInBounds,Ne.symm hji] using h4
 ·intro b W hI
  rcases hI.2 with ⟨hT,hF,hM,-⟩ | ⟨m,hnm,hL,hwp⟩
  ·have hnl:n=l.length:=by
    rcases Nat.lt_or_ge n l.length with h | h
    ·have:=hT n (Nat.le_refl _) h
     simp [Array.getD,h] at this
    ·omega
   have hall:∀ j,j<l.length→(Array.replicate l.length true).getD j false=true:=fun j hj=>by simp [Array.getD,hj]
   obtain ⟨mb,m,hMM⟩:=hM (hall 0 (by omega))
   have h1:=hend b W mb m ⟨hF.kept,hF.defers,hF.size,hF.rest,fun j dj hj _=>hF.fact j dj hj (by
    have hjl:j<n:=by rw [← hlen];exact (List.getElem?_eq_some_iff.1 hj).1
    simp [hjl,hall j (by omega)])⟩ ⟨hMM.here,hMM.ge,hMM.map,hMM.nodup,fun d hd' => let ⟨r,hr,_,hk,hFd⟩:=hMM.from_ d hd';⟨r,hr,rfl,hk,hFd⟩,fun r hr _=>hMM.all r hr (hall r.1 (by have:=(hins r hr).1;omega))⟩
   rw [hnl,List.drop_length] at h1
   exact h1
  ·have hml:l.length≤m:=by
    rcases Nat.lt_or_ge m l.length with h | h
    ·have:=hL m h
     simp [Array.getD,h] at this
    ·exact h
   rw [List.drop_of_length_le hml] at hwp
   exact hwp
end
end
section
open Go.RowKit
def rgD:List (Option Nat):=[some 7,some 8,some 9,some 10,some 11,none,some 12,some 13,none,some 14,some 15,none,some 16,some 17,none,some 18,some 19,some 20,some 21,none,some 22,some 23,some 24,some 25,none,some 26,some 27,some 28,some 29,none,some 30,some 31,none,some 32,some 33,none]
def sG:List (Nat×Int×Nat):=[(5,0,4),(8,1,7),(11,2,10),(14,3,13),(19,4,18),(24,5,23),(29,6,28),(32,7,31),(35,8,34)]
noncomputable def rgL:List Oper:=match KU Tryz.prog 278 0 with
 | .region _ ops _=>ops.toList
 | _=>[]
noncomputable def rgI:Nat:=match KU Tryz.prog 278 0 with
 | .region id _ _=>id
 | _=>0
theorem a3l:KU Tryz.prog 278 0 = .region rgI rgL.toArray true:=by kernel_rfl
noncomputable def rgO (i:Nat):Oper:=rgL.getD i ⟨none,.move (.const undef),0,"",#[],none⟩
def a0y (N:Nat) (bp c:Value) (g:Nat) (k:Int) (v:Value) (W:World):Prop:=∃ (b1 b3:Nat) (t1 t3:TypeId),v = .func (.func 302) #[] #[.pointer (some ⟨b1,0,none⟩),bp,.pointer (some ⟨b3,0,none⟩)]∧N≤b1∧N≤b3 ∧
 W.heap[b1]? = some (.cells #[.func (.func g) #[c] #[]] t1 (0,0))∧W.heap[b3]? = some (.cells #[.int .i64 k] t3 (0,0))
def Yi (N:Nat) (bp c:Value) (g:Nat) (k:Int):KX (Rm N):=⟨fun v W=>a0y N bp c g k v W,fun ⟨b1,b3,t1,t3,h1,h2,h3,h4,h5⟩ hR=>⟨b1,b3,t1,t3,h1,h2,h3,(hR.cels _ _ _ _ h4).trans h4,(hR.cels _ _ _ _ h5).trans h5⟩⟩
def rgF (N:Nat) (bp c V3:Value):List (KX (Rm N)):=[KX.tt _,KX.eq _ V3,KX.eq _ c,KX.eq _ (.func (.func 304) #[c] #[]),Yi N bp c 304 1,KX.tt _,KX.eq _ c,KX.eq _ (.func (.func 305) #[c] #[]),KX.tt _,KX.eq _ c,KX.eq _ (.func (.func 306) #[c] #[]),KX.tt _,KX.eq _ c,KX.eq _ (.func (.func 307) #[c] #[]),KX.tt _,KX.eq _ V3,KX.eq _ c,KX.eq _ (.func (.func 308) #[c] #[]),Yi N bp c 308 6,KX.tt _,KX.eq _ V3,KX.eq _ c,KX.eq _ (.func (.func 309) #[c] #[]),Yi N bp c 309 7,KX.tt _,KX.eq _ V3,KX.eq _ c,KX.eq _ (.func (.func 310) #[c] #[]),Yi N bp c 310 9,KX.tt _,KX.eq _ c,KX.eq _ (.func (.func 311) #[c] #[]),KX.tt _,KX.eq _ c,KX.eq _ (.func (.func 312) #[c] #[]),KX.tt _]
theorem Jl (g:Nat) (c p:Value) (k:Int) (w:World):Calls Tryz.prog 301 #[.func (.func g) #[c] #[],.int .i64 k,p] w fun e w' => e = .returned (.func (.func 302) #[] #[.pointer (some ⟨w.heap.size,0,none⟩),p,.pointer (some ⟨w.heap.size+1,0,none⟩)]) ∧
  w' = (w.alloc (.cells #[.func (.func g) #[c] #[]] 1)).alloc (.cells #[.int .i64 k] 3):=by
 go_enter Tryz.func301,Tryz.ntmps301
 go_wp2
 go_ret
 exact ⟨rfl,rfl⟩
section
variable {P:Program} {Q:Exit→Act→World→Prop}
theorem R4 {o:Oper} {b:Act} {W:World} {K:Act→World→Prop} {v:Value} (hr:(execOp b.eval o).run P W = .ok (.value v) W) (hK:K (b.put o.dst v) W):o.wp P b W K Q:=by unfold Oper.wp;rw [hr];exact hK
theorem ld1 {o:Oper} {b:Act} {W:World} {t:TypeId} {x:Nat} {g:Nat} {u:Value} (ho:o.op = .load t (.tmp x)) (ht:Re P t=some false) (hx:b.tmps[x]? = some (.pointer (some ⟨g,0,none⟩))) (hu:W.cell? ⟨g,0,none⟩=some u):(execOp b.eval o).run P W = .ok (.value u) W:=by
 have h1:b.eval (.tmp x) = .pointer (some ⟨g,0,none⟩):=by simp [Act.eval,hx]
 have h2:(loadVar t ⟨g,0,none⟩).run P W = .ok u W:=by unfold loadVar;simp [Sem.run_bind,wD ht,hu]
 simp [execOp,ho,h1,Instr.loadAt,Instr.sureAddr,Sem.run_bind,h2]
end
theorem CV {Q:Exit→Act→World→Prop} {o:Oper} {b:Act} {W:World} {K:Act→World→Prop} {x y N:Nat} {g:Nat} {k:Int} {c bp V3:Value} {ats:Array TypeId} (ho:o.op = .call { callee:=.value (.tmp x),args:=#[.tmp y,.const (.int .i64 k)],argTypes:=ats }) (hx:b.tmps[x]? = some V3) (hy:b.tmps[y]? = some (.func (.func g) #[c] #[])) (hV:V3 = .func (.func 301) #[] #[bp]) (hN:N≤W.heap.size)
  (hK:∀ v W',a0y N bp c g k v W' → Below W.heap.size W W' → K (b.put o.dst v) W'):o.wp Tryz.prog b W K Q:=by
 have h1:b.eval (.tmp x) = .func (.func 301) #[] #[bp]:=by simp [Act.eval,hx,hV]
 have h2:b.eval (.tmp y) = .func (.func g) #[c] #[]:=by simp [Act.eval,hy]
 have h3:b.eval (.const (.int .i64 k)) = .int .i64 k:=rfl
 have hrun:=mq (P:=Tryz.prog) (W:=W) (f:=b.eval) ho h1 (by kernel_rfl)
 refine upon_enter' hrun ?_
 have e:(#[]++#[Operand.tmp y,.const (.int .i64 k)].map b.eval++#[bp]:Array Value)=#[.func (.func g) #[c] #[],.int .i64 k,bp]:=by simp [h2,h3]
 rw [e]
 refine (Jl g c bp k W).mono ?_
 rintro e' W' ⟨rfl,rfl⟩
 have hB:Below W.heap.size W ((W.alloc (.cells #[.func (.func g) #[c] #[]] 1)).alloc (.cells #[.int .i64 k] 3)):=by
  have h0:Below W.heap.size W (W.alloc (.cells #[.func (.func g) #[c] #[]] 1)):=(show Below W.heap.size W W from ⟨rfl,rfl,rfl,Nat.le_refl _,fun _ _=>rfl⟩).alloc (Nat.le_refl _) _
  exact h0.alloc h0.size _
 have a1:=MapKept.heap_alloc W (.cells #[.func (.func g) #[c] #[]] 1)
 have a2:=MapKept.heap_alloc (W.alloc (.cells #[.func (.func g) #[c] #[]] 1)) (.cells #[.int .i64 k] 3)
 have hsz:(W.alloc (.cells #[.func (.func g) #[c] #[]] 1)).heap.size=W.heap.size+1:=World.size_alloc _ _
 refine ⟨_,rfl,hK _ _ ⟨W.heap.size,W.heap.size+1,1,3,rfl,hN,by omega,?_,?_⟩ hB⟩
 ·rw [a2.2 _ (by omega)];exact a1.1
 ·rw [← hsz];exact a2.1
theorem a1S:∀ r∈sG,r.1<36∧r.1≠0∧∃ o d,rgL[r.1]? = some o∧o.dst=none∧o.op = .insert 267 (.tmp 7) (.const (.int .i64 r.2.1)) (.tmp d)∧rgD[r.2.2]? = some (some d)∧r.2.2<36∧qo rgL r.1 0=true∧qo rgL r.1 r.2.2=true∧∀ (N:Nat) (bp c V3 v:Value) (W:World),FX (Rm N) (rgF N bp c V3) r.1 v W:=by
 intro r hr
 simp only [sG,List.mem_cons,List.not_mem_nil,or_false] at hr
 rcases hr with rfl | rfl | rfl | rfl | rfl | rfl | rfl | rfl | rfl
 ·exact ⟨by decide,by decide,rgO 5,11,by kernel_rfl,by kernel_rfl,by kernel_rfl,rfl,by decide,by kernel_rfl,by kernel_rfl,fun _ _ _ _ _ _=>trivial⟩
 ·exact ⟨by decide,by decide,rgO 8,13,by kernel_rfl,by kernel_rfl,by kernel_rfl,rfl,by decide,by kernel_rfl,by kernel_rfl,fun _ _ _ _ _ _=>trivial⟩
 ·exact ⟨by decide,by decide,rgO 11,15,by kernel_rfl,by kernel_rfl,by kernel_rfl,rfl,by decide,by kernel_rfl,by kernel_rfl,fun _ _ _ _ _ _=>trivial⟩
 ·exact ⟨by decide,by decide,rgO 14,17,by kernel_rfl,by kernel_rfl,by kernel_rfl,rfl,by decide,by kernel_rfl,by kernel_rfl,fun _ _ _ _ _ _=>trivial⟩
 ·exact ⟨by decide,by decide,rgO 19,21,by kernel_rfl,by kernel_rfl,by kernel_rfl,rfl,by decide,by kernel_rfl,by kernel_rfl,fun _ _ _ _ _ _=>trivial⟩
 ·exact ⟨by decide,by decide,rgO 24,25,by kernel_rfl,by kernel_rfl,by kernel_rfl,rfl,by decide,by kernel_rfl,by kernel_rfl,fun _ _ _ _ _ _=>trivial⟩
 ·exact ⟨by decide,by decide,rgO 29,29,by kernel_rfl,by kernel_rfl,by kernel_rfl,rfl,by decide,by kernel_rfl,by kernel_rfl,fun _ _ _ _ _ _=>trivial⟩
 ·exact ⟨by decide,by decide,rgO 32,31,by kernel_rfl,by kernel_rfl,by kernel_rfl,rfl,by decide,by kernel_rfl,by kernel_rfl,fun _ _ _ _ _ _=>trivial⟩
 ·exact ⟨by decide,by decide,rgO 35,33,by kernel_rfl,by kernel_rfl,by kernel_rfl,rfl,by decide,by kernel_rfl,by kernel_rfl,fun _ _ _ _ _ _=>trivial⟩
theorem PO {Q:Exit→Act→World→Prop} {N gb:Nat} {a:Act} {w:World} {bp c V3:Value} (hN:w.heap.size=N) (ha1:a.tmps[1]? = some (.pointer (some ⟨gb,0,none⟩))) (ha3:a.tmps[3]? = some V3) (hV3:V3 = .func (.func 301) #[] #[bp]) (hgb:∃ arr ty,w.heap[gb]? = some (.cells arr ty (0,0))∧arr[0]? = some c) :
  ∀ i o,rgL[i]? = some o→i<36→i≠0→(∀ r∈sG,r.1≠i)→∀ b W,FactsM N rgD (FX (Rm N) (rgF N bp c V3)) a w (fun j=>o.after.toList.any fun e=>Region.binds .any e&&e.on==j) b W →
   ∀ K:Act→World→Prop,(∀ v W',FX (Rm N) (rgF N bp c V3) i v W' → Below W.heap.size W W' → K (b.put o.dst v) W')→o.wp Tryz.prog b W K Q:=by
 have h1:∀ b:Act,(∀ t,some t∉rgD→b.tmps[t]? = a.tmps[t]?)→b.tmps[1]? = some (.pointer (some ⟨gb,0,none⟩)):=fun b h=>(h 1 (by decide)).trans ha1
 have h3:∀ b:Act,(∀ t,some t∉rgD→b.tmps[t]? = a.tmps[t]?)→b.eval (.tmp 3)=V3:=fun b h=>by simp [Act.eval,(h 3 (by decide)).trans ha3]
 have hc:∀ W,Rm N w W→W.cell? ⟨gb,0,none⟩=some c:=fun W h=>by
  obtain ⟨arr,ty,e1,e2⟩:=hgb
  have:=(h.cels _ _ _ _ e1).trans e1
  simp [World.cell?,this,e2]
 intro i o hi hin hi0 hno b W hF K hK
 have hcase:i=1∨i=2∨i=3∨i=4∨i=6∨i=7∨i=9∨i=10∨i=12∨i=13∨i=15∨i=16∨i=17∨i=18∨i=20∨i=21∨i=22∨i=23∨i=25∨i=26∨i=27∨i=28∨i=30∨i=31∨i=33∨i=34:=by
  have e:=fun r hr=>hno r hr
  simp only [sG,List.mem_cons,List.not_mem_nil,or_false,forall_eq_or_imp,forall_eq] at e
  omega
 rcases hcase with rfl | rfl | rfl | rfl | rfl | rfl | rfl | rfl | rfl | rfl | rfl | rfl | rfl | rfl | rfl | rfl | rfl | rfl | rfl | rfl | rfl | rfl | rfl | rfl | rfl | rfl
 ·obtain rfl:rgO 1=o:=Option.some.inj ((show rgL[1]? = some (rgO 1) by kernel_rfl).symm.trans hi)
  exact R4 (v:=V3) (by simp [execOp,show (rgO 1).op = .move (.tmp 3) by kernel_rfl,h3 b hF.rest]) (hK _ _ rfl (Below.refl _ _))
 ·obtain rfl:rgO 2=o:=Option.some.inj ((show rgL[2]? = some (rgO 2) by kernel_rfl).symm.trans hi)
  exact R4 (v:=c) (ld1 (show (rgO 2).op = .load 264 (.tmp 1) by kernel_rfl) (by kernel_rfl) (h1 b hF.rest) (hc W hF.kept)) (hK _ _ rfl (Below.refl _ _))
 ·obtain rfl:rgO 3=o:=Option.some.inj ((show rgL[3]? = some (rgO 3) by kernel_rfl).symm.trans hi)
  obtain ⟨va,hva,hFa⟩:=hF.fact 2 _ (show rgD[2]? = some (some 9) from rfl) (by kernel_rfl)
  have hea:=hva _ rfl
  have hFa' : va=c:=hFa
  subst hFa'
  exact R4 (v:=.func (.func 304) #[va] #[]) (by simp [execOp,show (rgO 3).op = .makeFunc (.func 304) #[.tmp 9] #[] by kernel_rfl,Instr.makeFunc,Act.eval,hea]) (hK _ _ rfl (Below.refl _ _))
 ·obtain rfl:rgO 4=o:=Option.some.inj ((show rgL[4]? = some (rgO 4) by kernel_rfl).symm.trans hi)
  obtain ⟨va,hva,hFa⟩:=hF.fact 1 _ (show rgD[1]? = some (some 8) from rfl) (by kernel_rfl)
  have hea:=hva _ rfl
  obtain ⟨vb,hvb,hFb⟩:=hF.fact 3 _ (show rgD[3]? = some (some 10) from rfl) (by kernel_rfl)
  have heb:=hvb _ rfl
  have hFa' : va=V3:=hFa
  have hFb' : vb = .func (.func 304) #[c] #[]:=hFb
  rw [hFa'] at hea
  rw [hFb'] at heb
  exact CV (g:=304) (k:=1) (show (rgO 4).op = .call { callee:=.value (.tmp 8),args:=#[.tmp 10,.const (.int .i64 1)],argTypes:=#[1,3] } by kernel_rfl) hea heb hV3 (hN ▸ hF.kept.size) (fun v W' h=>hK v W' h)
 ·obtain rfl:rgO 6=o:=Option.some.inj ((show rgL[6]? = some (rgO 6) by kernel_rfl).symm.trans hi)
  exact R4 (v:=c) (ld1 (show (rgO 6).op = .load 264 (.tmp 1) by kernel_rfl) (by kernel_rfl) (h1 b hF.rest) (hc W hF.kept)) (hK _ _ rfl (Below.refl _ _))
 ·obtain rfl:rgO 7=o:=Option.some.inj ((show rgL[7]? = some (rgO 7) by kernel_rfl).symm.trans hi)
  obtain ⟨va,hva,hFa⟩:=hF.fact 6 _ (show rgD[6]? = some (some 12) from rfl) (by kernel_rfl)
  have hea:=hva _ rfl
  have hFa' : va=c:=hFa
  subst hFa'
  exact R4 (v:=.func (.func 305) #[va] #[]) (by simp [execOp,show (rgO 7).op = .makeFunc (.func 305) #[.tmp 12] #[] by kernel_rfl,Instr.makeFunc,Act.eval,hea]) (hK _ _ rfl (Below.refl _ _))
 ·obtain rfl:rgO 9=o:=Option.some.inj ((show rgL[9]? = some (rgO 9) by kernel_rfl).symm.trans hi)
  exact R4 (v:=c) (ld1 (show (rgO 9).op = .load 264 (.tmp 1) by kernel_rfl) (by kernel_rfl) (h1 b hF.rest) (hc W hF.kept)) (hK _ _ rfl (Below.refl _ _))
 ·obtain rfl:rgO 10=o:=Option.some.inj ((show rgL[10]? = some (rgO 10) by kernel_rfl).symm.trans hi)
  obtain ⟨va,hva,hFa⟩:=hF.fact 9 _ (show rgD[9]? = some (some 14) from rfl) (by kernel_rfl)
  have hea:=hva _ rfl
  have hFa' : va=c:=hFa
  subst hFa'
  exact R4 (v:=.func (.func 306) #[va] #[]) (by simp [execOp,show (rgO 10).op = .makeFunc (.func 306) #[.tmp 14] #[] by kernel_rfl,Instr.makeFunc,Act.eval,hea]) (hK _ _ rfl (Below.refl _ _))
 ·obtain rfl:rgO 12=o:=Option.some.inj ((show rgL[12]? = some (rgO 12) by kernel_rfl).symm.trans hi)
  exact R4 (v:=c) (ld1 (show (rgO 12).op = .load 264 (.tmp 1) by kernel_rfl) (by kernel_rfl) (h1 b hF.rest) (hc W hF.kept)) (hK _ _ rfl (Below.refl _ _))
 ·obtain rfl:rgO 13=o:=Option.some.inj ((show rgL[13]? = some (rgO 13) by kernel_rfl).symm.trans hi)
  obtain ⟨va,hva,hFa⟩:=hF.fact 12 _ (show rgD[12]? = some (some 16) from rfl) (by kernel_rfl)
  have hea:=hva _ rfl
  have hFa' : va=c:=hFa
  subst hFa'
  exact R4 (v:=.func (.func 307) #[va] #[]) (by simp [execOp,show (rgO 13).op = .makeFunc (.func 307) #[.tmp 16] #[] by kernel_rfl,Instr.makeFunc,Act.eval,hea]) (hK _ _ rfl (Below.refl _ _))
 ·obtain rfl:rgO 15=o:=Option.some.inj ((show rgL[15]? = some (rgO 15) by kernel_rfl).symm.trans hi)
  exact R4 (v:=V3) (by simp [execOp,show (rgO 15).op = .move (.tmp 3) by kernel_rfl,h3 b hF.rest]) (hK _ _ rfl (Below.refl _ _))
 ·obtain rfl:rgO 16=o:=Option.some.inj ((show rgL[16]? = some (rgO 16) by kernel_rfl).symm.trans hi)
  exact R4 (v:=c) (ld1 (show (rgO 16).op = .load 264 (.tmp 1) by kernel_rfl) (by kernel_rfl) (h1 b hF.rest) (hc W hF.kept)) (hK _ _ rfl (Below.refl _ _))
 ·obtain rfl:rgO 17=o:=Option.some.inj ((show rgL[17]? = some (rgO 17) by kernel_rfl).symm.trans hi)
  obtain ⟨va,hva,hFa⟩:=hF.fact 16 _ (show rgD[16]? = some (some 19) from rfl) (by kernel_rfl)
  have hea:=hva _ rfl
  have hFa' : va=c:=hFa
  subst hFa'
  exact R4 (v:=.func (.func 308) #[va] #[]) (by simp [execOp,show (rgO 17).op = .makeFunc (.func 308) #[.tmp 19] #[] by kernel_rfl,Instr.makeFunc,Act.eval,hea]) (hK _ _ rfl (Below.refl _ _))
 ·obtain rfl:rgO 18=o:=Option.some.inj ((show rgL[18]? = some (rgO 18) by kernel_rfl).symm.trans hi)
  obtain ⟨va,hva,hFa⟩:=hF.fact 15 _ (show rgD[15]? = some (some 18) from rfl) (by kernel_rfl)
  have hea:=hva _ rfl
  obtain ⟨vb,hvb,hFb⟩:=hF.fact 17 _ (show rgD[17]? = some (some 20) from rfl) (by kernel_rfl)
  have heb:=hvb _ rfl
  have hFa' : va=V3:=hFa
  have hFb' : vb = .func (.func 308) #[c] #[]:=hFb
  rw [hFa'] at hea
  rw [hFb'] at heb
  exact CV (g:=308) (k:=6) (show (rgO 18).op = .call { callee:=.value (.tmp 18),args:=#[.tmp 20,.const (.int .i64 6)],argTypes:=#[1,3] } by kernel_rfl) hea heb hV3 (hN ▸ hF.kept.size) (fun v W' h=>hK v W' h)
 ·obtain rfl:rgO 20=o:=Option.some.inj ((show rgL[20]? = some (rgO 20) by kernel_rfl).symm.trans hi)
  exact R4 (v:=V3) (by simp [execOp,show (rgO 20).op = .move (.tmp 3) by kernel_rfl,h3 b hF.rest]) (hK _ _ rfl (Below.refl _ _))
 ·obtain rfl:rgO 21=o:=Option.some.inj ((show rgL[21]? = some (rgO 21) by kernel_rfl).symm.trans hi)
  exact R4 (v:=c) (ld1 (show (rgO 21).op = .load 264 (.tmp 1) by kernel_rfl) (by kernel_rfl) (h1 b hF.rest) (hc W hF.kept)) (hK _ _ rfl (Below.refl _ _))
 ·obtain rfl:rgO 22=o:=Option.some.inj ((show rgL[22]? = some (rgO 22) by kernel_rfl).symm.trans hi)
  obtain ⟨va,hva,hFa⟩:=hF.fact 21 _ (show rgD[21]? = some (some 23) from rfl) (by kernel_rfl)
  have hea:=hva _ rfl
  have hFa' : va=c:=hFa
  subst hFa'
  exact R4 (v:=.func (.func 309) #[va] #[]) (by simp [execOp,show (rgO 22).op = .makeFunc (.func 309) #[.tmp 23] #[] by kernel_rfl,Instr.makeFunc,Act.eval,hea]) (hK _ _ rfl (Below.refl _ _))
 ·obtain rfl:rgO 23=o:=Option.some.inj ((show rgL[23]? = some (rgO 23) by kernel_rfl).symm.trans hi)
  obtain ⟨va,hva,hFa⟩:=hF.fact 20 _ (show rgD[20]? = some (some 22) from rfl) (by kernel_rfl)
  have hea:=hva _ rfl
  obtain ⟨vb,hvb,hFb⟩:=hF.fact 22 _ (show rgD[22]? = some (some 24) from rfl) (by kernel_rfl)
  have heb:=hvb _ rfl
  have hFa' : va=V3:=hFa
  have hFb' : vb = .func (.func 309) #[c] #[]:=hFb
  rw [hFa'] at hea
  rw [hFb'] at heb
  exact CV (g:=309) (k:=7) (show (rgO 23).op = .call { callee:=.value (.tmp 22),args:=#[.tmp 24,.const (.int .i64 7)],argTypes:=#[1,3] } by kernel_rfl) hea heb hV3 (hN ▸ hF.kept.size) (fun v W' h=>hK v W' h)
 ·obtain rfl:rgO 25=o:=Option.some.inj ((show rgL[25]? = some (rgO 25) by kernel_rfl).symm.trans hi)
  exact R4 (v:=V3) (by simp [execOp,show (rgO 25).op = .move (.tmp 3) by kernel_rfl,h3 b hF.rest]) (hK _ _ rfl (Below.refl _ _))
 ·obtain rfl:rgO 26=o:=Option.some.inj ((show rgL[26]? = some (rgO 26) by kernel_rfl).symm.trans hi)
  exact R4 (v:=c) (ld1 (show (rgO 26).op = .load 264 (.tmp 1) by kernel_rfl) (by kernel_rfl) (h1 b hF.rest) (hc W hF.kept)) (hK _ _ rfl (Below.refl _ _))
 ·obtain rfl:rgO 27=o:=Option.some.inj ((show rgL[27]? = some (rgO 27) by kernel_rfl).symm.trans hi)
  obtain ⟨va,hva,hFa⟩:=hF.fact 26 _ (show rgD[26]? = some (some 27) from rfl) (by kernel_rfl)
  have hea:=hva _ rfl
  have hFa' : va=c:=hFa
  subst hFa'
  exact R4 (v:=.func (.func 310) #[va] #[]) (by simp [execOp,show (rgO 27).op = .makeFunc (.func 310) #[.tmp 27] #[] by kernel_rfl,Instr.makeFunc,Act.eval,hea]) (hK _ _ rfl (Below.refl _ _))
 ·obtain rfl:rgO 28=o:=Option.some.inj ((show rgL[28]? = some (rgO 28) by kernel_rfl).symm.trans hi)
  obtain ⟨va,hva,hFa⟩:=hF.fact 25 _ (show rgD[25]? = some (some 26) from rfl) (by kernel_rfl)
  have hea:=hva _ rfl
  obtain ⟨vb,hvb,hFb⟩:=hF.fact 27 _ (show rgD[27]? = some (some 28) from rfl) (by kernel_rfl)
  have heb:=hvb _ rfl
  have hFa' : va=V3:=hFa
  have hFb' : vb = .func (.func 310) #[c] #[]:=hFb
  rw [hFa'] at hea
  rw [hFb'] at heb
  exact CV (g:=310) (k:=9) (show (rgO 28).op = .call { callee:=.value (.tmp 26),args:=#[.tmp 28,.const (.int .i64 9)],argTypes:=#[1,3] } by kernel_rfl) hea heb hV3 (hN ▸ hF.kept.size) (fun v W' h=>hK v W' h)
 ·obtain rfl:rgO 30=o:=Option.some.inj ((show rgL[30]? = some (rgO 30) by kernel_rfl).symm.trans hi)
  exact R4 (v:=c) (ld1 (show (rgO 30).op = .load 264 (.tmp 1) by kernel_rfl) (by kernel_rfl) (h1 b hF.rest) (hc W hF.kept)) (hK _ _ rfl (Below.refl _ _))
 ·obtain rfl:rgO 31=o:=Option.some.inj ((show rgL[31]? = some (rgO 31) by kernel_rfl).symm.trans hi)
  obtain ⟨va,hva,hFa⟩:=hF.fact 30 _ (show rgD[30]? = some (some 30) from rfl) (by kernel_rfl)
  have hea:=hva _ rfl
  have hFa' : va=c:=hFa
  subst hFa'
  exact R4 (v:=.func (.func 311) #[va] #[]) (by simp [execOp,show (rgO 31).op = .makeFunc (.func 311) #[.tmp 30] #[] by kernel_rfl,Instr.makeFunc,Act.eval,hea]) (hK _ _ rfl (Below.refl _ _))
 ·obtain rfl:rgO 33=o:=Option.some.inj ((show rgL[33]? = some (rgO 33) by kernel_rfl).symm.trans hi)
  exact R4 (v:=c) (ld1 (show (rgO 33).op = .load 264 (.tmp 1) by kernel_rfl) (by kernel_rfl) (h1 b hF.rest) (hc W hF.kept)) (hK _ _ rfl (Below.refl _ _))
 ·obtain rfl:rgO 34=o:=Option.some.inj ((show rgL[34]? = some (rgO 34) by kernel_rfl).symm.trans hi)
  obtain ⟨va,hva,hFa⟩:=hF.fact 33 _ (show rgD[33]? = some (some 32) from rfl) (by kernel_rfl)
  have hea:=hva _ rfl
  have hFa' : va=c:=hFa
  subst hFa'
  exact R4 (v:=.func (.func 312) #[va] #[]) (by simp [execOp,show (rgO 34).op = .makeFunc (.func 312) #[.tmp 32] #[] by kernel_rfl,Instr.makeFunc,Act.eval,hea]) (hK _ _ rfl (Below.refl _ _))
def AJ:List Nat:=[4,7,8,9,10,11,12,13,14,15,16,17,18,19,20,21,22,23,24,25,26,27,28,29,30,31,32,33,34]
section
variable {ρ:A8} {O:Nat→Prop} {W:World} {x:Nat}
theorem tJ (g:Nat) {c v:Value} (hx:Rp ρ O W (pt x) c) (h:v = .func (.func g) #[c] #[]):Rp ρ O W (BM x g) v :=
 U6.2 ⟨#[c],#[],h,⟨rfl,fun i y hy=>by
  match i,hy with
  | 0,hy=>simp at hy;subst hy;exact ⟨c,rfl,hx⟩
  | i+1,hy=>simp at hy⟩,rfl,fun i y hy=>by simp at hy⟩
theorem Bv {N g:Nat} {k:Int} {c v bp pb:Value} (hx:Rp ρ O W (pt x) c) (hp:Rp ρ O W pb bp) (hge:∀ g,N≤g→O g→∃ es ck,W.heap[g]? = some (.map es ck)) (h:a0y N bp c g k v W):Rp ρ O W (UJ x pb g k) v:=by
 obtain ⟨b1,b3,t1,t3,rfl,h1,h3,h4,h5⟩:=h
 have no:∀ (b:Nat) arr ty,N≤b→W.heap[b]? = some (.cells arr ty (0,0))→¬ O b:=fun b arr ty hb he hO=>by
  obtain ⟨es,ck,hm⟩:=hge b hb hO
  rw [he] at hm;cases hm
 have l1:b1<W.heap.size:=(Array.getElem?_eq_some_iff.1 h4).1
 have l3:b3<W.heap.size:=(Array.getElem?_eq_some_iff.1 h5).1
 refine U6.2 ⟨#[],#[.pointer (some ⟨b1,0,none⟩),bp,.pointer (some ⟨b3,0,none⟩)],rfl,⟨rfl,fun i y hy=>by simp at hy⟩,rfl,fun i y hy=>?_⟩
 match i,hy with
 | 0,hy =>
  simp at hy;subst hy
  refine ⟨_,rfl,zD.2 ⟨b1,0,rfl,l1,no b1 _ _ h1 h4,fun j y hy=>?_⟩⟩
  match j,hy with
  | 0,hy=>simp at hy;subst hy;exact ⟨_,by simp [World.cell?,h4],tJ g hx rfl⟩
  | j+1,hy=>simp at hy
 | 1,hy=>simp at hy;subst hy;exact ⟨bp,rfl,hp⟩
 | 2,hy =>
  simp at hy;subst hy
  refine ⟨_,rfl,zD.2 ⟨b3,0,rfl,l3,no b3 _ _ h3 h5,fun j y hy=>?_⟩⟩
  match j,hy with
  | 0,hy=>simp at hy;subst hy;exact ⟨_,by simp [World.cell?,h5],p8.2 rfl⟩
  | j+1,hy=>simp at hy
 | i+3,hy=>simp at hy
end
theorem Ke (d:Nat) (h:some d∈rgD):d∈AJ∧d<44:=by
 have:=List.all_eq_true.1 (show rgD.all (fun x=>match x with | some d=>AJ.contains d&&Nat.blt d 44 | none=>true)=true by decide) _ h
 simpa [Nat.blt_eq] using this
theorem a1z:∀ r∈sG,∀ r' ∈ sG,r'.2.1=r.2.1→r' = r:=by decide
theorem tu (x b:Nat):a1B Tryz.prog (KU Tryz.prog 278 0) 44 [(1,pt b),(3,.func (.func 301) #[] #[pt b])] [(b,⟨true,false,1,1,[pt x]⟩)] AJ 4 (GM x (pt b)):=by
 intro ρ O a W Q hl hdf hsz hT hH hK
 obtain ⟨c1,ha1,hr1⟩:=hT (1,pt b) (by simp)
 obtain ⟨V3,ha3,hr3⟩:=hT (3,.func (.func 301) #[] #[pt b]) (by simp)
 obtain ⟨gb,kb,jb,hgb,hj,rfl⟩:=V8.1 hr1
 cases hj
 obtain ⟨us,ws,rfl,hus,hws⟩:=U6.1 hr3
 obtain ⟨bp,hbp0,hbp⟩:=hws.2 0 (pt b) rfl
 obtain ⟨gb2,kb2,jb2,hgb2,hj2,rfl⟩:=V8.1 hbp
 cases hj2
 have e2:some (gb,kb)=some (gb2,kb2):=hgb.symm.trans hgb2
 cases e2
 have hu0:us=#[]:=Array.eq_empty_of_size_eq_zero hus.1
 have hw0:ws=#[.pointer (some ⟨gb,0 * kb+0,none⟩)]:=by
  have hs:=hws.1
  apply Array.ext
  ·simpa using hs
  ·intro i h1 h2
   have:i=0:=by simp at h2;exact h2
   subst this
   rw [Array.getElem?_eq_getElem h1] at hbp0
   exact Option.some.inj hbp0
 subst hu0 hw0
 have ez:0 * kb+0=0:=by omega
 rw [ez] at ha1 ha3
 have hh:=hH (b,⟨true,false,1,1,[pt x]⟩) (by simp)
 obtain ⟨gb3,hgb3,hOb,hB⟩:=hh
 have e3:some (gb,kb)=some (gb3,1):=hgb.symm.trans hgb3
 cases e3
 obtain ⟨arr,ty,hheap,-,hel⟩:=(I4 rfl).1 hB
 obtain ⟨-,hcells⟩:=hel 0 (pt x) rfl
 obtain ⟨c,hc,hrc⟩:=hcells 0 (pt x) rfl
 have hc0:arr[0]? = some c:=hc
 have hrx:∀ (O' : Nat→Prop) (W' : World),Rp ρ O' W' (pt x) c:=fun O' W' => V8.2 (V8.1 hrc)
 have hrb:∀ (O' : Nat→Prop) (W' : World),Rp ρ O' W' (pt b) (.pointer (some ⟨gb,0,none⟩)):=fun O' W' => V8.2 ⟨gb,1,0,hgb,rfl,rfl⟩
 rw [a3l]
 refine CY (P:=Tryz.prog) (mty:=267) W.heap.size 36 rgD (FX (Rm W.heap.size) (rgF W.heap.size (.pointer (some ⟨gb,0,none⟩)) c (.func (.func 301) #[] #[.pointer (some ⟨gb,0,none⟩)]))) 7 sG rfl (kt:=3) (et:=1) (by kernel_rfl) (by kernel_rfl) mixed (by kernel_rfl) (by kernel_rfl) (by rw [show rgL.length=38 by kernel_rfl];decide) (by kernel_rfl) (by kernel_rfl)
  (fun d hd=>?_) (by kernel_rfl) (fun i _ _ _ h hk=>(((rgF W.heap.size (.pointer (some ⟨gb,0,none⟩)) c (.func (.func 301) #[] #[.pointer (some ⟨gb,0,none⟩)])).getD i (KX.tt _))).k h hk) ⟨rgO 0,by kernel_rfl,by kernel_rfl,by kernel_rfl⟩ (fun _ _=>trivial)
  (fun r hr=>let ⟨h1,h2,o,d,h3,h4,h5,h6,h7,h8,h9,h10⟩:=a1S r hr;⟨h1,h2,o,d,h3,h4,h5,h6,h7,h8,h9,h10 _ _ _ _⟩) (by decide) (by decide) (PO rfl ha1 ha3 rfl ⟨arr,ty,hheap,hc0⟩) ?_ (by decide)
 ·rw [hsz]
  exact (Ke d hd).2
 ·intro b' W' mb m hF hM
  have hl36:rgL.drop 36=[rgO 36,rgO 37]:=by kernel_rfl
  rw [hl36]
  have hmt:b'.tmps[7]? = some (.map (some mb)):=hM.here
  have e1:(execOp b'.eval (rgO 36)).run Tryz.prog W' = .ok (.value (.map (some mb))) W' := by simp [execOp,show (rgO 36).op = .move (.tmp 7) by kernel_rfl,Act.eval,hmt]
  have hsz' : b'.tmps.size=44:=hF.size.trans hsz
  have e2:(execOp (b'.put (some 34) (.map (some mb))).eval (rgO 37)).run Tryz.prog W' = .ok (.value (.map (some mb))) W' := by simp [execOp,show (rgO 37).op = .assign (.tmp 34) by kernel_rfl,Act.eval,Act.put,hsz']
  simp only [wpList,Region.wanted,show (rgO 36).guard=none by kernel_rfl,show (rgO 37).guard=none by kernel_rfl,if_true]
  refine .inl (R4 e1 ?_)
  rw [show (rgO 36).dst=some 34 by kernel_rfl]
  refine .inl (R4 e2 ?_)
  rw [show (rgO 37).dst=some 4 by kernel_rfl]
  have hkept:=hF.kept.kept rfl
  have hge:∀ g,W.heap.size≤g→(O g∨g=mb)→∃ es ck,W'.heap[g]? = some (.map es ck):=fun g hg hO=>by
   rcases hO with hO | rfl
   ·have:=hl g hO;omega
   ·obtain ⟨es,ck,hm⟩:=hM.map;exact ⟨es,ck,hm.obj⟩
  refine hK _ W' mb (hF.defers.trans hdf) (by simp [Act.put,hsz']) (fun t ht=>?_) (by simp [Act.put,hsz']) hM.ge hkept ⟨m,⟨hM.map,hM.nodup⟩,fun d hd=>?_,fun el hel=>?_⟩
  ·have h34:t≠34:=fun e=>ht (by subst e;decide)
   have h4:t≠4:=fun e=>ht (by subst e;decide)
   have hD:some t∉rgD:=fun h=>ht (Ke t h).1
   rw [← hF.rest t hD]
   simp [Act.put,Array.getElem?_setIfInBounds,Ne.symm h34,Ne.symm h4]
  ·obtain ⟨r,hr,-,hk,-⟩:=hM.from_ d hd
   rw [hk]
   simp only [sG,List.mem_cons,List.not_mem_nil,or_false] at hr
   rcases hr with rfl | rfl | rfl | rfl | rfl | rfl | rfl | rfl | rfl
   all_goals exact ⟨_,by simp only [GM,vEn];simp only [List.mem_cons,Value.agg.injEq];simp;rfl⟩
  ·have row:∀ r∈sG,∃ v,(r.2.1,v)∈m∧FX (Rm W.heap.size) (rgF W.heap.size (.pointer (some ⟨gb,0,none⟩)) c (.func (.func 301) #[] #[.pointer (some ⟨gb,0,none⟩)])) r.2.2 v W' := fun r hr=>by
    obtain ⟨d,hd,hk⟩:=hM.all r hr rfl
    obtain ⟨r',hr',-,hk',hFd⟩:=hM.from_ d hd
    have:r' = r:=by
     have e:r'.2.1=r.2.1:=hk'.symm.trans hk
     exact a1z r hr r' hr' e
    subst this
    obtain ⟨i,v⟩:=d
    simp only at hk
    subst hk
    exact ⟨v,hd,hFd⟩
   have hx:=hrx (fun g=>O g∨g=mb) W'
   have hp:=hrb (fun g=>O g∨g=mb) W'
   simp only [GM,List.mem_cons,List.not_mem_nil,or_false] at hel
   rcases hel with rfl | rfl | rfl | rfl | rfl | rfl | rfl | rfl | rfl
   ·obtain ⟨v,hv,hFv⟩:=row (5,0,4) (by decide)
    exact ⟨0,_,v,rfl,hv,Bv (g:=304) (k:=1) hx hp hge hFv⟩
   ·obtain ⟨v,hv,hFv⟩:=row (8,1,7) (by decide)
    exact ⟨1,_,v,rfl,hv,tJ 305 hx hFv⟩
   ·obtain ⟨v,hv,hFv⟩:=row (11,2,10) (by decide)
    exact ⟨2,_,v,rfl,hv,tJ 306 hx hFv⟩
   ·obtain ⟨v,hv,hFv⟩:=row (14,3,13) (by decide)
    exact ⟨3,_,v,rfl,hv,tJ 307 hx hFv⟩
   ·obtain ⟨v,hv,hFv⟩:=row (19,4,18) (by decide)
    exact ⟨4,_,v,rfl,hv,Bv (g:=308) (k:=6) hx hp hge hFv⟩
   ·obtain ⟨v,hv,hFv⟩:=row (24,5,23) (by decide)
    exact ⟨5,_,v,rfl,hv,Bv (g:=309) (k:=7) hx hp hge hFv⟩
   ·obtain ⟨v,hv,hFv⟩:=row (29,6,28) (by decide)
    exact ⟨6,_,v,rfl,hv,Bv (g:=310) (k:=9) hx hp hge hFv⟩
   ·obtain ⟨v,hv,hFv⟩:=row (32,7,31) (by decide)
    exact ⟨7,_,v,rfl,hv,tJ 311 hx hFv⟩
   ·obtain ⟨v,hv,hFv⟩:=row (35,8,34) (by decide)
    exact ⟨8,_,v,rfl,hv,tJ 312 hx hFv⟩
end
section
open Go.RowKit
section
variable {s:St} {i m o:Int}
theorem Kg (h:decide (o<min m 1000)=false):qL2 (hdV s i m o s.th.length) (.exit 0) (hdV s i m o s.th.length):=o5 mixed (fuel:=9) (n:=12) (im:=[0,1,2,3,4]) (keep:=[2,6,8,9,10]) (ext:=[42,248,109]) (orc:=[.bool false]) (an h trivial) (by intro e;cases e) (by kernel_rfl)
theorem Qg (h:decide (o<min m 1000)=true) (hB:stB s=false) (ho:s.ok):qL2 (hdV s i m o s.th.length) (.exit 0) (hdV s i m o s.th.length):=o5 mixed (fuel:=9) (n:=12) (im:=[0,1,2,3,4]) (keep:=[2,6,8,9,10]) (ext:=[42,248,109]) (orc:=[.bool true,vD false]) (an h<|an (l7 (f:=thT) s.th)<|an (o7 hB ho) trivial) (by intro e;cases e) (by kernel_rfl)
theorem a0M (h:decide (o<min m 1000)=true) (hB:stB s=true) (ho:s.ok) (hi:decide (i<0)=true):qL2 (hdV s i m o s.th.length) (.exit 0) (hdV s i m o s.th.length):=o5 mixed (fuel:=9) (n:=12) (im:=[0,1,2,3,4]) (keep:=[2,6,8,9,10]) (ext:=[42,248,109]) (orc:=[.bool true,vD true,.bool true]) (an h<|an (l7 (f:=thT) s.th)<|an (o7 hB ho)<|an hi trivial) (by intro e;cases e) (by kernel_rfl)
theorem VN (h:decide (o<min m 1000)=true) (hB:stB s=true) (ho:s.ok) (hi:decide (i<0)=false) (hj:decide ((s.th.length:Int)≤i)=true):qL2 (hdV s i m o s.th.length) (.exit 0) (hdV s i m o s.th.length):=o5 mixed (fuel:=9) (n:=12) (im:=[0,1,2,3,4]) (keep:=[2,6,8,9,10]) (ext:=[42,248,109]) (orc:=[.bool true,vD true,.bool false,.bool true]) (an h<|an (l7 (f:=thT) s.th)<|an (o7 hB ho)<|an hi<|an hj trivial) (by intro e;cases e) (by kernel_rfl)
variable {n:Nat}
theorem XF (h:decide (o<min m 1000)=true) (hB:stB s=true) (ho:s.ok) (hn:n<s.th.length) (hr:(H7 (gth s.th n).st==0)=false):qL2 (hdV s n m o s.th.length) (.exit 0) (hdV s n m o s.th.length):=o5 mixed (fuel:=9) (n:=12) (im:=[0,1,2,3,4]) (keep:=[2,6,8,9,10]) (ext:=[42,248,109]) (orc:=[.bool true,vD true,.bool false,.bool false,thT (gth s.th n),.int .i64 (H7 (gth s.th n).st),.bool false])
 (an h<|an (l7 (f:=thT) s.th)<|an (o7 hB ho)<|an (show decide ((n:Int)<0)=false by simp)<|an (show decide ((s.th.length:Int)≤n)=false by simp;omega)<|an (idT hn)<|an (elT hn)<|an (V6 (t:=gth s.th n) rfl)<|an hr trivial) (by intro e;cases e) (by kernel_rfl)
theorem Vg (h:decide (o<min m 1000)=true) (hB:stB s=true) (ho:s.ok) (hn:n<s.th.length) (hr:H7 (gth s.th n).st=0) (hs:(j6 (gth s.th n).ki==2)=false):qL2 (hdV s n m o s.th.length) (.exit 0) (hdV s n m o s.th.length):=o5 mixed (fuel:=9) (n:=12) (im:=[0,1,2,3,4]) (keep:=[2,6,8,9,10]) (ext:=[42,248,109]) (orc:=[.bool true,vD true,.bool false,.bool false,thT (gth s.th n),.int .i64 0,.nilFunc,thT (gth s.th n),.int .i64 (j6 (gth s.th n).ki),.bool false])
 (an h<|an (l7 (f:=thT) s.th)<|an (o7 hB ho)<|an (show decide ((n:Int)<0)=false by simp)<|an (show decide ((s.th.length:Int)≤n)=false by simp;omega)<|an (idT hn)<|an (elT hn)<|an (V6 (t:=gth s.th n) hr)<|an (idT hn)<|an (elT hn)<|an (O8 (gth s.th n).ki)<|an hs trivial) (by intro e;cases e) (by kernel_rfl)
theorem a0I (ho:s.ok) (hr:J8 s i 2=false):qL2 (hdV s i m o s.th.length) (.exit 0) (hdV s i m o s.th.length):=by
 cases h:decide (o<min m 1000)
 ·exact Kg h
 ·cases hB:stB s
  ·exact Qg h hB ho
  ·by_cases h0:i<0
   ·exact a0M h hB ho (by simp [h0])
   ·by_cases h1:(s.th.length:Int)≤i
    ·exact VN h hB ho (by simp;omega) (by simp [h1])
    ·obtain ⟨n,rfl⟩:∃ n:Nat,i=n:=⟨i.toNat,by omega⟩
     have hn:n<s.th.length:=by omega
     have hr' : ¬ ((gth s.th n).st=1∧j6 (gth s.th n).ki=2):=fun e=>by
      have:J8 s n 2=true:=I6.2 ⟨aa hB hn,by simpa using e⟩
      rw [hr] at this;cases this
     by_cases hs:H7 (gth s.th n).st=0
     ·refine Vg h hB ho hn hs (J4 fun e=>hr' ⟨?_,e⟩)
      have h2:=cB hs
      have h3:=l9 hB hn
      generalize gth s.th n=t at h2 h3
      obtain ⟨st,ki,va,un,pc,re,se,tr,la,rs,go⟩:=t
      rw [K6] at h3
      simp only at h2 ⊢
      omega
     ·exact XF h hB ho hn (J4 hs)
theorem Oe (k:Nat):∀ {s:St} {o:Int},Vk s→0≤o→(min m 1000 - o).toNat=k→s.lg.length+k≤900000→s.ok→qL2 (hdV s i m o s.th.length) (.exit 0) (hdV (ag s i k).1 i m (o+(ag s i k).2) (ag s i k).1.th.length):=by
 induction k with
 | zero =>
  intro s o _ _ hk _ _
  simp only [ag]
  rw [show o+((0:Nat):Int)=o by omega]
  exact Kg (by simp;omega)
 | succ k ih =>
  intro s o hv h0 hk hl ho
  cases hr:J8 s i 2
  ·have:ag s i (k+1)=(s,0):=by simp [ag,hr]
   rw [this]
   show qL2 (hdV s i m o s.th.length) (.exit 0) (hdV s i m (o+((0:Nat):Int)) s.th.length)
   rw [show o+((0:Nat):Int)=o by omega]
   exact a0I ho hr
  ·obtain ⟨h1,h2,h3⟩:=I6.1 hr
   obtain ⟨hB,hi0,hi1⟩:=J5.1 h1
   obtain ⟨n,rfl⟩:∃ n:Nat,i=n:=⟨i.toNat,by omega⟩
   have hn:n<s.th.length:=by omega
   rw [Int.toNat_natCast] at h2 h3
   have hs1:(gth s.th n).st≠0:=by omega
   have e:ag s n (k+1)=((ag (recvN s n) n k).1,(ag (recvN s n) n k).2+1):=by simp only [ag,hr,if_true,DX hr]
   rw [e]
   have hB' := gz hB hn hs1
   have hv' := Gp hv hB hn hs1
   have hl' : (recvN s n).lg.length≤s.lg.length+1:=by rcases (pK (s:=s) (n:=n)).1 with h | ⟨x,h⟩ <;> rw [h] <;> simp
   refine VE (s:=s) (n:=n) ⟨by simp;omega,hB,ho,hn,h2,h3,by omega,by constructor <;> omega⟩ fun N hN=>?_
   have:=ih (s:=recvN s n) (o:=o+1) hv' (by omega) (by omega) (by omega) (Ao hB' hv' (by omega))
   rw [hN]
   rw [show o+(((ag (recvN s n) n k).2+1:Nat):Int)=o+1+((ag (recvN s n) n k).2:Int) by omega]
   exact this
end
theorem Jo {s u:St} {i m o:Int} (hL:qL2 (hdV s i m 0 s.th.length) (.exit 0) (hdV u i m o u.th.length)) (ho:s.ok) (hf:s.fit) (ht:s.th≠[]):AC Tryz.prog 262 [stT s,.int .i64 i,.int .i64 m] (.tuple #[stT u,.int .i64 o]) :=
 d9 mixed (ext:=[154]) (fuel:=9) (n:=9) (orc:=[.iface 1000004 (.func (.yield 18) #[.agg (stL s),.int .i64 11] #[]),oR [1,3] [6] AJ 4 (GM 5 (pt 6)),.nilFunc,.nilFunc,.nilFunc,.nilFunc,
  oL [5,4,1,6,7] [2,6,8,9,10] 0 [(2,.int .i64 m),(6,pt 2),(8,pt 0),(9,.map (some 4)),(10,.int .i64 o)] [bX u i u.th.length,bT u.th u.th.length,bZ,bBx 0,bMp 0 (pt 3)]])
  (an (kN (Y7 s) ho hf ht)<|an (tu 5 6)<|an (show In64 (9+1) by constructor <;> decide)<|an (show In64 (9+1+1) by constructor <;> decide)<|an (show In64 (9+1+1+1) by constructor <;> decide)<|an hL<|an (l7 (f:=thT) u.th) trivial) (by kernel_rfl)
theorem NI {s:St} {i m:Int} (ho:s.ok) (hf:s.fit) (ht:s.th≠[]) (hl:s.lg.length≤800000):AC Tryz.prog 262 [stT s,.int .i64 i,.int .i64 m] (.tuple #[stT (ag s i (min m 1000).toNat).1,.int .i64 (ag s i (min m 1000).toNat).2]):=by
 have h:=Oe (i:=i) (m:=m) (min m 1000 - 0).toNat (s:=s) (o:=0) (.of ho) (Int.le_refl _) rfl (by omega) ho
 rw [show min m 1000 - 0=min m 1000 by omega,Int.zero_add] at h
 exact Jo h ho hf ht
theorem zx {s:St} {i m:Int} (h:s.th=[]) (ho:s.ok) (hf:s.fit):AC Tryz.prog 262 [stT s,.int .i64 i,.int .i64 m] (.tuple #[stT s,.int .i64 0]):=by
 cases hm:decide ((0:Int)<min m 1000)
 ·exact d9 mixed (ext:=[154,42]) (fuel:=9) (n:=9) (orc:=[stT s,oR [1,3] [5] AJ 4 (GM 4 (pt 5)),.nilFunc,.nilFunc,.nilFunc,.nilFunc,.bool false])
   (an (kQ (Y7 s) ho hf)<|an (tu 4 5)<|an (show In64 (9+1) by constructor <;> decide)<|an (show In64 (9+1+1) by constructor <;> decide)<|an (show In64 (9+1+1+1) by constructor <;> decide)<|an hm trivial) (by kernel_rfl)
 ·exact d9 mixed (ext:=[154,42]) (fuel:=9) (n:=9) (orc:=[stT s,oR [1,3] [5] AJ 4 (GM 4 (pt 5)),.nilFunc,.nilFunc,.nilFunc,.nilFunc,.bool true,vD false])
   (an (kQ (Y7 s) ho hf)<|an (tu 4 5)<|an (show In64 (9+1) by constructor <;> decide)<|an (show In64 (9+1+1) by constructor <;> decide)<|an (show In64 (9+1+1+1) by constructor <;> decide)<|an hm<|an (o7 (ug h) ho) trivial) (by kernel_rfl)
theorem RS {s:St} {i:Int} (h:stB s=false) (k:Nat):ag s i k=(s,0):=by
 cases k with
 | zero=>rfl
 | succ k=>simp [ag,J8,hasB,h]
theorem WH (s:St) (i:Int):(ag s i 1).1=ai s i:=by
 cases h:J8 s i 2 <;> simp [ag,h,ai]
theorem a0d {s:St} {i m:Int} (ho:s.ok) (hf:s.fit) (hl:s.lg.length≤800000):AC Tryz.prog 262 [stT s,.int .i64 i,.int .i64 m] (.tuple #[stT (ag s i (min m 1000).toNat).1,.int .i64 (ag s i (min m 1000).toNat).2]):=by
 by_cases h:s.th=[]
 ·rw [RS (ug h)];exact zx h ho hf
 ·exact NI ho hf h hl
theorem Ti {s:St} {i:Int} (ho:s.ok) (hf:s.fit) (hl:s.lg.length≤800000):AC Tryz.prog 250 [stT s,.int .i64 i] (stT (ai s i)):=by
 rw [← WH]
 exact d9 mixed (ext:=[262]) (fuel:=9) (n:=3) (orc:=[.tuple #[stT (ag s i 1).1,.int .i64 (ag s i 1).2]]) (an (a0d (i:=i) (m:=1) ho hf hl) trivial) (by kernel_rfl)
end
section
open Go.RowKit
theorem Ej {α:Type} {f:α→Value} (l k:List α) (hm:l.length+k.length≤1000000):vo (l++k).length ((l++k).map f) l.length (l.map f) k.length (k.map f):=⟨by simp,by simp,by omega⟩
def kOf {x k:Int} (_:x=k):Value:=.int .i64 k
def Cw (s:St) (n:Nat) (a:St):Prop:=(j6 (gth s.th n).ki=1∧AC Tryz.prog 249 [stT (s.toLg []),.int .i64 n] (stT a))∨(j6 (gth s.th n).ki=2∧AC Tryz.prog 250 [stT (s.toLg []),.int .i64 n] (stT a))∨(j6 (gth s.th n).ki=3∧AC Tryz.prog 251 [stT (s.toLg []),.int .i64 n] (stT a))
section
variable {s a:St} {n:Nat} {l:List Int} {m o j i N:Int} {x:Exit} {S:Sg} {b:Bool}
end
end
section
open Go.RowKit
theorem yj {s:St} (h:s.ok):(s.toLg []).ok:={ h with lg:=by show (0:Nat)≤maxLen;decide }
section
variable {s a:St} {n:Nat} {i:Int}
theorem QT (ho:s.ok) (hf:s.fit) (hl:s.lg≠[]) (hB:stB s=false):AC Tryz.prog 205 [stT s,.int .i64 i] (.tuple #[stT s,.int .i64 20]) :=
 d9 mixed (ext:=pkX) (fuel:=9) (n:=6) (orc:=[.iface 1000004 (.func (.yield 19) #[.agg (stL s),.int .i64 5] #[]),vD false,.nilFunc]) (an (ni (Y7 s) ho hf hl)<|an (l7 (f:=enT) s.lg)<|an (o7 hB ho)<|an (l7 (f:=enT) s.lg) trivial) (by kernel_rfl)
theorem TQ (ho:s.ok) (hf:s.fit) (hl:s.lg≠[]) (hB:stB s=true) (h0:decide (i<0)=true):AC Tryz.prog 205 [stT s,.int .i64 i] (.tuple #[stT s,.int .i64 123]) :=
 d9 mixed (ext:=pkX) (fuel:=9) (n:=6) (orc:=[.iface 1000004 (.func (.yield 19) #[.agg (stL s),.int .i64 5] #[]),vD true,.bool true,.nilFunc]) (an (ni (Y7 s) ho hf hl)<|an (l7 (f:=enT) s.lg)<|an (o7 hB ho)<|an h0<|an (l7 (f:=enT) s.lg) trivial) (by kernel_rfl)
theorem NV (ho:s.ok) (hf:s.fit) (hl:s.lg≠[]) (hB:stB s=true) (h0:decide (i<0)=false) (h1:decide ((s.th.length:Int)≤i)=true):AC Tryz.prog 205 [stT s,.int .i64 i] (.tuple #[stT s,.int .i64 123]) :=
 d9 mixed (ext:=pkX) (fuel:=9) (n:=6) (orc:=[.iface 1000004 (.func (.yield 19) #[.agg (stL s),.int .i64 5] #[]),vD true,.bool false,.bool true,.nilFunc]) (an (ni (Y7 s) ho hf hl)<|an (l7 (f:=enT) s.lg)<|an (o7 hB ho)<|an h0<|an h1<|an (l7 (f:=enT) s.lg) trivial) (by kernel_rfl)
theorem OE (ho:s.ok) (hf:s.fit) (hl:s.lg≠[]) (hB:stB s=true) (hn:n<s.th.length) (rs:(H7 (gth s.th n).st==0)=false):AC Tryz.prog 205 [stT s,.int .i64 n] (.tuple #[stT s,.int .i64 (H7 (gth s.th n).st)]) :=
 d9 mixed (ext:=pkX) (fuel:=9) (n:=6) (orc:=[.iface 1000004 (.func (.yield 19) #[.agg (stL s),.int .i64 5] #[]),vD true,.bool false,.bool false,thT (gth s.th n),.int .i64 (H7 (gth s.th n).st),.bool false]) (an (ni (Y7 s) ho hf hl)<|an (l7 (f:=enT) s.lg)<|an (o7 hB ho)<|an (show decide ((n:Int)<0)=false by simp)<|an (show decide ((s.th.length:Int)≤n)=false by have:=hn;simp;omega)<|an (ixT hn)<|an (V6 (t:=gth s.th n) rfl)<|an rs<|an (l7 (f:=enT) s.lg) trivial) (by kernel_rfl)
theorem PN (ho:s.ok) (hf:s.fit) (hl:s.lg=[]) (hB:stB s=false):AC Tryz.prog 205 [stT s,.int .i64 i] (.tuple #[stT (s.toLg []),.int .i64 20]) :=
 d9 mixed (ext:=pkX) (fuel:=9) (n:=6) (orc:=[.agg (stN s),vD false,.nilFunc]) (an (jK (Y7 s) ho hf hl)<|an (o7 (s:=s.toLg []) hB (yj ho))<|trivial) (by kernel_rfl)
theorem Qp (ho:s.ok) (hf:s.fit) (hl:s.lg=[]) (hB:stB s=true) (h0:decide (i<0)=true):AC Tryz.prog 205 [stT s,.int .i64 i] (.tuple #[stT (s.toLg []),.int .i64 123]) :=
 d9 mixed (ext:=pkX) (fuel:=9) (n:=6) (orc:=[.agg (stN s),vD true,.bool true,.nilFunc]) (an (jK (Y7 s) ho hf hl)<|an (o7 (s:=s.toLg []) hB (yj ho))<|an h0<|trivial) (by kernel_rfl)
theorem Nb (ho:s.ok) (hf:s.fit) (hl:s.lg=[]) (hB:stB s=true) (h0:decide (i<0)=false) (h1:decide ((s.th.length:Int)≤i)=true):AC Tryz.prog 205 [stT s,.int .i64 i] (.tuple #[stT (s.toLg []),.int .i64 123]) :=
 d9 mixed (ext:=pkX) (fuel:=9) (n:=6) (orc:=[.agg (stN s),vD true,.bool false,.bool true,.nilFunc]) (an (jK (Y7 s) ho hf hl)<|an (o7 (s:=s.toLg []) hB (yj ho))<|an h0<|an h1<|trivial) (by kernel_rfl)
theorem Ng (ho:s.ok) (hf:s.fit) (hl:s.lg=[]) (hB:stB s=true) (hn:n<s.th.length) (rs:(H7 (gth s.th n).st==0)=false):AC Tryz.prog 205 [stT s,.int .i64 n] (.tuple #[stT (s.toLg []),.int .i64 (H7 (gth s.th n).st)]) :=
 d9 mixed (ext:=pkX) (fuel:=9) (n:=6) (orc:=[.agg (stN s),vD true,.bool false,.bool false,thT (gth s.th n),.int .i64 (H7 (gth s.th n).st),.bool false]) (an (jK (Y7 s) ho hf hl)<|an (o7 (s:=s.toLg []) hB (yj ho))<|an (show decide ((n:Int)<0)=false by simp)<|an (show decide ((s.th.length:Int)≤n)=false by have:=hn;simp;omega)<|an (ixT hn)<|an (V6 (t:=gth s.th n) rfl)<|an rs<|trivial) (by kernel_rfl)
theorem XR (ho:s.ok) (hf:s.fit) (hl:s.lg≠[]) (hB:stB s=true) (hn:n<s.th.length) (rs:H7 (gth s.th n).st=0) (hs:Cw s n a) (hm:s.lg.length+a.lg.length≤1000000):AC Tryz.prog 205 [stT s,.int .i64 n] (.tuple #[stT (a.toLg (s.lg++a.lg)),.int .i64 0]):=by
 rcases hs with ⟨sd,st⟩ | ⟨sd,st⟩ | ⟨sd,st⟩ <;> exact d9 mixed (ext:=pkX) (fuel:=9) (n:=6) (orc:=[.iface 1000004 (.func (.yield 19) #[.agg (stL s),.int .i64 5] #[]),vD true,.bool false,.bool false,thT (gth s.th n),.int .i64 0,.nilFunc,thT (gth s.th n),kOf sd,stT a,K5 (s.lg++a.lg)]) (an (ni (Y7 s) ho hf hl)<|an (l7 (f:=enT) s.lg)<|an (o7 hB ho)<|an (show decide ((n:Int)<0)=false by simp)<|an (show decide ((s.th.length:Int)≤n)=false by have:=hn;simp;omega)<|an (ixT hn)<|an (V6 (t:=gth s.th n) rs)<|an (ixT hn)<|an (sd ▸ O8 (gth s.th n).ki)<|an st<|an (X5 a.lg)<|an (ND s.lg)<|an (Ej (f:=enT) s.lg a.lg hm)<|an (l7 (f:=enT) (s.lg++a.lg)) trivial) (by kernel_rfl)
theorem Xw (ho:s.ok) (hf:s.fit) (hl:s.lg=[]) (hB:stB s=true) (hn:n<s.th.length) (rs:H7 (gth s.th n).st=0) (hs:Cw s n a) (ha:a.lg≠[]) (hm:a.lg.length≤1000000):AC Tryz.prog 205 [stT s,.int .i64 n] (.tuple #[stT a,.int .i64 0]):=by
 rcases hs with ⟨sd,st⟩ | ⟨sd,st⟩ | ⟨sd,st⟩ <;> exact d9 mixed (ext:=pkX) (fuel:=9) (n:=6) (orc:=[.agg (stN s),vD true,.bool false,.bool false,thT (gth s.th n),.int .i64 0,.nilFunc,thT (gth s.th n),kOf sd,stT a,K5 a.lg]) (an (jK (Y7 s) ho hf hl)<|an (o7 (s:=s.toLg []) hB (yj ho))<|an (show decide ((n:Int)<0)=false by simp)<|an (show decide ((s.th.length:Int)≤n)=false by have:=hn;simp;omega)<|an (ixT hn)<|an (V6 (t:=gth s.th n) rs)<|an (ixT hn)<|an (sd ▸ O8 (gth s.th n).ki)<|an st<|an (X5 a.lg)<|an (P6 (f:=enT) ha hm)<|an (l7 (f:=enT) a.lg) trivial) (by kernel_rfl)
theorem WO (ho:s.ok) (hf:s.fit) (hl:s.lg=[]) (hB:stB s=true) (hn:n<s.th.length) (rs:H7 (gth s.th n).st=0) (hs:Cw s n a) (ha:a.lg.length=0):AC Tryz.prog 205 [stT s,.int .i64 n] (.tuple #[stT (a.toLg []),.int .i64 0]):=by
 rcases hs with ⟨sd,st⟩ | ⟨sd,st⟩ | ⟨sd,st⟩ <;> exact d9 mixed (ext:=pkX) (fuel:=9) (n:=6) (orc:=[.agg (stN s),vD true,.bool false,.bool false,thT (gth s.th n),.int .i64 0,.nilFunc,thT (gth s.th n),kOf sd,stT a,.slice none 0 0]) (an (jK (Y7 s) ho hf hl)<|an (o7 (s:=s.toLg []) hB (yj ho))<|an (show decide ((n:Int)<0)=false by simp)<|an (show decide ((s.th.length:Int)≤n)=false by have:=hn;simp;omega)<|an (ixT hn)<|an (V6 (t:=gth s.th n) rs)<|an (ixT hn)<|an (sd ▸ O8 (gth s.th n).ki)<|an st<|an (X5 a.lg)<|an ha<|trivial) (by kernel_rfl)
end
end
section
open Go.RowKit
theorem qW {s:St} (h:s.lg=[]):s.toLg []=s:=by
 obtain ⟨cf,hd,tl,md,sl,sn,rc,fe,fl,ee,el,nw,th,lg⟩:=s
 cases h
 rfl
theorem a1a {s:St} (h:s.fit):(s.toLg []).fit:={ h with lg:=Nat.zero_le _ }
theorem Wl {s:St} {n:Nat} (hB:stB s=true) (hn:n<s.th.length) (rs:H7 (gth s.th n).st=0):j6 (gth s.th n).ki=1∨j6 (gth s.th n).ki=2∨j6 (gth s.th n).ki=3:=by
 have h2:=cB rs
 have h3:=l9 hB hn
 have:=X0 (gth s.th n).ki
 generalize gth s.th n=t at h2 h3 this
 obtain ⟨st,ki,va,un,pc,re,se,tr,la,rs,go⟩:=t
 rw [K6] at h3
 simp only at h2 this ⊢
 omega
theorem CU {s:St} {n:Nat} (hB:stB s=true) (ho:s.ok) (hf:s.fit) (hn:n<s.th.length) (rs:H7 (gth s.th n).st=0) :
  Cw s n (stepD (s.toLg []) n):=by
 have o' := yj ho
 have f' := a1a hf
 have l' : (s.toLg []).lg.length≤800000:=by show (0:Nat)≤_;omega
 rcases Wl hB hn rs with h | h | h
 ·refine .inl ⟨h,?_⟩
  have e:stepD (s.toLg []) n=aB (s.toLg []) n:=by unfold stepD;exact if_pos h
  rw [e];exact Tf o' f' l'
 ·refine .inr (.inl ⟨h,?_⟩)
  have e:stepD (s.toLg []) n=ai (s.toLg []) n:=by
   unfold stepD
   rw [if_neg (show ¬ j6 (gth (s.toLg []).th ((n:Nat):Int).toNat).ki=1 from fun e=>by have e' : j6 (gth s.th n).ki=1:=e;omega)]
   exact if_pos h
  rw [e];exact Ti o' f' l'
 ·refine .inr (.inr ⟨h,?_⟩)
  have e:stepD (s.toLg []) n=P8 (s.toLg []) n:=by
   unfold stepD
   rw [if_neg (show ¬ j6 (gth (s.toLg []).th ((n:Nat):Int).toNat).ki=1 from fun e=>by have e' : j6 (gth s.th n).ki=1:=e;omega)]
   exact if_neg fun e=>by have e' : j6 (gth s.th n).ki=2:=e;omega
  rw [e];exact Rz o' f' l'
theorem Je {s:St} (hB:stB s=true) (ho:s.ok) (i:Int):(stepD (s.toLg []) i).lg.length≤1:=by
 have:=(ET (Yx (N:=s.lg.length) ⟨hB,.of ho,Nat.le_refl _⟩) (by omega) i).l
 omega
theorem ME {s:St} {i:Int}:aQ s i=(stepD (s.toLg []) i).toLg (s.lg++(stepD (s.toLg []) i).lg):=rfl
theorem OI {s:St} {i:Int} (h:s.lg=[]):aQ s i=stepD (s.toLg []) i:=by
 unfold aQ;rw [h];rfl
theorem Ac {s:St} (h:stB s=false) (i:Int):dC s i=20:=if_pos h
theorem oh {s:St} (h:stB s=true) {i:Int} (hi:i<0∨(s.th.length:Int)≤i):dC s i=123:=by
 unfold dC;rw [if_neg (by simp [h]),if_pos hi]
theorem QL {s:St} (h:stB s=true) {n:Nat} (hn:n<s.th.length):dC s n=H7 (gth s.th n).st:=by
 unfold dC;rw [if_neg (by simp [h]),if_neg (by omega)];rfl
theorem nP {s:St} {i e:Int} (h:dC s i=e) (he:e≠0):ay s i=s:=JD (by rw [h];exact he)
theorem VC {s:St} {i:Int} (ho:s.ok) (hf:s.fit) (hm:s.lg.length≤900000):AC Tryz.prog 205 [stT s,.int .i64 i] (.tuple #[stT (ay s i),.int .i64 (dC s i)]):=by
 cases hB:stB s
 ·rw [nP (Ac hB i) (by decide),Ac hB i]
  by_cases hl:s.lg=[]
  ·have:=PN (i:=i) ho hf hl hB
   rwa [qW hl] at this
  ·exact QT ho hf hl hB
 ·by_cases h0:i<0
  ·rw [nP (oh hB (.inl h0)) (by decide),oh hB (.inl h0)]
   by_cases hl:s.lg=[]
   ·have:=Qp (i:=i) ho hf hl hB (by simp [h0])
    rwa [qW hl] at this
   ·exact TQ ho hf hl hB (by simp [h0])
  ·by_cases h1:(s.th.length:Int)≤i
   ·rw [nP (oh hB (.inr h1)) (by decide),oh hB (.inr h1)]
    by_cases hl:s.lg=[]
    ·have:=Nb (i:=i) ho hf hl hB (by simp;omega) (by simp [h1])
     rwa [qW hl] at this
    ·exact NV ho hf hl hB (by simp;omega) (by simp [h1])
   ·obtain ⟨n,rfl⟩:∃ n:Nat,i=n:=⟨i.toNat,by omega⟩
    have hn:n<s.th.length:=by omega
    have he:=QL hB hn
    by_cases rs:H7 (gth s.th n).st=0
    ·have he0:dC s n=0:=he.trans rs
     have ht:=Je hB ho n
     rw [xh he0,he0]
     by_cases hl:s.lg=[]
     ·rw [OI hl]
      by_cases ha:(stepD (s.toLg []) n).lg=[]
      ·have ha' : (stepD (s.toLg []) n).lg.length=0:=by rw [ha];rfl
       have e:=qW ha
       have:=WO ho hf hl hB hn rs (CU hB ho hf hn rs) ha';rwa [e] at this
      ·exact Xw ho hf hl hB hn rs (CU hB ho hf hn rs) ha (by omega)
     ·rw [ME]
      exact XR ho hf hl hB hn rs (CU hB ho hf hn rs) (by omega)
    ·rw [nP he rs,he]
     by_cases hl:s.lg=[]
     ·have:=Ng ho hf hl hB hn (J4 rs)
      rwa [qW hl] at this
     ·exact OE ho hf hl hB hn (J4 rs)
def hP (s:St) (b:Bool):List (Option Blk):=match s.lg with
 | []=>hN s b
 | _=>hO s b
section
variable {s:St} {l:List Int} {o m N:Int} {x:Exit} {S:Sg}
end
end
end Go.Proofs.YtfogkllejkmpdaaGreat
