/- Texts merged: TkJT, TkWT, TkLT, IterOT, LdsT, TkIT, TkUT, TkTT, TkCT, StepGT, StepDT, RcET, RcFT, RcGT. -/
import Derived.Test.YtbckpadeamlidaaGreatZe12
import Derived.Test.YtbckpadeamlidaaGreatZe11
import Derived.Test.YtbckpadeamlidaaGreatZe13
import Derived.Test.YtbckpadeamlidaaGreatZe8
import Derived.Test.YtbckpadeamlidaaGreatZe5
import Derived.Test.YtbckpadeamlidaaGreatZe4
import Derived.Test.YtbckpadeamlidaaGreatZe6
import Derived.Test.YtbckpadeamlidaaGreatZe9
import Derived.Test.YtbckpadeamlidaaGreatZe10
namespace Go.Proofs.YtbckpadeamlidaaGreat
set_option linter.unusedVariables false
set_option linter.unusedSimpArgs false
set_option maxRecDepth 100000
section
open Go.RowKit
theorem rp_rowD {O:Nat→Prop} {W:World} {l:List Du} {c:Value}:Rp nowhere O W (rowD l) c↔∃ p cap,c = .slice p l.length cap∧SlP (fun g=>¬ O g) W 2 Du.cells l p l.length cap :=
 rp_rowG (f:=duT) (enc:=Du.cells) (fun _=>rfl) (fun _=>rfl) (fun _=>rfl)
theorem not_low {O:Nat→Prop} {W:World} (hl:Low O W) {g:Nat} (h:W.heap.size≤g):¬ O g:=fun hO=>by have:=hl g hO;omega
theorem th_some {s:St} (h:stB s=true):s.th≠[]:=by
 rintro e
 have:=(th_len h).2.1
 rw [e] at this;simp at this
theorem ac_pdlate {l:List Du} {n:Int} (h:okB l=true) (hm:l.length≤700):AC Tryz.prog 178 [rowD l,.int .i64 n] (.tuple #[rowI (lateI l n),rowD (restL l n)]):=by
 intro O W vs hl hat ;obtain ⟨ys,rfl,_,_,rfl,h0,_,_,rfl,h1,rfl⟩:=args_of hat
 obtain ⟨p,k,rfl,hs⟩:=rp_rowD.1 h0
 rw [rp_int] at h1
 subst h1
 refine (dlate_okN l n p k W hs.s hm h).mono ?_
 rintro e W' ⟨p1,p2,k1,k2,rfl,s1,s2,⟨b1,b2⟩,hk⟩
 exact ⟨_,rfl,(rp_tupL (xs:=[rowI (lateI l n),rowD (restL l n)])).2 ⟨_,rfl,_,_,rfl,rp_rowI.2 ⟨p1,k1,rfl,s1,fun _ a ha=>not_low hl (b1 a ha)⟩,_,_,rfl,rp_rowD.2 ⟨p2,k2,rfl,s2,fun _ a ha=>not_low hl (b2 a ha)⟩,rfl⟩,hk⟩
theorem ac_pcancel {ep:Int} {l:List Int} (i:Int) (h:okE ep l=true):AC Tryz.prog 188 [evT ep l,.int .i64 i] (.tuple #[evT ep (cnL ep l i),.bool (cnB ep l i)]):=by
 have hl:=ok_len (okE_ln h)
 rw [show cnL ep l i=lvL l i by simp [cnL,h],show cnB ep l i=(lvE l i==0) by simp [cnB,h]]
 exact ac_path mixed (ext:=[37,202]) (fuel:=9) (n:=5) (orc:=[vD true,.tuple #[rowI (lvL l i),.int .i64 (lvE l i)]]) (an (ac_pecheck h)<|an (ac_pleave l i (by omega)) trivial) (by kernel_rfl)
theorem ac_pwaits (t:Th):AC Tryz.prog 198 [thT t] (.bool (tdB t)):=by
 by_cases h0:t.st=0
 ·rw [show tdB t=false by simp [tdB,h0]]
  exact ac_path mixed (ext:=[59]) (fuel:=9) (n:=5) (orc:=[.bool false]) (an (show (t.st != 0)=false by simpa using h0) trivial) (by kernel_rfl)
 ·cases h1:opTimed t.ki
  ·rw [show tdB t=false by simp [tdB,h1]]
   exact ac_path mixed (ext:=[59]) (fuel:=9) (n:=5) (orc:=[.bool true,vD false]) (an (show (t.st != 0)=true by simpa using h0)<|an (ac_otimed h1) trivial) (by kernel_rfl)
  ·rw [show tdB t = !t.la by simp [tdB,h1,h0]]
   exact ac_path mixed (ext:=[59]) (fuel:=9) (n:=5) (orc:=[.bool true,vD true]) (an (show (t.st != 0)=true by simpa using h0)<|an (ac_otimed h1) trivial) (by kernel_rfl)
end
section
open Go.RowKit
def Wkr (a b:Value):Prop:=∀ (ρ:PMap) (O:Nat→Prop) (W:World) (c:Value),Rp ρ O W a c→Rp ρ O W b c
theorem Wkr.refl (a:Value):Wkr a a:=fun _ _ _ _ h=>h
theorem wkr_D (b:Bool):Wkr (vD b) (.bool b):=fun _ _ _ _ h=>rp_bool.2 (rp_d.1 h)
def ElW (a b:Value):Prop:=a.cells.size=b.cells.size∧∀ (j:Nat) (y:Value),b.cells[j]? = some y→∃ x,a.cells[j]? = some x∧Wkr x y
theorem ElW.refl (a:Value):ElW a a:=⟨rfl,fun _ y hy=>⟨y,hy,Wkr.refl y⟩⟩
def ElsW (l m:List Value):Prop:=l.length=m.length∧∀ (i:Nat) (b:Value),m[i]? = some b→∃ a,l[i]? = some a∧ElW a b
theorem elsW_set {l:List Value} {i:Nat} {a b:Value} (h:ElW a b):ElsW (l.set i a) (l.set i b):=by
 refine ⟨by simp,fun j y hy=>?_⟩
 by_cases e:i=j
 ·subst e
  by_cases hi:i<l.length
  ·simp [hi] at hy
   subst hy
   exact ⟨a,by simp [hi],h⟩
  ·simp [hi] at hy
 ·rw [List.getElem?_set,if_neg e] at hy
  exact ⟨y,by rw [List.getElem?_set,if_neg e];exact hy,ElW.refl y⟩
theorem blk_weak {ρ:PMap} {O:Nat→Prop} {W:World} {g k n n' : Nat} {w arr:Bool} {l m:List Value} (hk:k≠0) (h:ElsW l m) (hB:BlkAt ρ O W g ⟨w,arr,k,n,l⟩):BlkAt ρ O W g ⟨w,arr,k,n',m⟩:=by
 obtain ⟨ar,ty,h1,h2,h3⟩:=(blk_cells (k_noMap hk)).1 hB
 refine (blk_cells (k_noMap hk)).2 ⟨ar,ty,h1,?_,fun q el hq=>?_⟩
 ·have e:l.length=m.length:=h.1
  show m.length * k≤ar.size
  rw [← e];exact h2
 ·obtain ⟨a,ha,h4,h5⟩:=h.2 q el hq
  obtain ⟨h6,h7⟩:=h3 q a ha
  refine ⟨h4.symm.trans h6,fun j x hx=>?_⟩
  obtain ⟨y,hy,hw⟩:=h5 j x hx
  obtain ⟨u,hu,hr⟩:=h7 j y hy
  exact ⟨u,hu,hw _ _ _ _ hr⟩
theorem look_three {b0 b1 b1' b2:Option Blk} (h:∀ b',b1' = some b' → ∃ b,b1=some b∧b.w=b'.w) {i:Nat} {b' : Blk} (hb:look [b1',b0,b2] i=some b'):∃ b,look [b1,b0,b2] i=some b∧b.w=b'.w:=by
 match i,hb with
 | 0,hb=>exact h b' hb
 | 1,hb=>exact ⟨b',hb,rfl⟩
 | 2,hb=>exact ⟨b',hb,rfl⟩
 | i+3,hb=>simp [look] at hb
theorem loopK_weak {P:Program} {K k n n' : Nat} {c:Code} {T:List Value} {w arr:Bool} {b0 b2:Option Blk} {l m:List Value} {x:Exit} {S:Sg} (hk:k≠0) (h:ElsW l m) (hL:LoopK P K c ⟨T,[some ⟨w,arr,k,n',m⟩,b0,b2]⟩ x S):LoopK P K c ⟨T,[some ⟨w,arr,k,n,l⟩,b0,b2]⟩ x S:=by
 obtain ⟨N,hN⟩:=hL
 have up:∀ {i:Nat} {b' : Blk},look [some ⟨w,arr,k,n',m⟩,b0,b2] i=some b' → ∃ b,look [some ⟨w,arr,k,n,l⟩,b0,b2] i=some b∧b.w=b'.w:=fun hb=>look_three (fun b' e=>by cases e;exact ⟨_,rfl,rfl⟩) hb
 have dn:∀ {i:Nat} {b' : Blk},look [some ⟨w,arr,k,n,l⟩,b0,b2] i=some b' → ∃ b,look [some ⟨w,arr,k,n',m⟩,b0,b2] i=some b∧b.w=b'.w:=fun hb=>look_three (fun b' e=>by cases e;exact ⟨_,rfl,rfl⟩) hb
 refine ⟨N,fun ρ O a W Q hH hT hK=>hN ρ O a W Q ⟨hH.low,hH.fr,fun i=>?_,fun i j b b' g k k' h1 h2=>?_⟩ hT fun ρ' O' a' W' h1 h2 h3 h4=>hK ρ' O' a' W' h1 h2 ⟨fun g hg i b k hi hp=>?_,h3.still,fun g hg hn=>h3.keepO g hg fun i b hb=>?_,h3.str,fun g hg hn=>h3.blk g hg fun i b hb hw=>?_⟩ h4⟩
 ·have:=hH.hp i
  match i,this with
  | 0,this=>obtain ⟨g,h1,h2,h3⟩:=this;exact ⟨g,h1,h2,blk_weak hk h h3⟩
  | 1,this=>exact this
  | 2,this=>exact this
  | i+3,this=>exact this
 ·obtain ⟨c,hc,-⟩:=up h1
  obtain ⟨c',hc',-⟩:=up h2
  exact hH.inj i j c c' g k k' hc hc'
 ·obtain ⟨i0,b0',k0,h5,h6,h7⟩:=h3.old g hg i b k hi hp
  obtain ⟨c,hc,e⟩:=up h5
  exact ⟨i0,c,k0,hc,fun hw=>e.trans (h6 hw),h7⟩
 ·obtain ⟨c,hc,-⟩:=up hb
  exact hn i c hc
 ·obtain ⟨c,hc,e⟩:=up hb
  exact hn i c hc (e.trans hw)
end
section
open Go.RowKit
def tlaT (t:Th):Th:=⟨t.st,t.ki,t.va,t.un,t.pc,t.re,t.se,t.tr,true,t.rs,t.go⟩
theorem tlaT_no {t:Th} (h:t.st≠2):tlaT t=lateT t:=by unfold lateT;rw [if_neg h];rfl
theorem tlaT_two {t:Th} (h:t.st=2):wakeT (tlaT t)=lateT t:=by
 unfold lateT wakeT;rw [if_pos h,if_pos (show (tlaT t).st=2 from h)];rfl
def thDT (t:Th):Value:=.agg #[.int .i64 t.st,.int .i64 t.ki,.int .i64 t.va,.int .i64 t.un,.int .i64 t.pc,.int .i64 t.re,.int .i64 t.se,.int .i64 t.tr,vD true,.int .i64 t.rs,.int .i64 t.go]
theorem elw_th (t:Th):ElW (thDT t) (thT (tlaT t)):=by
 refine ⟨rfl,fun j y hy=>?_⟩
 match j,hy with
 | 0,hy=>exact ⟨y,hy,Wkr.refl y⟩
 | 1,hy=>exact ⟨y,hy,Wkr.refl y⟩
 | 2,hy=>exact ⟨y,hy,Wkr.refl y⟩
 | 3,hy=>exact ⟨y,hy,Wkr.refl y⟩
 | 4,hy=>exact ⟨y,hy,Wkr.refl y⟩
 | 5,hy=>exact ⟨y,hy,Wkr.refl y⟩
 | 6,hy=>exact ⟨y,hy,Wkr.refl y⟩
 | 7,hy=>exact ⟨y,hy,Wkr.refl y⟩
 | 8,hy=>cases hy;exact ⟨_,rfl,wkr_D true⟩
 | 9,hy=>exact ⟨y,hy,Wkr.refl y⟩
 | 10,hy=>exact ⟨y,hy,Wkr.refl y⟩
 | j+11,hy=>simp [thT,Value.cells] at hy
def elsD (l:List Th) (n:Nat):List Value:=(l.map thT).set (0+(n:Int).toNat) (thDT (gth l n))
theorem elsD_w (l:List Th) (n:Nat):ElsW (elsD l n) ((l.set n (tlaT (gth l n))).map thT):=by
 rw [setT];exact elsW_set (elw_th _)
theorem elD {l:List Th} {n:Nat} (h:n<l.length):ElP (elsD l n) (0+(n:Int).toNat) (thDT (gth l n)):=by simp [ElP,elsD,h]
theorem setD2 (l:List Th) (n:Nat) (t:Th):(l.set n t).map thT=(elsD l n).set (0+(n:Int).toNat) (thT t):=by simp [elsD,List.map_set]
structure LaK (v:St) (l:List Int):Prop where
 b:stB v=true
 l:∀ i∈l,∃ n:Nat,i=n∧n<v.th.length∧opTimed (gth v.th n).ki=true∧(gth v.th n).st≠0
theorem LaK.next {v:St} {i:Int} {l:List Int} (h:LaK v (i::l)):∃ n:Nat,i=n∧n<v.th.length∧LaK (lateS v n) l:=by
 obtain ⟨n,rfl,hn,h1,h2⟩:=h.l i List.mem_cons_self
 refine ⟨n,rfl,hn,late_stB h.b hn h1 h2,fun x hx=>?_⟩
 obtain ⟨m,rfl,hm,h3,h4⟩:=h.l x (List.mem_cons_of_mem _ hx)
 refine ⟨m,rfl,by rw [late_len];exact hm,?_,?_⟩
 ·rw [gth_late hn];split
  ·exact h3
  ·exact h3
 ·rw [gth_late hn];split
  ·unfold lateT;simp only;split <;> omega
  ·exact h4
def bTk (s:St) (N:Nat):Option Blk:=some ⟨true,false,20,1,[.agg (stO s 0 N).toArray]⟩
def bWk:Option Blk:=some ⟨true,false,1,1,[.func (.func 187) #[] #[vFz [pt 1]]]⟩
def hdKT (l:List Int) (i:Int):List (Nat×Value):=[(4,pt 2),(8,rowI l),(45,rowI l),(46,.int .i64 l.length),(47,.int .i64 i)]
def hdK (v:St) (l:List Int) (i:Int) (N M:Nat):Sg:=⟨mkT 56 (hdKT l i),[bT v.th M,bTk v N,bWk]⟩
theorem kl_more {v:St} {l:List Int} {N i n:Nat} {x:Exit} {S:Sg} (hB:stB v=true) (hN:v.th.length=N) (hi:i<l.length) (he:l[i]=n) (hn:n<v.th.length) (hm:l.length≤1000000) (ih:LoopK Tryz.prog 3 (loopOf Tryz.prog 177 0) (hdK (lateS v n) l ((i:Int)+1) N (lateS v n).th.length) x S):LoopK Tryz.prog 3 (loopOf Tryz.prog 177 0) (hdK v l i N v.th.length) x S:=by
 obtain ⟨a,b,-⟩:=full_lines hB
 have hx:IxP ((l.map (Value.int .i64 ·)).toArray) (i:Int) (.int .i64 n):=he ▸ ixIl hi
 have hid:0≤(n:Int)∧(n:Int).toNat<N:=by subst hN;exact idT hn
 have h1:decide ((i:Int)<l.length)=true:=by simp;omega
 have h2:In64 ((i:Int)+1):=by constructor <;> omega
 by_cases hs:(gth v.th n).st=2
 ·obtain ⟨-,-,-,-,hf,hg⟩:=full_lines hB
  rw [show lateS v n=((v.toFull v.fe (cnL v.fe v.fl n)).toEmpty v.ee (cnL v.ee v.el n)).setTh n (lateT (gth v.th n)) by unfold lateS;rw [if_pos hs]] at ih
  exact loopK_more mixed (fuel:=9) (n:=9) (im:=[0,1,2]) (keep:=[4,8,45,46,47]) (ext:=[188,76]) (orc:=[.bool true,.int .i64 n,thT (gth v.th n),vRow v.th.length (elsD v.th n),thDT (gth v.th n),.bool false,.tuple #[evT v.fe (cnL v.fe v.fl n),.bool (cnB v.fe v.fl n)],.tuple #[evT v.ee (cnL v.ee v.el n),.bool (cnB v.ee v.el n)],thDT (gth v.th n),thT (lateT (gth v.th n)),thDT (gth v.th n),rowT (v.th.set n (lateT (gth v.th n)))])
   (an h1<|an hx<|an hid<|an (elT hn)<|an (show elsD v.th n=(v.th.map thT).set (0+(n:Int).toNat) (thDT (gth v.th n)) from rfl)<|an (elD hn)<|an (show ((gth v.th n).st != 2)=false by rw [hs];rfl)<|an (ac_pcancel n hf)<|an (ac_pcancel n hg)<|an (elD hn) <|
    an (show AC Tryz.prog 76 [thT (tlaT (gth v.th n))] (thT (lateT (gth v.th n))) from tlaT_two hs ▸ ac_twake (tlaT (gth v.th n)))<|an (elD hn)<|an (setD2 v.th n (lateT (gth v.th n)))<|an h2 trivial) (by kernel_rfl) (by rfl) ih
 ·rw [show lateS v n=v.setTh n (tlaT (gth v.th n)) by unfold lateS;rw [if_neg hs,tlaT_no hs]] at ih
  exact loopK_more mixed (fuel:=9) (n:=9) (im:=[0,1,2]) (keep:=[4,8,45,46,47]) (ext:=[188,76]) (orc:=[.bool true,.int .i64 n,thT (gth v.th n),vRow v.th.length (elsD v.th n),thDT (gth v.th n),.bool true])
   (an h1<|an hx<|an hid<|an (elT hn)<|an (show elsD v.th n=(v.th.map thT).set (0+(n:Int).toNat) (thDT (gth v.th n)) from rfl)<|an (elD hn)<|an (show ((gth v.th n).st != 2)=true by simpa using hs)<|an h2 trivial) (by kernel_rfl) (by rfl) (loopK_weak (n:=v.th.length) (by decide) (elsD_w v.th n) ih)
theorem kl_lp {l:List Int} {N:Nat} (hm:l.length≤1000000):∀ (k i:Nat) {v:St},l.length - i=k→i≤l.length→LaK v (l.drop i)→v.th.length=N→LoopK Tryz.prog 3 (loopOf Tryz.prog 177 0) (hdK v l i N v.th.length) (.exit 1) (hdK (lateK (l.drop i) v) l l.length N (lateK (l.drop i) v).th.length)
 | 0,i,v,hk,hi,h,hN=>by
  have:i=l.length:=by omega
  subst this
  rw [List.drop_length]
  exact loopK_end mixed (fuel:=9) (n:=9) (im:=[0,1,2]) (keep:=[4,8,45,46,47]) (ext:=[188,76]) (orc:=[.bool false]) (an (d_nlt l.length) trivial) (by intro e;cases e) (by kernel_rfl) (by rfl)
 | k+1,i,v,hk,hi',h,hN=>by
  have hi:i<l.length:=by omega
  rw [List.drop_eq_getElem_cons hi] at h ⊢
  obtain ⟨n,he,hn,h'⟩:=h.next
  rw [he]
  exact kl_more h.b hN hi he hn hm (kl_lp hm k (i+1) (v:=lateS v n) (by omega) (by omega) h' (by rw [late_len];exact hN))
end
section
open Go.RowKit
def IterO {α:Type} (P:Program) (gf:Nat) (bd lb:Array Value) (enc:α→Value) (b:Nat) (xs:List α) (w:World):Prop :=
 ∀ (l:Nat) (J:List α→World→Prop) (W:World),w.heap.size≤l→Below w.heap.size w W →
  (∀ s A C,J s A→Below A.heap.size A C→J s C) →
  (∀ (m:Nat) pre x suf A,9≤m→xs=pre++x::suf→J pre A→YieldAt Fence.wide m P l #[enc x] A fun e C=>e = .returned (.bool true)∧J (pre++[x]) C∧Out [b,l] A C) →
  J [] W→Calls P gf (bd++#[.func (.yield l) #[] #[]]++lb) W fun e C=>(∃ v,e = .returned v)∧J xs C
def rndO {α:Type} (b:Nat) (I:List α→World→Prop) (xs:List α) (A:World):Exit→Act→World→Prop
 | .normal,_,C=>Out [b] A C∧I xs C
 | _,_,_=>False
theorem wpIn_overO {α:Type} {P:Program} {n:Nat} {g:Operand} {ps:Array Tmp} {assign body:Code} {Q:Exit→Act→World→Prop} {a:Act} {w:World}
  {gf:Nat} {bd lb:Array Value} (hg:a.eval g = .func (.func gf) bd lb) (eg:∀ args w,(callFunc gf args).run P w = .ok (.enter gf args) w)
  {enc:α→Value} {b:Nat} {xs:List α} (hseq:IterO P gf bd lb enc b xs w) (hb:b<w.heap.size) (hps:ps.size=1)
  (I:List α→World→Prop) (hI:∀ s A C,I s A→Turn w.heap.size A C→I s C) (h0:I [] w)
  (hround:∀ (m l:Nat) (pre suf:List α) (x:α) (A:World),9≤m→xs=pre++x::suf→w.heap.size+2≤A.heap.size→I pre A →
   assign.wpIn (Fence.wide.inRound l) m P (Exit.then (fun a₁ A₁=>Below A.heap.size A A₁∧∀ C,Turn w.heap.size A₁ C→C.heap.size=A₁.heap.size →
     body.wpIn (Fence.wide.inRound l) m P (rndO b I (pre++[x]) C) a₁ C) (fun _ _ _=>False))
    { tmps:=(ps.zip #[enc x]).foldl (fun t (p,v)=>t.setIfInBounds p v) a.tmps,defers:=[] } A)
  (hdone:∀ (D:Nat) (W:World),w.heap.size≤D→I xs W→W.heap[D]? = some (.deferred (some []))→Q .normal { a with defers:={ target:=.collected D,args:=#[] }::a.defers } W) :
  (Code.rangeFunc g ps assign body).wpIn Fence.wide n P Q a w:=by
 refine wpIn_rangeFunc fun fn hfn=>?_
 obtain ⟨rec,hrec⟩:∃ rec:LoopState→Option Code→Loop,rec=fun st pe=>{ state:=st,pending:=pe,fn,tmps:=a.tmps,params:=ps,assign,body,defers:=w.heap.size }:=⟨_,rfl⟩
 obtain ⟨V,hV⟩:∃ V,(w.alloc (.deferred (some []))).alloc (.loop (rec .ready none))=V:=⟨_,rfl⟩
 have hwV:Below w.heap.size w V:=by rw [← hV];exact ((Below.refl _ w).alloc (Nat.le_refl _) _).alloc (by simp) _
 have hsV:V.heap.size=w.heap.size+2:=by rw [← hV];simp
 have hlV:V.heap[w.heap.size+1]? = some (.loop (rec .ready none)):=by
  rw [← hV];have:=World.alloc_heap_new (w.alloc (.deferred (some []))) (.loop (rec .ready none));rwa [World.size_alloc] at this
 have hdV:V.heap[w.heap.size]? = some (.deferred (some [])):=by
  rw [← hV];exact (Below.heap_alloc _ _ _ (by simp)).trans (World.alloc_heap_new w _)
 refine ⟨w.heap.size+1,[{ target:=.collected w.heap.size,args:=#[] }],V,{ target:=.fn (.func gf) lb,args:=bd++#[.func (.yield (w.heap.size+1)) #[] #[]] },V,gf,
  bd++#[.func (.yield (w.heap.size+1)) #[] #[]]++lb,V,?_,?_,fun _ _=>trivial,?_,fun h=>by simp [Fence.wide] at h,?_⟩
 ·rw [← hV,hrec];exact run_enterLoop_outer _ _ _ _ _
 ·simp only [resolve,hg]
  simp [go_sem,Deferred.ofValue]
 ·simp [invoke,go_sem,eg]
 refine (callsIn_wide.2 (hseq (w.heap.size+1)
  (fun pre W=>I pre W∧W.heap[w.heap.size+1]? = some (.loop (rec .ready none))∧W.heap[w.heap.size]? = some (.deferred (some []))∧w.heap.size+2≤W.heap.size)
  V (by omega) hwV
  (fun s A C hs hk=>⟨hI s A C hs.1 (Turn.of_kept hk),(hk.block _ (lt_of_some hs.2.1)).trans hs.2.1,(hk.block _ (lt_of_some hs.2.2.1)).trans hs.2.2.1,Nat.le_trans hs.2.2.2 hk.size⟩)
  ?_ ⟨hI _ _ _ h0 (Turn.of_kept hwV),hlV,hdV,by omega⟩)).mono ?_
 ·rintro m pre x suf A hm hxs ⟨hi,hl,hd,hsz⟩
  have hy:=run_yield (P:=P) (args:=#[enc x]) hl (by rw [hrec];exact hps.symm)
  rw [hrec] at hy
  refine ⟨fn,_,assign,body,hy,roundIn_of_wpIn trivial (wpIn_mono (hround m (w.heap.size+1) pre suf x A hm hxs hsz hi) ?_)⟩
  clear hy
  rintro e a₁ A₁ hq
  cases e with
  | normal =>
   obtain ⟨hk,hbody⟩:=hq
   have hl1:=(hk.block _ (lt_of_some hl)).trans hl
   have hd1:=(hk.block _ (lt_of_some hd)).trans hd
   refine ⟨_,run_beginRound hl1 (by rw [hrec]),wpIn_mono (hbody _ (Turn.putObj hl1 rfl (by omega) _) (by simp)) ?_⟩
   obtain ⟨A₂,hA₂⟩:∃ A₂,A₁.putObj (w.heap.size+1) (.loop { rec .ready none with state:=.busy })=A₂:=⟨_,rfl⟩
   rw [hA₂]
   have hl2:A₂.heap[w.heap.size+1]? = some (.loop (rec .busy none)):=by rw [← hA₂];exact (World.putObj_heap_same (lt_of_some hl1)).trans (by rw [hrec])
   have hd2:A₂.heap[w.heap.size]? = some (.deferred (some [])):=by rw [← hA₂];exact (World.putObj_heap_other (by omega)).trans hd1
   have ho2:∀ k,k≠w.heap.size+1→A₂.heap[k]? = A₁.heap[k]? := fun k hk=>by rw [← hA₂];exact World.putObj_heap_other hk
   have hs2:A₂.heap.size=A₁.heap.size:=by rw [← hA₂];simp
   have hos:A₂.os=A₁.os∧A₂.tape=A₁.tape∧A₂.output=A₁.output:=by rw [← hA₂];exact ⟨rfl,rfl,rfl⟩
   rintro e a₃ C hp
   cases e with
   | normal =>
    obtain ⟨hC,hi3⟩:=hp
    have hsk:=hk.size
    have hl3:=(hC.block (w.heap.size+1) (by omega) (by simp;omega)).trans hl2
    have hd3:=(hC.block w.heap.size (by omega) (by simp;omega)).trans hd2
    have hr:(Instr.endRound (w.heap.size+1) none).run P C = .ok (.bool true) (C.putObj (w.heap.size+1) (.loop (rec .ready none))):=(run_endRound (P:=P) none hl3).trans (by rw [hrec];rfl)
    refine ⟨_,_,hr,⟨rfl,⟨hI _ _ _ hi3 (Turn.putObj hl3 rfl (by omega) _),World.putObj_heap_same (lt_of_some hl3),(World.putObj_heap_other (by omega)).trans hd3,?_⟩,?_⟩⟩
    ·have:=hC.size;simp;omega
    ·refine ⟨?_,?_,?_,?_,fun k hk' hn=>?_⟩
     ·exact hC.os.trans (hos.1.trans hk.os)
     ·exact hC.tape.trans (hos.2.1.trans hk.tape)
     ·exact hC.output.trans (hos.2.2.trans hk.output)
     ·have:=hC.size;simp;omega
     ·simp only [List.mem_cons,List.not_mem_nil,or_false,not_or] at hn
      rw [World.putObj_heap_other hn.2,hC.block k (by omega) (by simpa using hn.1),ho2 k hn.2,hk.block k (by omega)]
   | ret=>exact hp.elim
   | exit id=>exact hp.elim
   | goto t=>exact hp.elim
   | panic ch=>exact hp.elim
   | outgrown=>exact hp.elim
  | ret=>exact hq
  | exit id=>exact hq
  | goto t=>exact hq
  | panic ch=>exact hq
  | outgrown=>exact hq
 ·rintro e C ⟨⟨v,rfl⟩,hi,hl,hd,-⟩
  have he:=run_endLoop (P:=P) hl (by rw [hrec];simp)
  rw [hrec] at he
  exact ⟨none,_,he,hdone _ _ (Nat.le_refl _) (hI _ _ _ hi (Turn.putObj hl rfl (by omega) _)) ((World.putObj_heap_other (by omega)).trans hd)⟩
end
section
open Go.ChangeShapes Go.WideShapes Go.ChangeAt Go.RowKit
theorem Bk.off {W W' : World} {b c:Nat} {cs:List Value} (h:Bk W b cs) (ho:Out [c] W W') (hne:b<c∨c<b):Bk W' b cs:=h.out ho (not_one hne)
section
variable {ops:Array Oper} {rest:List Oper} {o:Oper} {a:Act} {w:World} {Q:Exit→Act→World→Prop} {b off:Nat} {cs:List Value}
theorem ldoS (hgd:Region.wanted o (yielded ops a.tmps)=true) {x:Operand} (ho:o.op = .load 33 x) (hx:a.eval x = .pointer (some ⟨b,off,none⟩)) (hb:Bk w b cs) {u0 u1 u2 u3 u4 u5 u6 u7 u8 u9 u10 u11 u12 u13 u14 u15 u16 u17 u18 u19:Value} (hp:cs[off+0]? = some u0∧cs[off+1]? = some u1∧cs[off+2]? = some u2∧cs[off+3]? = some u3∧cs[off+4]? = some u4∧cs[off+5]? = some u5∧cs[off+6]? = some u6∧cs[off+7]? = some u7∧cs[off+8]? = some u8∧cs[off+9]? = some u9∧cs[off+10]? = some u10∧cs[off+11]? = some u11∧cs[off+12]? = some u12∧cs[off+13]? = some u13∧cs[off+14]? = some u14∧cs[off+15]? = some u15∧cs[off+16]? = some u16∧cs[off+17]? = some u17∧cs[off+18]? = some u18∧cs[off+19]? = some u19) (h:wpList Tryz.prog ops Q rest (a.put o.dst (.agg #[u0,u1,u2,u3,u4,u5,u6,u7,u8,u9,u10,u11,u12,u13,u14,u15,u16,u17,u18,u19])) w):wpList Tryz.prog ops Q (o::rest) a w:=by
 obtain ⟨h0,h1,h2,h3,h4,h5,h6,h7,h8,h9,h10,h11,h12,h13,h14,h15,h16,h17,h18,h19⟩:=hp
 exact wpList_loadL hgd 33 x ho hx hb Tryz.underlying33 rfl [u0,u1,u2,u3,u4,u5,u6,u7,u8,u9,u10,u11,u12,u13,u14,u15,u16,u17,u18,u19] (by kernel_rfl) (fun j v hv=>by
  have hj:j<20:=(List.getElem?_eq_some_iff.1 hv).1
  match j,hj with
  | 0,_=>exact h0.trans hv
  | 1,_=>exact h1.trans hv
  | 2,_=>exact h2.trans hv
  | 3,_=>exact h3.trans hv
  | 4,_=>exact h4.trans hv
  | 5,_=>exact h5.trans hv
  | 6,_=>exact h6.trans hv
  | 7,_=>exact h7.trans hv
  | 8,_=>exact h8.trans hv
  | 9,_=>exact h9.trans hv
  | 10,_=>exact h10.trans hv
  | 11,_=>exact h11.trans hv
  | 12,_=>exact h12.trans hv
  | 13,_=>exact h13.trans hv
  | 14,_=>exact h14.trans hv
  | 15,_=>exact h15.trans hv
  | 16,_=>exact h16.trans hv
  | 17,_=>exact h17.trans hv
  | 18,_=>exact h18.trans hv
  | 19,_=>exact h19.trans hv) h
theorem ldot (hgd:Region.wanted o (yielded ops a.tmps)=true) {x:Operand} (ho:o.op = .load 30 x) (hx:a.eval x = .pointer (some ⟨b,off,none⟩)) (hb:Bk w b cs) {u:Value} (hp:cs[off]? = some u) (h:wpList Tryz.prog ops Q rest (a.put o.dst u) w):wpList Tryz.prog ops Q (o::rest) a w :=
 wpList_load1 30 Tryz.underlying30 rfl hgd _ ho hx hb hp h
end
end
section
open Go.ChangeShapes Go.WideShapes Go.ChangeAt Go.RowKit Go.Shelf
attribute [local go_sem] Oper.semAt_some
def wtL (s:St):Nat→List Du
 | 0=>[]
 | k+1=>if tdB (gth s.th k)=true then wtL s k++[tdDu s k] else wtL s k
def wtS (s:St):List Du:=if stB s=true then wtL s s.th.length else []
theorem wt_put (s:St):∀ k,(wtL s k).foldl putL []=tdS s k
 | 0=>rfl
 | k+1=>by
  by_cases h:tdB (gth s.th k)=true
  ·simp only [wtL,tdS,h,if_true,List.foldl_append,wt_put s k,List.foldl_cons,List.foldl_nil]
  ·rw [show wtL s (k+1)=wtL s k from if_neg h,show tdS s (k+1)=tdS s k from if_neg h];exact wt_put s k
theorem wts_put (s:St):(wtS s).foldl putL []=duesS s:=by
 unfold wtS duesS;split
 ·exact wt_put s _
 ·rfl
theorem wt_at {s:St}:∀ {n:Nat} {pre suf:List Du} {x:Du},wtL s n=pre++x::suf→∃ k,k<n∧tdB (gth s.th k)=true∧pre=wtL s k∧x=tdDu s k
 | 0,pre,suf,x,h=>by simp [wtL] at h
 | n+1,pre,suf,x,h=>by
  by_cases ht:tdB (gth s.th n)=true
  ·simp only [wtL,ht,if_true] at h
   rcases List.eq_nil_or_concat suf with rfl | ⟨q,y,rfl⟩
   ·obtain ⟨h1,h2⟩:=List.append_inj' h rfl
    cases h2
    exact ⟨n,by omega,ht,h1.symm,rfl⟩
   ·rw [List.concat_eq_append,← List.cons_append,← List.append_assoc] at h
    obtain ⟨h1,-⟩:=List.append_inj' h rfl
    obtain ⟨k,hk,a,b,c⟩:=wt_at h1
    exact ⟨k,by omega,a,b,c⟩
  ·simp only [wtL,ht] at h
   obtain ⟨k,hk,a,b,c⟩:=wt_at h
   exact ⟨k,by omega,a,b,c⟩
theorem wt_to {s:St} {k:Nat} (ht:tdB (gth s.th k)=true):∀ {n:Nat},k<n→∃ suf,wtL s n=wtL s k++tdDu s k::suf
 | 0,h=>absurd h (by omega)
 | n+1,h=>by
  by_cases e:k=n
  ·subst e;exact ⟨[],by simp [wtL,ht]⟩
  ·obtain ⟨q,hq⟩:=wt_to ht (n:=n) (by omega)
   by_cases h1:tdB (gth s.th n)=true
   ·exact ⟨q++[tdDu s n],by simp [wtL,h1,hq]⟩
   ·exact ⟨q,by simp only [wtL,h1];exact hq⟩
theorem at_one {g:FuncId} {a v:Value} {b:Bool} {W:World} (h:AC Tryz.prog g [a] (.bool b)) (hr:Rp nowhere (fun _=>False) W a v):Calls Tryz.prog g #[v] W fun e W' => e = .returned (.bool b)∧Kept W W' := by
 have hA:AtAll (Rp nowhere (fun _=>False) W) [a].toArray [v].toArray:=cells_at.2 ⟨_,_,rfl,hr,rfl⟩
 refine (h (fun _=>False) W _ (fun _ h=>h.elim) hA).mono ?_
 rintro e W' ⟨c,rfl,hr,hk⟩
 exact ⟨by rw [rp_bool.1 hr],hk⟩
theorem pcheck_at {s:St} {b:Bool} (hb:stB s=b) {z:Pz} {W:World} (hz:StAt W s z) (ho:s.ok):Calls Tryz.prog 19 #[.agg #[.int .i64 s.cf.lg,.int .i64 s.cf.th,.int .i64 s.cf.po,.int .i64 s.cf.wt,.int .i64 s.cf.sp,.int .i64 s.cf.yi,.bool s.cf.si,.int .i64 s.hd,.int .i64 s.tl,.int .i64 s.md,.slice z.p1 s.sl.length z.k1,.slice z.p2 s.sn.length z.k2,.slice z.p3 s.rc.length z.k3,.int .i64 s.fe,.slice z.p4 s.fl.length z.k4,.int .i64 s.ee,.slice z.p5 s.el.length z.k5,.int .i64 s.nw,.slice z.p6 s.th.length z.k6,.slice z.p7 s.lg.length z.k7]] W fun e W' => e = .returned (.bool b)∧Kept W W' := by
 have hr:Rp nowhere (fun _=>False) W (stT s) (.agg #[.int .i64 s.cf.lg,.int .i64 s.cf.th,.int .i64 s.cf.po,.int .i64 s.cf.wt,.int .i64 s.cf.sp,.int .i64 s.cf.yi,.bool s.cf.si,.int .i64 s.hd,.int .i64 s.tl,.int .i64 s.md,.slice z.p1 s.sl.length z.k1,.slice z.p2 s.sn.length z.k2,.slice z.p3 s.rc.length z.k3,.int .i64 s.fe,.slice z.p4 s.fl.length z.k4,.int .i64 s.ee,.slice z.p5 s.el.length z.k5,.int .i64 s.nw,.slice z.p6 s.th.length z.k6,.slice z.p7 s.lg.length z.k7]):=rp_stT.2 ⟨z,rfl,hz.loc.mono fun _ _ h=>h⟩
 exact at_one (ac_pcheck hb ho) hr
theorem pwaits_at {t:Th} {b:Bool} (hb:tdB t=b) (W:World):Calls Tryz.prog 198 #[.agg #[.int .i64 t.st,.int .i64 t.ki,.int .i64 t.va,.int .i64 t.un,.int .i64 t.pc,.int .i64 t.re,.int .i64 t.se,.int .i64 t.tr,.bool t.la,.int .i64 t.rs,.int .i64 t.go]] W fun e W' => e = .returned (.bool b)∧Kept W W' := by
 subst hb
 exact at_one (ac_pwaits t) (rp_thT.2 rfl)
theorem Sl.outs {α:Type} {W W' : World} {k n c:Nat} {S:List Nat} {enc:α→List Value} {xs:List α} {p:Option Addr} (h:Sl W k enc xs (.slice p n c)) (ho:Out S W W') (hne:xs≠[]→∀ a,p=some a→a.block∉S):Sl W' k enc xs (.slice p n c):=by
 obtain ⟨q,cap,hv,h1,h2,h3,h4⟩:=h.is
 cases hv
 refine ⟨p,c,rfl,h1,h2,h3,fun hx=>?_⟩
 obtain ⟨g,o,rfl,hg,hc⟩:=h4 hx
 refine ⟨g,o,rfl,Nat.lt_of_lt_of_le hg ho.size,fun i x hi l hl=>?_⟩
 have hb:=ho.block g hg (hne hx _ rfl)
 rw [← hc i x hi l hl]
 simp [World.cell?,hb]
def duV (d:Du):Value:=.agg #[.int .i64 d.tm,.int .i64 d.id]
set_option maxHeartbeats 4000000 in
theorem late_iter {s:St} (ho:s.ok) {b b' : Nat} {z:Pz} {w:World} (hb:Bk w b [.int .i64 s.cf.lg,.int .i64 s.cf.th,.int .i64 s.cf.po,.int .i64 s.cf.wt,.int .i64 s.cf.sp,.int .i64 s.cf.yi,.bool s.cf.si,.int .i64 s.hd,.int .i64 s.tl,.int .i64 s.md,.slice z.p1 s.sl.length z.k1,.slice z.p2 s.sn.length z.k2,.slice z.p3 s.rc.length z.k3,.int .i64 s.fe,.slice z.p4 s.fl.length z.k4,.int .i64 s.ee,.slice z.p5 s.el.length z.k5,.int .i64 s.nw,.slice z.p6 s.th.length z.k6,.slice z.p7 s.lg.length z.k7]) (hbb:b≠b') (hz:StAt w s z) (hp:s.th≠[]→∀ a,z.p6=some a→a.block≠b') :
  IterO Tryz.prog 197 #[] #[.pointer (some ⟨b,0,none⟩)] duV b' (wtS s) w:=by
 intro l J W hl hB hJ hY h0
 have hbw:b<w.heap.size:=hb.lt
 have hk0:=hb.kept hB
 have hzW:=hz.kept hB
 show Calls Tryz.prog 197 #[.func (.yield l) #[] #[],.pointer (some ⟨b,0,none⟩)] W _
 cases hst:stB s
 ·have hx:wtS s=[]:=by simp [wtS,hst]
  rw [hx]
  clear hx
  go_enter Tryz.func197,Tryz.ntmps197
  go_wp2_with (first | (refine ldoS (by rfl) rfl rfl (by first | assumption | exact Bk.past (by assumption)) (by repeat' (first | rfl | (refine ⟨?_,?_⟩))) ?_) | (refine ldot (by rfl) rfl rfl (by first | assumption | exact Bk.past (by assumption)) rfl ?_))
  refine (pcheck_at hst hzW ho).mono ?_
  rintro e w1 ⟨rfl,hgx⟩
  go_wp2
  refine bodyPost_ret (results_none rfl _ _ _) rfl ?_
  exact ⟨⟨_,rfl⟩,hJ _ _ _ h0 hgx⟩
 ·have hx:wtS s=wtL s s.th.length:=by simp [wtS,hst]
  rw [hx] at hY ⊢
  clear hx
  go_enter Tryz.func197,Tryz.ntmps197
  go_wp2_with (first | (refine ldoS (by rfl) rfl rfl (by first | assumption | exact Bk.past (by assumption)) (by repeat' (first | rfl | (refine ⟨?_,?_⟩))) ?_) | (refine ldot (by rfl) rfl rfl (by first | assumption | exact Bk.past (by assumption)) rfl ?_))
  refine (pcheck_at hst hzW ho).mono ?_
  rintro e w1 ⟨rfl,hgx⟩
  replace hk0:=hk0.kept hgx
  go_wp2_with (first | (refine ldoS (by rfl) rfl rfl (by first | assumption | exact Bk.past (by assumption)) (by repeat' (first | rfl | (refine ⟨?_,?_⟩))) ?_) | (refine ldot (by rfl) rfl rfl (by first | assumption | exact Bk.past (by assumption)) rfl ?_))
  obtain ⟨p6,hp6⟩:∃ p6,z.p6=p6:=⟨_,rfl⟩
  have hth:=hz.th
  rw [hp6] at hth hp ⊢
  have hne:s.th≠[]:=th_some hst
  obtain ⟨g,o,rfl⟩:∃ g o,p6=some ⟨g,o,none⟩:=by
   obtain ⟨q,c,e,-,-,-,h4⟩:=hth.is
   cases e
   obtain ⟨g,o,e,-⟩:=h4 hne
   exact ⟨g,o,e⟩
  have hgb:g≠b' := hp hne _ rfl
  have hgl:g<w.heap.size:=by
   obtain ⟨q,c,e,-,-,-,h4⟩:=hth.is
   cases e
   obtain ⟨g',o',e,h5,-⟩:=h4 hne
   cases e;exact h5
  obtain ⟨N,hN⟩:∃ N,s.th.length=N:=⟨_,rfl⟩
  rw [hN]
  have hNm:N≤1000000:=by have:=(th_len hst).2.2;omega
  have hOw:Out [b',l] w w1:=Out.of_kept (hB.trans (hgx.mono hB.size))
  have hJ1:=hJ _ _ _ h0 hgx
  have HK:=Lib.hid (And.intro hJ1 (And.intro hOw (And.intro hth (And.intro hN hY))))
  clear hJ1 hOw hth hN hY hk0 hzW hgx hB hb hz hp hne
  refine (wpIn_wide (n:=10)).1 ?_
  gi_loopw [11] (fun i wr=>∃ k:Nat,k≤N∧i = .int .i64 k∧J (wtL s k) wr∧Out [b',l] w wr) (fun i _=>N - (intOf i).toNat)
  case atStart=>exact ⟨0,by omega,rfl,HK.out.1,HK.out.2.1⟩
  case round =>
   obtain ⟨k,hk,rfl,hj,hO⟩:=hrel
   rcases Nat.lt_or_ge k N with hkN | hkN
   ·have hw:=Sl.outs HK.out.2.2.1 hO (fun _ a ha=>by cases ha;simp;omega)
    obtain ⟨t,ht⟩:∃ t,gth s.th k=t:=⟨_,rfl⟩
    obtain ⟨c0,c1,c2,c3,c4,c5,c6,c7,c8,c9,c10⟩:=sth_at hw (j:=k) (by rw [HK.out.2.2.2.1];exact hkN)
    rw [ht] at c0 c1 c2 c3 c4 c5 c6 c7 c8 c9 c10
    obtain ⟨st,ki,va,un,pc,re,se,tr,la,rs,go⟩:=t
    simp only at c0 c1 c2 c3 c4 c5 c6 c7 c8 c9 c10
    have HT:=Lib.hid ht
    have HO:=Lib.hid hO
    clear ht hw hO
    cases htd:tdB ⟨st,ki,va,un,pc,re,se,tr,la,rs,go⟩
    ·have e1:Hid (wtL s (k+1)=wtL s k):=Lib.hid (if_neg (by rw [HT.out,htd];decide))
     gi_wp2_with (refine ⟨trivial,?_⟩;gi_at_call 198;refine (callsIn_wide.2 (pwaits_at htd _)).mono ?_;rintro e w2 ⟨rfl,hk2⟩)
     refine ⟨fun f hf=>(by cases hf),?_⟩
     gi_wp2
     go_roundw
     case rel=>exact ⟨k+1,by omega,rfl,by rw [e1.out];exact hJ _ _ _ hj (by repeat' (first | (with_reducible exact Below.refl _ _) | (with_reducible assumption) | (with_reducible refine kept_alloc ?_ _) | (with_reducible refine kept_drewN ?_ _) | (with_reducible refine Below.drew ?_) | (with_reducible refine Below.setCell ?_ (by first | omega | (simp;omega) | (simp;done)) _) | (refine kept_trans ?_ (by with_reducible assumption)))),HO.out.then (by repeat' (first | (with_reducible exact Below.refl _ _) | (with_reducible assumption) | (with_reducible refine kept_alloc ?_ _) | (with_reducible refine kept_drewN ?_ _) | (with_reducible refine Below.drew ?_) | (with_reducible refine Below.setCell ?_ (by first | omega | (simp;omega) | (simp;done)) _) | (refine kept_trans ?_ (by with_reducible assumption))))⟩
     case measure=>simp [intOf];omega
    ·have e1:Hid (wtL s (k+1)=wtL s k++[tdDu s k]):=Lib.hid (if_pos (by rw [HT.out];exact htd))
     gi_wp2_with fail
     refine ⟨trivial,?_⟩
     refine (callsIn_wide.2 (pwaits_at htd _)).mono ?_
     rintro e w2 ⟨rfl,hk2⟩
     have hx:Below wr.heap.size wr w2:=by repeat' (first | (with_reducible exact Below.refl _ _) | (with_reducible assumption) | (with_reducible refine kept_alloc ?_ _) | (with_reducible refine kept_drewN ?_ _) | (with_reducible refine Below.drew ?_) | (with_reducible refine Below.setCell ?_ (by first | omega | (simp;omega) | (simp;done)) _) | (refine kept_trans ?_ (by with_reducible assumption)))
     have c30:w2.cell? ⟨wr.heap.size,3,none⟩=some (.int .i64 un):=(hk2.cell (p:=⟨wr.heap.size,3,none⟩) (by simp)).trans (by simp)
     obtain ⟨suf,hs⟩:=wt_to (k:=k) (by rw [HT.out];exact htd) hkN
     obtain ⟨fn,tmps,assign,body,hy,hR⟩:=HK.out.2.2.2.2 (10 - 1) (wtL s k) (tdDu s k) suf w2 (by omega) (by rw [HK.out.2.2.2.1];exact hs) (hJ _ _ _ hj hx)
     simp only [duV,tdDu,HT.out] at hy
     have HX:=Lib.hid (And.intro hx hs)
     clear hx hs
     gi_wp2
     refine hR.mono ?_
     rintro e C ⟨rfl,hj',hO'⟩
     gi_wp2
     go_roundw
     case rel=>exact ⟨k+1,by omega,rfl,by rw [e1.out];exact hj',(HO.out.then HX.out.1).trans hO' (fun j hj=>.inl hj)⟩
     case measure=>simp [intOf];omega
   ·obtain rfl:k=N:=by omega
    gi_wp2
    go_end0
    exact ⟨⟨_,rfl⟩,by rw [HK.out.2.2.2.1];exact hj⟩
end
section
open Go.ChangeShapes Go.WideShapes Go.ChangeAt Go.RowKit Go.Shelf
attribute [local go_sem] Oper.semAt_some
set_option maxHeartbeats 2000000 in
theorem tolate_at {s:St} {z:Pz} {w:World}:Calls Tryz.prog 185 #[.agg #[.int .i64 s.cf.lg,.int .i64 s.cf.th,.int .i64 s.cf.po,.int .i64 s.cf.wt,.int .i64 s.cf.sp,.int .i64 s.cf.yi,.bool s.cf.si,.int .i64 s.hd,.int .i64 s.tl,.int .i64 s.md,.slice z.p1 s.sl.length z.k1,.slice z.p2 s.sn.length z.k2,.slice z.p3 s.rc.length z.k3,.int .i64 s.fe,.slice z.p4 s.fl.length z.k4,.int .i64 s.ee,.slice z.p5 s.el.length z.k5,.int .i64 s.nw,.slice z.p6 s.th.length z.k6,.slice z.p7 s.lg.length z.k7]] w fun e w' => ∃ b,e = .returned (.func (.func 197) #[] #[.pointer (some ⟨b,0,none⟩)])∧w.heap.size≤b∧Bk w' b [.int .i64 s.cf.lg,.int .i64 s.cf.th,.int .i64 s.cf.po,.int .i64 s.cf.wt,.int .i64 s.cf.sp,.int .i64 s.cf.yi,.bool s.cf.si,.int .i64 s.hd,.int .i64 s.tl,.int .i64 s.md,.slice z.p1 s.sl.length z.k1,.slice z.p2 s.sn.length z.k2,.slice z.p3 s.rc.length z.k3,.int .i64 s.fe,.slice z.p4 s.fl.length z.k4,.int .i64 s.ee,.slice z.p5 s.el.length z.k5,.int .i64 s.nw,.slice z.p6 s.th.length z.k6,.slice z.p7 s.lg.length z.k7]∧Kept w w' := by
 go_enter Tryz.func185,Tryz.ntmps185;go_upto_region 1 with fail;refine wp_abs (fun W=>Below w.heap.size w W∧Bk W (w.heap.size) [.int .i64 s.cf.lg ,.int .i64 s.cf.th ,.int .i64 s.cf.po ,.int .i64 s.cf.wt ,.int .i64 s.cf.sp ,.int .i64 s.cf.yi ,.bool s.cf.si ,.int .i64 s.hd ,.int .i64 s.tl ,.int .i64 s.md ,.slice z.p1 s.sl.length z.k1 ,.slice z.p2 s.sn.length z.k2 ,.slice z.p3 s.rc.length z.k3 ,.int .i64 s.fe ,.slice z.p4 s.fl.length z.k4 ,.int .i64 s.ee ,.slice z.p5 s.el.length z.k5 ,.int .i64 s.nw ,.slice z.p6 s.th.length z.k6 ,.slice z.p7 s.lg.length z.k7]) ⟨by repeat' (first | (with_reducible exact Below.refl _ _) | (with_reducible assumption) | (with_reducible refine kept_alloc ?_ _) | (with_reducible refine kept_drewN ?_ _) | (with_reducible refine Below.drew ?_) | (with_reducible refine Below.setCell ?_ (by first | omega | (simp;omega) | (simp;done)) _) | (refine kept_trans ?_ (by with_reducible assumption))),(by repeat (first | (exact Bk.new (by first | rfl | (simp;done) | (simp;omega))) | (refine Bk.past ?_)))⟩ ?_;rintro V ⟨hB,hk0⟩
 go_wp2
 go_ret
 exact ⟨_,rfl,Nat.le_refl _,hk0,hB⟩
theorem Sl.turn {α:Type} {W W' : World} {B k:Nat} {enc:α→List Value} {xs:List α} {v:Value} (he:∀ x,(enc x).length=k) (hk:0<k) (h:Sl W k enc xs v) (ht:Turn B W W'):Sl W' k enc xs v:=by
 obtain ⟨p,cap,hv,h1,h2,h3,h4⟩:=h.is
 refine ⟨p,cap,hv,h1,h2,h3,fun hne=>?_⟩
 obtain ⟨b,o,hp,hb,hc⟩:=h4 hne
 have cell:∀ i x,xs[i]? = some x→∀ j,j<k→W'.cell? ⟨b,o+i * k+j,none⟩=(enc x)[j]? := fun i x hx j hj=>by
  have h5:=hc i x hx j hj
  have hj' : j<(enc x).length:=by rw [he];exact hj
  rw [List.getElem?_eq_getElem hj'] at h5 ⊢
  exact ht.cell h5
 refine ⟨b,o,hp,?_,cell⟩
 obtain ⟨x,r,rfl⟩:=List.exists_cons_of_ne_nil hne
 have h5:=cell 0 x rfl 0 hk
 have hj' : 0<(enc x).length:=by rw [he];exact hk
 rw [List.getElem?_eq_getElem hj'] at h5
 obtain ⟨ob,h6,-⟩:=cells_of_cell h5
 exact lt_of_some h6
structure DuAt (w A:World) (b:Nat) (L:List Du):Prop where
 is:∃ (p:Option Addr) (k:Nat),A.cell? ⟨b,0,none⟩=some (.slice p L.length k)∧A.frozen? ⟨b,0,none⟩=false∧Sl A 2 Du.cells L (.slice p L.length k)∧∀ a,p=some a→w.heap.size≤a.block∧a.block≠b
 kept:Below w.heap.size w A
theorem DuAt.turn {w A C:World} {b B:Nat} {L:List Du} (h:DuAt w A b L) (ht:Turn B A C) (hB:w.heap.size≤B):DuAt w C b L:=by
 obtain ⟨⟨p,k,h1,h2,h3,h4⟩,h5⟩:=h
 exact ⟨⟨p,k,ht.cell h1,(ht.frozen h1).trans h2,h3.turn (fun _=>rfl) (by decide) ht,h4⟩,ht.below hB h5⟩
theorem wts_at {s:St} {pre suf:List Du} {x:Du} (h:wtS s=pre++x::suf):codeI (pre.foldl putL []) x=0∧(pre.foldl putL []).length≤700∧In64 x.tm:=by
 cases hB:stB s
 ·simp [wtS,hB] at h
 ·rw [show wtS s=wtL s s.th.length by simp [wtS,hB]] at h
  obtain ⟨k,hk,ht,rfl,rfl⟩:=wt_at h
  rw [wt_put]
  have:=td_len s k
  have:=(th_len hB).2.2
  have hu:=td_time (gth_ok hB hk) ht
  exact ⟨td_code hB hk ht,by omega,⟨by show -9223372036854775808≤(gth s.th k).un;omega,by show (gth s.th k).un≤9223372036854775807;omega⟩⟩
def RetDu (r:List Du) (w:World) (e:Ending) (w' : World):Prop:=∃ (p:Option Addr) (k:Nat),e = .returned (.slice p r.length k)∧(Sl w' 2 Du.cells r (.slice p r.length k)∧∀ a,p=some a→w.heap.size≤a.block)∧Kept w w'
set_option maxHeartbeats 4000000 in
theorem pdues_at {s:St} (ho:s.ok) {z:Pz} {w:World} (hz:StAt w s z):Calls Tryz.prog 175 #[.agg #[.int .i64 s.cf.lg,.int .i64 s.cf.th,.int .i64 s.cf.po,.int .i64 s.cf.wt,.int .i64 s.cf.sp,.int .i64 s.cf.yi,.bool s.cf.si,.int .i64 s.hd,.int .i64 s.tl,.int .i64 s.md,.slice z.p1 s.sl.length z.k1,.slice z.p2 s.sn.length z.k2,.slice z.p3 s.rc.length z.k3,.int .i64 s.fe,.slice z.p4 s.fl.length z.k4,.int .i64 s.ee,.slice z.p5 s.el.length z.k5,.int .i64 s.nw,.slice z.p6 s.th.length z.k6,.slice z.p7 s.lg.length z.k7]] w (RetDu (duesS s) w):=by
 refine (callsIn_wide (n:=20)).1 ?_
 refine callsIn_of_wp_marks Tryz.func175 rfl trivial ?_
 simp only [Tryz.ntmps175,List.size_toArray,List.length_cons,List.length_nil,Nat.reduceAdd,Nat.reduceSub,Array.replicate_succ,Array.replicate_zero,List.push_toArray,List.append_toArray,List.nil_append,List.cons_append]
 refine wpIn_wide.2 ?_
 go_upto_region 2 with fail
 refine wp_abs (fun W=>Below w.heap.size w W∧Bk W w.heap.size [.int .i64 s.cf.lg,.int .i64 s.cf.th,.int .i64 s.cf.po,.int .i64 s.cf.wt,.int .i64 s.cf.sp,.int .i64 s.cf.yi,.bool s.cf.si,.int .i64 s.hd,.int .i64 s.tl,.int .i64 s.md,.slice z.p1 s.sl.length z.k1,.slice z.p2 s.sn.length z.k2,.slice z.p3 s.rc.length z.k3,.int .i64 s.fe,.slice z.p4 s.fl.length z.k4,.int .i64 s.ee,.slice z.p5 s.el.length z.k5,.int .i64 s.nw,.slice z.p6 s.th.length z.k6,.slice z.p7 s.lg.length z.k7]∧Bk W (w.heap.size+1) [.slice none 0 0]) ⟨by repeat' (first | (with_reducible exact Below.refl _ _) | (with_reducible assumption) | (with_reducible refine kept_alloc ?_ _) | (with_reducible refine kept_drewN ?_ _) | (with_reducible refine Below.drew ?_) | (with_reducible refine Below.setCell ?_ (by first | omega | (simp;omega) | (simp;done)) _) | (refine kept_trans ?_ (by with_reducible assumption))),(by repeat (first | (exact Bk.new (by first | rfl | (simp;done) | (simp;omega))) | (refine Bk.past ?_))),(by repeat (first | (exact Bk.new (by first | rfl | (simp;done) | (simp;omega))) | (refine Bk.past ?_)))⟩ ?_
 rintro V ⟨hB,hk0,hk1⟩
 have hVl:=hk1.lt
 go_wp2_with (first | (refine ldoS (by rfl) rfl rfl (by first | assumption | exact Bk.past (by assumption)) (by repeat' (first | rfl | (refine ⟨?_,?_⟩))) ?_))
 refine tolate_at.mono ?_
 rintro e w2 ⟨b,rfl,hbl,hbk,hgx⟩
 have hk2:=hk1.kept hgx
 have hB2:Below w.heap.size w w2:=hB.trans (hgx.mono hB.size)
 have hs2:V.heap.size≤w2.heap.size:=hgx.size
 have hz2:=hz.kept hB2
 have hp:s.th≠[]→∀ a,z.p6=some a→a.block≠w.heap.size+1:=fun hne a ha=>by have:=hz.loc.th.i hne a ha;omega
 clear hB hk0 hk1 hgx
 go_wp2_with fail
 refine (wpIn_wide (n:=20)).1 ?_
 refine wpIn_overO (gf:=197) (bd:=#[]) (lb:=#[.pointer (some ⟨b,0,none⟩)]) (b:=w.heap.size+1) rfl (enters_of Tryz.func197 (by kernel_rfl) rfl) (late_iter ho hbk (by omega) hz2 hp) (by omega) rfl
  (fun pre A=>DuAt w A (w.heap.size+1) (pre.foldl putL [])) (fun _ _ _ h ht=>h.turn ht (by omega)) ?h0 ?round ?done
 case h0=>exact ⟨⟨none,0,hk2.cell 0,hk2.frozen 0,⟨none,0,rfl,by simp,by simp,fun _=>rfl,fun h=>absurd rfl h⟩,fun a ha=>by cases ha⟩,hB2⟩
 case round =>
  rintro m l pre suf x A hm hxs hsz hI
  obtain ⟨hc0,hl7,-⟩:=wts_at hxs
  simp only [duV]
  have hlt:w.heap.size+1<A.heap.size:=by omega
  gi_wp2
  refine ⟨(Below.refl _ _).alloc (Nat.le_refl _) _,fun C ht hsC=>?_⟩
  have h1m:1≤m:=by omega
  have hn0:C.cell? ⟨A.heap.size,0,none⟩=some (.int .i64 x.tm):=ht.cell (by simp)
  have hn1:C.cell? ⟨A.heap.size,1,none⟩=some (.int .i64 x.id):=ht.cell (by simp)
  have hA1:Turn w2.heap.size A (A.alloc (.cells #[.int .i64 x.tm,.int .i64 x.id] 88)):=Turn.of_kept ((Below.refl _ _).alloc (Nat.le_refl _) _)
  have hI2:=(hI.turn hA1 (by omega)).turn ht (by omega)
  clear hI hA1 ht
  obtain ⟨⟨p,k,hc,hf,hS,hN⟩,hBC⟩:=hI2
  have hCl:w.heap.size+1<C.heap.size:=by rw [hsC];simp;omega
  have e1:Hid ((pre++[x]).foldl putL []=putL (pre.foldl putL []) x):=Lib.hid (by simp)
  generalize pre.foldl putL []=L at *
  have HS:=Lib.hid (And.intro hS (And.intro hN (And.intro hc0 (And.intro hl7 hBC))))
  clear hS hN hc0 hl7 hBC
  gi_wp2_with (refine ⟨trivial,?_⟩;gi_at_call 186;refine (CallsIn.inRound l (callsIn_wide.2 (dput_okN L x p k C HS.out.1 HS.out.2.2.2.1 HS.out.2.2.1))).mono ?_;rintro e D ⟨p2,k2,rfl,⟨hS2,hN2⟩,hD⟩;have hcD:=(hD.cell (p:=⟨w.heap.size+1,0,none⟩) hCl).trans hc;have hfD:=(hD.frozen (p:=⟨w.heap.size+1,0,none⟩) hCl).trans hf;have HD:=Lib.hid (And.intro hS2 (And.intro hN2 hD));clear hS2 hN2 hD)
  have hDC:=HD.out.2.2.size
  have ho:=Out.set (Out.refl [w.heap.size+1] D) (x:=⟨w.heap.size+1,0,none⟩) (.inl (by simp)) (.slice p2 (putL L x).length k2)
  show Out [w.heap.size+1] C _∧DuAt w _ (w.heap.size+1) ((pre++[x]).foldl putL [])
  rw [e1.out]
  refine ⟨(Out.of_kept HD.out.2.2).set (.inl (by simp)) _,⟨p2,k2,World.cell?_setCell_same' _ _ _ (by rw [hcD];rfl),by rw [World.frozen?_setCell];exact hfD,HD.out.1.outs ho (fun _ a ha=>by have:=HD.out.2.1 a ha;simp;omega),fun a ha=>by have:=HD.out.2.1 a ha;omega⟩,?_⟩
  exact (HS.out.2.2.2.2.trans (HD.out.2.2.mono HS.out.2.2.2.2.size)).setCell (by simp) _
 case done =>
  rintro D W hD ⟨⟨p,k,hc,hf,hS,hN⟩,hBW⟩ hK
  rw [wts_put] at hc hS
  have HS:=Lib.hid (And.intro hS (And.intro hN hBW))
  clear hS hN hBW
  go_wp2
  have hT:Turn (w.heap.size+2) W (W.putObj D (.deferred none)):=Turn.putObj hK rfl (by omega) _
  have hSW:=Sl.turn (k:=2) (enc:=Du.cells) (fun _=>rfl) (by decide) HS.out.1 hT
  have hBW:=hT.below (by omega) HS.out.2.2
  have hN:=HS.out.2.1
  refine ⟨by simp,.inl ⟨_,_,rfl,run_takeDeferred hK,?_⟩⟩
  revert hSW hBW
  generalize (W.putObj D (.deferred none))=X
  intro hSW hBW
  exact ⟨.slice p (duesS s).length k,by simp [results,Tryz.results175,go_sem],p,k,rfl,⟨hSW,fun a ha=>(hN a ha).1⟩,hBW⟩
theorem an_pdues {s:St} (ho:s.ok):AN Tryz.prog 175 [stT s] (rowD (duesS s)):=by
 intro O W vs hl hat ;obtain ⟨ys,rfl,_,_,rfl,h0,rfl⟩:=args_of hat
 obtain ⟨z,rfl,hz⟩:=rp_stT.1 h0
 refine (pdues_at ho hz.at).mono ?_
 rintro e W' ⟨p,k,rfl,⟨hS,hN⟩,hk⟩
 exact ⟨_,rfl,rp_rowD.2 ⟨p,k,rfl,hS,fun _ a ha h=>by have:=hN a ha;rcases h with h | h;have:=hl _ h;omega;omega⟩,hk⟩
end
section
open Go.RowKit
theorem TkK.fit {s:St} (h:TkK s):s.fit:=by
 obtain ⟨a,b,c,d,e,f,g⟩:=h.few
 exact ⟨by omega,by omega,by omega,by omega,by omega,by omega,by omega⟩
theorem no_one (s:St):hasB s (-1)=false:=by
 cases h:hasB s (-1)
 ·rfl
 ·have:=(has_iff.1 h).2.1;omega
abbrev DuK (s:St):Prop:=AN Tryz.prog 175 [stT s] (rowD (duesS s))
theorem dues_few {s:St} (h:stB s=true):(duesS s).length≤16:=by
 have:=td_len s s.th.length
 have:=(th_len h).2.2
 simp only [duesS,h,if_true];omega
theorem tick_ids {s:St} {n:Int} (h:tickE s n=0):lateI (duesS s) (s.nw+n)=tickI s n:=by
 rw [(tick_yes h).2,late_is (dues_ok s)]
theorem tick_la {s:St} {n:Int} (h:tickE s n=0):LaK (s.toNow (s.nw+n)) (tickI s n):=by
 obtain ⟨hB,h0,h1⟩:=tickE_ok h
 have hb:=nw_bd hB
 refine ⟨now_stB hB (by omega),fun i hi=>?_⟩
 obtain ⟨m,rfl,hm,h2,-⟩:=(mem_tick h).1 hi
 obtain ⟨h3,h4,-⟩:=td_is.1 h2
 exact ⟨m,rfl,hm,h3,h4⟩
def tcE:List FuncId:=[42,19,175,178]
def aoW (s:St):Value:=.iface 1000004 (.func (.yield 18) #[.agg (stL s),.int .i64 11] #[])
theorem pt_one {s v:St} {n:Int} {L:List Int} {R:List Du} (h:TkK s) (hB:stB s=true) (hD:DuK s) (h0:0≤n) (h1:s.nw+n≤1099511627776) (hn:0≤s.nw) (hL:AC Tryz.prog 178 [rowD (duesS s),.int .i64 (s.nw+n)] (.tuple #[rowI L,rowD R]))
  (hK:LoopK Tryz.prog 3 (loopOf Tryz.prog 177 0) (hdK (s.toNow (s.nw+n)) L (0:Nat) s.th.length s.th.length) (.exit 1) (hdK v L L.length s.th.length v.th.length)) (hl:v.th.length=s.th.length):AC Tryz.prog 79 [stT s,.int .i64 n] (.tuple #[stT v,rowI L,.int .i64 0]) :=
 ac_path mixed (ext:=tcE) (fuel:=9) (n:=9) (orc:=[aoW s,vD true,.iface 1000012 (rowD (duesS s)),.bool false,.bool false,.tuple #[rowI L,rowD R],oK 3 [4,5,9] [4,8,45,46,47] 1 (hdKT L L.length) [bT v.th v.th.length,bTk v s.th.length,bWk]])
  (an (ao_keep (no_one s) h.ok h.fit (th_some hB))<|an (len_map (f:=thT) s.th)<|an (ac_pcheck hB h.ok)<|an (len_map (f:=thT) s.th)<|an hD<|an (show decide (n<0)=false by simp;omega)<|an (show In64 (1099511627776 - s.nw) by constructor <;> omega)<|an (show decide (1099511627776 - s.nw<n)=false by simp;omega)<|an (show In64 (s.nw+n) by constructor <;> omega)<|an hL<|an hK <|
   an (show LenP s.th.length v.th.length (v.th.map thT) from ⟨by simp [hl],by simp⟩) trivial) (by kernel_rfl)
theorem ac_ptick {s:St} {n:Int} (h:TkK s) (hn:In64 n):AC Tryz.prog 79 [stT s,.int .i64 n] (.tuple #[stT (tickS s n),rowI (tickI s n),.int .i64 (tickE s n)]):=by
 have hD:DuK s:=an_pdues h.ok
 cases hB:stB s
 ·have e:tickE s n=20:=(tickE_cfg s n).2 hB
  have e1:=tick_no (s:=s) (n:=n) (by rw [e];decide)
  rw [e,e1.1,e1.2]
  have hd:duesS s=[]:=by simp [duesS,hB]
  unfold DuK at hD
  rw [hd] at hD
  exact ac_path mixed (ext:=tcE) (fuel:=9) (n:=9) (orc:=[stT s,vD false,.iface 1000012 (rowD [])]) (an (ac_keep (no_one s) h.ok h.fit)<|an (ac_pcheck hB h.ok)<|an hD trivial) (by kernel_rfl)
 ·have hb:=nw_bd hB
  by_cases h0:n<0
  ·have e:tickE s n=50:=by unfold tickE;rw [if_neg (by simp [hB]),if_pos (.inl h0)]
   have e1:=tick_no (s:=s) (n:=n) (by rw [e];decide)
   rw [e,e1.1,e1.2]
   exact ac_path mixed (ext:=tcE) (fuel:=9) (n:=9) (orc:=[aoW s,vD true,.iface 1000012 (rowD (duesS s)),.bool true])
    (an (ao_keep (no_one s) h.ok h.fit (th_some hB))<|an (len_map (f:=thT) s.th)<|an (ac_pcheck hB h.ok)<|an (len_map (f:=thT) s.th)<|an hD<|an (show decide (n<0)=true by simpa using h0)<|an (len_map (f:=thT) s.th) trivial) (by kernel_rfl)
  ·by_cases h1:1099511627776 - s.nw<n
   ·have e:tickE s n=50:=by unfold tickE;rw [if_neg (by simp [hB]),if_pos (.inr h1)]
    have e1:=tick_no (s:=s) (n:=n) (by rw [e];decide)
    rw [e,e1.1,e1.2]
    exact ac_path mixed (ext:=tcE) (fuel:=9) (n:=9) (orc:=[aoW s,vD true,.iface 1000012 (rowD (duesS s)),.bool false,.bool true])
     (an (ao_keep (no_one s) h.ok h.fit (th_some hB))<|an (len_map (f:=thT) s.th)<|an (ac_pcheck hB h.ok)<|an (len_map (f:=thT) s.th)<|an hD<|an (show decide (n<0)=false by simpa using h0)<|an (show In64 (1099511627776 - s.nw) by constructor <;> omega)<|an (show decide (1099511627776 - s.nw<n)=true by simpa using h1)<|an (len_map (f:=thT) s.th) trivial) (by kernel_rfl)
   ·have e:=tickE_mk (s:=s) (n:=n) hB (by omega) (by omega)
    have hL:=ac_pdlate (l:=duesS s) (n:=s.nw+n) (dues_ok s) (by have:=dues_few hB;omega)
    have hm:=tickI_len h n
    have hK:=kl_lp (l:=tickI s n) (N:=s.th.length) (by omega) (tickI s n).length 0 (v:=s.toNow (s.nw+n)) rfl (by omega) (tick_la e) rfl
    rw [List.drop_zero,← (tick_yes e).1] at hK
    rw [tick_ids e] at hL
    rw [e]
    exact pt_one h hB hD (by omega) (by omega) hb.1 hL hK (tick_len s n)
end
section
open Go.RowKit
section
variable {v u:St} {l:List Int} {N i c:Nat} {R:List Du} {x:Exit} {S:Sg}
end
end
section
open Go.RowKit
def evRunN (P:Program) (ext:List FuncId) (fuel n:Nat) (g:FuncId) (args orc:List Value) (pos:Nat):Option (List Value×Prop) :=
 match evFn P ext fuel n g args [] orc with
 | some (.agg xs,H,[],ob)=>match xs.toList[pos]? with
  | some (.slice none 0 0)=>match lendL (lendA (look H)) xs.toList with
   | some (al,is,ps)=>if is.all (fun i=>(look H i).isSome) then some (al.set pos (.slice none 0 0),conj (ob++ps)) else none
   | none=>none
  | _=>none
 | _=>none
theorem ac_pathN {P:Program} (hm:P.follows .mixedOrders=true) {ext:List FuncId} {fuel n:Nat} {g:FuncId} {args orc:List Value} {pos:Nat} {cs:List Value} {A:Prop} (hA:A) (h:evRunN P ext fuel n g args orc pos=some (cs,A)):AC P g args (.agg cs.toArray):=by
 unfold evRunN at h
 split at h
 ·next xs H ob hev =>
  split at h
  ·next hp =>
   split at h
   ·next al is ps hl =>
    split at h
    ·next his =>
     cases h
     obtain ⟨hb1,hb2⟩:=conj_append.1 hA
     intro O W vs hlow hat
     have hH:HConc nowhere O [] W:=⟨hlow,fun _ _=>rfl,fun i=>by simp [look,HAt],fun i j b b' g k k' h1=>by simp [look] at h1⟩
     refine (evFn_ok hm n _ _ _ _ _ _ _ _ hev hb1 nowhere O W vs hH hat).mono ?_
     rintro e W' ⟨c,ρ',O',rfl,hr,hH',hE⟩
     obtain ⟨us,rfl,hau⟩:=rp_agg.1 hr
     have h5:=lendL_ok (H:=look H) (fun v v' c is ob=>lendA_ok) hl hb2 (ys:=us.toList) (by simpa using hau) (fun j _=>hH'.hp j)
     have hlen:al.length=us.toList.length:=by have:=h5.1;simpa using this.symm
     have hat2:AtAll (Rp nowhere (Unlent ρ' O' is) W') (al.set pos (.slice none 0 0)).toArray us:=by
      refine ⟨by simpa using hlen.symm,fun j x hx=>?_⟩
      simp only [List.getElem?_toArray,List.getElem?_set] at hx
      split at hx
      ·next e =>
       subst e
       obtain ⟨u,hu,hru⟩:=hau.2 pos _ (by simpa using hp)
       split at hx
       ·cases hx
        exact ⟨_,hu,rp_nils.2 (rp_nils.1 hru)⟩
       ·cases hx
      ·obtain ⟨y,hy,hr'⟩:=h5.2 j x (by simpa using hx)
       exact ⟨y,by simpa using hy,hr'⟩
     refine ⟨_,rfl,(rp_agg.2 ⟨us,rfl,hat2⟩:Rp nowhere (Unlent ρ' O' is) W' _ _).mono ⟨Nat.le_refl _,fun g _ hn=>⟨fun hO=>hn ⟨hE.keepO g hO fun i b hb=>by simp [look] at hb,fun i hi k hk=>?_⟩,rfl⟩,Shp.of_same fun _ _=>rfl⟩ (Sub.refl _),⟨hE.str.2.1,hE.str.1,hE.str.2.2,hE.still.size,fun g hg=>hE.blk g hg fun i b hb=>by simp [look] at hb⟩⟩
     rcases hE.new i _ hk with h2 | ⟨-,h2⟩
     ·cases h2
     ·have:=hlow g hO
      rcases h2 with h2 | ⟨j,b,k,h2,-⟩
      ·simp at h2;omega
      ·simp [look] at h2
    ·cases h
   ·cases h
  ·cases h
 ·cases h
def stN (s:St):Array Value:=#[.int .i64 s.cf.lg,.int .i64 s.cf.th,.int .i64 s.cf.po,.int .i64 s.cf.wt,.int .i64 s.cf.sp,.int .i64 s.cf.yi,.bool s.cf.si,.int .i64 s.hd,.int .i64 s.tl,.int .i64 s.md,rowS s.sl,rowI s.sn,rowI s.rc,.int .i64 s.fe,rowI s.fl,.int .i64 s.ee,rowI s.el,.int .i64 s.nw,rowT s.th,.slice none 0 0]
theorem ao_keepL {s:St} {i:Int} (hA:hasB s i=false) (ho:s.ok) (hf:s.fit) (hl:s.lg≠[]):AO Tryz.prog 42 [stT s,.int .i64 i] (stL s) 19 5 :=
 ao_path mixed (ext:=[72,129,128,130]) (fuel:=9) (n:=5) (pos:=19) (orc:=[vD false,rowS s.sl,rowI s.sn,rowI s.rc,rowI s.fl,rowI s.el,rowT s.th,rowE s.lg])
  (an (ac_phas hA ho)<|an (ac_copS s.sl hf.sl)<|an (ac_copI s.sn hf.sn)<|an (ac_copI s.rc hf.rc)<|an (ac_copI s.fl hf.fl)<|an (ac_copI s.el hf.el)<|an (ac_copT s.th hf.th)<|an (allK_E s.lg)<|an (app_nil (f:=enT) hl hf.lg)<|an (show s.lg.length=s.lg.length∧s.lg.length=(s.lg.map enT).length from ⟨rfl,by simp⟩) trivial) (by kernel_rfl)
theorem ac_keepN {s:St} {i:Int} (hA:hasB s i=false) (ho:s.ok) (hf:s.fit) (hl:s.lg=[]):AC Tryz.prog 42 [stT s,.int .i64 i] (.agg (stN s)) :=
 ac_pathN mixed (ext:=[72,129,128,130]) (fuel:=9) (n:=5) (pos:=19) (orc:=[vD false,rowS s.sl,rowI s.sn,rowI s.rc,rowI s.fl,rowI s.el,rowT s.th,.slice none 0 0])
  (an (ac_phas hA ho)<|an (ac_copS s.sl hf.sl)<|an (ac_copI s.sn hf.sn)<|an (ac_copI s.rc hf.rc)<|an (ac_copI s.fl hf.fl)<|an (ac_copI s.el hf.el)<|an (ac_copT s.th hf.th)<|an (allK_E s.lg)<|an (show s.lg.length=0 by rw [hl];rfl) trivial) (by kernel_rfl)
end
section
open Go.RowKit
def stW (s:St) (v:Value):List Value:=[.int .i64 s.cf.lg,.int .i64 s.cf.th,.int .i64 s.cf.po,.int .i64 s.cf.wt,.int .i64 s.cf.sp,.int .i64 s.cf.yi,.bool s.cf.si,.int .i64 s.hd,.int .i64 s.tl,.int .i64 s.md,rowS s.sl,rowI s.sn,rowI s.rc,.int .i64 s.fe,rowI s.fl,.int .i64 s.ee,rowI s.el,.int .i64 s.nw,rowT s.th,v]
def bSt (s:St) (v:Value):Option Blk:=some ⟨true,false,20,1,[.agg (stW s v).toArray]⟩
def bLg (l:List En):Option Blk:=some ⟨true,true,5,l.length,l.map enT⟩
def b1P (v:Value):Option Blk:=some ⟨true,false,1,1,[v]⟩
def lgO (l:List En):Value:=.slice (some ⟨8,0,some 0⟩) l.length 0
def lgN:Value:=.slice none 0 0
def sdV (f:FuncId):Value:=.agg #[.func (.func f) #[] #[]]
def bSd:Option Blk:=some ⟨true,false,0,0,[.agg #[.int .i64 1,sdV 182],.agg #[.int .i64 2,sdV 183],.agg #[.int .i64 3,sdV 184]]⟩
def pkH (s:St) (b:Bool) (v:Value):List (Option Blk):=[bSt s v,bZ,b1P (pt 0),b1P (pt 0),b1P (vD b),bSd,b1P (.func (.func 180) #[] #[pt 4,pt 3]),b1P (.map (some 5))]
def hO (s:St) (b:Bool):List (Option Blk):=pkH s b (lgO s.lg)++[bLg s.lg]
def hN (s:St) (b:Bool):List (Option Blk):=pkH s b lgN
def pkX:List FuncId:=[42,19,181,58,182,183,184]
end
section
open Go.RowKit
def vClo (x:Nat) (b:Value) (g:Nat) (k:Int):Value:=.func (.func 235) #[] #[vFz [.func (.func g) #[pt x] #[]],b,vFz [.int .i64 k]]
def vMet (x:Nat) (g:Nat):Value:=.func (.func g) #[pt x] #[]
def vEn (k:Int) (v:Value):Value:=.agg #[.int .i64 k,v]
def els9 (x:Nat) (b:Value):List Value:=[vEn 0 (vClo x b 237 1),vEn 1 (vMet x 238),vEn 2 (vMet x 239),vEn 3 (vMet x 240),vEn 4 (vClo x b 241 6),vEn 5 (vClo x b 242 7),vEn 6 (vClo x b 243 9),vEn 7 (vMet x 244),vEn 8 (vMet x 245)]
def bMp (x:Nat) (b:Value):Option Blk:=some ⟨true,false,0,0,els9 x b++[vEn 9 (vMet x 246),vEn 10 (vMet x 246),vEn 11 (vMet x 246)]⟩
def bBx (x:Nat):Option Blk:=some ⟨true,false,1,1,[pt x]⟩
def hdV (s:St) (i m o:Int) (N:Nat):Sg:=⟨mkT 41 [(2,.int .i64 m),(6,pt 2),(8,pt 0),(9,.map (some 4)),(10,.int .i64 o)],[bX s i N,bT s.th N,bZ,bBx 0,bMp 0 (pt 3)]⟩
structure Rv (s:St) (n:Nat) (t:Th) (c m o:Int):Prop where
 lt:decide (o<min m 1000)=true
 ck:stB s=true
 ok:s.ok
 hn:n<s.th.length
 ht:gth s.th n=pcT t c
 rs:thRuns t.st=0
 sd:opSide t.ki=2
 fit:s.fit
 o1:In64 (o+1)
section
variable {s:St} {n:Nat} {t:Th} {c m o:Int}
theorem Rv.ge (_h:Rv s n t c m o):decide ((n:Int)<0)=false:=by simp
theorem Rv.le (h:Rv s n t c m o):decide ((s.th.length:Int)≤n)=false:=by have:=h.hn;simp;omega
theorem Rv.el (h:Rv s n t c m o):ElP (s.th.map thT) (0+(n:Int).toNat) (thT (pcT t c)):=h.ht ▸ elT h.hn
theorem Rv.ru (h:Rv s n t c m o):AC Tryz.prog 181 [thT (pcT t c)] (.int .i64 0):=ac_pruns (t:=pcT t c) h.rs
theorem Rv.si (h:Rv s n t c m o):AC Tryz.prog 58 [.int .i64 (pcT t c).ki] (.int .i64 2):=by have:=ac_pside (pcT t c).ki;exact h.sd ▸ this
theorem Rv.id (h:Rv s n t c m o):0≤(n:Int)∧(n:Int).toNat<s.th.length:=idT h.hn
theorem Rv.ln (_h:Rv s n t c m o):LenP s.th.length s.th.length (s.th.map thT):=len_map s.th
theorem Rv.pa {B:Prop} (h:Rv s n t c m o) (k:B):decide (o<min m 1000)=true∧LenP s.th.length s.th.length (s.th.map thT)∧AC Tryz.prog 19 [stT s] (.bool true)∧decide ((n:Int)<0)=false∧decide ((s.th.length:Int)≤n)=false∧(0≤(n:Int)∧(n:Int).toNat<s.th.length)∧ElP (s.th.map thT) (0+(n:Int).toNat) (thT (pcT t c))∧AC Tryz.prog 181 [thT (pcT t c)] (.int .i64 0)∧(0≤(n:Int)∧(n:Int).toNat<s.th.length)∧ElP (s.th.map thT) (0+(n:Int).toNat) (thT (pcT t c))∧AC Tryz.prog 58 [.int .i64 (pcT t c).ki] (.int .i64 2)∧(0≤(n:Int)∧(n:Int).toNat<s.th.length)∧ElP (s.th.map thT) (0+(n:Int).toNat) (thT (pcT t c))∧B:=an h.lt<|an h.ln<|an (ac_pcheck h.ck h.ok)<|an h.ge<|an h.le<|an h.id<|an h.el<|an h.ru<|an h.id<|an h.el<|an h.si<|an h.id<|an h.el k
theorem Rv.ln1 (_h:Rv s n t c m o) (u:Th):LenP s.th.length (s.th.set n u).length ((s.th.set n u).map thT):=⟨by simp,by simp⟩
theorem Rv.has (h:Rv s n t c m o):hasB s n=true:=has_iff.2 ⟨h.ck,by omega,by have:=h.hn;omega⟩
theorem Rv.nk (h:Rv s n t c m o):(t.ki != 9)=true:=by
 have:=h.sd
 by_cases e:t.ki=9
 ·rw [e] at this;exact absurd this (by decide)
 ·simp [e]
theorem Rv.tell {r:Int} (h:Rv s n t c m o):AO Tryz.prog 268 [stT s,.int .i64 n,.int .i64 t.ki,.int .i64 r,.int .i64 0] (stL ((s.setTh n (rgT (pcT t c) r 0)).addLg (tlE s n t.ki r 0))) 18 11:=tell_c h.has h.ht h.nk h.ok h.fit
theorem Rv.ids (h:Rv s n t c m o) (u:Th):0≤(n:Int)∧(n:Int).toNat<(s.th.set n u).length:=idT (by rw [List.length_set];exact h.hn)
theorem Rv.idw (h:Rv s n t c m o) (q:Nat) (u:Th):0≤(n:Int)∧(n:Int).toNat<(s.th.set q u).length:=idT (by rw [List.length_set];exact h.hn)
theorem Rv.ids2 (h:Rv s n t c m o) (u v:Th):0≤(n:Int)∧(n:Int).toNat<((s.th.set n u).set n v).length:=idT (by rw [List.length_set,List.length_set];exact h.hn)
theorem Rv.el22 (h:Rv s n t c m o) (u v:Th):ElP (((s.th.set n u).set n v).map thT) (0+(n:Int).toNat) (thT v):=el2 (by rw [List.length_set];exact h.hn) v
theorem Rv.el23 (h:Rv s n t c m o) (u v w:Th):ElP ((((s.th.set n u).set n v).set n w).map thT) (0+(n:Int).toNat) (thT w):=el2 (by rw [List.length_set,List.length_set];exact h.hn) w
theorem Rv.len (h:Rv s n t c m o):In64 (s.sl.length:Int):=by have:=h.fit.sl;constructor <;> omega
theorem Rv.sees {r:Int} (h:Rv s n t c m o) (hs:seesR s=r):AC Tryz.prog 281 [wdT s.hd s.tl s.md,.int .i64 s.sl.length] (.tuple #[.int .i64 (seesS s),.int .i64 r]):=hs ▸ ac_psees s.hd s.tl s.md s.sl.length h.ok.hd h.ok.tl h.ok.md h.len
theorem Rv.take {r v p:Int} (h:Rv s n t c m o) (hs:seesR s=r) (hH:tkH s.hd s.tl s.md s.sl.length=v) (hP:tkP s.hd s.tl s.md s.sl.length=p):AC Tryz.prog 275 [wdT s.hd s.tl s.md,.int .i64 s.sl.length] (.tuple #[wdT v s.tl s.md,.int .i64 p,.int .i64 r]):=hs ▸ hH ▸ hP ▸ ew_take h.ok.hd h.ok.tl h.ok.md h.len
theorem Rv.tell3 {g:Int} (h:Rv s n t c m o) (hA:hasB ((s.toWord (s.hd+1) s.tl s.md).setTh n (regT t s.hd 3)) n=true) (ho:((s.toWord (s.hd+1) s.tl s.md).setTh n (regT t s.hd 3)).ok) (hf:((s.toWord (s.hd+1) s.tl s.md).setTh n (regT t s.hd 3)).fit) :
  AO Tryz.prog 268 [stT ((s.toWord (s.hd+1) s.tl s.md).setTh n (regT t s.hd 3)),.int .i64 n,.int .i64 t.ki,.int .i64 1,.int .i64 g] (stL ((((s.toWord (s.hd+1) s.tl s.md).setTh n (regT t s.hd 3)).setTh n (rgT (regT t s.hd 3) 1 g)).addLg (tlE ((s.toWord (s.hd+1) s.tl s.md).setTh n (regT t s.hd 3)) n t.ki 1 g))) 18 11:=by
 have:=ao_tell (k:=t.ki) (r:=1) (g:=g) hA h.nk ho hf
 rw [show gth ((s.toWord (s.hd+1) s.tl s.md).setTh n (regT t s.hd 3)).th n=regT t s.hd 3 from by show gth (s.th.set n _) n=_;rw [gth_set h.hn,if_pos rfl]] at this
 exact this
end
end
section
open Go.RowKit
section
variable {s:St} {n:Nat} {t:Th} {m o:Int} {x:Exit} {S:Sg}
theorem lv_enter (h:Rv s n t 0 m o) (hm:s.rc.length≤999999) (hL:LoopP Tryz.prog (loopOf Tryz.prog 195 0) (hdV ((s.toRc (entL s.rc n)).setTh n (pcT t 1)) n m (o+1) (s.th.length)) x S):LoopP Tryz.prog (loopOf Tryz.prog 195 0) (hdV s n m o s.th.length) x S :=
 loop_more mixed (fuel:=9) (n:=12) (im:=[0,1,2,3,4]) (keep:=[2,6,8,9,10]) (ext:=[19,181,58,252]) (orc:=sPO t 0 2++[.tuple #[rowI (entL s.rc n),.int .i64 (entE s.rc n)],thT (pcT t 0),vRow s.th.length ((s.th.set n (pcT t 1)).map thT)])
  (h.pa<|an (ac_penter s.rc n hm)<|an (h.id)<|an (h.el)<|an (setT s.th n (pcT t 1)) <|  an h.o1 trivial) (by kernel_rfl) hL
theorem lv_first (h:Rv s n t 1 m o) (hp:(plI s.rc n==0)=true) (hL:LoopP Tryz.prog (loopOf Tryz.prog 195 0) (hdV (s.setTh n (pcT t 2)) n m (o+1) (s.th.length)) x S):LoopP Tryz.prog (loopOf Tryz.prog 195 0) (hdV s n m o s.th.length) x S :=
 loop_more mixed (fuel:=9) (n:=12) (im:=[0,1,2,3,4]) (keep:=[2,6,8,9,10]) (ext:=[19,181,58,254]) (orc:=sPO t 1 2++[vD true,thT (pcT t 1),vRow s.th.length ((s.th.set n (pcT t 2)).map thT)])
  (h.pa<|an (ac_pfirst hp)<|an (h.id)<|an (h.el)<|an (setT s.th n (pcT t 2)) <|  an h.o1 trivial) (by kernel_rfl) hL
theorem lv_firstL (h:Rv s n t 1 m o) (hp:(plI s.rc n==0)=false) (hl:t.la=true) (hL:LoopP Tryz.prog (loopOf Tryz.prog 195 0) (hdV (((s.setTh n (rgT (pcT t 1) 5 0)).addLg (tlE s n t.ki 5 0)).setTh n (pcT (rgT t 5 0) 9)) n m (o+1) ((s.th.set n (rgT (pcT t 1) 5 0)).length)) x S):LoopP Tryz.prog (loopOf Tryz.prog 195 0) (hdV s n m o s.th.length) x S :=
 loop_more mixed (fuel:=9) (n:=12) (im:=[0,5,2,3,4]) (keep:=[2,6,8,9,10]) (ext:=[19,181,58,254,268]) (orc:=sPO t 1 2++[vD false,thT (pcT t 1),.bool true,thT (pcT t 1),.iface 1000004 (.func (.yield 18) #[.agg (stL ((s.setTh n (rgT (pcT t 1) 5 0)).addLg (tlE s n t.ki 5 0))),.int .i64 11] #[]),thT (rgT (pcT t 1) 5 0),vRow (s.th.set n (rgT (pcT t 1) 5 0)).length (((s.th.set n (rgT (pcT t 1) 5 0)).set n (pcT (rgT t 5 0) 9)).map thT)])
  (h.pa<|an (ac_pfirst hp)<|an (h.id)<|an (h.el)<|an (hl)<|an (h.id)<|an (h.el)<|an (h.ln)<|an (h.tell (r:=5))<|an (h.ids (rgT (pcT t 1) 5 0))<|an (el2 h.hn (rgT (pcT t 1) 5 0))<|an (setT (s.th.set n (rgT (pcT t 1) 5 0)) n (pcT (rgT t 5 0) 9)) <|  an h.o1 trivial) (by kernel_rfl) hL
theorem lv_firstT (h:Rv s n t 1 m o) (hp:(plI s.rc n==0)=false) (hl:t.la=false) (hr:In64 (t.tr+1)) (hL:LoopP Tryz.prog (loopOf Tryz.prog 195 0) (hdV (s.setTh n (tryT (pcT t 1))) n m (o+1) (s.th.length)) x S):LoopP Tryz.prog (loopOf Tryz.prog 195 0) (hdV s n m o s.th.length) x S :=
 loop_more mixed (fuel:=9) (n:=12) (im:=[0,1,2,3,4]) (keep:=[2,6,8,9,10]) (ext:=[19,181,58,254]) (orc:=sPO t 1 2++[vD false,thT (pcT t 1),.bool false,thT (pcT t 1),thT (pcT t 1),vRow s.th.length ((s.th.set n (tryT (pcT t 1))).map thT)])
  (h.pa<|an (ac_pfirst hp)<|an (h.id)<|an (h.el)<|an (hl)<|an (h.id)<|an (h.el)<|an (hr)<|an (h.el)<|an (setT s.th n (tryT (pcT t 1))) <|  an h.o1 trivial) (by kernel_rfl) hL
theorem lv_lookR (h:Rv s n t 2 m o) (hs:seesR s=1) (hL:LoopP Tryz.prog (loopOf Tryz.prog 195 0) (hdV (s.setTh n (pcT t 3)) n m (o+1) (s.th.length)) x S):LoopP Tryz.prog (loopOf Tryz.prog 195 0) (hdV s n m o s.th.length) x S :=
 loop_more mixed (fuel:=9) (n:=12) (im:=[0,1,2,3,4]) (keep:=[2,6,8,9,10]) (ext:=[19,181,58,281]) (orc:=sPO t 2 2++[.tuple #[.int .i64 (seesS s),.int .i64 1],.nilFunc,thT (pcT t 2),vRow s.th.length ((s.th.set n (pcT t 3)).map thT)])
  (h.pa<|an (h.sees hs)<|an (h.id)<|an (h.el)<|an (setT s.th n (pcT t 3)) <|  an h.o1 trivial) (by kernel_rfl) hL
theorem lv_lookB (h:Rv s n t 2 m o) (hs:seesR s=4) (hk:opOnce t.ki=true) (hL:LoopP Tryz.prog (loopOf Tryz.prog 195 0) (hdV (((s.setTh n (rgT (pcT t 2) 4 0)).addLg (tlE s n t.ki 4 0)).setTh n (pcT (rgT t 4 0) 9)) n m (o+1) ((s.th.set n (rgT (pcT t 2) 4 0)).length)) x S):LoopP Tryz.prog (loopOf Tryz.prog 195 0) (hdV s n m o s.th.length) x S :=
 loop_more mixed (fuel:=9) (n:=12) (im:=[0,5,2,3,4]) (keep:=[2,6,8,9,10]) (ext:=[19,181,58,281,268,298]) (orc:=sPO t 2 2++[.tuple #[.int .i64 (seesS s),.int .i64 4],.nilFunc,.nilFunc,thT (pcT t 2),vD true,thT (pcT t 2),.iface 1000004 (.func (.yield 18) #[.agg (stL ((s.setTh n (rgT (pcT t 2) 4 0)).addLg (tlE s n t.ki 4 0))),.int .i64 11] #[]),thT (rgT (pcT t 2) 4 0),vRow (s.th.set n (rgT (pcT t 2) 4 0)).length (((s.th.set n (rgT (pcT t 2) 4 0)).set n (pcT (rgT t 4 0) 9)).map thT)])
  (h.pa<|an (h.sees hs)<|an (h.id)<|an (h.el)<|an (ac_ponce hk)<|an (h.id)<|an (h.el)<|an (h.ln)<|an (h.tell (r:=4))<|an (h.ids (rgT (pcT t 2) 4 0))<|an (el2 h.hn (rgT (pcT t 2) 4 0))<|an (setT (s.th.set n (rgT (pcT t 2) 4 0)) n (pcT (rgT t 4 0) 9)) <|  an h.o1 trivial) (by kernel_rfl) hL
theorem lv_lookL (h:Rv s n t 2 m o) (hs:seesR s=4) (hk:opOnce t.ki=false) (hl:t.la=true) (hL:LoopP Tryz.prog (loopOf Tryz.prog 195 0) (hdV (((s.setTh n (rgT (pcT t 2) 5 0)).addLg (tlE s n t.ki 5 0)).setTh n (pcT (rgT t 5 0) 9)) n m (o+1) ((s.th.set n (rgT (pcT t 2) 5 0)).length)) x S):LoopP Tryz.prog (loopOf Tryz.prog 195 0) (hdV s n m o s.th.length) x S :=
 loop_more mixed (fuel:=9) (n:=12) (im:=[0,5,2,3,4]) (keep:=[2,6,8,9,10]) (ext:=[19,181,58,281,268,298]) (orc:=sPO t 2 2++[.tuple #[.int .i64 (seesS s),.int .i64 4],.nilFunc,.nilFunc,thT (pcT t 2),vD false,thT (pcT t 2),.bool true,thT (pcT t 2),.iface 1000004 (.func (.yield 18) #[.agg (stL ((s.setTh n (rgT (pcT t 2) 5 0)).addLg (tlE s n t.ki 5 0))),.int .i64 11] #[]),thT (rgT (pcT t 2) 5 0),vRow (s.th.set n (rgT (pcT t 2) 5 0)).length (((s.th.set n (rgT (pcT t 2) 5 0)).set n (pcT (rgT t 5 0) 9)).map thT)])
  (h.pa<|an (h.sees hs)<|an (h.id)<|an (h.el)<|an (ac_ponce hk)<|an (h.el)<|an (hl)<|an (h.id)<|an (h.el)<|an (h.ln)<|an (h.tell (r:=5))<|an (h.ids (rgT (pcT t 2) 5 0))<|an (el2 h.hn (rgT (pcT t 2) 5 0))<|an (setT (s.th.set n (rgT (pcT t 2) 5 0)) n (pcT (rgT t 5 0) 9)) <|  an h.o1 trivial) (by kernel_rfl) hL
theorem lv_lookP (h:Rv s n t 2 m o) (hs:seesR s=4) (hk:opOnce t.ki=false) (hl:t.la=false) (hn:waySt s (max t.tr 0)=2) (hL:LoopP Tryz.prog (loopOf Tryz.prog 195 0) (hdV (s.setTh n (pcT t 5)) n m (o+1) (s.th.length)) x S):LoopP Tryz.prog (loopOf Tryz.prog 195 0) (hdV s n m o s.th.length) x S :=
 loop_more mixed (fuel:=9) (n:=12) (im:=[0,1,2,3,4]) (keep:=[2,6,8,9,10]) (ext:=[19,181,58,281,298,299]) (orc:=sPO t 2 2++[.tuple #[.int .i64 (seesS s),.int .i64 4],.nilFunc,.nilFunc,thT (pcT t 2),vD false,thT (pcT t 2),.bool false,thT (pcT t 2),.int .i64 2,.nilFunc,thT (pcT t 2),vRow s.th.length ((s.th.set n (pcT t 5)).map thT)])
  (h.pa<|an (h.sees hs)<|an (h.id)<|an (h.el)<|an (ac_ponce hk)<|an (h.el)<|an (hl)<|an (h.el)<|an (ac_pnext' hn)<|an (h.id)<|an (h.el)<|an (setT s.th n (pcT t 5)) <|  an h.o1 trivial) (by kernel_rfl) hL
theorem lv_lookT (h:Rv s n t 2 m o) (hs:seesR s=4) (hk:opOnce t.ki=false) (hl:t.la=false) {r:Int} (hn:waySt s (max t.tr 0)=r) (hr2:(r==2)=false) (hr:In64 (t.tr+1)) (hL:LoopP Tryz.prog (loopOf Tryz.prog 195 0) (hdV (s.setTh n (tryT (pcT t 2))) n m (o+1) (s.th.length)) x S):LoopP Tryz.prog (loopOf Tryz.prog 195 0) (hdV s n m o s.th.length) x S :=
 loop_more mixed (fuel:=9) (n:=12) (im:=[0,1,2,3,4]) (keep:=[2,6,8,9,10]) (ext:=[19,181,58,281,298,299]) (orc:=sPO t 2 2++[.tuple #[.int .i64 (seesS s),.int .i64 4],.nilFunc,.nilFunc,thT (pcT t 2),vD false,thT (pcT t 2),.bool false,thT (pcT t 2),.int .i64 r,.bool false,thT (pcT t 2),thT (pcT t 2),vRow s.th.length ((s.th.set n (tryT (pcT t 2))).map thT)])
  (h.pa<|an (h.sees hs)<|an (h.id)<|an (h.el)<|an (ac_ponce hk)<|an (h.el)<|an (hl)<|an (h.el)<|an (ac_pnext' hn)<|an (hr2)<|an (h.id)<|an (h.el)<|an (hr)<|an (h.el)<|an (setT s.th n (tryT (pcT t 2))) <|  an h.o1 trivial) (by kernel_rfl) hL
theorem lv_lookE (h:Rv s n t 2 m o) {r:Int} (hs:seesR s=r) (h1:(r==1)=false) (h2:(r==4)=false) (hL:LoopP Tryz.prog (loopOf Tryz.prog 195 0) (hdV (((s.setTh n (rgT (pcT t 2) r 0)).addLg (tlE s n t.ki r 0)).setTh n (pcT (rgT t r 0) 9)) n m (o+1) ((s.th.set n (rgT (pcT t 2) r 0)).length)) x S):LoopP Tryz.prog (loopOf Tryz.prog 195 0) (hdV s n m o s.th.length) x S :=
 loop_more mixed (fuel:=9) (n:=12) (im:=[0,5,2,3,4]) (keep:=[2,6,8,9,10]) (ext:=[19,181,58,281,268]) (orc:=sPO t 2 2++[.tuple #[.int .i64 (seesS s),.int .i64 r],.bool false,.bool false,thT (pcT t 2),.iface 1000004 (.func (.yield 18) #[.agg (stL ((s.setTh n (rgT (pcT t 2) r 0)).addLg (tlE s n t.ki r 0))),.int .i64 11] #[]),thT (rgT (pcT t 2) r 0),vRow (s.th.set n (rgT (pcT t 2) r 0)).length (((s.th.set n (rgT (pcT t 2) r 0)).set n (pcT (rgT t r 0) 9)).map thT)])
  (h.pa<|an (h.sees hs)<|an (h1)<|an (h2)<|an (h.id)<|an (h.el)<|an (h.ln)<|an (h.tell (r:=r))<|an (h.ids (rgT (pcT t 2) r 0))<|an (el2 h.hn (rgT (pcT t 2) r 0))<|an (setT (s.th.set n (rgT (pcT t 2) r 0)) n (pcT (rgT t r 0) 9)) <|  an h.o1 trivial) (by kernel_rfl) hL
theorem lv_takeR (h:Rv s n t 3 m o) (hs:seesR s=1) (hH:tkH s.hd s.tl s.md s.sl.length=s.hd+1) (hP:tkP s.hd s.tl s.md s.sl.length=s.hd) {g:Int} (hv:valV ((s.toWord (s.hd+1) s.tl s.md).setTh n (regT t s.hd 3)) s.hd=g) (hA:hasB ((s.toWord (s.hd+1) s.tl s.md).setTh n (regT t s.hd 3)) n=true) (ho:((s.toWord (s.hd+1) s.tl s.md).setTh n (regT t s.hd 3)).ok) (hf:((s.toWord (s.hd+1) s.tl s.md).setTh n (regT t s.hd 3)).fit) (hL:LoopP Tryz.prog (loopOf Tryz.prog 195 0) (hdV (((((s.toWord (s.hd+1) s.tl s.md).setTh n (regT t s.hd 3)).setTh n (rgT (regT t s.hd 3) 1 g)).addLg (tlE ((s.toWord (s.hd+1) s.tl s.md).setTh n (regT t s.hd 3)) n t.ki 1 g)).setTh n (pcT (rgT (regT t s.hd 3) 1 g) 4)) n m (o+1) (((s.th.set n (regT t s.hd 3)).set n (rgT (regT t s.hd 3) 1 g)).length)) x S):LoopP Tryz.prog (loopOf Tryz.prog 195 0) (hdV s n m o s.th.length) x S :=
 loop_more mixed (fuel:=9) (n:=12) (im:=[0,6,2,3,4]) (keep:=[2,6,8,9,10]) (ext:=[19,181,58,275,269,268]) (orc:=sPO t 3 2++[.tuple #[wdT (s.hd+1) s.tl s.md,.int .i64 s.hd,.int .i64 1],.nilFunc,thT (pcT t 3),vRow (s.th.set n (regT t s.hd 3)).length ((s.th.set n (regT t s.hd 3)).map thT),.int .i64 g,thT (regT t s.hd 3),.iface 1000004 (.func (.yield 18) #[.agg (stL ((((s.toWord (s.hd+1) s.tl s.md).setTh n (regT t s.hd 3)).setTh n (rgT (regT t s.hd 3) 1 g)).addLg (tlE ((s.toWord (s.hd+1) s.tl s.md).setTh n (regT t s.hd 3)) n t.ki 1 g))),.int .i64 11] #[]),thT (rgT (regT t s.hd 3) 1 g),vRow ((s.th.set n (regT t s.hd 3)).set n (rgT (regT t s.hd 3) 1 g)).length ((((s.th.set n (regT t s.hd 3)).set n (rgT (regT t s.hd 3) 1 g)).set n (pcT (rgT (regT t s.hd 3) 1 g) 9)).map thT),thT (pcT (rgT (regT t s.hd 3) 1 g) 9),vRow ((s.th.set n (regT t s.hd 3)).set n (rgT (regT t s.hd 3) 1 g)).length ((((s.th.set n (regT t s.hd 3)).set n (rgT (regT t s.hd 3) 1 g)).set n (pcT (rgT (regT t s.hd 3) 1 g) 4)).map thT)])
  (h.pa<|an (h.take hs hH hP)<|an (h.id)<|an (h.el)<|an (setT s.th n (regT t s.hd 3))<|an (h.ln1 (regT t s.hd 3))<|an (hv ▸ ac_pvalue ((s.toWord (s.hd+1) s.tl s.md).setTh n (regT t s.hd 3)) s.hd ho h.ok.hd)<|an (h.id)<|an (el2 h.hn (regT t s.hd 3))<|an (h.ln1 (regT t s.hd 3))<|an (h.tell3 (g:=g) hA ho hf)<|an (h.ids2 (regT t s.hd 3) (rgT (regT t s.hd 3) 1 g))<|an (h.el22 (regT t s.hd 3) (rgT (regT t s.hd 3) 1 g))<|an (setT ((s.th.set n (regT t s.hd 3)).set n (rgT (regT t s.hd 3) 1 g)) n (pcT (rgT (regT t s.hd 3) 1 g) 9))<|an (h.ids2 (regT t s.hd 3) (rgT (regT t s.hd 3) 1 g))<|an (h.el23 (regT t s.hd 3) (rgT (regT t s.hd 3) 1 g) (pcT (rgT (regT t s.hd 3) 1 g) 9))<|an (set2 ((s.th.set n (regT t s.hd 3)).set n (rgT (regT t s.hd 3) 1 g)) n (pcT (rgT (regT t s.hd 3) 1 g) 9) (pcT (rgT (regT t s.hd 3) 1 g) 4)) <|  an h.o1 trivial) (by kernel_rfl) hL
theorem lv_takeF (h:Rv s n t 3 m o) (hs:seesR s=4) (hL:LoopP Tryz.prog (loopOf Tryz.prog 195 0) (hdV (s.setTh n (pcT t 2)) n m (o+1) (s.th.length)) x S):LoopP Tryz.prog (loopOf Tryz.prog 195 0) (hdV s n m o s.th.length) x S :=
 loop_more mixed (fuel:=9) (n:=12) (im:=[0,1,2,3,4]) (keep:=[2,6,8,9,10]) (ext:=[19,181,58,275]) (orc:=sPO t 3 2++[.tuple #[wdT (tkH s.hd s.tl s.md s.sl.length) s.tl s.md,.int .i64 (tkP s.hd s.tl s.md s.sl.length),.int .i64 4],.nilFunc,.nilFunc,thT (pcT t 3),vRow s.th.length ((s.th.set n (pcT t 2)).map thT)])
  (h.pa<|an (h.take hs rfl rfl)<|an (h.id)<|an (h.el)<|an (setT s.th n (pcT t 2)) <|  an h.o1 trivial) (by kernel_rfl) hL
theorem lv_takeE (h:Rv s n t 3 m o) {r:Int} (hs:seesR s=r) (h1:(r==1)=false) (h2:(r==4)=false) (hL:LoopP Tryz.prog (loopOf Tryz.prog 195 0) (hdV (((s.setTh n (rgT (pcT t 3) r 0)).addLg (tlE s n t.ki r 0)).setTh n (pcT (rgT t r 0) 9)) n m (o+1) ((s.th.set n (rgT (pcT t 3) r 0)).length)) x S):LoopP Tryz.prog (loopOf Tryz.prog 195 0) (hdV s n m o s.th.length) x S :=
 loop_more mixed (fuel:=9) (n:=12) (im:=[0,6,2,3,4]) (keep:=[2,6,8,9,10]) (ext:=[19,181,58,275,268]) (orc:=sPO t 3 2++[.tuple #[wdT (tkH s.hd s.tl s.md s.sl.length) s.tl s.md,.int .i64 (tkP s.hd s.tl s.md s.sl.length),.int .i64 r],.bool false,.bool false,thT (pcT t 3),.iface 1000004 (.func (.yield 18) #[.agg (stL ((s.setTh n (rgT (pcT t 3) r 0)).addLg (tlE s n t.ki r 0))),.int .i64 11] #[]),thT (rgT (pcT t 3) r 0),vRow (s.th.set n (rgT (pcT t 3) r 0)).length (((s.th.set n (rgT (pcT t 3) r 0)).set n (pcT (rgT t r 0) 9)).map thT)])
  (h.pa<|an (h.take hs rfl rfl)<|an (h1)<|an (h2)<|an (h.id)<|an (h.el)<|an (h.ln)<|an (h.tell (r:=r))<|an (h.ids (rgT (pcT t 3) r 0))<|an (el2 h.hn (rgT (pcT t 3) r 0))<|an (setT (s.th.set n (rgT (pcT t 3) r 0)) n (pcT (rgT t r 0) 9)) <|  an h.o1 trivial) (by kernel_rfl) hL
theorem lv_read (h:Rv s n t 4 m o) (hm:s.sl.length≤1000) (hr:In64 t.re) (hL:LoopP Tryz.prog (loopOf Tryz.prog 195 0) (hdV ((s.toSl (rlL s.sl t.re)).setTh n (gotT t (rdV s.sl t.re) 6)) n m (o+1) (s.th.length)) x S):LoopP Tryz.prog (loopOf Tryz.prog 195 0) (hdV s n m o s.th.length) x S :=
 loop_more mixed (fuel:=9) (n:=12) (im:=[0,1,2,3,4]) (keep:=[2,6,8,9,10]) (ext:=[19,181,58,276,270]) (orc:=sPO t 4 2++[thT (pcT t 4),.tuple #[.int .i64 (rdV s.sl t.re),.int .i64 (rdE s.sl t.re)],thT (pcT t 4),vRow s.th.length ((s.th.set n (gotT t (rdV s.sl t.re) 4)).map thT),thT (gotT t (rdV s.sl t.re) 4),.tuple #[rowS (rlL s.sl t.re),.int .i64 (rlE s.sl t.re)],thT (gotT t (rdV s.sl t.re) 4),vRow s.th.length ((s.th.set n (gotT t (rdV s.sl t.re) 6)).map thT)])
  (h.pa<|an (h.id)<|an (h.el)<|an (ac_pread s.sl t.re hm hr)<|an (h.el)<|an (setT s.th n (gotT t (rdV s.sl t.re) 4))<|an (el2 h.hn (gotT t (rdV s.sl t.re) 4))<|an (ac_prelease s.sl t.re hm hr)<|an (h.id)<|an (el2 h.hn (gotT t (rdV s.sl t.re) 4))<|an (set2 s.th n (gotT t (rdV s.sl t.re) 4) (gotT t (rdV s.sl t.re) 6)) <|  an h.o1 trivial) (by kernel_rfl) hL
theorem lv_prep (h:Rv s n t 5 m o) (he:prE s.ee s.el=s.ee) (hL:LoopP Tryz.prog (loopOf Tryz.prog 195 0) (hdV (s.setTh n (seenT t s.ee 7)) n m (o+1) (s.th.length)) x S):LoopP Tryz.prog (loopOf Tryz.prog 195 0) (hdV s n m o s.th.length) x S :=
 loop_more mixed (fuel:=9) (n:=12) (im:=[0,1,2,3,4]) (keep:=[2,6,8,9,10]) (ext:=[19,181,58,262]) (orc:=sPO t 5 2++[.int .i64 s.ee,thT (pcT t 5),vRow s.th.length ((s.th.set n (seenT t s.ee 5)).map thT),thT (seenT t s.ee 5),vRow s.th.length ((s.th.set n (seenT t s.ee 7)).map thT)])
  (h.pa<|an (h.id)<|an (ac_pprep' he)<|an (h.el)<|an (setT s.th n (seenT t s.ee 5))<|an (h.id)<|an (el2 h.hn (seenT t s.ee 5))<|an (set2 s.th n (seenT t s.ee 5) (seenT t s.ee 7)) <|  an h.o1 trivial) (by kernel_rfl) hL
theorem lv_notifyN (h:Rv s n t 6 m o) (hm:s.fl.length≤999999) (hb:hdB (ntT 1 s.fe s.fl)=false) (hL:LoopP Tryz.prog (loopOf Tryz.prog 195 0) (hdV ((s.toFull (ntE s.fe s.fl) (ntL 1 s.fe s.fl)).setTh n (pcT t 9)) n m (o+1) (s.th.length)) x S):LoopP Tryz.prog (loopOf Tryz.prog 195 0) (hdV s n m o s.th.length) x S :=
 loop_more mixed (fuel:=9) (n:=12) (im:=[0,1,2,3,4]) (keep:=[2,6,8,9,10]) (ext:=[19,181,58,263]) (orc:=sPO t 6 2++[.tuple #[evT (ntE s.fe s.fl) (ntL 1 s.fe s.fl),.int .i64 (hdI (ntT 1 s.fe s.fl)),vD false],thT (pcT t 6),vRow s.th.length ((s.th.set n (pcT t 9)).map thT)])
  (h.pa<|an (ac_pnotify hb hm)<|an (h.id)<|an (h.el)<|an (setT s.th n (pcT t 9)) <|  an h.o1 trivial) (by kernel_rfl) hL
theorem lv_notifyW (h:Rv s n t 6 m o) (hm:s.fl.length≤999999) (hb:hdB (ntT 1 s.fe s.fl)=true) {q:Nat} (hq:hdI (ntT 1 s.fe s.fl)=q) (hA:hasB (s.toFull (ntE s.fe s.fl) (ntL 1 s.fe s.fl)) q=true) (ho:(s.toFull (ntE s.fe s.fl) (ntL 1 s.fe s.fl)).ok) (hf:(s.toFull (ntE s.fe s.fl) (ntL 1 s.fe s.fl)).fit) (hg:gth (s.th.set q (wakeT (gth s.th q))) n=pcT t 6) (hL:LoopP Tryz.prog (loopOf Tryz.prog 195 0) (hdV (((s.toFull (ntE s.fe s.fl) (ntL 1 s.fe s.fl)).onTh q wakeT).setTh n (pcT t 9)) n m (o+1) ((s.th.set q (wakeT (gth s.th q))).length)) x S):LoopP Tryz.prog (loopOf Tryz.prog 195 0) (hdV s n m o s.th.length) x S :=
 loop_more mixed (fuel:=9) (n:=12) (im:=[0,6,2,3,4]) (keep:=[2,6,8,9,10]) (ext:=[19,181,58,263,42]) (orc:=sPO t 6 2++[.tuple #[evT (ntE s.fe s.fl) (ntL 1 s.fe s.fl),.int .i64 q,vD true],.iface 1000004 (.func (.yield 18) #[.agg (stL ((s.toFull (ntE s.fe s.fl) (ntL 1 s.fe s.fl)).onTh q wakeT)),.int .i64 11] #[]),thT (pcT t 6),vRow (s.th.set q (wakeT (gth s.th q))).length (((s.th.set q (wakeT (gth s.th q))).set n (pcT t 9)).map thT)])
  (h.pa<|an (hq ▸ ac_pnotify hb hm)<|an (h.ln)<|an (ao_wake hA ho hf)<|an (h.idw q (wakeT (gth s.th q)))<|an (hg ▸ elT (l:=(s.th.set q (wakeT (gth s.th q)))) (by rw [List.length_set];exact h.hn))<|an (setT (s.th.set q (wakeT (gth s.th q))) n (pcT t 9)) <|  an h.o1 trivial) (by kernel_rfl) hL
theorem lv_againY (h:Rv s n t 7 m o) (hs:seesR s=4) (hl:(!t.la)=true) (hL:LoopP Tryz.prog (loopOf Tryz.prog 195 0) (hdV (s.setTh n (pcT t 8)) n m (o+1) (s.th.length)) x S):LoopP Tryz.prog (loopOf Tryz.prog 195 0) (hdV s n m o s.th.length) x S :=
 loop_more mixed (fuel:=9) (n:=12) (im:=[0,1,2,3,4]) (keep:=[2,6,8,9,10]) (ext:=[19,181,58,281]) (orc:=sPO t 7 2++[.tuple #[.int .i64 (seesS s),.int .i64 4],.nilFunc,thT (pcT t 7),.bool true,thT (pcT t 7),vRow s.th.length ((s.th.set n (pcT t 8)).map thT)])
  (h.pa<|an (h.sees hs)<|an (h.id)<|an (h.el)<|an (hl)<|an (h.id)<|an (h.el)<|an (setT s.th n (pcT t 8)) <|  an h.o1 trivial) (by kernel_rfl) hL
theorem lv_againL (h:Rv s n t 7 m o) (hs:seesR s=4) (hl:(!t.la)=false) (hL:LoopP Tryz.prog (loopOf Tryz.prog 195 0) (hdV (s.setTh n (pcT t 2)) n m (o+1) (s.th.length)) x S):LoopP Tryz.prog (loopOf Tryz.prog 195 0) (hdV s n m o s.th.length) x S :=
 loop_more mixed (fuel:=9) (n:=12) (im:=[0,1,2,3,4]) (keep:=[2,6,8,9,10]) (ext:=[19,181,58,281]) (orc:=sPO t 7 2++[.tuple #[.int .i64 (seesS s),.int .i64 4],.nilFunc,thT (pcT t 7),.bool false,thT (pcT t 7),vRow s.th.length ((s.th.set n (pcT t 2)).map thT)])
  (h.pa<|an (h.sees hs)<|an (h.id)<|an (h.el)<|an (hl)<|an (h.id)<|an (h.el)<|an (setT s.th n (pcT t 2)) <|  an h.o1 trivial) (by kernel_rfl) hL
theorem lv_againN (h:Rv s n t 7 m o) {r:Int} (hs:seesR s=r) (h2:(r==4)=false) (hL:LoopP Tryz.prog (loopOf Tryz.prog 195 0) (hdV (s.setTh n (pcT t 2)) n m (o+1) (s.th.length)) x S):LoopP Tryz.prog (loopOf Tryz.prog 195 0) (hdV s n m o s.th.length) x S :=
 loop_more mixed (fuel:=9) (n:=12) (im:=[0,1,2,3,4]) (keep:=[2,6,8,9,10]) (ext:=[19,181,58,281]) (orc:=sPO t 7 2++[.tuple #[.int .i64 (seesS s),.int .i64 r],.bool false,thT (pcT t 7),vRow s.th.length ((s.th.set n (pcT t 2)).map thT)])
  (h.pa<|an (h.sees hs)<|an (h2)<|an (h.id)<|an (h.el)<|an (setT s.th n (pcT t 2)) <|  an h.o1 trivial) (by kernel_rfl) hL
theorem lv_commitL (h:Rv s n t 8 m o) (hl:t.la=true) (hL:LoopP Tryz.prog (loopOf Tryz.prog 195 0) (hdV (s.setTh n (pcT t 2)) n m (o+1) (s.th.length)) x S):LoopP Tryz.prog (loopOf Tryz.prog 195 0) (hdV s n m o s.th.length) x S :=
 loop_more mixed (fuel:=9) (n:=12) (im:=[0,1,2,3,4]) (keep:=[2,6,8,9,10]) (ext:=[19,181,58]) (orc:=sPO t 8 2++[thT (pcT t 8),vRow s.th.length ((s.th.set n (pcT t 2)).map thT),thT (pcT t 2),.bool true])
  (h.pa<|an (h.id)<|an (h.el)<|an (setT s.th n (pcT t 2))<|an (h.id)<|an (el2 h.hn (pcT t 2))<|an (hl) <|  an h.o1 trivial) (by kernel_rfl) hL
theorem lv_commitW (h:Rv s n t 8 m o) (hl:t.la=false) (hm:s.el.length≤999999) (hb:cmB s.ee s.el t.se n=true) (hL:LoopP Tryz.prog (loopOf Tryz.prog 195 0) (hdV ((s.toEmpty s.ee (cmL s.ee s.el t.se n)).setTh n (parkT t 2)) n m (o+1) (s.th.length)) x S):LoopP Tryz.prog (loopOf Tryz.prog 195 0) (hdV s n m o s.th.length) x S :=
 loop_more mixed (fuel:=9) (n:=12) (im:=[0,1,2,3,4]) (keep:=[2,6,8,9,10]) (ext:=[19,181,58,264,265]) (orc:=sPO t 8 2++[thT (pcT t 8),vRow s.th.length ((s.th.set n (pcT t 2)).map thT),thT (pcT t 2),.bool false,thT (pcT t 2),.tuple #[evT s.ee (cmL s.ee s.el t.se n),vD true,.int .i64 (cmC s.ee s.el n)],thT (pcT t 2),.tuple #[thT (parkT t 2),.int .i64 0],thT (pcT t 2),vRow s.th.length ((s.th.set n (parkT t 2)).map thT)])
  (h.pa<|an (h.id)<|an (h.el)<|an (setT s.th n (pcT t 2))<|an (h.id)<|an (el2 h.hn (pcT t 2))<|an (hl)<|an (h.id)<|an (el2 h.hn (pcT t 2))<|an (ac_pcommit hb hm)<|an (h.id)<|an (h.id)<|an (el2 h.hn (pcT t 2))<|an (ac_ppark (park_of (c:=2) h.rs))<|an (el2 h.hn (pcT t 2))<|an (set2 s.th n (pcT t 2) (parkT t 2)) <|  an h.o1 trivial) (by kernel_rfl) hL
theorem lv_commitN (h:Rv s n t 8 m o) (hl:t.la=false) (hm:s.el.length≤999999) (hb:cmB s.ee s.el t.se n=false) (hL:LoopP Tryz.prog (loopOf Tryz.prog 195 0) (hdV (s.setTh n (pcT t 2)) n m (o+1) (s.th.length)) x S):LoopP Tryz.prog (loopOf Tryz.prog 195 0) (hdV s n m o s.th.length) x S :=
 loop_more mixed (fuel:=9) (n:=12) (im:=[0,1,2,3,4]) (keep:=[2,6,8,9,10]) (ext:=[19,181,58,264]) (orc:=sPO t 8 2++[thT (pcT t 8),vRow s.th.length ((s.th.set n (pcT t 2)).map thT),thT (pcT t 2),.bool false,thT (pcT t 2),.tuple #[evT s.ee (cmL s.ee s.el t.se n),vD false,.int .i64 (cmC s.ee s.el n)]])
  (h.pa<|an (h.id)<|an (h.el)<|an (setT s.th n (pcT t 2))<|an (h.id)<|an (el2 h.hn (pcT t 2))<|an (hl)<|an (h.id)<|an (el2 h.hn (pcT t 2))<|an (ac_pcommit hb hm) <|  an h.o1 trivial) (by kernel_rfl) hL
theorem lv_leave9 (h:Rv s n t 9 m o) (hm:s.rc.length≤999999) (hL:LoopP Tryz.prog (loopOf Tryz.prog 195 0) (hdV ((s.toRc (lvL s.rc n)).setTh n (doneT t)) n m (o+1) (s.th.length)) x S):LoopP Tryz.prog (loopOf Tryz.prog 195 0) (hdV s n m o s.th.length) x S :=
 loop_more mixed (fuel:=9) (n:=12) (im:=[0,1,2,3,4]) (keep:=[2,6,8,9,10]) (ext:=[19,181,58,202,266]) (orc:=sPO t 9 2++[.tuple #[rowI (lvL s.rc n),.int .i64 (lvE s.rc n)],thT (pcT t 9),.tuple #[thT (doneT t),.int .i64 0],thT (pcT t 9),vRow s.th.length ((s.th.set n (doneT t)).map thT)])
  (h.pa<|an (ac_pleave s.rc n hm)<|an (h.id)<|an (h.id)<|an (h.el)<|an (ac_pdone (done_of (c:=9) h.rs))<|an (h.el)<|an (setT s.th n (doneT t)) <|  an h.o1 trivial) (by kernel_rfl) hL
theorem lv_leave10 (h:Rv s n t 10 m o) (hm:s.rc.length≤999999) (hL:LoopP Tryz.prog (loopOf Tryz.prog 195 0) (hdV ((s.toRc (lvL s.rc n)).setTh n (doneT t)) n m (o+1) (s.th.length)) x S):LoopP Tryz.prog (loopOf Tryz.prog 195 0) (hdV s n m o s.th.length) x S :=
 loop_more mixed (fuel:=9) (n:=12) (im:=[0,1,2,3,4]) (keep:=[2,6,8,9,10]) (ext:=[19,181,58,202,266]) (orc:=sPO t 10 2++[.tuple #[rowI (lvL s.rc n),.int .i64 (lvE s.rc n)],thT (pcT t 10),.tuple #[thT (doneT t),.int .i64 0],thT (pcT t 10),vRow s.th.length ((s.th.set n (doneT t)).map thT)])
  (h.pa<|an (ac_pleave s.rc n hm)<|an (h.id)<|an (h.id)<|an (h.el)<|an (ac_pdone (done_of (c:=10) h.rs))<|an (h.el)<|an (setT s.th n (doneT t)) <|  an h.o1 trivial) (by kernel_rfl) hL
theorem lv_leave11 (h:Rv s n t 11 m o) (hm:s.rc.length≤999999) (hL:LoopP Tryz.prog (loopOf Tryz.prog 195 0) (hdV ((s.toRc (lvL s.rc n)).setTh n (doneT t)) n m (o+1) (s.th.length)) x S):LoopP Tryz.prog (loopOf Tryz.prog 195 0) (hdV s n m o s.th.length) x S :=
 loop_more mixed (fuel:=9) (n:=12) (im:=[0,1,2,3,4]) (keep:=[2,6,8,9,10]) (ext:=[19,181,58,202,266]) (orc:=sPO t 11 2++[.tuple #[rowI (lvL s.rc n),.int .i64 (lvE s.rc n)],thT (pcT t 11),.tuple #[thT (doneT t),.int .i64 0],thT (pcT t 11),vRow s.th.length ((s.th.set n (doneT t)).map thT)])
  (h.pa<|an (ac_pleave s.rc n hm)<|an (h.id)<|an (h.id)<|an (h.el)<|an (ac_pdone (done_of (c:=11) h.rs))<|an (h.el)<|an (setT s.th n (doneT t)) <|  an h.o1 trivial) (by kernel_rfl) hL
end
end
section
open Go.RowKit
structure Sv (s:St) (n:Nat) (m o:Int):Prop where
 lt:decide (o<min m 1000)=true
 ck:stB s=true
 ok:s.ok
 hn:n<s.th.length
 st:(gth s.th n).st=1
 sd:opSide (gth s.th n).ki=2
 lg:s.lg.length≤999999
 o1:In64 (o+1)
section
variable {s:St} {n:Nat} {m o:Int} {x:Exit} {S:Sg}
theorem Sv.rv (h:Sv s n m o) {c:Int} (hc:(gth s.th n).pc=c):Rv s n (gth s.th n) c m o :=
 ⟨h.lt,h.ck,h.ok,h.hn,by rw [← hc];rfl,by rw [h.st];rfl,h.sd,fit_of h.ck (by have:=h.lg;omega),h.o1⟩
def NxV (s:St) (n:Nat) (m o:Int) (x:Exit) (S:Sg):Prop:=∀ N,N=s.th.length→LoopP Tryz.prog (loopOf Tryz.prog 195 0) (hdV s n m o N) x S
theorem NxV.to {s s' : St} (h:NxV s n m o x S) (e:s=s') {N:Nat} (hN:N=s'.th.length):LoopP Tryz.prog (loopOf Tryz.prog 195 0) (hdV s' n m o N) x S:=by subst e;exact h N hN
theorem Sv.ki (h:Sv s n m o):(gth s.th n).ki≠9:=fun e=>by have:=h.sd;rw [e] at this;exact absurd this (by decide)
theorem Sv.tb (h:Sv s n m o):thB (gth s.th n)=true:=gth_ok h.ck h.hn
theorem Sv.tr (h:Sv s n m o):In64 ((gth s.th n).tr+1)∧In64 (gth s.th n).re∧max (gth s.th n).tr 0=(gth s.th n).tr:=by
 have:=h.tb
 generalize gth s.th n=t at this
 obtain ⟨st,ki,va,un,pc,re,se,tr,la,rs,go⟩:=t
 rw [thB_iff] at this
 simp only [In64]
 omega
theorem Sv.few (h:Sv s n m o):s.rc.length≤999999∧s.fl.length≤999999∧s.el.length≤999999∧s.sl.length≤1000:=by
 obtain ⟨a,b,c,d,-,-⟩:=full_lines h.ck
 have h2:=ok_len (stn_iff.1 b).1
 have h4:=ok_len (stn_iff.1 c).1
 have h5:=ok_len (stn_iff.1 d).1
 have h6:=(ok_iff.1 (word_ok h.ck).2.1).1
 omega
theorem first_lv (h:Sv s n m o) (hc:(gth s.th n).pc=1) (hL:NxV (firstR s n) n m (o+1) x S):LoopP Tryz.prog (loopOf Tryz.prog 195 0) (hdV s n m o s.th.length) x S:=by
 have hR:=h.rv hc
 unfold firstR at hL
 split at hL
 ·next hp=>exact lv_first hR (by simp [hp]) (hL.to rfl len1)
 ·next hp =>
  split at hL
  ·next hl=>exact lv_firstL hR (bne_of hp) hl (hL.to (told_is h.ck h.hn h.ki) len_set)
  ·next hl=>exact lv_firstT hR (bne_of hp) (by simpa using hl) h.tr.1 (hL.to (by unfold St.onTh;rw [try_on h.tb hc]) len1)
theorem look_lv (h:Sv s n m o) (hc:(gth s.th n).pc=2) (hL:NxV (lookR s n) n m (o+1) x S):LoopP Tryz.prog (loopOf Tryz.prog 195 0) (hdV s n m o s.th.length) x S:=by
 have hR:=h.rv hc
 unfold lookR at hL
 split at hL
 ·next hs=>exact lv_lookR hR hs (hL.to rfl len1)
 ·next h1 =>
  split at hL
  ·next h2=>exact lv_lookE hR rfl (bne_of h1) (bne_of h2) (hL.to (told_is h.ck h.hn h.ki) len_set)
  ·next h2 =>
   have hs:seesR s=4:=Classical.not_not.1 h2
   split at hL
   ·next hk=>exact lv_lookB hR hs (by rw [hk];rfl) (hL.to (told_is h.ck h.hn h.ki) len_set)
   ·next hk =>
    have ho:opOnce (gth s.th n).ki=false:=by
     have:=h.sd
     generalize (gth s.th n).ki=k at this hk
     have h3:k=4∨k=6:=by rcases side_is k with h | h | h | h <;> omega
     rcases h3 with rfl | rfl <;> rfl
    split at hL
    ·next hl=>exact lv_lookL hR hs ho hl (hL.to (told_is h.ck h.hn h.ki) len_set)
    ·next hl =>
     have hl' : (gth s.th n).la=false:=by simpa using hl
     split at hL
     ·next hw=>exact lv_lookP hR hs ho hl' (by rw [h.tr.2.2];exact hw) (hL.to rfl len1)
     ·next hw=>exact lv_lookT hR hs ho hl' (by rw [h.tr.2.2]) (bne_of hw) h.tr.1 (hL.to (by unfold St.onTh;rw [try_on h.tb hc]) len1)
theorem again_lv (h:Sv s n m o) (hc:(gth s.th n).pc=7) (hL:NxV (recvN s n) n m (o+1) x S):LoopP Tryz.prog (loopOf Tryz.prog 195 0) (hdV s n m o s.th.length) x S:=by
 have hR:=h.rv hc
 rw [recvN_7 hc] at hL
 by_cases hs:seesR s=4
 ·cases hl:(gth s.th n).la
  ·rw [if_pos ⟨hs,hl⟩] at hL
   exact lv_againY hR hs (by rw [hl];rfl) (hL.to rfl len1)
  ·rw [if_neg (by rw [hl];simp)] at hL
   exact lv_againL hR hs (by rw [hl];rfl) (hL.to rfl len1)
 ·rw [if_neg (fun e=>hs e.1)] at hL
  exact lv_againN hR rfl (bne_of hs) (hL.to rfl len1)
theorem commit_lv (h:Sv s n m o) (hc:(gth s.th n).pc=8) (hL:NxV (commitR s n) n m (o+1) x S):LoopP Tryz.prog (loopOf Tryz.prog 195 0) (hdV s n m o s.th.length) x S:=by
 have hR:=h.rv hc
 unfold commitR at hL
 split at hL
 ·next hl=>exact lv_commitL hR hl (hL.to rfl len1)
 ·next hl =>
  have hl' : (gth s.th n).la=false:=by simpa using hl
  split at hL
  ·next hb=>exact lv_commitW hR hl' h.few.2.2.1 hb (hL.to (by unfold cmL;rw [if_pos hb];rfl) len1)
  ·next hb=>exact lv_commitN hR hl' h.few.2.2.1 (by simpa using hb) (hL.to rfl len1)
theorem take_lv (h:Sv s n m o) (hc:(gth s.th n).pc=3) (hL:NxV (takeR s n) n m (o+1) x S):LoopP Tryz.prog (loopOf Tryz.prog 195 0) (hdV s n m o s.th.length) x S:=by
 have hR:=h.rv hc
 unfold takeR at hL
 split at hL
 ·next hs=>exact lv_takeF hR hs (hL.to rfl len1)
 ·next h4 =>
  split at hL
  ·next h1=>exact lv_takeE hR rfl (bne_of h1) (bne_of h4) (hL.to (told_is h.ck h.hn h.ki) len_set)
  ·next h1 =>
   have hs:seesR s=1:=Classical.not_not.1 h1
   have hl:=check_len (word_ok h.ck).1
   have hy:=tk_y hs
   have h1' : (gth s.th n).st≠0:=by have:=h.st;omega
   have hW:=takeW_ok h.ck hs
   have hB:stB ((s.toWord (s.hd+1) s.tl s.md).setTh n (regT (gth s.th n) s.hd 3))=true:=onTh_stB (f:=fun t=>regT t s.hd 3) hW (regT_ok h.tb h1' (by omega) (by decide))
   have hB4:=takeB_ok h.ck h.hn h1' hs
   have hv0:=Vk.of h.ok
   have hv:Vk ((s.toWord (s.hd+1) s.tl s.md).setTh n (regT (gth s.th n) s.hd 3)):=Vk.on (s:=s.toWord (s.hd+1) s.tl s.md) (f:=fun t=>regT t s.hd 3) ⟨hv0.cf,hv0.sl,hv0.th⟩ h.hn fun _=>⟨rfl,rfl⟩
   have hlg:((s.toWord (s.hd+1) s.tl s.md).setTh n (regT (gth s.th n) s.hd 3)).lg.length≤1000000:=by have:=h.lg;show s.lg.length≤1000000;omega
   have e1:valV ((s.toWord (s.hd+1) s.tl s.md).setTh n (regT (gth s.th n) s.hd 3)) s.hd=valV s s.hd:=by unfold valV;rw [hB,h.ck];rfl
   refine lv_takeR (g:=valV s s.hd) hR hs hy.1 hy.2 e1 (has_of hB (by show n<(s.th.set n _).length;rw [List.length_set];exact h.hn)) (ok_of hB hv (by omega)) (fit_of hB hlg) (hL.to ?_ (by show ((s.th.set n _).set n _).length=(((s.th.set n _).set n _).set n _).length;simp))
   have hn4:n<((s.toWord (s.hd+1) s.tl s.md).onTh n (regT · s.hd 4)).th.length:=by show n<(s.th.set n _).length;rw [List.length_set];exact h.hn
   have g4:=gth_on (s:=s.toWord (s.hd+1) s.tl s.md) (n:=n) h.hn (regT · s.hd 4)
   unfold toldS
   rw [tell_th hB4 hn4,g4]
   unfold St.onTh
   show St.mk _ _ _ _ _ _ _ _ _ _ _ _ (((s.th.set n _).set n _).set n (pcT (gth ((s.th.set n _).set n _) n) 4)) _=St.mk _ _ _ _ _ _ _ _ _ _ _ _ (((s.th.set n _).set n _).set n _) _
   have hk:(regT (gth s.th n) s.hd 4).ki≠9:=h.ki
   have e2:tellT (regT (gth s.th n) s.hd 4) (gth s.th n).ki 1 (valV s s.hd)=rgT (regT (gth s.th n) s.hd 4) 1 (valV s s.hd):=by unfold tellT;rw [if_neg h.ki];rfl
   have e3:gth ((s.th.set n (regT (gth s.th n) s.hd 4)).set n (rgT (regT (gth s.th n) s.hd 4) 1 (valV s s.hd))) n=rgT (regT (gth s.th n) s.hd 4) 1 (valV s s.hd):=by rw [gth_set (by rw [List.length_set];exact h.hn),if_pos rfl]
   have e5:gth (s.th.set n (regT (gth s.th n) s.hd 3)) n=regT (gth s.th n) s.hd 3:=by rw [gth_set h.hn,if_pos rfl]
   have e6:gth ((s.toWord (s.hd+1) s.tl s.md).setTh n (regT (gth s.th n) s.hd 3)).th n=regT (gth s.th n) s.hd 3:=e5
   have e7:gth (s.toWord (s.hd+1) s.tl s.md).th n=gth s.th n:=rfl
   rw [e7,e2,e3,List.set_set,List.set_set,List.set_set,List.set_set]
   unfold tlE
   rw [e6]
   rfl
theorem fullR_ok (h:Sv s n m o):stB (s.toFull (ntE s.fe s.fl) (ntL 1 s.fe s.fl))=true∧(s.toFull (ntE s.fe s.fl) (ntL 1 s.fe s.fl)).ok:=by
 obtain ⟨-,-,d,-,e,-⟩:=full_lines h.ck
 have h1:okE (ntE s.fe s.fl) (ntL 1 s.fe s.fl)=true:=by simp only [ntE,ntL,e,if_true];exact okE_nx e (ok_drop (okE_ln e) 1)
 have h2:stnB s.cf.th (ntL 1 s.fe s.fl)=true:=by simp only [ntL,e,if_true];exact stn_sub d (ok_drop (okE_ln e) 1) (fun x hx=>List.mem_of_mem_drop hx)
 have h3:=(okE_iff.1 h1).1
 have hb:=h.ok.fl
 refine ⟨full_stB h.ck h1 h2,⟨h.ok.cf,h.ok.hd,h.ok.tl,h.ok.md,(show In64 (ntE s.fe s.fl) by constructor <;> omega),h.ok.ee,h.ok.nw,h.ok.sl,h.ok.sn,h.ok.rc,?_,h.ok.el,h.ok.th,h.ok.lg⟩⟩
 show (∀ x∈ntL 1 s.fe s.fl,In64 x)∧(ntL 1 s.fe s.fl).length≤maxLen
 simp only [ntL,e,if_true]
 exact ⟨fun x hx=>hb.1 x (List.mem_of_mem_drop hx),by rw [List.length_drop];omega⟩
theorem notify_lv (h:Sv s n m o) (hc:(gth s.th n).pc=6) (hL:NxV (notifyR s n) n m (o+1) x S):LoopP Tryz.prog (loopOf Tryz.prog 195 0) (hdV s n m o s.th.length) x S:=by
 have hR:=h.rv hc
 obtain ⟨h1,h2⟩:=fullR_ok h
 unfold notifyR at hL
 split at hL
 ·next hb =>
  obtain ⟨-,-,d,-,e,-⟩:=full_lines h.ck
  have hth:=th_len h.ck
  have hq:∃ q:Nat,hdI (ntT 1 s.fe s.fl)=q∧q<s.th.length:=by
   have hb' := hb
   simp only [ntT,e,if_true] at hb' ⊢
   cases hl:s.fl with
   | nil=>rw [hl] at hb';cases hb'
   | cons y r =>
    have hy:y∈s.fl:=by rw [hl];exact List.mem_cons_self
    have h3:=(stn_iff.1 d).2 y hy
    have h4:=(okl_iff.1 (stn_iff.1 d).1).1 y hy
    exact ⟨y.toNat,by show y=_;omega,by omega⟩
  obtain ⟨q,hq,hql⟩:=hq
  have h9:stB ((s.toFull (ntE s.fe s.fl) (ntL 1 s.fe s.fl)).onTh n (pcT · 9))=true:=onTh_stB h1 (pcT_ok h.tb (by have:=h.st;omega) (by decide))
  have e6:gth s.th n=pcT (gth s.th n) 6:=by conv=>lhs;rw [show gth s.th n=pcT (gth s.th n) (gth s.th n).pc from rfl,hc]
  have hA:hasB ((s.toFull (ntE s.fe s.fl) (ntL 1 s.fe s.fl)).onTh n (pcT · 9)) q=true:=has_of h9 (by show q<(s.th.set n _).length;rw [List.length_set];exact hql)
  have hg:gth (s.th.set q (wakeT (gth s.th q))) n=pcT (gth s.th n) 6:=by
   rw [gth_set hql]
   split
   ·next e=>subst e;rw [wake_one h.st];exact e6
   ·exact e6
  refine lv_notifyW hR h.few.2.1 hb hq (has_of h1 hql) h2 (fit_of h1 (by have:=h.lg;show s.lg.length≤1000000;omega)) hg (hL.to ?_ len1)
  rw [hq]
  unfold wakeS
  rw [if_pos hA]
  unfold St.onTh
  show St.mk _ _ _ _ _ _ _ _ _ _ _ _ ((s.th.set n (pcT (gth s.th n) 9)).set (q:Int).toNat (wakeT (gth (s.th.set n (pcT (gth s.th n) 9)) (q:Int).toNat))) _=St.mk _ _ _ _ _ _ _ _ _ _ _ _ ((s.th.set q (wakeT (gth s.th q))).set n (pcT (gth s.th n) 9)) _
  congr 1
  rw [Int.toNat_natCast,gth_set h.hn]
  by_cases hqn:n=q
  ·subst hqn
   rw [if_pos rfl,List.set_set,List.set_set,wake_one (show (pcT (gth s.th n) 9).st=1 from h.st)]
  ·rw [if_neg hqn,List.set_comm _ _ hqn]
 ·next hb=>exact lv_notifyN hR h.few.2.1 (by simpa using hb) (hL.to rfl len1)
theorem step_lv (h:Sv s n m o) (hL:NxV (recvN s n) n m (o+1) x S):LoopP Tryz.prog (loopOf Tryz.prog 195 0) (hdV s n m o s.th.length) x S:=by
 obtain p | p | p | p | p | p | p | p | p | p | p | p:=pc_or h.tb
 ·rw [recvN_0 p] at hL;exact lv_enter (h.rv p) h.few.1 (hL.to rfl len1)
 ·rw [recvN_1 p] at hL;exact first_lv h p hL
 ·rw [recvN_2 p] at hL;exact look_lv h p hL
 ·rw [recvN_3 p] at hL;exact take_lv h p hL
 ·rw [recvN_4 p] at hL;exact lv_read (h.rv p) h.few.2.2.2 h.tr.2.1 (hL.to rfl len1)
 ·rw [recvN_5 p] at hL
  obtain ⟨-,-,-,-,-,e⟩:=full_lines h.ck
  exact lv_prep (h.rv p) (by unfold prE;rw [if_pos e]) (hL.to rfl len1)
 ·rw [recvN_6 p] at hL;exact notify_lv h p hL
 ·exact again_lv h p hL
 ·rw [recvN_8 p] at hL;exact commit_lv h p hL
 ·rw [recvN_9 (.inl p)] at hL;exact lv_leave9 (h.rv p) h.few.1 (hL.to rfl len1)
 ·rw [recvN_9 (.inr (.inl p))] at hL;exact lv_leave10 (h.rv p) h.few.1 (hL.to rfl len1)
 ·rw [recvN_9 (.inr (.inr p))] at hL;exact lv_leave11 (h.rv p) h.few.1 (hL.to rfl len1)
end
end
end Go.Proofs.YtbckpadeamlidaaGreat
