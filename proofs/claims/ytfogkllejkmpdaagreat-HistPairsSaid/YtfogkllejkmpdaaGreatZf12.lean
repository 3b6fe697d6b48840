/- Texts merged: DueFT, TickFT, TickPT, CallFT, TickDT, TkDT, TkET, TkGT, CaRT, CaCT, CaST, PiAT, PiBT, PiCT. -/
import Derived.Test.YtfogkllejkmpdaaGreatZf4
import Derived.Test.YtfogkllejkmpdaaGreatZf10
import Derived.Test.YtfogkllejkmpdaaGreatZf11
import Derived.Test.YtfogkllejkmpdaaGreatZf9
import Derived.Test.YtfogkllejkmpdaaGreatZf6
namespace Go.Proofs.YtfogkllejkmpdaaGreat
set_option linter.unusedVariables false
set_option linter.unusedSimpArgs false
set_option maxRecDepth 100000
section
structure Du where
 tm:Int
 id:Int
def Du.cells (d:Du):List Value:=[.int .i64 d.tm,.int .i64 d.id]
theorem Du.enc:Enc 2 Du.cells:=⟨fun _=>rfl,fun x c hc=>by simp [Du.cells] at hc;rcases hc with rfl | rfl <;> rfl⟩
def R3 (a b:Du):Bool:=decide (a.tm<b.tm)||(a.tm==b.tm&&decide (a.id<b.id))
def mO (d:Du):Bool:=decide (0≤d.tm)&&decide (d.tm≤1099511627776)
def lQ (d:Du):Bool:=decide (0≤d.id)&&decide (d.id<16)
theorem Lx {d:Du}:mO d=true↔0≤d.tm∧d.tm≤1099511627776:=by simp [mO]
theorem gB {a b:Du}:R3 a b=true↔a.tm<b.tm∨(a.tm=b.tm∧a.id<b.id):=by simp [R3]
theorem gT {a b:Du}:R3 a b=false↔¬ (a.tm<b.tm∨(a.tm=b.tm∧a.id<b.id)):=by
 rw [← gB];simp
theorem uT {a b c:Du} (h:R3 a b=true) (k:R3 b c=true):R3 a c=true:=by rw [gB] at *;omega
theorem iK {a b:Du} (h:R3 a b=true):R3 b a=false:=by rw [gB] at h;rw [gT];omega
theorem kU {a b c:Du} (h:R3 a b=false) (k:R3 b c=false):R3 a c=false:=by rw [gT] at *;omega
theorem kz (a:Du):R3 a a=false:=by rw [gT];omega
theorem LG {a b c:Du} (h:R3 a c=false) (k:R3 b c=true):R3 a b=false:=by rw [gT] at *;rw [gB] at k;omega
theorem Fw {a b:Du} (h:a.id≠b.id) (k:R3 a b=false):R3 b a=true:=by rw [gT] at k;rw [gB];omega
abbrev Sorted (l:List Du):Prop:=l.Pairwise (fun a b=>R3 a b=true)
abbrev Apart (l:List Du):Prop:=l.Pairwise (fun a b=>a.id≠b.id)
def okB (l:List Du):Bool:=l.all (fun d=>mO d&&lQ d)&&decide (Sorted l)&&decide (Apart l)
theorem nS {l:List Du}:okB l=true↔(∀ d∈l,mO d=true∧lQ d=true)∧Sorted l∧Apart l:=by
 simp [okB,and_assoc]
theorem oC:∀ {l m:List Du},l.Perm m→Sorted l→Sorted m→l=m
 | [],m,h,_,_=>(List.nil_perm.1 h).symm
 | a::l,m,h,hl,hm=>by
  cases m with
  | nil=>exact absurd h (by simp)
  | cons b m =>
   rw [Sorted,List.pairwise_cons] at hl hm
   have hab:a=b:=by
    rcases List.mem_cons.1 (h.mem_iff.1 (List.mem_cons_self ..)) with e | ha
    ·exact e
    rcases List.mem_cons.1 (h.mem_iff.2 (List.mem_cons_self ..)) with e | hb
    ·exact e.symm
    have:=iK (hl.1 b hb)
    rw [hm.1 a ha] at this
    cases this
   subst hab
   rw [oC (List.perm_cons _ |>.1 h) hl.2 hm.2]
def ins (d:Du):List Du→List Du
 | []=>[d]
 | e::l=>if R3 d e=true then d::e::l else e::ins d l
def srt (l:List Du):List Du:=l.foldr ins []
theorem yF (d:Du):∀ l:List Du,(ins d l).Perm (d::l)
 | []=>List.Perm.refl _
 | e::l=>by
  unfold ins
  split
  ·exact List.Perm.refl _
  ·exact ((yF d l).cons e).trans (List.Perm.swap d e l)
theorem yI {d:Du}:∀ {l:List Du},Sorted l→(∀ e∈l,e.id≠d.id)→Sorted (ins d l)
 | [],_,_=>by simp [ins,Sorted]
 | e::l,h,hd=>by
  unfold ins
  rw [Sorted,List.pairwise_cons] at h
  split
  ·rename_i hde
   refine List.pairwise_cons.2 ⟨fun x hx=>?_,List.pairwise_cons.2 h⟩
   rcases List.mem_cons.1 hx with rfl | hx
   ·exact hde
   ·exact uT hde (h.1 x hx)
  ·rename_i hde
   refine List.pairwise_cons.2 ⟨fun x hx=>?_,yI h.2 (fun y hy=>hd y (List.mem_cons_of_mem _ hy))⟩
   rcases List.mem_cons.1 ((yF d l).mem_iff.1 hx) with rfl | hx
   ·exact Fw (Ne.symm (hd e (List.mem_cons_self ..))) (by simpa using hde)
   ·exact h.1 x hx
theorem eO:∀ l:List Du,(srt l).Perm l
 | []=>List.Perm.refl _
 | d::l=>(yF d _).trans ((eO l).cons d)
theorem lc:∀ {l:List Du},Apart l→Sorted (srt l)
 | [],_=>by simp [srt]
 | d::l,h=>by
  rw [Apart,List.pairwise_cons] at h
  exact yI (lc h.2) (fun e he=>Ne.symm (h.1 e ((eO l).mem_iff.1 he)))
theorem a0h {l m:List Du} (h:m.Perm l) (hm:Sorted m) (ha:Apart l):srt l=m:=oC ((eO l).trans h.symm) (lc ha) hm
theorem a0r {l:List Du} (h:Sorted l) (ha:Apart l):srt l=l:=a0h (List.Perm.refl _) h ha
theorem JL (l:List Du):(srt l).length=l.length:=(eO l).length_eq
theorem Ir {l m:List Du} (h:l.Perm m) (ha:Apart l):Apart m:=(h.pairwise_iff (fun {_ _} k=>Ne.symm k)).1 ha
def fM (l:List Du) (i:Int):Bool:=l.any (fun e=>e.id==i)
theorem FR {l:List Du} {i:Int}:fM l i=true↔∃ e∈l,e.id=i:=by simp [fM]
theorem iB {l:List Du} {i:Int}:fM l i=false↔∀ e∈l,e.id≠i:=by simp [fM]
def oH (l:List Du) (d:Du):Int:=if okB l=false then 40 else if mO d=false then 50 else if lQ d=false then 40 else if fM l d.id=true then 60 else 0
def ji (l:List Du) (d:Du):List Du:=if oH l d=0 then srt (l++[d]) else l
def without (l:List Du) (i:Int):List Du:=l.filter (fun e=>!(e.id==i))
def fK (now:Int) (d:Du):Bool:=decide (d.tm≤now)
theorem qd {now:Int} {d:Du}:fK now d=true↔d.tm≤now:=by simp [fK]
def uU (l:List Du) (now:Int):List Int:=if okB l=true then (l.takeWhile (fK now)).map Du.id else []
def FL (l:List Du) (now:Int):List Du:=if okB l=true then l.dropWhile (fK now) else l
theorem FW {l:List Du} {d:Du} (h:okB l=true) (h1:fM l d.id=false) (h2:mO d=true) (h3:lQ d=true) (h4:∀ e,l.getLast? = some e→R3 e d=true):okB (l++[d])=true:=by
 rw [nS] at *
 obtain ⟨ha,hs,hp⟩:=h
 refine ⟨fun e he=>?_,?_,?_⟩
 ·rcases List.mem_append.1 he with he | he
  ·exact ha e he
  ·rw [List.mem_singleton] at he;subst he;exact ⟨h2,h3⟩
 ·refine List.pairwise_append.2 ⟨hs,by simp,fun a hA b hb=>?_⟩
  rw [List.mem_singleton] at hb;subst hb
  cases hl:l.getLast? with
  | none=>rw [List.getLast?_eq_none_iff] at hl;subst hl;simp at hA
  | some e =>
   have h5:=h4 e hl
   obtain ⟨k,rfl⟩:=List.getLast?_eq_some_iff.1 hl
   rw [Sorted,List.pairwise_append] at hs
   rcases List.mem_append.1 hA with hA | hA
   ·exact uT (hs.2.2 a hA e (by simp)) h5
   ·rw [List.mem_singleton] at hA;subst hA;exact h5
 ·refine List.pairwise_append.2 ⟨hp,by simp,fun a hA b hb=>?_⟩
  rw [List.mem_singleton] at hb;subst hb
  exact iB.1 h1 a hA
theorem iJ {l r:List Du} {d:Du} (h:fM l d.id=true∨mO d=false∨lQ d=false∨∃ e,l.getLast? = some e∧R3 e d=false):okB (l++d::r)=false:=by
 cases hk:okB (l++d::r)
 ·rfl
 rw [nS] at hk
 obtain ⟨ha,hs,hp⟩:=hk
 rw [Sorted,List.pairwise_append] at hs
 rw [Apart,List.pairwise_append] at hp
 have hd:=ha d (by simp)
 rcases h with h | h | h | ⟨e,he,h⟩
 ·obtain ⟨x,hx,hxd⟩:=FR.1 h
  exact absurd hxd (hp.2.2 x hx d (by simp))
 ·rw [h] at hd;cases hd.1
 ·rw [h] at hd;cases hd.2
 ·rw [hs.2.2 e (List.mem_of_getLast? he) d (by simp)] at h;cases h
theorem UF {l:List Du} {d:Du} (h:oH l d=0):okB (srt (l++[d]))=true∧okB l=true∧mO d=true∧lQ d=true∧fM l d.id=false:=by
 unfold oH at h
 cases h1:okB l
 ·rw [h1] at h;simp at h
 cases h2:mO d
 ·rw [h1,h2] at h;simp at h
 cases h3:lQ d
 ·rw [h1,h2,h3] at h;simp at h
 cases h4:fM l d.id
 ·refine ⟨?_,rfl,rfl,rfl,rfl⟩
  rw [nS] at *
  obtain ⟨ha,hs,hp⟩:=h1
  have hap:Apart (l++[d]):=List.pairwise_append.2 ⟨hp,by simp,fun a hA b hb=>by
   rw [List.mem_singleton] at hb;subst hb;exact iB.1 h4 a hA⟩
  refine ⟨fun e he=>?_,lc hap,Ir (eO _).symm hap⟩
  rcases List.mem_append.1 ((eO _).mem_iff.1 he) with he | he
  ·exact ha e he
  ·rw [List.mem_singleton] at he;subst he;exact ⟨h2,h3⟩
 ·rw [h1,h2,h3,h4] at h;simp at h
theorem JW {l:List Du} {d:Du} (h1:okB l=true) (h2:mO d=true) (h3:lQ d=true) (h4:fM l d.id=false):oH l d=0:=by simp [oH,h1,h2,h3,h4]
theorem Kb {l:List Du} {d:Du} (h:oH l d=0):ji l d=srt (l++[d]):=by simp [ji,h]
theorem Wv {l:List Du} {now:Int} (h:okB l=true):uU l now=(l.takeWhile (fK now)).map Du.id∧FL l now=l.dropWhile (fK now):=by simp [uU,FL,h]
end
section
def tdB (t:Th):Bool:=K3 t.ki&&(!(t.st==0) && !t.la)
def oZ (s:St) (k:Nat):Du:=⟨(gth s.th k).un,k⟩
def tdS (s:St):Nat→List Du
 | 0=>[]
 | k+1=>if tdB (gth s.th k)=true then ji (tdS s k) (oZ s k) else tdS s k
def Y1 (s:St):List Du:=if stB s=true then tdS s s.th.length else []
def kr (l:List Du) (now:Int):List Int:=(l.filter (fK now)).map Du.id
def M4 (t:Th):Th:=⟨if t.st=2 then 1 else t.st,t.ki,t.va,t.un,t.pc,t.re,t.se,t.tr,true,t.rs,t.go⟩
def O4 (s:St) (n:Nat):St :=
 if (gth s.th n).st=2 then ((s.toFull s.fe (cnL s.fe s.fl n)).toEmpty s.ee (cnL s.ee s.el n)).setTh n (M4 (gth s.th n)) else s.setTh n (M4 (gth s.th n))
def aF:List Int→St→St
 | [],s=>s
 | i::l,s=>aF l (O4 s i.toNat)
def St.toNow (s:St) (n:Int):St:=⟨s.cf,s.hd,s.tl,s.md,s.sl,s.sn,s.rc,s.fe,s.fl,s.ee,s.el,n,s.th,s.lg⟩
def M8 (s:St) (n:Int):Int:=if stB s=false then 20 else if n<0∨1099511627776 - s.nw<n then 50 else 0
def ed (s:St) (n:Int):List Int:=if M8 s n=0 then kr (Y1 s) (s.nw+n) else []
def M0 (s:St) (n:Int):St:=if M8 s n=0 then aF (ed s n) (s.toNow (s.nw+n)) else s
theorem Dm {t:Th} (h:thB t=true) (h1:tdB t=true):0≤t.un∧t.un≤1099511627776:=by
 obtain ⟨st,ki,va,un,pc,re,se,tr,la,rs,go⟩:=t
 simp only [tdB,Bool.and_eq_true] at h1
 simp only [thB,iT,h1.1,if_true,Bool.and_eq_true,gU,decide_eq_true_eq] at h
 exact ⟨h.2.1.1,h.2.1.2⟩
theorem KS {s:St} (h:stB s=true):∀ {k:Nat},k≤s.th.length→okB (tdS s k)=true∧∀ d,d∈tdS s k↔∃ i,i<k∧tdB (gth s.th i)=true∧d=oZ s i
 | 0,_=>⟨rfl,fun d=>⟨fun hd=>(List.not_mem_nil hd).elim,fun ⟨i,hi,_⟩=>absurd hi (by omega)⟩⟩
 | k+1,hk=>by
  obtain ⟨h1,h2⟩:=KS h (k:=k) (by omega)
  by_cases ht:tdB (gth s.th k)=true
  ·have e:tdS s (k+1)=ji (tdS s k) (oZ s k):=by simp [tdS,ht]
   have hth:=(Y3 h).2.2
   have hu:=Dm (l9 h (show k<s.th.length by omega)) ht
   have hc:oH (tdS s k) (oZ s k)=0:=JW h1 (Lx.2 hu) (by unfold lQ;rw [Bool.and_eq_true];exact ⟨decide_eq_true (show (0:Int)≤(k:Int) by omega),decide_eq_true (show (k:Int)<16 by omega)⟩) (iB.2 fun d hd=>by
    obtain ⟨i,hi,-,rfl⟩:=(h2 d).1 hd
    show ((i:Int))≠(k:Int)
    omega)
   rw [e,Kb hc]
   refine ⟨(UF hc).1,fun d=>?_⟩
   rw [(eO _).mem_iff,List.mem_append,List.mem_singleton,h2]
   constructor
   ·rintro (⟨i,hi,a,b⟩ | rfl)
    ·exact ⟨i,by omega,a,b⟩
    ·exact ⟨k,by omega,ht,rfl⟩
   ·rintro ⟨i,hi,a,b⟩
    by_cases e:i=k
    ·subst e;exact .inr b
    ·exact .inl ⟨i,by omega,a,b⟩
  ·have e:tdS s (k+1)=tdS s k:=by simp [tdS,ht]
   rw [e]
   refine ⟨h1,fun d=>?_⟩
   rw [h2]
   constructor
   ·rintro ⟨i,hi,a,b⟩;exact ⟨i,by omega,a,b⟩
   ·rintro ⟨i,hi,a,b⟩
    by_cases e:i=k
    ·subst e;exact absurd a ht
    ·exact ⟨i,by omega,a,b⟩
theorem JZ (s:St):okB (Y1 s)=true:=by
 unfold Y1;split
 ·next h=>exact (KS h (Nat.le_refl _)).1
 ·rfl
theorem EC {s:St} (h:stB s=true) {d:Du}:d∈Y1 s↔∃ i,i<s.th.length∧tdB (gth s.th i)=true∧d=oZ s i:=by
 unfold Y1;rw [if_pos h];exact (KS h (Nat.le_refl _)).2 d
theorem RJ {s:St} (h:stB s=true) {now j:Int}:j∈kr (Y1 s) now↔∃ i:Nat,j=i∧i<s.th.length∧tdB (gth s.th i)=true∧(gth s.th i).un≤now:=by
 unfold kr
 rw [List.mem_map]
 constructor
 ·rintro ⟨d,hd,rfl⟩
  obtain ⟨h1,h2⟩:=List.mem_filter.1 hd
  obtain ⟨i,hi,a,rfl⟩:=(EC h).1 h1
  exact ⟨i,rfl,hi,a,qd.1 h2⟩
 ·rintro ⟨i,rfl,hi,a,b⟩
  exact ⟨oZ s i,List.mem_filter.2 ⟨(EC h).2 ⟨i,hi,a,rfl⟩,qd.2 b⟩,rfl⟩
theorem uY {now:Int}:∀ {l:List Du},Sorted l→l.filter (fK now)=l.takeWhile (fK now)
 | [],_=>rfl
 | d::l,h=>by
  have h:=List.pairwise_cons.1 h
  by_cases hd:fK now d=true
  ·rw [List.filter_cons_of_pos hd,List.takeWhile_cons_of_pos hd,uY h.2]
  ·rw [List.filter_cons_of_neg hd,List.takeWhile_cons_of_neg hd]
   refine List.filter_eq_nil_iff.2 fun e he=>?_
   have h1:=gB.1 (h.1 e he)
   rw [qd] at hd ⊢
   omega
theorem VK {l:List Du} (h:okB l=true) (now:Int):kr l now=uU l now:=by
 unfold kr uU
 rw [if_pos h,uY (nS.1 h).2.1]
theorem Mf (t:Th):M4 (M4 t)=M4 t:=by
 unfold M4
 by_cases h:t.st=2 <;> simp [h]
theorem ES {t:Th} (h:thB t=true) (h1:K3 t.ki=true) (h2:t.st≠0):thB (M4 t)=true:=by
 obtain ⟨st,ki,va,un,pc,re,se,tr,la,rs,go⟩:=t
 simp only at h1 h2
 simp only [thB,M4,iT,h1,if_true] at h ⊢
 by_cases e:st=2
 ·subst e
  simp only [if_true]
  simp only [uJ,gU,Bool.and_eq_true] at h ⊢
  refine ⟨?_,h.2.1,h.2.2.1,by simp⟩
  have:=h.1
  simp at this ⊢
  exact this
 ·simp only [e,if_false]
  simp only [Bool.and_eq_true] at h ⊢
  refine ⟨h.1,h.2.1,h.2.2.1,by simp [h2]⟩
theorem Gz (s:St) (n:Nat):(O4 s n).cf=s.cf∧(O4 s n).hd=s.hd∧(O4 s n).tl=s.tl∧(O4 s n).md=s.md∧(O4 s n).sl=s.sl∧(O4 s n).sn=s.sn∧(O4 s n).rc=s.rc∧(O4 s n).nw=s.nw∧(O4 s n).lg=s.lg∧(O4 s n).fe=s.fe∧(O4 s n).ee=s.ee:=by
 unfold O4;split <;> exact ⟨rfl,rfl,rfl,rfl,rfl,rfl,rfl,rfl,rfl,rfl,rfl⟩
theorem EH (s:St) (n:Nat):(O4 s n).th=s.th.set n (M4 (gth s.th n)):=by
 unfold O4;split <;> rfl
theorem jm (s:St) (n:Nat):(O4 s n).th.length=s.th.length:=by rw [EH,List.length_set]
theorem YO {ep:Int} {l:List Int} (h:okE ep l=true) (i:Int):okE ep (cnL ep l i)=true:=by
 unfold cnL;rw [if_pos h]
 unfold okE at h ⊢
 simp only [Bool.and_eq_true] at h ⊢
 exact ⟨h.1,YM h.2 i⟩
theorem Qf {m ep:Int} {l:List Int} (h:W9 m l=true) (i:Int):W9 m (cnL ep l i)=true:=by
 unfold cnL;split
 ·exact IV h
 ·exact h
theorem wW {s:St} (h:stB s=true) {n:Nat} (hn:n<s.th.length) (h1:K3 (gth s.th n).ki=true) (h2:(gth s.th n).st≠0):stB (O4 s n)=true:=by
 have ht:=ES (l9 h hn) h1 h2
 obtain ⟨-,-,a,b,c,d⟩:=l6 h
 unfold O4;split
 ·exact kR (bL (eu h (YO c n) (Qf a n)) (YO d n) (Qf b n)) ht
 ·exact kR h ht
theorem gK {s:St} {n j:Nat} (hn:n<s.th.length):gth (O4 s n).th j=if j=n then M4 (gth s.th j) else gth s.th j:=by
 rw [EH,H9 hn]
 by_cases e:n=j
 ·subst e;simp
 ·rw [if_neg e,if_neg (Ne.symm e)]
theorem wH:∀ (l:List Int) (s:St),(aF l s).cf=s.cf∧(aF l s).hd=s.hd∧(aF l s).tl=s.tl∧(aF l s).md=s.md∧(aF l s).sl=s.sl∧(aF l s).sn=s.sn∧(aF l s).rc=s.rc∧(aF l s).nw=s.nw∧(aF l s).lg=s.lg∧(aF l s).fe=s.fe∧(aF l s).ee=s.ee
 | [],_=>⟨rfl,rfl,rfl,rfl,rfl,rfl,rfl,rfl,rfl,rfl,rfl⟩
 | i::l,s=>by
  obtain ⟨a1,a2,a3,a4,a5,a6,a7,a8,a9,a10,a11⟩:=wH l (O4 s i.toNat)
  obtain ⟨b1,b2,b3,b4,b5,b6,b7,b8,b9,b10,b11⟩:=Gz s i.toNat
  exact ⟨a1.trans b1,a2.trans b2,a3.trans b3,a4.trans b4,a5.trans b5,a6.trans b6,a7.trans b7,a8.trans b8,a9.trans b9,a10.trans b10,a11.trans b11⟩
theorem zH:∀ (l:List Int) (s:St),(aF l s).th.length=s.th.length
 | [],_=>rfl
 | i::l,s=>(zH l _).trans (jm s _)
theorem zy:∀ (l:List Int) {s:St},(∀ i∈l,0≤i∧i.toNat<s.th.length)→∀ j:Nat,gth (aF l s).th j=if (j:Int)∈l then M4 (gth s.th j) else gth s.th j
 | [],_,_,j=>rfl
 | i::l,s,h,j=>by
  have h0:=h i List.mem_cons_self
  have ih:=zy l (s:=O4 s i.toNat) (fun x hx=>by rw [jm];exact h x (List.mem_cons_of_mem _ hx)) j
  show gth (aF l (O4 s i.toNat)).th j=_
  rw [ih,gK h0.2]
  by_cases e:j=i.toNat
  ·have hj:(j:Int)=i:=by omega
   rw [if_pos e,if_pos (show (j:Int)∈i::l by rw [hj];exact List.mem_cons_self)]
   split
   ·exact Mf _
   ·rfl
  ·have hj:(j:Int)≠i:=by omega
   rw [if_neg e]
   simp only [List.mem_cons,hj,false_or]
theorem Au:∀ (l:List Int) {s:St},stB s=true→(∀ i∈l,∃ n:Nat,i=n∧n<s.th.length∧K3 (gth s.th n).ki=true∧(gth s.th n).st≠0)→stB (aF l s)=true
 | [],_,h,_=>h
 | i::l,s,h,hl=>by
  obtain ⟨n,rfl,hn,h1,h2⟩:=hl i List.mem_cons_self
  refine Au l (s:=O4 s (n:Int).toNat) (by rw [Int.toNat_natCast];exact wW h hn h1 h2) fun x hx=>?_
  obtain ⟨m,rfl,hm,h3,h4⟩:=hl x (List.mem_cons_of_mem _ hx)
  rw [Int.toNat_natCast]
  refine ⟨m,rfl,by rw [jm];exact hm,?_,?_⟩
  ·rw [gK hn];split
   ·exact h3
   ·exact h3
  ·rw [gK hn];split
   ·unfold M4;simp only;split <;> omega
   ·exact h4
theorem Dl {s:St} (h:stB s=true) {n:Int} (h0:0≤n∧n≤1099511627776):stB (s.toNow n)=true:=by
 obtain ⟨a1,a2,a3,a4,a5,a6,a7,a8⟩:=N7.1 h
 exact N7.2 ⟨a1,a2,a3,a4,a5,h0.1,h0.2,a8⟩
theorem Ba {s:St} (h:stB s=true):0≤s.nw∧s.nw≤1099511627776:=by
 obtain ⟨a1,a2,a3,a4,a5,a6,a7,a8⟩:=N7.1 h
 exact ⟨a6,a7⟩
theorem jN {s:St} {n:Int} (h:M8 s n=0):stB s=true∧0≤n∧s.nw+n≤1099511627776:=by
 unfold M8 at h
 split at h
 ·cases h
 ·next hB =>
  split at h
  ·cases h
  ·exact ⟨by simpa using hB,by omega,by omega⟩
theorem UM {s:St} {n:Int} (h:stB s=true) (h0:0≤n) (h1:s.nw+n≤1099511627776):M8 s n=0:=by
 unfold M8;rw [if_neg (by simp [h]),if_neg (by omega)]
theorem aM {s:St} {n:Int} (h:M8 s n≠0):M0 s n=s∧ed s n=[]:=⟨if_neg h,if_neg h⟩
theorem dw {s:St} {n:Int} (h:M8 s n=0):M0 s n=aF (ed s n) (s.toNow (s.nw+n))∧ed s n=kr (Y1 s) (s.nw+n):=⟨if_pos h,if_pos h⟩
theorem rR {s:St} {n j:Int} (h:M8 s n=0):j∈ed s n↔∃ i:Nat,j=i∧i<s.th.length∧tdB (gth s.th i)=true∧(gth s.th i).un≤s.nw+n:=by
 rw [(dw h).2];exact RJ (jN h).1
theorem Rs {t:Th}:tdB t=true↔K3 t.ki=true∧t.st≠0∧t.la=false:=by simp [tdB]
theorem Ed (s:St) (n:Int):stB (M0 s n)=stB s:=by
 by_cases h:M8 s n=0
 ·obtain ⟨hB,h0,h1⟩:=jN h
  have hb:=Ba hB
  rw [hB,(dw h).1]
  refine Au _ (Dl hB (by omega)) fun i hi=>?_
  obtain ⟨m,rfl,hm,h2,-⟩:=(rR h).1 hi
  obtain ⟨h3,h4,-⟩:=Rs.1 h2
  exact ⟨m,rfl,hm,h3,h4⟩
 ·rw [(aM h).1]
theorem yP (s:St) (n:Int):(M0 s n).th.length=s.th.length:=by
 by_cases h:M8 s n=0
 ·rw [(dw h).1];exact zH _ _
 ·rw [(aM h).1]
theorem yO {s:St} {n:Int} (h:M8 s n=0) (j:Nat):gth (M0 s n).th j=if (j:Int)∈ed s n then M4 (gth s.th j) else gth s.th j:=by
 rw [(dw h).1]
 refine zy _ (s:=s.toNow (s.nw+n)) (fun i hi=>?_) j
 obtain ⟨m,rfl,hm,-⟩:=(rR h).1 hi
 exact ⟨by omega,by rw [Int.toNat_natCast];exact hm⟩
theorem bF {s:St} {n:Int} (h:M8 s n=0):(M0 s n).cf=s.cf∧(M0 s n).hd=s.hd∧(M0 s n).tl=s.tl∧(M0 s n).md=s.md∧(M0 s n).sl=s.sl∧(M0 s n).sn=s.sn∧(M0 s n).rc=s.rc∧(M0 s n).nw=s.nw+n∧(M0 s n).lg=s.lg∧(M0 s n).fe=s.fe∧(M0 s n).ee=s.ee:=by
 rw [(dw h).1];exact wH _ _
theorem WT {s:St} {N:Nat} (h:Wk s N) (n:Int):Wk (M0 s n) N:=by
 by_cases he:M8 s n=0
 ·obtain ⟨c1,-,-,-,c5,-,-,-,c9,-,-⟩:=bF he
  refine ⟨(Ed s n).trans h.b,⟨by rw [c1];exact h.v.cf,by rw [c5];exact h.v.sl,fun t ht=>?_⟩,by rw [c9];exact h.l⟩
  obtain ⟨j,hj,rfl⟩:=List.mem_iff_getElem.1 ht
  have e:(M0 s n).th[j]=gth (M0 s n).th j:=(pO hj).symm
  have hj' : j<s.th.length:=by rw [yP] at hj;exact hj
  have hv:=h.v.th (gth s.th j) (pW hj')
  rw [e,yO he]
  split
  ·exact hv
  ·exact hv
 ·rw [(aM he).1];exact h
end
section
theorem Mv (s:St) (n:Int):(M8 s n=20↔stB s=false):=by
 unfold M8
 constructor
 ·intro h
  split at h
  ·next e=>exact e
  ·split at h <;> cases h
 ·intro h;rw [if_pos h]
end
section
structure Ca where
 ki:Int
 th:Int
 va:Int
 un:Int
def ca0:Ca:=⟨0,0,0,0⟩
def Ca.cells (x:Ca):List Value:=[.int .i64 x.ki,.int .i64 x.th,.int .i64 x.va,.int .i64 x.un]
def Ca.nums (x:Ca):List Int:=[x.ki,x.th,x.va,x.un]
def caE (x:Ca):Int :=
 if x.ki<1∨x.ki=9∨11<x.ki∨x.th<0∨15<x.th then 190
 else if x.ki=11∧(x.th≠0∨x.un≠0)∨x.ki=10∧(x.va≠0∨x.un≠0) then 190
 else if 4≤x.ki∧x.ki≤8∧x.va≠0∨x.ki≠3∧x.ki≠6∧x.un≠0 then 190
 else if x.un<0∨1099511627776<x.un∨x.ki=11∧(x.va<0∨1099511627776<x.va) then 50
 else 0
def D6 (l:List Int):Ca:=⟨l.getD 0 0,l.getD 1 0,l.getD 2 0,l.getD 3 0⟩
def deE (l:List Int):Int:=if l.length=4 then caE (D6 l) else 190
def deC (l:List Int):Ca:=if deE l=0 then D6 l else ca0
theorem SX {l:List Int} (h:l.length=4):(D6 l).nums=l:=by
 match l,h with
 | [a,b,c,d],_=>rfl
theorem uN {l:List Int} (h:deE l=0):l.length=4∧deC l=D6 l∧(deC l).nums=l∧caE (deC l)=0:=by
 have h4:l.length=4:=by
  unfold deE at h
  split at h
  ·next e=>exact e
  ·cases h
 have e:deC l=D6 l:=by unfold deC;rw [if_pos h]
 refine ⟨h4,e,by rw [e,SX h4],?_⟩
 rw [e]
 unfold deE at h
 rw [if_pos h4] at h
 exact h
theorem a1X {l:List Int} (h:deE l≠0):deC l=ca0:=if_neg h
theorem yw {x:Ca}:caE x=0↔((x.ki=1∨x.ki=2)∧(0≤x.th∧x.th≤15)∧x.un=0)∨(x.ki=3∧(0≤x.th∧x.th≤15)∧0≤x.un∧x.un≤1099511627776)∨((x.ki=4∨x.ki=5∨x.ki=7∨x.ki=8∨x.ki=10)∧(0≤x.th∧x.th≤15)∧x.va=0∧x.un=0) ∨
  (x.ki=6∧(0≤x.th∧x.th≤15)∧x.va=0∧0≤x.un∧x.un≤1099511627776)∨(x.ki=11∧x.th=0∧x.un=0∧0≤x.va∧x.va≤1099511627776):=by
 unfold caE
 constructor
 ·intro h
  split at h
  ·cases h
  ·split at h
   ·cases h
   ·split at h
    ·cases h
    ·split at h
     ·cases h
     ·omega
 ·intro h
  rw [if_neg (by omega),if_neg (by omega),if_neg (by omega),if_neg (by omega)]
theorem a3a {x:Ca} (h:caE x=0):1≤x.ki∧x.ki≤11∧0≤x.th∧x.th≤15∧0≤x.un∧x.un≤1099511627776:=by
 have:=yw.1 h;omega
def Gc (s:St) (x:Ca) (E:Int) (r:St):Prop :=
 (caE x≠0∧E=caE x∧r=s)∨(caE x=0∧x.ki=10∧E=dC s x.th∧r=ay s x.th)∨(caE x=0∧x.ki=11∧E=M8 s x.va∧r=M0 s x.va) ∨
 (caE x=0∧x.ki≠10∧x.ki≠11∧mR s x.th x.ki x.va (s.nw+x.un) E r)
theorem a0H {s:St} {i k v u E:Int} {r:St} (h:mR s i k v u E r) (hE:E≠0):r=s:=by
 rcases h with ⟨-,-,rfl⟩ | ⟨-,-,-,rfl⟩ | ⟨-,-,n,t,-,hn,ht,rfl⟩
 ·rfl
 ·rfl
 ·have:t=gth s.th n:=by
   rcases ht with ⟨-,-,rfl⟩ | ⟨-,-,-,rfl⟩ | ⟨-,-,-,h0,-⟩ | ⟨-,-,-,-,-,rfl⟩ | ⟨-,-,-,-,h0,-⟩
   ·rfl
   ·rfl
   ·exact absurd h0 hE
   ·rfl
   ·exact absurd h0 hE
  rw [this];exact IP s n
theorem kI {s:St} {i k v u:Int} {r:St} (h:mR s i k v u 0 r):stB s=true∧∃ (n:Nat) (t:Th),i=n∧n<s.th.length∧zU (gth s.th n) k v u 0 t∧r=s.setTh n t:=by
 rcases h with ⟨-,h,-⟩ | ⟨-,h1,h,-⟩ | ⟨h,-,n,t,hi,hn,ht,hr⟩
 ·cases h
 ·exact absurd h.symm h1
 ·exact ⟨h,n,t,hi,hn,ht,hr⟩
theorem pY {s:St} {x:Ca} {E:Int} {r:St} (h:Gc s x E r) (hE:E≠0):r=s:=by
 rcases h with ⟨-,-,rfl⟩ | ⟨-,-,rfl,rfl⟩ | ⟨-,-,rfl,rfl⟩ | ⟨-,-,-,h⟩
 ·rfl
 ·exact JD hE
 ·exact (aM hE).1
 ·exact a0H h hE
theorem Fa {t:Th} {k v u E:Int} {r:Th} (h:zU t k v u E r) (c:thB t=true):thB r=true:=by
 rcases h with ⟨_,_,rfl⟩ | ⟨_,_,_,rfl⟩ | ⟨_,h1,h2,_,rfl⟩ | ⟨_,_,_,_,_,rfl⟩ | ⟨_,h1,h2,h3,_,rfl⟩
 ·exact c
 ·exact c
 ·rw [K6];have h1:=vZ.1 h1;have h2:=mt jv.2 (by rw [h2];decide);simp [bI];omega
 ·exact c
 ·rw [K6];have h1:=vZ.1 h1;have h2:=jv.1 h2;simp [bI];omega
end
section
end
section
open Go.RowKit
def duT (d:Du):Value:=.agg #[.int .i64 d.tm,.int .i64 d.id]
def uL (l:List Du):Value:=F4 l.length (l.map duT)
theorem K8 {n i:Nat} (h:i<n):decide ((i:Int)<n)=true:=by simp;omega
theorem aG (n:Nat):decide ((n:Int)<n)=false:=by simp
theorem M9 {n i:Nat} (h:i<n) (hm:n≤1000000):In64 ((i:Int)+1):=by constructor <;> omega
section
variable {l:List Du}
end
end
section
open Go.RowKit
theorem WL {s:St} (h:stB s=true) {k:Nat} (hk:k<s.th.length) (ht:tdB (gth s.th k)=true):oH (tdS s k) (oZ s k)=0:=by
 obtain ⟨h1,h2⟩:=KS h (k:=k) (by omega)
 have hth:=(Y3 h).2.2
 have hu:=Dm (l9 h hk) ht
 refine JW h1 (Lx.2 hu) (by unfold lQ;rw [Bool.and_eq_true];exact ⟨decide_eq_true (show (0:Int)≤(k:Int) by omega),decide_eq_true (show (k:Int)<16 by omega)⟩) (iB.2 fun d hd=>?_)
 obtain ⟨i,hi,-,rfl⟩:=(h2 d).1 hd
 show ((i:Int))≠(k:Int)
 omega
theorem VZ (l:List Du) (d:Du):(ji l d).length≤l.length+1:=by
 unfold ji;split
 ·rw [JL];simp
 ·omega
theorem BA (s:St):∀ k,(tdS s k).length≤k
 | 0=>by simp [tdS]
 | k+1=>by
  have:=BA s k
  have:=VZ (tdS s k) (oZ s k)
  simp only [tdS];split <;> omega
end
section
open Go.RowKit
structure TkK (s:St):Prop where
 ok:s.ok
 few:s.few
theorem LK {s:St} (h:TkK s) (n:Int):(ed s n).length≤16:=by
 by_cases e:M8 s n=0
 ·obtain ⟨hB,-⟩:=jN e
  have:=BA s s.th.length
  have:=(Y3 hB).2.2
  rw [(dw e).2]
  unfold kr
  rw [List.length_map]
  refine Nat.le_trans (List.length_filter_le _ _) ?_
  simp only [Y1,hB,if_true];omega
 ·rw [(aM e).2];simp
end
section
open Go.RowKit
end
section
open Go.ChangeShapes Go.WideShapes Go.ChangeAt Go.RowKit
def caT (x:Ca):Value:=.agg #[.int .i64 x.ki,.int .i64 x.th,.int .i64 x.va,.int .i64 x.un]
abbrev Ca.size:Nat:=4
def Ca.ok (x:Ca):Prop:=In64 x.ki∧In64 x.th∧In64 x.va∧In64 x.un
end
section
open Go.ChangeShapes Go.WideShapes Go.ChangeAt Go.RowKit
theorem WZ {t:TypeId} (a b:Int) (x y:Operand):uj Tryz.prog (.binOp .add t x y t) [.int .i64 a,.int .i64 b] (.int .i64 (IntKind.i64.wrap (a+b))):=by
 intro W o f ho hm
 obtain ⟨h1,h2⟩:=Gv hm
 simp [execOp,ho,h1,h2,eqGuard,binOp,Op.intArith]
theorem Pj {s r:St} {i k v u E:Int} (h:mR s i k v (s.nw+u) E r) (hu:0≤u∧u≤1099511627776):mR s i k v (IntKind.i64.wrap (s.nw+u)) E r:=by
 rcases h with ⟨hB,rfl,rfl⟩ | h | h
 ·exact .inl ⟨hB,rfl,rfl⟩
 ·have hb:=Ba h.1
  rw [jc (n:=s.nw+u) ⟨by omega,by omega⟩];exact .inr (.inl h)
 ·have hb:=Ba h.1
  rw [jc (n:=s.nw+u) ⟨by omega,by omega⟩];exact .inr (.inr h)
theorem JS (a b c d:Int):deE [a,b,c,d]=caE ⟨a,b,c,d⟩∧deC [a,b,c,d]=if caE ⟨a,b,c,d⟩=0 then ⟨a,b,c,d⟩ else ca0:=⟨rfl,rfl⟩
theorem a3A (a b c d:Int):IxP (([a,b,c,d].map (Value.int .i64 ·)).toArray) 0 (.int .i64 a)∧IxP (([a,b,c,d].map (Value.int .i64 ·)).toArray) 1 (.int .i64 b)∧IxP (([a,b,c,d].map (Value.int .i64 ·)).toArray) 2 (.int .i64 c)∧IxP (([a,b,c,d].map (Value.int .i64 ·)).toArray) 3 (.int .i64 d):=⟨⟨by decide,rfl⟩,⟨by decide,rfl⟩,⟨by decide,rfl⟩,⟨by decide,rfl⟩⟩
end
section
theorem KJ {l:List Int} {i:Int} (h:P5 l=true):plI l i=0↔l.head? = some i:=by
 unfold plI ixI
 rw [if_pos h]
 cases l with
 | nil=>simp
 | cons x r =>
  by_cases e:x=i
  ·subst e;simp
  ·have e' : (x==i)=false:=by simpa using e
   have:¬ i=x:=fun k=>e k.symm
   simp only [List.head?_cons,Option.some.injEq,e,iff_false,List.mem_cons,this,false_or,List.idxOf_cons,e']
   split <;> simp;omega
theorem tZ {l:List Int} {i j:Int} (h:P5 l=true):j∈lvL l i↔j∈l∧j≠i:=by
 by_cases hp:0≤plI l i
 ·obtain ⟨-,s,t,rfl,hs,ht,-,hl,-⟩:=pQ hp
  rw [hl]
  simp only [List.mem_append,List.mem_cons]
  constructor
  ·rintro (k | k)
   ·exact ⟨.inl k,fun e=>hs (e ▸ k)⟩
   ·exact ⟨.inr (.inr k),fun e=>ht (e ▸ k)⟩
  ·rintro ⟨k | k | k,e⟩
   ·exact .inl k
   ·exact absurd k e
   ·exact .inr k
 ·have hn:i∉l:=fun k=>hp (by unfold plI;rw [if_pos h];exact uo.2 k)
  unfold lvL
  rw [if_pos (by omega)]
  exact ⟨fun k=>⟨k,fun e=>hn (e ▸ k)⟩,fun k=>k.1⟩
theorem JM {l:List Int} {i j:Int} (h:l.head? = some j) (hne:j≠i):(lvL l i).head? = some j:=by
 by_cases hp:0≤plI l i
 ·obtain ⟨-,s,t,rfl,hs,ht,-,hl,-⟩:=pQ hp
  rw [hl]
  cases s with
  | nil=>simp at h;exact absurd h.symm hne
  | cons x r=>simpa using h
 ·unfold lvL;rw [if_pos (by omega)];exact h
theorem RQ {l m:List Int} {j:Int} (h:l.head? = some j):(l++m).head? = some j:=by
 cases l with
 | nil=>cases h
 | cons x r=>simpa using h
theorem wE {l:List Int} {i j:Int} (h:aX l i=0):j∈Z0 l i↔j∈l∨j=i:=by
 rw [qf h,List.mem_append,List.mem_singleton]
theorem Fz {l:List Int} {i j:Int} (h:l.head? = some j):(Z0 l i).head? = some j:=by
 unfold Z0;split
 ·exact RQ h
 ·exact h
theorem sV {l:List Int} {j:Int} (h:P5 l=true):j∈l.drop 1↔j∈l∧l.head? ≠ some j:=by
 cases l with
 | nil=>simp
 | cons x r =>
  have hn:=List.nodup_cons.1 (aO.1 h).2
  simp only [List.drop_succ_cons,List.drop_zero,List.mem_cons,List.head?_cons,ne_eq,Option.some.injEq]
  constructor
  ·intro k;exact ⟨.inr k,fun e=>hn.1 (e ▸ k)⟩
  ·rintro ⟨k | k,e⟩
   ·exact absurd k.symm e
   ·exact k
def Hol (t:Th):Prop:=t.st≠0∧(j6 t.ki=1∧t.pc=11∨j6 t.ki=2∧t.pc=4)
structure ThO (s:St) (j:Nat):Prop where
 sn:(j:Int)∉s.sn
 rc:(j:Int)∉s.rc
 fl:(j:Int)∉s.fl
 el:(j:Int)∉s.el
structure ThS (s:St) (j:Nat) (t:Th):Prop where
 rc:(j:Int)∉s.rc
 el:(j:Int)∉s.el
 sn:(j:Int)∈s.sn↔t.pc≠0
 fl:(j:Int)∈s.fl↔t.st=2
 pk:t.st=2→t.pc=2∧t.la=false
 h1:t.pc≠0→t.pc≠1→t.pc≠9→s.sn.head? = some (j:Int)
 re:t.pc=3∨t.pc=4→t.re=s.tl
 wr:t.pc=4→gs s.sl (plc s.sl s.tl)=⟨s.tl,t.va⟩
 ev:t.pc=10∨t.pc=11→s.cf.po=2
 ho:t.pc=11→0≤t.re∧t.re<s.hd∧(gs s.sl (plc s.sl t.re)).st=t.re
 se:t.pc=7∨t.pc=8→t.se≤s.fe
structure ThR (s:St) (j:Nat) (t:Th):Prop where
 sn:(j:Int)∉s.sn
 fl:(j:Int)∉s.fl
 rc:(j:Int)∈s.rc↔t.pc≠0
 el:(j:Int)∈s.el↔t.st=2
 pk:t.st=2→t.pc=2∧t.la=false
 h1:t.pc≠0→t.pc≠1→t.pc≠9→s.rc.head? = some (j:Int)
 p9:t.pc≤9
 ho:t.pc=4→0≤t.re∧t.re<s.hd∧gs s.sl (plc s.sl t.re)=⟨t.re,t.go⟩
 se:t.pc=7∨t.pc=8→t.se≤s.ee
structure ThC (s:St) (j:Nat) (t:Th):Prop where
 o:ThO s j
 p2:t.pc≤2
 st:t.st=1
structure ThI (s:St) (j:Nat) (t:Th):Prop where
 oo:t.st=0→ThO s j
 ss:t.st≠0→j6 t.ki=1→ThS s j t
 rr:t.st≠0→j6 t.ki=2→ThR s j t
 cc:t.st≠0→j6 t.ki=3→ThC s j t
structure SlI (s:St):Prop where
 s1:∀ p,s.hd≤p→p<s.tl→(gs s.sl (plc s.sl p)).st=p
 s2:∀ p,s.tl≤p→p<s.hd+s.sl.length→(gs s.sl (plc s.sl p)).st=p∨(gs s.sl (plc s.sl p)).st=p - s.sl.length∧∃ j,j<s.th.length∧Hol (gth s.th j)∧(gth s.th j).re=p - s.sl.length
 d:∀ j k,j<s.th.length→k<s.th.length→j≠k→Hol (gth s.th j)→Hol (gth s.th k)→(gth s.th j).re≠(gth s.th k).re
structure Inv (s:St):Prop where
 b:stB s=true
 t:∀ j,j<s.th.length→ThI s j (gth s.th j)
 l:SlI s
structure Car (s a:St) (j:Nat) (t:Th):Prop where
 sn:(j:Int)∈a.sn↔(j:Int)∈s.sn
 rc:(j:Int)∈a.rc↔(j:Int)∈s.rc
 fl:(j:Int)∈a.fl↔(j:Int)∈s.fl
 el:(j:Int)∈a.el↔(j:Int)∈s.el
 h1:s.sn.head? = some (j:Int)→a.sn.head? = some (j:Int)
 h2:s.rc.head? = some (j:Int)→a.rc.head? = some (j:Int)
 tl:s.sn.head? = some (j:Int)→t.pc=3∨t.pc=4→a.tl=s.tl
 wr:s.sn.head? = some (j:Int)→t.pc=4→gs s.sl (plc s.sl s.tl)=⟨s.tl,t.va⟩→gs a.sl (plc a.sl s.tl)=gs s.sl (plc s.sl s.tl)
 po:a.cf.po=s.cf.po
 hd:s.hd≤a.hd
 ho:Hol t→0≤t.re→t.re<s.hd→(gs s.sl (plc s.sl t.re)).st=t.re→gs a.sl (plc a.sl t.re)=gs s.sl (plc s.sl t.re)
 fe:s.fe≤a.fe
 ee:s.ee≤a.ee
theorem ThO.car {s a:St} {j:Nat} {t:Th} (h:ThO s j) (c:Car s a j t):ThO a j:=⟨fun k=>h.sn (c.sn.1 k),fun k=>h.rc (c.rc.1 k),fun k=>h.fl (c.fl.1 k),fun k=>h.el (c.el.1 k)⟩
theorem ThI.car {s a:St} {j:Nat} {t:Th} (h:ThI s j t) (c:Car s a j t):ThI a j t where
 oo:=fun e=>(h.oo e).car c
 ss:=fun e k=>by
  have x:=h.ss e k
  have hh:t.pc=3∨t.pc=4→s.sn.head? = some (j:Int):=fun p=>x.h1 (by omega) (by omega) (by omega)
  refine ⟨fun m=>x.rc (c.rc.1 m),fun m=>x.el (c.el.1 m),c.sn.trans x.sn,c.fl.trans x.fl,x.pk,fun a b d=>c.h1 (x.h1 a b d),fun p=>?_,fun p=>?_,fun p=>c.po.trans (x.ev p),fun p=>?_,fun p=>Int.le_trans (x.se p) c.fe⟩
  ·rw [c.tl (hh p) p];exact x.re p
  ·rw [c.tl (hh (.inr p)) (.inr p),c.wr (hh (.inr p)) p (x.wr p)];exact x.wr p
  ·obtain ⟨h1,h2,h3⟩:=x.ho p
   exact ⟨h1,Int.lt_of_lt_of_le h2 c.hd,by rw [c.ho ⟨e,.inl ⟨k,p⟩⟩ h1 h2 h3];exact h3⟩
 rr:=fun e k=>by
  have x:=h.rr e k
  refine ⟨fun m=>x.sn (c.sn.1 m),fun m=>x.fl (c.fl.1 m),c.rc.trans x.rc,c.el.trans x.el,x.pk,fun a b d=>c.h2 (x.h1 a b d),x.p9,fun p=>?_,fun p=>Int.le_trans (x.se p) c.ee⟩
  obtain ⟨h1,h2,h3⟩:=x.ho p
  exact ⟨h1,Int.lt_of_lt_of_le h2 c.hd,by rw [c.ho ⟨e,.inr ⟨k,p⟩⟩ h1 h2 (by rw [h3])];exact h3⟩
 cc:=fun e k=>⟨(h.cc e k).o.car c,(h.cc e k).p2,(h.cc e k).st⟩
theorem Car.same {s a:St} {j:Nat} {t:Th} (h1:a.cf=s.cf) (h2:a.hd=s.hd) (h3:a.tl=s.tl) (h4:a.sl=s.sl) (h5:a.sn=s.sn) (h6:a.rc=s.rc) (h7:s.fe≤a.fe) (h8:a.fl=s.fl) (h9:s.ee≤a.ee) (h10:a.el=s.el):Car s a j t:=by
 refine ⟨by rw [h5],by rw [h6],by rw [h8],by rw [h10],by rw [h5];exact id,by rw [h6];exact id,fun _ _=>h3,fun _ _ _=>by rw [h4],by rw [h1],by rw [h2];exact Int.le_refl _,fun _ _ _ _=>by rw [h4],h7,h9⟩
def HolE (t u:Th):Prop:=(Hol u↔Hol t)∧(Hol t→u.re=t.re)
theorem HolE.refl (t:Th):HolE t t:=⟨Iff.rfl,fun _=>rfl⟩
theorem SlI.keep {s a:St} (h:SlI s) (h1:a.hd=s.hd) (h2:a.tl=s.tl) (h3:sts a.sl=sts s.sl) (hl:a.th.length=s.th.length) (hh:∀ j,j<s.th.length→HolE (gth s.th j) (gth a.th j)):SlI a where
 s1:=by
  rw [h1,h2]
  intro p x y
  rw [KN h3,GN h3]
  exact h.s1 p x y
 s2:=by
  rw [h1,h2,hl,qC h3]
  intro p a b
  rw [KN h3,GN h3]
  rcases h.s2 p a b with k | ⟨k,j,hj,x,y⟩
  ·exact .inl k
  ·exact .inr ⟨k,j,hj,(hh j hj).1.2 x,((hh j hj).2 x).trans y⟩
 d:=by
  rw [hl]
  intro j k hj hk hne x y
  have x' := (hh j hj).1.1 x
  have y' := (hh k hk).1.1 y
  rw [(hh j hj).2 x',(hh k hk).2 y']
  exact h.d j k hj hk hne x' y'
theorem JV {s:St} {n j:Nat} {f:Th→Th} (hn:n<s.th.length):gth (s.onTh n f).th j=if n=j then f (gth s.th n) else gth s.th j:=H9 hn
theorem fG {s:St} {n j:Nat} {t:Th} (hn:n<s.th.length):gth (s.setTh n t).th j=if n=j then t else gth s.th j:=H9 hn
theorem Q5 (s:St) (n:Nat) (t:Th):(s.setTh n t).th.length=s.th.length:=by simp [St.setTh]
theorem Inv.lg {s:St} (h:Inv s) (l:List En):Inv (s.toLg l):=⟨h.b,fun j hj=>(h.t j hj).car (.same rfl rfl rfl rfl rfl rfl (Int.le_refl _) rfl (Int.le_refl _) rfl),⟨h.l.s1,h.l.s2,h.l.d⟩⟩
theorem Inv.own {s:St} (h:Inv s) {n:Nat} (hn:n<s.th.length) {t:Th} (hb:thB t=true) (ht:ThI s n t) (hh:HolE (gth s.th n) t):Inv (s.setTh n t) where
 b:=kR h.b hb
 t:=fun j hj=>by
  rw [Q5] at hj
  rw [fG hn]
  by_cases e:n=j
  ·subst e;rw [if_pos rfl];exact ht.car (.same rfl rfl rfl rfl rfl rfl (Int.le_refl _) rfl (Int.le_refl _) rfl)
  ·rw [if_neg e];exact (h.t j hj).car (.same rfl rfl rfl rfl rfl rfl (Int.le_refl _) rfl (Int.le_refl _) rfl)
 l:=h.l.keep rfl rfl rfl (Q5 _ _ _) fun j hj=>by
  rw [fG hn]
  by_cases e:n=j
  ·subst e;rw [if_pos rfl];exact hh
  ·rw [if_neg e];exact .refl _
end
section
theorem U3 {t:Th} (h:thB t=true) (h1:t.st≠0):j6 t.ki=1∨j6 t.ki=2∨j6 t.ki=3:=by
 obtain ⟨st,ki,va,un,pc,re,se,tr,la,rs,go⟩:=t
 rw [K6] at h
 have:=X0 ki
 simp only at h1 ⊢
 omega
theorem ThI.ofS {s:St} {n:Nat} {t:Th} (h1:t.st≠0) (hk:j6 t.ki=1) (x:ThS s n t):ThI s n t:=⟨fun e=>absurd e h1,fun _ _=>x,fun _ e=>by omega,fun _ e=>by omega⟩
theorem ThI.ofR {s:St} {n:Nat} {t:Th} (h1:t.st≠0) (hk:j6 t.ki=2) (x:ThR s n t):ThI s n t:=⟨fun e=>absurd e h1,fun _ e=>by omega,fun _ _=>x,fun _ e=>by omega⟩
theorem ThI.ofC {s:St} {n:Nat} {t:Th} (h1:t.st≠0) (hk:j6 t.ki=3) (x:ThC s n t):ThI s n t:=⟨fun e=>absurd e h1,fun _ e=>by omega,fun _ e=>by omega,fun _ _=>x⟩
theorem ThI.ofO {s:St} {n:Nat} {t:Th} (h1:t.st=0) (x:ThO s n):ThI s n t:=⟨fun _=>x,fun e=>absurd h1 e,fun e=>absurd h1 e,fun e=>absurd h1 e⟩
theorem Inv.sh {s a:St} (h:Inv s) {n:Nat} (hn:n<s.th.length) {t:Th} (hb:stB (a.setTh n t)=true) (hth:a.th=s.th) (car:∀ j,j<s.th.length→j≠n→Car s a j (gth s.th j)) (ht:ThI a n t) (hl:SlI (a.setTh n t)):Inv (a.setTh n t) where
 b:=hb
 t:=fun j hj=>by
  rw [Q5,hth] at hj
  rw [fG (by rw [hth];exact hn)]
  by_cases e:n=j
  ·subst e;rw [if_pos rfl];exact ht.car (.same rfl rfl rfl rfl rfl rfl (Int.le_refl _) rfl (Int.le_refl _) rfl)
  ·rw [if_neg e,hth];exact ((h.t j hj).car (car j hj (Ne.symm e))).car (.same rfl rfl rfl rfl rfl rfl (Int.le_refl _) rfl (Int.le_refl _) rfl)
 l:=hl
theorem aV {s a:St} {n:Nat} {t:Th} (hn:n<s.th.length) (hth:a.th=s.th) (hh:HolE (gth s.th n) t) (j:Nat):HolE (gth s.th j) (gth (a.setTh n t).th j):=by
 rw [fG (by rw [hth];exact hn),hth]
 by_cases e:n=j
 ·subst e;rw [if_pos rfl];exact hh
 ·rw [if_neg e];exact .refl _
theorem cK {s:St} (h:stB s=true) {n:Nat} (hn:n<s.th.length) (k r g p:Int):D7 s n k r g p=(s.setTh n (pcT (F3 (gth s.th n) k r g) p)).toLg (s.lg++[⟨n,k,(gth s.th n).va,r,g⟩]):=by
 unfold D7
 rw [dQ h hn]
 have e:gth ((s.setTh n (F3 (gth s.th n) k r g)).addLg ⟨n,k,(gth s.th n).va,r,g⟩).th n=F3 (gth s.th n) k r g:=by
  show gth (s.th.set n _) n=_
  rw [H9 hn,if_pos rfl]
 unfold St.onTh
 rw [e]
 simp only [St.setTh,St.addLg,St.toLg,List.set_set]
theorem F7 {t:Th} (h:t.st=0∨j6 t.ki=1∧t.pc≠11∨j6 t.ki=2∧t.pc≠4∨j6 t.ki=3):¬ Hol t:=fun ⟨a,b⟩=>by omega
theorem HolE.no {t u:Th} (h:¬ Hol t) (k:¬ Hol u):HolE t u:=⟨⟨fun x=>absurd x k,fun x=>absurd x h⟩,fun x=>absurd x h⟩
theorem gY (t:Th) (k r g:Int):(F3 t k r g).st=t.st∧(F3 t k r g).ki=t.ki∧(F3 t k r g).va=t.va∧(F3 t k r g).re=t.re∧(F3 t k r g).la=t.la∧(F3 t k r g).se=t.se∧(k≠9→(F3 t k r g).rs=r∧(F3 t k r g).go=g):=by
 unfold F3;split
 ·next e=>exact ⟨rfl,rfl,rfl,rfl,rfl,rfl,fun h=>absurd e h⟩
 ·exact ⟨rfl,rfl,rfl,rfl,rfl,rfl,fun _=>⟨rfl,rfl⟩⟩
section
variable {s:St} {n:Nat}
theorem ThS.mv {t u:Th} (x:ThS s n t) (a:t.st=1) (a' : u.st=1) (hp:t.pc≠0) (hp' : u.pc≠0) (h1:u.pc≠1→u.pc≠9→s.sn.head? = some (n:Int)) (re:u.pc=3∨u.pc=4→u.re=s.tl) (wr:u.pc=4→gs s.sl (plc s.sl s.tl)=⟨s.tl,u.va⟩)
  (ev:u.pc=10∨u.pc=11→s.cf.po=2) (ho:u.pc=11→0≤u.re∧u.re<s.hd∧(gs s.sl (plc s.sl u.re)).st=u.re) (se:u.pc=7∨u.pc=8→u.se≤s.fe):ThS s n u :=
 ⟨x.rc,x.el,⟨fun _=>hp',fun _=>x.sn.2 hp⟩,⟨fun k=>absurd (x.fl.1 k) (by omega),fun k=>absurd k (by omega)⟩,fun k=>absurd k (by omega),fun _ b c=>h1 b c,re,wr,ev,ho,se⟩
theorem Inv.ownS (h:Inv s) (hn:n<s.th.length) {u:Th} (hb:thB u=true) (hst:(gth s.th n).st=1) (hk:j6 (gth s.th n).ki=1) (hp:(gth s.th n).pc≠11) (a:u.st=1) (k:u.ki=(gth s.th n).ki) (hp' : u.pc≠11) (x:ThS s n u):Inv (s.setTh n u) :=
 h.own hn hb (.ofS (by omega) (by rw [k];exact hk) x) (.no (F7 (.inr (.inl ⟨hk,hp⟩))) (F7 (.inr (.inl ⟨by rw [k];exact hk,hp'⟩))))
variable (h:Inv s) (hn:n<s.th.length) (hst:(gth s.th n).st=1) (hk:j6 (gth s.th n).ki=1)
include h hn hst hk
theorem eF:ThS s n (gth s.th n):=(h.t n hn).ss (by omega) hk
theorem gJ {r p:Int} (hp:(gth s.th n).pc≠0∧(gth s.th n).pc≠11) (hr:0≤r∧r≤7) (h9:p=9):Inv (D7 s n (gth s.th n).ki r 0 p):=by
 subst h9
 rw [cK h.b hn]
 refine Inv.lg ?_ _
 have e:=gY (gth s.th n) (gth s.th n).ki r 0
 exact h.ownS hn (D9 (jW (l9 h.b hn) hr) (by rw [e.1];omega) (by decide)) hst hk hp.2 (e.1.trans hst) e.2.1 (by simp [pcT])
  ((eF h hn hst hk).mv hst (e.1.trans hst) hp.1 (by simp [pcT]) (fun _ k=>absurd rfl k) (fun e=>absurd e (by simp [pcT,l8,o9,z8,G5])) (fun e=>absurd e (by simp [pcT,l8,o9,z8,G5])) (fun e=>absurd e (by simp [pcT,l8,o9,z8,G5])) (fun e=>absurd e (by simp [pcT,l8,o9,z8,G5])) (fun e=>absurd e (by simp [pcT,l8,o9,z8,G5])))
theorem kP {p:Int} (hp:(gth s.th n).pc≠0∧(gth s.th n).pc≠11) (hh:s.sn.head? = some (n:Int)) (h9:p=2∨p=5):Inv (s.onTh n (pcT · p)):=by
 refine h.ownS hn (D9 (l9 h.b hn) (by omega) (by omega)) hst hk hp.2 hst rfl ?_ ?_
 ·show p≠11;omega
 refine (eF h hn hst hk).mv hst hst hp.1 ?_ (fun _ _=>hh) ?_ ?_ ?_ ?_ ?_
 ·show p≠0;omega
 all_goals (intro k;simp only [pcT] at k;omega)
theorem JE (hp:(gth s.th n).pc=1∨(gth s.th n).pc=2):Inv (s.onTh n onT):=by
 have x:=eF h hn hst hk
 refine h.ownS hn (jf (l9 h.b hn) (by omega)) hst hk (by omega) hst rfl (by show (gth s.th n).pc≠11;omega) ?_
 refine x.mv hst hst (by omega) (by show (gth s.th n).pc≠0;omega) (fun a b=>x.h1 (by omega) a b) ?_ ?_ ?_ ?_ ?_
 all_goals (intro k;simp only [onT] at k;omega)
end
end
section
theorem nR {l m:List Slo} (h:l.length=m.length) (p:Int):plc l p=plc m p:=by unfold plc;rw [h]
theorem yQ {s:St} (h:stB s=true) {p:Int} (hp:0≤p):plc s.sl p<s.sl.length:=(oW (eP.2 ⟨hp,(C8 h).2.1⟩)).1
theorem Ee {s:St} (h:stB s=true) {p:Int} (hp:0≤p):plc s.sl (p+s.sl.length)=plc s.sl p:=by
 have hl:=(aR.1 (C8 h).2.1).1
 unfold plc I9 jO
 rw [show decide (0≤p)=true by simpa using hp,show decide (0≤p+(s.sl.length:Int))=true by simp;omega,show decide (1≤(s.sl.length:Int))=true by simp;omega]
 simp
theorem tF {l:List Slo} {p q:Int} (h:(gs l (plc l p)).st≠(gs l (plc l q)).st):plc l p≠plc l q:=fun e=>h (by rw [e])
theorem wd {s:St} (h:stB s=true):0≤s.hd∧s.hd≤s.tl∧s.tl≤1099511627776∧0≤s.md∧s.md≤2∧s.tl - s.hd≤s.sl.length∧1≤s.sl.length:=by
 have c:=I7.1 (C8 h).1
 have l:=(aR.1 (C8 h).2.1).1
 omega
theorem Ko {s:St} (h:stB s=true):P5 s.sn=true:=(H8.1 (l6 h).1).1
theorem KQ {s:St} (h:stB s=true):P5 s.rc=true:=(H8.1 (l6 h).2.1).1
theorem PI {s:St} (h:stB s=true):P5 s.fl=true:=(H8.1 (l6 h).2.2.1).1
theorem Uf {s:St} (h:stB s=true):P5 s.el=true:=(H8.1 (l6 h).2.2.2.1).1
theorem iq {l:List Int} {i j:Int} (h:l.head? = some i) (k:l.head? = some j):i=j:=by rw [h] at k;exact Option.some.inj k
theorem Lj {s:St} (h:stB s=true) {p:Int} (h0:0≤p) (h1:p<s.hd) (h2:(gs s.sl (plc s.sl p)).st=p):rlL s.sl p=s.sl.set (plc s.sl p) ⟨p+s.sl.length,(gs s.sl (plc s.sl p)).vl⟩∧rdV s.sl p=(gs s.sl (plc s.sl p)).vl:=by
 have hw:=wd h
 have hr:dz s.sl p=true:=Lp.2 ⟨eP.2 ⟨h0,(C8 h).2.1⟩,h2⟩
 unfold rlL rlB rdV
 rw [hr,if_pos rfl,if_pos (by simp;omega)]
 exact ⟨rfl,rfl⟩
theorem SlI.rel {s a:St} (hB:stB s=true) (h:SlI s) {n:Nat} (hn:n<s.th.length) (ho:Hol (gth s.th n)) {p:Int} (hp:(gth s.th n).re=p) (h0:0≤p) (h1:p<s.hd) (h2:(gs s.sl (plc s.sl p)).st=p)
  (e1:a.hd=s.hd) (e2:a.tl=s.tl) (e3:a.sl=rlL s.sl p) {t:Th} (e4:a.th=s.th.set n t) (e5:¬ Hol t):SlI a:=by
 have hw:=wd hB
 obtain ⟨er,-⟩:=Lj hB h0 h1 h2
 have hl:(rlL s.sl p).length=s.sl.length:=ig _ _
 have hg:∀ j,gth a.th j=if n=j then t else gth s.th j:=fun j=>by rw [e4,H9 hn]
 have hlen:a.th.length=s.th.length:=by rw [e4,List.length_set]
 have at_:∀ q,gs a.sl (plc a.sl q)=if plc s.sl p=plc s.sl q then ⟨p+s.sl.length,(gs s.sl (plc s.sl p)).vl⟩ else gs s.sl (plc s.sl q):=fun q=>by
  rw [e3,nR hl,er,mD (yQ hB h0)]
 refine ⟨?_,?_,?_⟩
 ·rw [e1,e2]
  intro q a1 a2
  have:=h.s1 q a1 a2
  rw [at_,if_neg (tF (by omega))]
  exact this
 ·rw [e1,e2,e3,hl,← e3,hlen]
  intro q a1 a2
  rw [at_]
  by_cases e:plc s.sl p=plc s.sl q
  ·rw [if_pos e]
   left
   have:=h.s2 q a1 a2
   rw [← e,h2] at this
   show p+(s.sl.length:Int)=q
   rcases this with k | ⟨k,-⟩ <;> omega
  ·rw [if_neg e]
   rcases h.s2 q a1 a2 with k | ⟨k,j,hj,x,y⟩
   ·exact .inl k
   ·refine .inr ⟨k,j,hj,?_⟩
    have hne:n≠j:=by
     rintro rfl
     refine e ?_
     have:q=p+(s.sl.length:Int):=by omega
     rw [this,Ee hB h0]
    rw [hg,if_neg hne]
    exact ⟨x,y⟩
 ·rw [hlen]
  intro j k hj hk hne x y
  rw [hg] at x y ⊢
  rw [hg]
  by_cases e:n=j
  ·rw [if_pos e] at x;exact absurd x e5
  ·by_cases e' : n=k
   ·rw [if_pos e'] at y;exact absurd y e5
   ·rw [if_neg e] at x ⊢
    rw [if_neg e'] at y ⊢
    exact h.d j k hj hk hne x y
theorem SlI.take {s a:St} (hB:stB s=true) (h:SlI s) (hI:∀ j,j<s.th.length→Hol (gth s.th j)→(gth s.th j).re<s.hd) {n:Nat} (hn:n<s.th.length) (hno:¬ Hol (gth s.th n)) (hlt:s.hd<s.tl)
  (e1:a.hd=s.hd+1) (e2:a.tl=s.tl) (e3:a.sl=s.sl) {t:Th} (e4:a.th=s.th.set n t) (e5:Hol t) (e6:t.re=s.hd):SlI a:=by
 have hw:=wd hB
 have hg:∀ j,gth a.th j=if n=j then t else gth s.th j:=fun j=>by rw [e4,H9 hn]
 have hlen:a.th.length=s.th.length:=by rw [e4,List.length_set]
 refine ⟨?_,?_,?_⟩
 ·rw [e1,e2,e3]
  intro q a1 a2
  exact h.s1 q (by omega) a2
 ·rw [e1,e2,e3,hlen]
  intro q a1 a2
  by_cases hq:q<s.hd+s.sl.length
  ·rcases h.s2 q a1 hq with k | ⟨k,j,hj,x,y⟩
   ·exact .inl k
   ·refine .inr ⟨k,j,hj,?_⟩
    have hne:n≠j:=fun e=>hno (e ▸ x)
    rw [hg,if_neg hne]
    exact ⟨x,y⟩
  ·have e:q=s.hd+s.sl.length:=by omega
   subst e
   refine .inr ⟨?_,n,hn,?_⟩
   ·rw [Ee hB hw.1,h.s1 s.hd (by omega) hlt];omega
   ·rw [hg,if_pos rfl]
    exact ⟨e5,by omega⟩
 ·rw [hlen]
  intro j k hj hk hne x y
  rw [hg] at x y ⊢
  rw [hg]
  by_cases e:n=j
  ·have e' : n≠k:=fun e' => hne (e.symm.trans e')
   rw [if_neg e'] at y ⊢
   rw [if_pos e]
   have:=hI k hk y
   omega
  ·rw [if_neg e] at x ⊢
   by_cases e' : n=k
   ·rw [if_pos e']
    have:=hI j hj x
    omega
   ·rw [if_neg e'] at y ⊢
    exact h.d j k hj hk hne x y
theorem Inv.hol {s:St} (h:Inv s) {j:Nat} (hj:j<s.th.length) (x:Hol (gth s.th j)):0≤(gth s.th j).re∧(gth s.th j).re<s.hd∧(gs s.sl (plc s.sl (gth s.th j).re)).st=(gth s.th j).re:=by
 obtain ⟨a,b⟩:=x
 rcases b with ⟨b,c⟩ | ⟨b,c⟩
 ·exact ((h.t j hj).ss a b).ho c
 ·obtain ⟨h1,h2,h3⟩:=((h.t j hj).rr a b).ho c
  exact ⟨h1,h2,by rw [h3]⟩
section
variable {s:St} {n:Nat} (h:Inv s) (hn:n<s.th.length) (hst:(gth s.th n).st=1) (hk:j6 (gth s.th n).ki=1)
include h hn hst hk
theorem a0e (p:(gth s.th n).pc=0):Inv (sendN s n):=by
 have x:=eF h hn hst hk
 have hb:=aL h.b hn (by omega)
 rw [ja p] at hb ⊢
 have hi:=Af h.b hn
 have hE:aX s.sn n=0:=JB (Ko h.b) (by omega) (fun k=>x.sn.1 k p)
 refine h.sh (a:=s.toSn (Z0 s.sn n)) (t:=pcT (gth s.th n) 1) hn hb rfl (fun j hj hne=>?_) ?_ ?_
 ·refine ⟨?_,.rfl,.rfl,.rfl,Fz,id,fun _ _=>rfl,fun _ _ _=>rfl,rfl,Int.le_refl _,fun _ _ _ _=>rfl,Int.le_refl _,Int.le_refl _⟩
  show (j:Int)∈Z0 s.sn n↔_
  rw [wE hE]
  exact ⟨fun k=>k.elim id (fun k=>absurd k (by omega)),.inl⟩
 ·exact .ofS (by show (gth s.th n).st≠0;omega) hk ⟨x.rc,x.el,⟨fun _=>by simp [pcT],fun _=>(wE hE).2 (.inr rfl)⟩,x.fl,fun k=>absurd (k.symm.trans hst) (by decide),fun _ k=>absurd rfl k,(fun e=>absurd e (by simp [pcT,l8,o9,z8,G5])),(fun e=>absurd e (by simp [pcT,l8,o9,z8,G5])),(fun e=>absurd e (by simp [pcT,l8,o9,z8,G5])),(fun e=>absurd e (by simp [pcT,l8,o9,z8,G5])),(fun e=>absurd e (by simp [pcT,l8,o9,z8,G5]))⟩
 ·exact h.l.keep rfl rfl rfl (Q5 _ _ _) fun j _=>aV (a:=s.toSn (Z0 s.sn n)) (t:=pcT (gth s.th n) 1) hn rfl (.no (F7 (.inr (.inl ⟨hk,by omega⟩))) (F7 (.inr (.inl ⟨hk,by simp [pcT]⟩)))) j
theorem a1t (p:(gth s.th n).pc=1):Inv (Y4 s n):=by
 unfold Y4
 split
 ·next e=>exact kP h hn hst hk (by omega) ((KJ (Ko h.b)).1 e) (.inl rfl)
 ·split
  ·exact gJ h hn hst hk (by omega) (by decide) rfl
  ·exact JE h hn hst hk (.inl p)
theorem ZJ (p:(gth s.th n).pc=2):Inv (cZ s n):=by
 have x:=eF h hn hst hk
 have hh:=x.h1 (by omega) (by omega) (by omega)
 have hw:=wd h.b
 have hg:=l9 h.b hn
 unfold cZ
 split
 ·exact h.ownS hn (iX hg (by omega) (by omega) (by decide)) hst hk (by omega) hst rfl (by simp [l8]) (x.mv hst hst (by omega) (by simp [l8]) (fun _ _=>hh) (fun _=>rfl) (fun e=>absurd e (by simp [pcT,l8,o9,z8,G5])) (fun e=>absurd e (by simp [pcT,l8,o9,z8,G5])) (fun e=>absurd e (by simp [pcT,l8,o9,z8,G5])) (fun e=>absurd e (by simp [pcT,l8,o9,z8,G5])))
 ·split
  ·unfold bD
   repeat' split
   ·exact gJ h hn hst hk (by omega) (by decide) rfl
   ·next e=>exact h.ownS hn (iX hg (by omega) (by omega) (by decide)) hst hk (by omega) hst rfl (by simp [l8]) (x.mv hst hst (by omega) (by simp [l8]) (fun _ _=>hh) (fun e=>absurd e (by simp [pcT,l8,o9,z8,G5])) (fun e=>absurd e (by simp [pcT,l8,o9,z8,G5])) (fun _=>e) (fun e=>absurd e (by simp [pcT,l8,o9,z8,G5])) (fun e=>absurd e (by simp [pcT,l8,o9,z8,G5])))
   ·exact gJ h hn hst hk (by omega) (by decide) rfl
   ·exact gJ h hn hst hk (by omega) (by decide) rfl
   ·exact kP h hn hst hk (by omega) hh (.inr rfl)
   ·exact JE h hn hst hk (.inr p)
  ·exact gJ h hn hst hk (by omega) (nH s) rfl
theorem a0n (p:(gth s.th n).pc=3):Inv (if wrE s.sl (gth s.th n).re=0 then (s.toSl (wrL s.sl (gth s.th n).re (gth s.th n).va)).onTh n (pcT · 4) else s):=by
 have x:=eF h hn hst hk
 have hh:=x.h1 (by omega) (by omega) (by omega)
 have hw:=wd h.b
 have hb:=aL h.b hn (by omega)
 rw [dR p] at hb
 split
 ·next hE =>
  rw [if_pos hE] at hb
  have hr:(gth s.th n).re=s.tl:=x.re (.inl p)
  rw [hr] at hb hE ⊢
  have hy:dz s.sl s.tl=true:=by
   rcases Yw s.sl s.tl (gth s.th n).va with ⟨-,a,-⟩ | ⟨a,-⟩ | ⟨a,-⟩
   ·exact a
   ·omega
   ·omega
  have hy2:=(dZ hy).2
  have hW:wrL s.sl s.tl (gth s.th n).va=s.sl.set (plc s.sl s.tl) ⟨s.tl,(gth s.th n).va⟩:=by unfold wrL;rw [if_pos hy]
  have hl:=Da s.sl s.tl (gth s.th n).va
  have at_:∀ q,gs (wrL s.sl s.tl (gth s.th n).va) (plc (wrL s.sl s.tl (gth s.th n).va) q)=if plc s.sl s.tl=plc s.sl q then ⟨s.tl,(gth s.th n).va⟩ else gs s.sl (plc s.sl q):=fun q=>by
   rw [nR hl,hW,mD (yQ h.b (by omega))]
  refine h.sh (a:=s.toSl (wrL s.sl s.tl (gth s.th n).va)) (t:=pcT (gth s.th n) 4) hn hb rfl (fun j hj hne=>?_) ?_ ?_
  ·refine ⟨.rfl,.rfl,.rfl,.rfl,id,id,fun _ _=>rfl,fun k=>?_,rfl,Int.le_refl _,fun _ _ b c=>?_,Int.le_refl _,Int.le_refl _⟩
   ·have:=iq hh k;omega
   ·show gs (wrL s.sl s.tl (gth s.th n).va) (plc (wrL s.sl s.tl (gth s.th n).va) _)=_
    rw [at_,if_neg (tF (by omega))]
  ·refine .ofS (by show (gth s.th n).st≠0;omega) hk ⟨x.rc,x.el,⟨fun _=>by simp [pcT],fun _=>x.sn.2 (by omega)⟩,x.fl,fun k=>absurd (k.symm.trans hst) (by decide),fun _ _ _=>hh,fun _=>hr,fun _=>?_,(fun e=>absurd e (by simp [pcT,l8,o9,z8,G5])),(fun e=>absurd e (by simp [pcT,l8,o9,z8,G5])),(fun e=>absurd e (by simp [pcT,l8,o9,z8,G5]))⟩
   show gs (wrL s.sl s.tl (gth s.th n).va) (plc (wrL s.sl s.tl (gth s.th n).va) s.tl)=_
   rw [at_,if_pos rfl];rfl
  ·exact h.l.keep rfl rfl (Hm _ _ _) (Q5 _ _ _) fun j _=>aV (a:=s.toSl (wrL s.sl s.tl (gth s.th n).va)) (t:=pcT (gth s.th n) 4) hn rfl (.no (F7 (.inr (.inl ⟨hk,by omega⟩))) (F7 (.inr (.inl ⟨hk,by simp [pcT]⟩)))) j
 ·exact h
theorem a1k (p:(gth s.th n).pc=4):Inv (Q6 s n):=by
 have x:=eF h hn hst hk
 have hh:=x.h1 (by omega) (by omega) (by omega)
 have hw:=wd h.b
 have hg:=l9 h.b hn
 unfold Q6
 split
 ·next e =>
  have hs:s.md=0∧s.tl - s.hd<s.sl.length∧s.tl<1099511627776:=by rcases kT h.b with k | k | k | k <;> omega
  have hb:stB (s.toWord s.hd (s.tl+1) s.md)=true:=M6 h.b (I7.2 (by omega))
  have hn' : n<(s.toWord s.hd (s.tl+1) s.md).th.length:=hn
  rw [cK hb hn']
  refine Inv.lg ?_ _
  have et:=gY (gth s.th n) (gth s.th n).ki 1 0
  have h1:thB (pcT (F3 (gth s.th n) (gth s.th n).ki 1 0) 6)=true:=D9 (jW hg (by decide)) (by rw [et.1];omega) (by decide)
  refine h.sh (a:=s.toWord s.hd (s.tl+1) s.md) (t:=pcT (F3 (gth s.th n) (gth s.th n).ki 1 0) 6) hn (kR hb h1) rfl (fun j hj hne=>?_) ?_ ?_
  ·refine ⟨.rfl,.rfl,.rfl,.rfl,id,id,fun k=>?_,fun _ _ _=>rfl,rfl,Int.le_refl _,fun _ _ _ _=>rfl,Int.le_refl _,Int.le_refl _⟩
   have:=iq hh k;omega
  ·exact .ofS (by show (F3 (gth s.th n) (gth s.th n).ki 1 0).st≠0;rw [et.1];omega) (by show j6 (F3 (gth s.th n) (gth s.th n).ki 1 0).ki=1;rw [et.2.1];exact hk)
    ⟨x.rc,x.el,⟨fun _=>by simp [pcT],fun _=>x.sn.2 (by omega)⟩,⟨fun k=>by have:=x.fl.1 k;omega,fun (k:(F3 (gth s.th n) (gth s.th n).ki 1 0).st=2)=>by rw [et.1] at k;omega⟩,fun (k:(F3 (gth s.th n) (gth s.th n).ki 1 0).st=2)=>by rw [et.1] at k;omega,fun _ _ _=>hh,(fun e=>absurd e (by simp [pcT,l8,o9,z8,G5])),(fun e=>absurd e (by simp [pcT,l8,o9,z8,G5])),(fun e=>absurd e (by simp [pcT,l8,o9,z8,G5])),(fun e=>absurd e (by simp [pcT,l8,o9,z8,G5])),(fun e=>absurd e (by simp [pcT,l8,o9,z8,G5]))⟩
  ·have hE:=aV (s:=s) (a:=s.toWord s.hd (s.tl+1) s.md) (t:=pcT (F3 (gth s.th n) (gth s.th n).ki 1 0) 6) hn rfl (.no (F7 (.inr (.inl ⟨hk,by omega⟩))) (F7 (.inr (.inl ⟨by show j6 (F3 (gth s.th n) (gth s.th n).ki 1 0).ki=1;rw [et.2.1];exact hk,by simp [pcT]⟩))))
   refine ⟨fun q a b=>?_,fun q a b=>?_,fun j k hj hk' hne y z=>?_⟩
   ·by_cases e:q=s.tl
    ·subst e;show (gs s.sl (plc s.sl s.tl)).st=s.tl;rw [x.wr p]
    ·exact h.l.s1 q a (by have:q<s.tl+1:=b;omega)
   ·rcases h.l.s2 q (by have:s.tl+1≤q:=a;omega) b with k | ⟨k,j,hj,y,z⟩
    ·exact .inl k
    ·exact .inr ⟨k,j,by rw [Q5];exact hj,(hE j).1.2 y,((hE j).2 y).trans z⟩
   ·rw [Q5] at hj hk'
    have y' := (hE j).1.1 y
    have z' := (hE k).1.1 z
    rw [(hE j).2 y',(hE k).2 z']
    exact h.l.d j k hj hk' hne y' z'
 ·split
  ·exact kP h hn hst hk (by omega) hh (.inl rfl)
  ·exact gJ h hn hst hk (by omega) (nH s) rfl
theorem ZV (p:(gth s.th n).pc=5):Inv (s.onTh n (o9 · s.fe 7)):=by
 have x:=eF h hn hst hk
 have hh:=x.h1 (by omega) (by omega) (by omega)
 obtain ⟨-,-,-,-,e,-⟩:=l6 h.b
 have he:=O7.1 e
 exact h.ownS hn (jJ (l9 h.b hn) (by omega) (by omega) (by decide)) hst hk (by omega) hst rfl (by simp [o9]) (x.mv hst hst (by omega) (by simp [o9]) (fun _ _=>hh) (fun e=>absurd e (by simp [pcT,l8,o9,z8,G5])) (fun e=>absurd e (by simp [pcT,l8,o9,z8,G5])) (fun e=>absurd e (by simp [pcT,l8,o9,z8,G5])) (fun e=>absurd e (by simp [pcT,l8,o9,z8,G5])) (fun _=>Int.le_refl _))
theorem ZR (p:(gth s.th n).pc=7):Inv (if F8 s=2∧(gth s.th n).la=false then s.onTh n (pcT · 8) else s.onTh n (pcT · 2)):=by
 have x:=eF h hn hst hk
 have hh:=x.h1 (by omega) (by omega) (by omega)
 split
 ·exact h.ownS hn (D9 (l9 h.b hn) (by omega) (by decide)) hst hk (by omega) hst rfl (by simp [pcT]) (x.mv hst hst (by omega) (by simp [pcT]) (fun _ _=>hh) (fun e=>absurd e (by simp [pcT,l8,o9,z8,G5])) (fun e=>absurd e (by simp [pcT,l8,o9,z8,G5])) (fun e=>absurd e (by simp [pcT,l8,o9,z8,G5])) (fun e=>absurd e (by simp [pcT,l8,o9,z8,G5])) (fun _=>x.se (.inl p)))
 ·exact kP h hn hst hk (by omega) hh (.inl rfl)
theorem ZO (p:(gth s.th n).pc=8):Inv (Q8 s n):=by
 have x:=eF h hn hst hk
 have hh:=x.h1 (by omega) (by omega) (by omega)
 have hb:=uP h.b hn (by omega)
 unfold Q8 at hb ⊢
 split
 ·exact kP h hn hst hk (by omega) hh (.inl rfl)
 ·next hl =>
  split
  ·next hc =>
   rw [if_neg hl,if_pos hc] at hb
   refine h.sh (a:=s.toFull s.fe (s.fl++[(n:Int)])) (t:=z8 (gth s.th n) 2) hn hb rfl (fun j hj hne=>?_) ?_ ?_
   ·refine ⟨.rfl,.rfl,?_,.rfl,id,id,fun _ _=>rfl,fun _ _ _=>rfl,rfl,Int.le_refl _,fun _ _ _ _=>rfl,Int.le_refl _,Int.le_refl _⟩
    show (j:Int)∈s.fl++[(n:Int)]↔_
    rw [List.mem_append,List.mem_singleton]
    exact ⟨fun k=>k.elim id (fun k=>absurd k (by omega)),.inl⟩
   ·exact .ofS (by simp [z8]) hk ⟨x.rc,x.el,⟨fun _=>by simp [z8],fun _=>x.sn.2 (by omega)⟩,⟨fun _=>rfl,fun _=>by simp [St.toFull]⟩,fun _=>⟨rfl,by simpa [z8] using hl⟩,fun _ _ _=>hh,(fun e=>absurd e (by simp [pcT,l8,o9,z8,G5])),(fun e=>absurd e (by simp [pcT,l8,o9,z8,G5])),(fun e=>absurd e (by simp [pcT,l8,o9,z8,G5])),(fun e=>absurd e (by simp [pcT,l8,o9,z8,G5])),(fun e=>absurd e (by simp [pcT,l8,o9,z8,G5]))⟩
   ·exact h.l.keep rfl rfl rfl (Q5 _ _ _) fun j _=>aV (a:=s.toFull s.fe (s.fl++[(n:Int)])) (t:=z8 (gth s.th n) 2) hn rfl (.no (F7 (.inr (.inl ⟨hk,by omega⟩))) (F7 (.inr (.inl ⟨hk,by simp [z8]⟩)))) j
  ·exact kP h hn hst hk (by omega) hh (.inl rfl)
theorem ZG (p:(gth s.th n).pc=9):Inv ((s.toSn (lvL s.sn n)).onTh n E9):=by
 have x:=eF h hn hst hk
 have hb:=aL h.b hn (by omega)
 rw [fZ p] at hb
 refine h.sh (a:=s.toSn (lvL s.sn n)) (t:=E9 (gth s.th n)) hn hb rfl (fun j hj hne=>?_) ?_ ?_
 ·refine ⟨?_,.rfl,.rfl,.rfl,fun k=>JM k (by omega),id,fun _ _=>rfl,fun _ _ _=>rfl,rfl,Int.le_refl _,fun _ _ _ _=>rfl,Int.le_refl _,Int.le_refl _⟩
  show (j:Int)∈lvL s.sn n↔_
  rw [tZ (Ko h.b)]
  exact ⟨fun k=>k.1,fun k=>⟨k,by omega⟩⟩
 ·exact .ofO rfl ⟨fun k=>((tZ (Ko h.b)).1 k).2 rfl,x.rc,fun k=>by have:=x.fl.1 k;omega,x.el⟩
 ·exact h.l.keep rfl rfl rfl (Q5 _ _ _) fun j _=>aV (a:=s.toSn (lvL s.sn n)) (t:=E9 (gth s.th n)) hn rfl (.no (F7 (.inr (.inl ⟨hk,by omega⟩))) (F7 (.inl rfl))) j
theorem Vp (p:(gth s.th n).pc=10):Inv (Y6 s n):=by
 have x:=eF h hn hst hk
 have hh:=x.h1 (by omega) (by omega) (by omega)
 have hw:=wd h.b
 have hg:=l9 h.b hn
 unfold Y6
 split
 ·next e =>
  simp only [dA,Bool.and_eq_true,beq_iff_eq] at e
  obtain ⟨⟨⟨⟨e1,e2⟩,e3⟩,-⟩,e5⟩:=e
  rw [lM e3,decide_eq_true_eq] at e5
  have hb:stB (s.toWord (s.hd+1) s.tl s.md)=true:=M6 h.b (I7.2 (by omega))
  have hn' : n<(s.toWord (s.hd+1) s.tl s.md).th.length:=hn
  rw [cK hb hn']
  refine Inv.lg ?_ _
  have h1:thB (pcT (gth s.th n) 11)=true:=D9 hg (by omega) (by decide)
  refine h.sh (a:=s.toWord (s.hd+1) s.tl s.md) (t:=pcT (gth s.th n) 11) hn (kR hb h1) rfl (fun j hj hne=>?_) ?_ ?_
  ·exact ⟨.rfl,.rfl,.rfl,.rfl,id,id,fun _ _=>rfl,fun _ _ _=>rfl,rfl,by show s.hd≤s.hd+1;omega,fun _ _ _ _=>rfl,Int.le_refl _,Int.le_refl _⟩
  ·refine .ofS (by show (gth s.th n).st≠0;omega) hk ⟨x.rc,x.el,⟨fun _=>by simp [pcT],fun _=>x.sn.2 (by omega)⟩,x.fl,fun k=>absurd (k.symm.trans hst) (by decide),fun _ _ _=>hh,(fun e=>absurd e (by simp [pcT,l8,o9,z8,G5])),(fun e=>absurd e (by simp [pcT,l8,o9,z8,G5])),fun _=>x.ev (.inl p),fun _=>?_,(fun e=>absurd e (by simp [pcT,l8,o9,z8,G5]))⟩
   show 0≤(gth s.th n).re∧(gth s.th n).re<s.hd+1∧(gs s.sl (plc s.sl (gth s.th n).re)).st=(gth s.th n).re
   rw [← e1]
   exact ⟨by omega,by omega,h.l.s1 _ (Int.le_refl _) e5⟩
  ·exact h.l.take h.b (fun j hj y=>(h.hol hj y).2.1) hn (F7 (.inr (.inl ⟨hk,by omega⟩))) e5 rfl rfl rfl rfl (t:=pcT (gth s.th n) 11) ⟨by show (gth s.th n).st≠0;omega,.inl ⟨hk,rfl⟩⟩ e1.symm
 ·exact kP h hn hst hk (by omega) hh (.inl rfl)
theorem XY (p:(gth s.th n).pc=11):Inv ((s.toSl (rlL s.sl (gth s.th n).re)).onTh n (pcT · 2)):=by
 have x:=eF h hn hst hk
 have hh:=x.h1 (by omega) (by omega) (by omega)
 have hb:=aL h.b hn (by omega)
 rw [aU p] at hb
 have hH:Hol (gth s.th n):=⟨by omega,.inl ⟨hk,p⟩⟩
 obtain ⟨h0,h1,h2⟩:=x.ho p
 obtain ⟨er,-⟩:=Lj h.b h0 h1 h2
 have hl:=ig s.sl (gth s.th n).re
 refine h.sh (a:=s.toSl (rlL s.sl (gth s.th n).re)) (t:=pcT (gth s.th n) 2) hn hb rfl (fun j hj hne=>?_) ?_ ?_
 ·refine ⟨.rfl,.rfl,.rfl,.rfl,id,id,fun _ _=>rfl,fun k=>?_,rfl,Int.le_refl _,fun y a b c=>?_,Int.le_refl _,Int.le_refl _⟩
  ·have:=iq hh k;omega
  ·show gs (rlL s.sl (gth s.th n).re) (plc (rlL s.sl (gth s.th n).re) _)=_
   have hd:=h.l.d n j hn hj (Ne.symm hne) hH y
   rw [nR hl,er,mD (yQ h.b h0),if_neg (tF (by omega))]
 ·exact .ofS (by show (gth s.th n).st≠0;omega) hk ⟨x.rc,x.el,⟨fun _=>by simp [pcT],fun _=>x.sn.2 (by omega)⟩,x.fl,fun k=>absurd (k.symm.trans hst) (by decide),fun _ _ _=>hh,(fun e=>absurd e (by simp [pcT,l8,o9,z8,G5])),(fun e=>absurd e (by simp [pcT,l8,o9,z8,G5])),(fun e=>absurd e (by simp [pcT,l8,o9,z8,G5])),(fun e=>absurd e (by simp [pcT,l8,o9,z8,G5])),(fun e=>absurd e (by simp [pcT,l8,o9,z8,G5]))⟩
 ·exact h.l.rel h.b hn hH rfl h0 h1 h2 rfl rfl rfl rfl (t:=pcT (gth s.th n) 2) (F7 (.inr (.inl ⟨hk,by simp [pcT]⟩)))
end
end
end Go.Proofs.YtfogkllejkmpdaaGreat
