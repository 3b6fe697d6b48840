/- Texts merged: SdKT, StepFT, StepLT, DueFT, TickFT, TickPT, CallFT, TickDT, TkDT, TkET, TkGT, CaRT, CaCT, CaST. -/
import Derived.Test.YtbckpadeamlidaaGreatZe11
import Derived.Test.YtbckpadeamlidaaGreatZe10
import Derived.Test.YtbckpadeamlidaaGreatZe4
import Derived.Test.YtbckpadeamlidaaGreatZe9
import Derived.Test.YtbckpadeamlidaaGreatZe6
namespace Go.Proofs.YtbckpadeamlidaaGreat
set_option linter.unusedVariables false
set_option linter.unusedSimpArgs false
set_option maxRecDepth 100000
section
open Go.ChangeShapes Go.WideShapes Go.ChangeAt Go.RowKit
theorem ask_u8 (v:Int) (h0:0≤v) (h1:v≤255) (x:Operand):AskP Tryz.prog (.convert 5 3 x) [.int .u8 v] (.int .i64 v):=by
 intro W o f ho hm
 have h:f x = .int .u8 v:=by simpa [ho,Op.operands] using hm
 have hu:=Tryz.underlying3
 have hw:IntKind.i64.wrap v=v:=wrap_in ⟨by omega,by omega⟩
 have hv:=Tryz.underlying5
 simp [execOp,ho,h,convert,run_underlying hu,run_underlying hv,Conv.intToInt,hw]
theorem sendS_all {s:St} (hB:stB s=true) (ho:s.ok) (hl:s.lg.length≤900000) (i:Int):(sendS s i).ok∧(sendS s i).lg.length≤s.lg.length+1:=by
 cases hr:runsB s i 1
 ·have:sendS s i=s:=by simp [sendS,hr]
  rw [this];exact ⟨ho,by omega⟩
 ·obtain ⟨h1,h2,h3⟩:=runs_iff.1 hr
  obtain ⟨-,hi0,hi1⟩:=has_iff.1 h1
  obtain ⟨n,rfl⟩:∃ n:Nat,i=n:=⟨i.toNat,by omega⟩
  have hn:n<s.th.length:=by omega
  rw [Int.toNat_natCast] at h2
  rw [sendS_is hr]
  have hg:=sendN_lg hB hn
  exact ⟨ok_of (sendN_stB hB hn (by omega)) (sendN_vk (.of ho) hB hn (by omega)) (by omega),hg⟩
end
section
def pickE (s:St) (i:Int):Int:=if stB s=false then 20 else if i<0∨(s.th.length:Int)≤i then 123 else thRuns (gth s.th i.toNat).st
def St.toLg (s:St) (l:List En):St:=⟨s.cf,s.hd,s.tl,s.md,s.sl,s.sn,s.rc,s.fe,s.fl,s.ee,s.el,s.nw,s.th,l⟩
def stepD (s:St) (i:Int):St:=if opSide (gth s.th i.toNat).ki=1 then sendS s i else if opSide (gth s.th i.toNat).ki=2 then recvS s i else closeS s i
def stepS (s:St) (i:Int):St:=(stepD (s.toLg []) i).toLg (s.lg++(stepD (s.toLg []) i).lg)
def pickS (s:St) (i:Int):St:=if pickE s i=0 then stepS s i else s
theorem st_of {s:St} (h:stB s=true) {n:Nat} (hn:n<s.th.length):((gth s.th n).st=0∨(gth s.th n).st=1∨(gth s.th n).st=2):=by
 have h3:=gth_ok h hn
 generalize gth s.th n=t at h3
 obtain ⟨st,ki,va,un,pc,re,se,tr,la,rs,go⟩:=t
 rw [thB_iff] at h3
 simp only
 omega
theorem pick_iff {s:St} {i:Int}:pickE s i=0↔∃ n:Nat,i=n∧stB s=true∧n<s.th.length∧(gth s.th n).st=1:=by
 unfold pickE
 constructor
 ·intro h
  split at h
  ·cases h
  ·next hB =>
   have hB' : stB s=true:=by simpa using hB
   split at h
   ·cases h
   ·obtain ⟨n,rfl⟩:∃ n:Nat,i=n:=⟨i.toNat,by omega⟩
    have hn:n<s.th.length:=by omega
    rw [Int.toNat_natCast] at h
    have h1:=runs_not h
    have:=st_of hB' hn
    exact ⟨n,rfl,hB',hn,by omega⟩
 ·rintro ⟨n,rfl,hB,hn,h1⟩
  rw [if_neg (by simp [hB]),if_neg (by omega),Int.toNat_natCast,h1]
  rfl
theorem pick_no {s:St} {i:Int} (h:pickE s i≠0):pickS s i=s:=if_neg h
theorem pick_yes {s:St} {i:Int} (h:pickE s i=0):pickS s i=stepS s i:=if_pos h
theorem stepD_stB (s:St) (i:Int):stB (stepD s i)=stB s:=by
 unfold stepD;split
 ·exact sendS_stB s i
 ·split
  ·exact recvS_stB s i
  ·exact closeS_stB s i
theorem step_stB (s:St) (i:Int):stB (stepS s i)=stB s:=(show stB (stepS s i)=stB (stepD (s.toLg []) i) from rfl).trans ((stepD_stB _ i).trans rfl)
theorem pick_stB (s:St) (i:Int):stB (pickS s i)=stB s:=by
 unfold pickS;split
 ·exact step_stB s i
 ·rfl
theorem stepD_things (s:St) (i:Int):thingsN s (stepD s i)≤1:=by
 unfold stepD;split
 ·exact sendS_things s i
 ·split
  ·exact recvS_things s i
  ·exact closeS_things s i
theorem step_things (s:St) (i:Int):thingsN s (stepS s i)≤1:=by
 have h:=stepD_things (s.toLg []) i
 unfold stepS
 generalize stepD (s.toLg []) i=u at h ⊢
 have e:thingsN (s.toLg []) u=thingsN s (u.toLg (s.lg++u.lg)):=rfl
 omega
theorem pick_things (s:St) (i:Int):thingsN s (pickS s i)≤1:=by
 unfold pickS;split
 ·exact step_things s i
 ·rw [things_self];omega
theorem stepD_cf (s:St) (i:Int):(stepD s i).cf=s.cf∧(stepD s i).nw=s.nw:=by
 unfold stepD;split
 ·exact (sendS_lgOk s i).2
 ·split
  ·exact (recvS_lgOk s i).2
  ·exact (closeS_lgOk s i).2
theorem pick_cf (s:St) (i:Int):(pickS s i).cf=s.cf∧(pickS s i).nw=s.nw:=by
 unfold pickS;split
 ·exact stepD_cf (s.toLg []) i
 ·exact ⟨rfl,rfl⟩
theorem pick_sl {s:St} (h:stB s=true) (i:Int):(pickS s i).sl.length=s.sl.length:=by
 have a:=(word_ok h).2.2
 have b:=(word_ok ((pick_stB s i).trans h)).2.2
 rw [(pick_cf s i).1] at b
 omega
theorem OthM.of {l m:List Th} {i:Int} (h:Oth l m i):OthM l m i:=⟨h.len,fun j hj hne=>by
 obtain ⟨w,hw⟩:=h.one
 rcases hw j hj hne with e | ⟨-,e⟩
 ·exact .inl e
 ·exact .inr e⟩
theorem stepD_wk {s:St} {N:Nat} (h:Wk s N) (hN:N≤900000) (i:Int):Wk (stepD s i) (N+1):=by
 have ho:=h.ok (by omega)
 have hl:=h.l
 unfold stepD;split
 ·obtain ⟨a,b⟩:=sendS_all h.b ho (by omega) i
  exact ⟨(sendS_stB s i).trans h.b,.of a,by omega⟩
 ·split
  ·obtain ⟨a,b⟩:=recvS_all h.b ho (by omega) i
   exact ⟨(recvS_stB s i).trans h.b,.of a,by omega⟩
  ·exact closeS_wk h i
theorem wk_lg {s:St} {N:Nat} (h:Wk s N):Wk (s.toLg []) 0:=⟨h.b,⟨h.v.cf,h.v.sl,h.v.th⟩,by show (0:Nat)≤0;omega⟩
theorem step_wk {s:St} {N:Nat} (h:Wk s N) (i:Int):Wk (stepS s i) (N+1):=by
 have w:=stepD_wk (wk_lg h) (by omega) i
 have:=w.l
 have:=h.l
 exact ⟨w.b,⟨w.v.cf,w.v.sl,w.v.th⟩,by show (s.lg++(stepD (s.toLg []) i).lg).length≤N+1;rw [List.length_append];omega⟩
theorem pick_wk {s:St} {N:Nat} (h:Wk s N) (i:Int):Wk (pickS s i) (N+1):=by
 unfold pickS;split
 ·exact step_wk h i
 ·exact ⟨h.b,h.v,by have:=h.l;omega⟩
end
section
def LF (l:List En) (a b:St):Prop:=a=b.toLg (l++b.lg)
section
variable {l:List En} {a b a' b' : St}
theorem lf_of (s:St):LF s.lg s (s.toLg []):=by
 show s=(s.toLg []).toLg (s.lg++[])
 rw [List.append_nil];rfl
theorem lf_ite {c c' : Prop} [Decidable c] [Decidable c'] (h:c' = c) (h1:LF l a b) (h2:LF l a' b'):LF l (if c' then a else a') (if c then b else b'):=by
 subst h
 by_cases hc:c'
 ·rw [if_pos hc,if_pos hc];exact h1
 ·rw [if_neg hc,if_neg hc];exact h2
theorem LF.on (h:LF l a b) (n:Nat) (f:Th→Th):LF l (a.onTh n f) (b.onTh n f):=by obtain rfl:=h;rfl
theorem LF.word (h:LF l a b) (x y z:Int):LF l (a.toWord x y z) (b.toWord x y z):=by obtain rfl:=h;rfl
theorem LF.sl (h:LF l a b) (x:List Slo):LF l (a.toSl x) (b.toSl x):=by obtain rfl:=h;rfl
theorem LF.sn (h:LF l a b) (x:List Int):LF l (a.toSn x) (b.toSn x):=by obtain rfl:=h;rfl
theorem LF.rc (h:LF l a b) (x:List Int):LF l (a.toRc x) (b.toRc x):=by obtain rfl:=h;rfl
theorem LF.full (h:LF l a b) (e:Int) (x:List Int):LF l (a.toFull e x) (b.toFull e x):=by obtain rfl:=h;rfl
theorem LF.empty (h:LF l a b) (e:Int) (x:List Int):LF l (a.toEmpty e x) (b.toEmpty e x):=by obtain rfl:=h;rfl
theorem LF.wake (h:LF l a b) (i:Int):LF l (wakeS a i) (wakeS b i):=by
 obtain rfl:=h
 exact lf_ite rfl (LF.on (show LF l (b.toLg (l++b.lg)) b from rfl) _ _) rfl
theorem LF.wakes:∀ (k:List Int) {a b:St},LF l a b→LF l (wakesS k a) (wakesS k b)
 | [],_,_,h=>h
 | i::k,_,_,h=>LF.wakes k (h.wake i)
theorem LF.told (h:LF l a b) (n:Nat) (k r g p:Int):LF l (toldS a n k r g p) (toldS b n k r g p):=by
 obtain rfl:=h
 refine LF.on ?_ n _
 refine lf_ite rfl ?_ rfl
 show St.mk _ _ _ _ _ _ _ _ _ _ _ _ _ _=St.mk _ _ _ _ _ _ _ _ _ _ _ _ _ _
 rw [St.mk.injEq]
 exact ⟨rfl,rfl,rfl,rfl,rfl,rfl,rfl,rfl,rfl,rfl,rfl,rfl,rfl,List.append_assoc _ _ _⟩
end
section
variable {l:List En} {a b:St}
theorem LF.first (h:LF l a b) (n:Nat):LF l (firstS a n) (firstS b n):=by
 have k:=h
 obtain rfl:=h
 exact lf_ite rfl (k.on n _) (lf_ite rfl (k.told n _ _ _ _) (k.on n _))
theorem LF.fulS (h:LF l a b) (n:Nat):LF l (fullS a n) (fullS b n):=by
 have k:=h
 obtain rfl:=h
 exact lf_ite rfl (k.told n _ _ _ _) (lf_ite rfl (k.on n _) (lf_ite rfl (k.told n _ _ _ _) (lf_ite rfl (k.told n _ _ _ _) (lf_ite rfl (k.on n _) (k.on n _)))))
theorem LF.look (h:LF l a b) (n:Nat):LF l (lookS a n) (lookS b n):=by
 have k:=h
 obtain rfl:=h
 exact lf_ite rfl (k.on n _) (lf_ite rfl (k.fulS n) (k.told n _ _ _ _))
theorem LF.accept (h:LF l a b) (n:Nat):LF l (acceptS a n) (acceptS b n):=by
 have k:=h
 obtain rfl:=h
 exact lf_ite rfl ((k.word _ _ _).told n _ _ _ _) (lf_ite rfl (k.on n _) (k.told n _ _ _ _))
theorem LF.notify (h:LF l a b) (n:Nat):LF l (notifyS a n) (notifyS b n):=by
 have k:=h
 obtain rfl:=h
 exact lf_ite rfl (((k.empty _ _).on n _).wake _) ((k.empty _ _).on n _)
theorem LF.commit (h:LF l a b) (n:Nat):LF l (commitS a n) (commitS b n):=by
 have k:=h
 obtain rfl:=h
 exact lf_ite rfl (k.on n _) (lf_ite rfl ((k.full _ _).on n _) (k.on n _))
theorem LF.evict (h:LF l a b) (n:Nat):LF l (evictS a n) (evictS b n):=by
 have k:=h
 obtain rfl:=h
 exact lf_ite rfl ((k.word _ _ _).told n _ _ _ _) (k.on n _)
theorem LF.sendN (h:LF l a b) (n:Nat):LF l (sendN a n) (sendN b n):=by
 have k:=h
 obtain rfl:=h
 exact lf_ite rfl ((k.sn _).on n _) (lf_ite rfl (k.first n) (lf_ite rfl (k.look n) (lf_ite rfl (lf_ite rfl ((k.sl _).on n _) k) (lf_ite rfl (k.accept n) (lf_ite rfl (k.on n _) (lf_ite rfl (k.notify n) (lf_ite rfl (lf_ite rfl (k.on n _) (k.on n _)) (lf_ite rfl (k.commit n) (lf_ite rfl ((k.sn _).on n _) (lf_ite rfl (k.evict n) ((k.sl _).on n _)))))))))))
theorem LF.firstR (h:LF l a b) (n:Nat):LF l (firstR a n) (firstR b n):=by
 have k:=h
 obtain rfl:=h
 exact lf_ite rfl (k.on n _) (lf_ite rfl (k.told n _ _ _ _) (k.on n _))
theorem LF.lookR (h:LF l a b) (n:Nat):LF l (lookR a n) (lookR b n):=by
 have k:=h
 obtain rfl:=h
 exact lf_ite rfl (k.on n _) (lf_ite rfl (k.told n _ _ _ _) (lf_ite rfl (k.told n _ _ _ _) (lf_ite rfl (k.told n _ _ _ _) (lf_ite rfl (k.on n _) (k.on n _)))))
theorem LF.takeR (h:LF l a b) (n:Nat):LF l (takeR a n) (takeR b n):=by
 have k:=h
 obtain rfl:=h
 exact lf_ite rfl (k.on n _) (lf_ite rfl (k.told n _ _ _ _) (((k.word _ _ _).on n _).told n _ _ _ _))
theorem LF.readR (h:LF l a b) (n:Nat):LF l (readR a n) (readR b n):=by
 have k:=h
 obtain rfl:=h
 exact (k.sl _).on n _
theorem LF.notifyR (h:LF l a b) (n:Nat):LF l (notifyR a n) (notifyR b n):=by
 have k:=h
 obtain rfl:=h
 exact lf_ite rfl (((k.full _ _).on n _).wake _) ((k.full _ _).on n _)
theorem LF.commitR (h:LF l a b) (n:Nat):LF l (commitR a n) (commitR b n):=by
 have k:=h
 obtain rfl:=h
 exact lf_ite rfl (k.on n _) (lf_ite rfl ((k.empty _ _).on n _) (k.on n _))
theorem LF.recvN (h:LF l a b) (n:Nat):LF l (recvN a n) (recvN b n):=by
 have k:=h
 obtain rfl:=h
 exact lf_ite rfl ((k.rc _).on n _) (lf_ite rfl (k.firstR n) (lf_ite rfl (k.lookR n) (lf_ite rfl (k.takeR n) (lf_ite rfl (k.readR n) (lf_ite rfl (k.on n _) (lf_ite rfl (k.notifyR n) (lf_ite rfl (lf_ite rfl (k.on n _) (k.on n _)) (lf_ite rfl (k.commitR n) ((k.rc _).on n _)))))))))
theorem LF.closeN (h:LF l a b) (n:Nat):LF l (closeN a n) (closeN b n):=by
 have k:=h
 obtain rfl:=h
 exact lf_ite rfl ((k.word _ _ _).told n _ _ _ _) (lf_ite rfl (((k.full _ _).on n _).wakes _) (((k.empty _ _).on n _).wakes _))
theorem LF.stepD (h:LF l a b) (i:Int):LF l (stepD a i) (stepD b i):=by
 have k:=h
 obtain rfl:=h
 exact lf_ite rfl (lf_ite rfl (k.sendN _) k) (lf_ite rfl (lf_ite rfl (k.recvN _) k) (lf_ite rfl (k.closeN _) k))
end
theorem stepS_is (s:St) (i:Int):stepS s i=stepD s i:=((lf_of s).stepD i).symm
end
section
structure Du where
 tm:Int
 id:Int
def Du.cells (d:Du):List Value:=[.int .i64 d.tm,.int .i64 d.id]
theorem Du.enc:Enc 2 Du.cells:=⟨fun _=>rfl,fun x c hc=>by simp [Du.cells] at hc;rcases hc with rfl | rfl <;> rfl⟩
def dahB (a b:Du):Bool:=decide (a.tm<b.tm)||(a.tm==b.tm&&decide (a.id<b.id))
def inTB (d:Du):Bool:=decide (0≤d.tm)&&decide (d.tm≤1099511627776)
def ofTB (d:Du):Bool:=decide (0≤d.id)&&decide (d.id<16)
theorem inT_iff {d:Du}:inTB d=true↔0≤d.tm∧d.tm≤1099511627776:=by simp [inTB]
theorem ahead_iff {a b:Du}:dahB a b=true↔a.tm<b.tm∨(a.tm=b.tm∧a.id<b.id):=by simp [dahB]
theorem nahead_iff {a b:Du}:dahB a b=false↔¬ (a.tm<b.tm∨(a.tm=b.tm∧a.id<b.id)):=by
 rw [← ahead_iff];simp
theorem ahead_trans {a b c:Du} (h:dahB a b=true) (k:dahB b c=true):dahB a c=true:=by rw [ahead_iff] at *;omega
theorem ahead_asymm {a b:Du} (h:dahB a b=true):dahB b a=false:=by rw [ahead_iff] at h;rw [nahead_iff];omega
theorem nahead_trans {a b c:Du} (h:dahB a b=false) (k:dahB b c=false):dahB a c=false:=by rw [nahead_iff] at *;omega
theorem ahead_irrefl (a:Du):dahB a a=false:=by rw [nahead_iff];omega
theorem nahead_of {a b c:Du} (h:dahB a c=false) (k:dahB b c=true):dahB a b=false:=by rw [nahead_iff] at *;rw [ahead_iff] at k;omega
theorem ahead_total {a b:Du} (h:a.id≠b.id) (k:dahB a b=false):dahB b a=true:=by rw [nahead_iff] at k;rw [ahead_iff];omega
abbrev Sorted (l:List Du):Prop:=l.Pairwise (fun a b=>dahB a b=true)
abbrev Apart (l:List Du):Prop:=l.Pairwise (fun a b=>a.id≠b.id)
def okB (l:List Du):Bool:=l.all (fun d=>inTB d&&ofTB d)&&decide (Sorted l)&&decide (Apart l)
theorem dok_iff {l:List Du}:okB l=true↔(∀ d∈l,inTB d=true∧ofTB d=true)∧Sorted l∧Apart l:=by
 simp [okB,and_assoc]
theorem sorted_unique:∀ {l m:List Du},l.Perm m→Sorted l→Sorted m→l=m
 | [],m,h,_,_=>(List.nil_perm.1 h).symm
 | a::l,m,h,hl,hm=>by
  cases m with
  | nil=>exact absurd h (by simp)
  | cons b m =>
   rw [Sorted,List.pairwise_cons] at hl hm
   have hab:a=b:=by
    rcases List.mem_cons.1 (h.mem_iff.1 (List.mem_cons_self ..)) with e | ha
    ·exact e
    rcases List.mem_cons.1 (h.mem_iff.2 (List.mem_cons_self ..)) with e | hb
    ·exact e.symm
    have:=ahead_asymm (hl.1 b hb)
    rw [hm.1 a ha] at this
    cases this
   subst hab
   rw [sorted_unique (List.perm_cons _ |>.1 h) hl.2 hm.2]
def ins (d:Du):List Du→List Du
 | []=>[d]
 | e::l=>if dahB d e=true then d::e::l else e::ins d l
def srt (l:List Du):List Du:=l.foldr ins []
theorem ins_perm (d:Du):∀ l:List Du,(ins d l).Perm (d::l)
 | []=>List.Perm.refl _
 | e::l=>by
  unfold ins
  split
  ·exact List.Perm.refl _
  ·exact ((ins_perm d l).cons e).trans (List.Perm.swap d e l)
theorem ins_sorted {d:Du}:∀ {l:List Du},Sorted l→(∀ e∈l,e.id≠d.id)→Sorted (ins d l)
 | [],_,_=>by simp [ins,Sorted]
 | e::l,h,hd=>by
  unfold ins
  rw [Sorted,List.pairwise_cons] at h
  split
  ·rename_i hde
   refine List.pairwise_cons.2 ⟨fun x hx=>?_,List.pairwise_cons.2 h⟩
   rcases List.mem_cons.1 hx with rfl | hx
   ·exact hde
   ·exact ahead_trans hde (h.1 x hx)
  ·rename_i hde
   refine List.pairwise_cons.2 ⟨fun x hx=>?_,ins_sorted h.2 (fun y hy=>hd y (List.mem_cons_of_mem _ hy))⟩
   rcases List.mem_cons.1 ((ins_perm d l).mem_iff.1 hx) with rfl | hx
   ·exact ahead_total (Ne.symm (hd e (List.mem_cons_self ..))) (by simpa using hde)
   ·exact h.1 x hx
theorem srt_perm:∀ l:List Du,(srt l).Perm l
 | []=>List.Perm.refl _
 | d::l=>(ins_perm d _).trans ((srt_perm l).cons d)
theorem srt_sorted:∀ {l:List Du},Apart l→Sorted (srt l)
 | [],_=>by simp [srt]
 | d::l,h=>by
  rw [Apart,List.pairwise_cons] at h
  exact ins_sorted (srt_sorted h.2) (fun e he=>Ne.symm (h.1 e ((srt_perm l).mem_iff.1 he)))
theorem srt_eq {l m:List Du} (h:m.Perm l) (hm:Sorted m) (ha:Apart l):srt l=m:=sorted_unique ((srt_perm l).trans h.symm) (srt_sorted ha) hm
theorem srt_id {l:List Du} (h:Sorted l) (ha:Apart l):srt l=l:=srt_eq (List.Perm.refl _) h ha
theorem srt_len (l:List Du):(srt l).length=l.length:=(srt_perm l).length_eq
theorem apart_perm {l m:List Du} (h:l.Perm m) (ha:Apart l):Apart m:=(h.pairwise_iff (fun {_ _} k=>Ne.symm k)).1 ha
def dhasB (l:List Du) (i:Int):Bool:=l.any (fun e=>e.id==i)
theorem dhas_iff {l:List Du} {i:Int}:dhasB l i=true↔∃ e∈l,e.id=i:=by simp [dhasB]
theorem nhas_iff {l:List Du} {i:Int}:dhasB l i=false↔∀ e∈l,e.id≠i:=by simp [dhasB]
def codeI (l:List Du) (d:Du):Int:=if okB l=false then 40 else if inTB d=false then 50 else if ofTB d=false then 40 else if dhasB l d.id=true then 60 else 0
def putL (l:List Du) (d:Du):List Du:=if codeI l d=0 then srt (l++[d]) else l
def dropI (l:List Du) (i:Int):Int:=if okB l=true∧dhasB l i=true then 0 else 40
def without (l:List Du) (i:Int):List Du:=l.filter (fun e=>!(e.id==i))
def dropL (l:List Du) (i:Int):List Du:=if dropI l i=0 then without l i else l
def lateB (now:Int) (d:Du):Bool:=decide (d.tm≤now)
theorem late_iff {now:Int} {d:Du}:lateB now d=true↔d.tm≤now:=by simp [lateB]
def lateI (l:List Du) (now:Int):List Int:=if okB l=true then (l.takeWhile (lateB now)).map Du.id else []
def restL (l:List Du) (now:Int):List Du:=if okB l=true then l.dropWhile (lateB now) else l
theorem dok_snoc {l:List Du} {d:Du} (h:okB l=true) (h1:dhasB l d.id=false) (h2:inTB d=true) (h3:ofTB d=true) (h4:∀ e,l.getLast? = some e→dahB e d=true):okB (l++[d])=true:=by
 rw [dok_iff] at *
 obtain ⟨ha,hs,hp⟩:=h
 refine ⟨fun e he=>?_,?_,?_⟩
 ·rcases List.mem_append.1 he with he | he
  ·exact ha e he
  ·rw [List.mem_singleton] at he;subst he;exact ⟨h2,h3⟩
 ·refine List.pairwise_append.2 ⟨hs,by simp,fun a hA b hb=>?_⟩
  rw [List.mem_singleton] at hb;subst hb
  cases hl:l.getLast? with
  | none=>rw [List.getLast?_eq_none_iff] at hl;subst hl;simp at hA
  | some e =>
   have h5:=h4 e hl
   obtain ⟨k,rfl⟩:=List.getLast?_eq_some_iff.1 hl
   rw [Sorted,List.pairwise_append] at hs
   rcases List.mem_append.1 hA with hA | hA
   ·exact ahead_trans (hs.2.2 a hA e (by simp)) h5
   ·rw [List.mem_singleton] at hA;subst hA;exact h5
 ·refine List.pairwise_append.2 ⟨hp,by simp,fun a hA b hb=>?_⟩
  rw [List.mem_singleton] at hb;subst hb
  exact nhas_iff.1 h1 a hA
theorem ok_not_snoc {l r:List Du} {d:Du} (h:dhasB l d.id=true∨inTB d=false∨ofTB d=false∨∃ e,l.getLast? = some e∧dahB e d=false):okB (l++d::r)=false:=by
 cases hk:okB (l++d::r)
 ·rfl
 rw [dok_iff] at hk
 obtain ⟨ha,hs,hp⟩:=hk
 rw [Sorted,List.pairwise_append] at hs
 rw [Apart,List.pairwise_append] at hp
 have hd:=ha d (by simp)
 rcases h with h | h | h | ⟨e,he,h⟩
 ·obtain ⟨x,hx,hxd⟩:=dhas_iff.1 h
  exact absurd hxd (hp.2.2 x hx d (by simp))
 ·rw [h] at hd;cases hd.1
 ·rw [h] at hd;cases hd.2
 ·rw [hs.2.2 e (List.mem_of_getLast? he) d (by simp)] at h;cases h
theorem ok_put {l:List Du} {d:Du} (h:codeI l d=0):okB (srt (l++[d]))=true∧okB l=true∧inTB d=true∧ofTB d=true∧dhasB l d.id=false:=by
 unfold codeI at h
 cases h1:okB l
 ·rw [h1] at h;simp at h
 cases h2:inTB d
 ·rw [h1,h2] at h;simp at h
 cases h3:ofTB d
 ·rw [h1,h2,h3] at h;simp at h
 cases h4:dhasB l d.id
 ·refine ⟨?_,rfl,rfl,rfl,rfl⟩
  rw [dok_iff] at *
  obtain ⟨ha,hs,hp⟩:=h1
  have hap:Apart (l++[d]):=List.pairwise_append.2 ⟨hp,by simp,fun a hA b hb=>by
   rw [List.mem_singleton] at hb;subst hb;exact nhas_iff.1 h4 a hA⟩
  refine ⟨fun e he=>?_,srt_sorted hap,apart_perm (srt_perm _).symm hap⟩
  rcases List.mem_append.1 ((srt_perm _).mem_iff.1 he) with he | he
  ·exact ha e he
  ·rw [List.mem_singleton] at he;subst he;exact ⟨h2,h3⟩
 ·rw [h1,h2,h3,h4] at h;simp at h
theorem code_mk {l:List Du} {d:Du} (h1:okB l=true) (h2:inTB d=true) (h3:ofTB d=true) (h4:dhasB l d.id=false):codeI l d=0:=by simp [codeI,h1,h2,h3,h4]
theorem putL_ok {l:List Du} {d:Du} (h:codeI l d=0):putL l d=srt (l++[d]):=by simp [putL,h]
theorem has_put {l:List Du} {d:Du} (h:codeI l d=0):dhasB (srt (l++[d])) d.id=true:=dhas_iff.2 ⟨d,(srt_perm _).mem_iff.2 (by simp),rfl⟩
theorem back {l:List Du} {d:Du} (h:codeI l d=0):dropI (putL l d) d.id=0∧dropL (putL l d) d.id=l∧okB (putL l d)=true∧(putL l d).length=l.length+1∧codeI (putL l d) d=60:=by
 obtain ⟨h0,h1,h2,h3,h4⟩:=ok_put h
 rw [putL_ok h]
 have h5:=has_put h
 have h6:dropI (srt (l++[d])) d.id=0:=by simp [dropI,h0,h5]
 refine ⟨h6,?_,h0,by rw [srt_len];simp,by simp [codeI,h0,h2,h3,h5]⟩
 unfold dropL
 rw [if_pos h6]
 have hp:(without (srt (l++[d])) d.id).Perm l:=by
  refine ((srt_perm (l++[d])).filter _).trans ?_
  rw [List.filter_append,List.filter_eq_self.2 (fun e he=>by simpa using nhas_iff.1 h4 e he)]
  simp
 rw [dok_iff] at h0 h1
 exact sorted_unique hp (h0.2.1.filter _) h1.2.1
theorem late_ok {l:List Du} {now:Int} (h:okB l=true):lateI l now=(l.takeWhile (lateB now)).map Du.id∧restL l now=l.dropWhile (lateB now):=by simp [lateI,restL,h]
end
section
def tdB (t:Th):Bool:=opTimed t.ki&&(!(t.st==0) && !t.la)
def tdDu (s:St) (k:Nat):Du:=⟨(gth s.th k).un,k⟩
def tdS (s:St):Nat→List Du
 | 0=>[]
 | k+1=>if tdB (gth s.th k)=true then putL (tdS s k) (tdDu s k) else tdS s k
def duesS (s:St):List Du:=if stB s=true then tdS s s.th.length else []
def lateIds (l:List Du) (now:Int):List Int:=(l.filter (lateB now)).map Du.id
def lateT (t:Th):Th:=⟨if t.st=2 then 1 else t.st,t.ki,t.va,t.un,t.pc,t.re,t.se,t.tr,true,t.rs,t.go⟩
def lateS (s:St) (n:Nat):St :=
 if (gth s.th n).st=2 then ((s.toFull s.fe (cnL s.fe s.fl n)).toEmpty s.ee (cnL s.ee s.el n)).setTh n (lateT (gth s.th n)) else s.setTh n (lateT (gth s.th n))
def lateK:List Int→St→St
 | [],s=>s
 | i::l,s=>lateK l (lateS s i.toNat)
def St.toNow (s:St) (n:Int):St:=⟨s.cf,s.hd,s.tl,s.md,s.sl,s.sn,s.rc,s.fe,s.fl,s.ee,s.el,n,s.th,s.lg⟩
def tickE (s:St) (n:Int):Int:=if stB s=false then 20 else if n<0∨1099511627776 - s.nw<n then 50 else 0
def tickI (s:St) (n:Int):List Int:=if tickE s n=0 then lateIds (duesS s) (s.nw+n) else []
def tickS (s:St) (n:Int):St:=if tickE s n=0 then lateK (tickI s n) (s.toNow (s.nw+n)) else s
theorem td_time {t:Th} (h:thB t=true) (h1:tdB t=true):0≤t.un∧t.un≤1099511627776:=by
 obtain ⟨st,ki,va,un,pc,re,se,tr,la,rs,go⟩:=t
 simp only [tdB,Bool.and_eq_true] at h1
 simp only [thB,thWaits,h1.1,if_true,Bool.and_eq_true,thIn,decide_eq_true_eq] at h
 exact ⟨h.2.1.1,h.2.1.2⟩
theorem td_ok {s:St} (h:stB s=true):∀ {k:Nat},k≤s.th.length→okB (tdS s k)=true∧∀ d,d∈tdS s k↔∃ i,i<k∧tdB (gth s.th i)=true∧d=tdDu s i
 | 0,_=>⟨rfl,fun d=>⟨fun hd=>(List.not_mem_nil hd).elim,fun ⟨i,hi,_⟩=>absurd hi (by omega)⟩⟩
 | k+1,hk=>by
  obtain ⟨h1,h2⟩:=td_ok h (k:=k) (by omega)
  by_cases ht:tdB (gth s.th k)=true
  ·have e:tdS s (k+1)=putL (tdS s k) (tdDu s k):=by simp [tdS,ht]
   have hth:=(th_len h).2.2
   have hu:=td_time (gth_ok h (show k<s.th.length by omega)) ht
   have hc:codeI (tdS s k) (tdDu s k)=0:=code_mk h1 (inT_iff.2 hu) (by unfold ofTB;rw [Bool.and_eq_true];exact ⟨decide_eq_true (show (0:Int)≤(k:Int) by omega),decide_eq_true (show (k:Int)<16 by omega)⟩) (nhas_iff.2 fun d hd=>by
    obtain ⟨i,hi,-,rfl⟩:=(h2 d).1 hd
    show ((i:Int))≠(k:Int)
    omega)
   rw [e,putL_ok hc]
   refine ⟨(ok_put hc).1,fun d=>?_⟩
   rw [(srt_perm _).mem_iff,List.mem_append,List.mem_singleton,h2]
   constructor
   ·rintro (⟨i,hi,a,b⟩ | rfl)
    ·exact ⟨i,by omega,a,b⟩
    ·exact ⟨k,by omega,ht,rfl⟩
   ·rintro ⟨i,hi,a,b⟩
    by_cases e:i=k
    ·subst e;exact .inr b
    ·exact .inl ⟨i,by omega,a,b⟩
  ·have e:tdS s (k+1)=tdS s k:=by simp [tdS,ht]
   rw [e]
   refine ⟨h1,fun d=>?_⟩
   rw [h2]
   constructor
   ·rintro ⟨i,hi,a,b⟩;exact ⟨i,by omega,a,b⟩
   ·rintro ⟨i,hi,a,b⟩
    by_cases e:i=k
    ·subst e;exact absurd a ht
    ·exact ⟨i,by omega,a,b⟩
theorem dues_ok (s:St):okB (duesS s)=true:=by
 unfold duesS;split
 ·next h=>exact (td_ok h (Nat.le_refl _)).1
 ·rfl
theorem mem_dues {s:St} (h:stB s=true) {d:Du}:d∈duesS s↔∃ i,i<s.th.length∧tdB (gth s.th i)=true∧d=tdDu s i:=by
 unfold duesS;rw [if_pos h];exact (td_ok h (Nat.le_refl _)).2 d
theorem mem_late {s:St} (h:stB s=true) {now j:Int}:j∈lateIds (duesS s) now↔∃ i:Nat,j=i∧i<s.th.length∧tdB (gth s.th i)=true∧(gth s.th i).un≤now:=by
 unfold lateIds
 rw [List.mem_map]
 constructor
 ·rintro ⟨d,hd,rfl⟩
  obtain ⟨h1,h2⟩:=List.mem_filter.1 hd
  obtain ⟨i,hi,a,rfl⟩:=(mem_dues h).1 h1
  exact ⟨i,rfl,hi,a,late_iff.1 h2⟩
 ·rintro ⟨i,rfl,hi,a,b⟩
  exact ⟨tdDu s i,List.mem_filter.2 ⟨(mem_dues h).2 ⟨i,hi,a,rfl⟩,late_iff.2 b⟩,rfl⟩
theorem filter_take {now:Int}:∀ {l:List Du},Sorted l→l.filter (lateB now)=l.takeWhile (lateB now)
 | [],_=>rfl
 | d::l,h=>by
  have h:=List.pairwise_cons.1 h
  by_cases hd:lateB now d=true
  ·rw [List.filter_cons_of_pos hd,List.takeWhile_cons_of_pos hd,filter_take h.2]
  ·rw [List.filter_cons_of_neg hd,List.takeWhile_cons_of_neg hd]
   refine List.filter_eq_nil_iff.2 fun e he=>?_
   have h1:=ahead_iff.1 (h.1 e he)
   rw [late_iff] at hd ⊢
   omega
theorem late_is {l:List Du} (h:okB l=true) (now:Int):lateIds l now=lateI l now:=by
 unfold lateIds lateI
 rw [if_pos h,filter_take (dok_iff.1 h).2.1]
theorem lateT_two (t:Th):lateT (lateT t)=lateT t:=by
 unfold lateT
 by_cases h:t.st=2 <;> simp [h]
theorem lateT_ok {t:Th} (h:thB t=true) (h1:opTimed t.ki=true) (h2:t.st≠0):thB (lateT t)=true:=by
 obtain ⟨st,ki,va,un,pc,re,se,tr,la,rs,go⟩:=t
 simp only at h1 h2
 simp only [thB,lateT,thWaits,h1,if_true] at h ⊢
 by_cases e:st=2
 ·subst e
  simp only [if_true]
  simp only [thDoes,thIn,Bool.and_eq_true] at h ⊢
  refine ⟨?_,h.2.1,h.2.2.1,by simp⟩
  have:=h.1
  simp at this ⊢
  exact this
 ·simp only [e,if_false]
  simp only [Bool.and_eq_true] at h ⊢
  refine ⟨h.1,h.2.1,h.2.2.1,by simp [h2]⟩
theorem lateS_rest (s:St) (n:Nat):(lateS s n).cf=s.cf∧(lateS s n).hd=s.hd∧(lateS s n).tl=s.tl∧(lateS s n).md=s.md∧(lateS s n).sl=s.sl∧(lateS s n).sn=s.sn∧(lateS s n).rc=s.rc∧(lateS s n).nw=s.nw∧(lateS s n).lg=s.lg∧(lateS s n).fe=s.fe∧(lateS s n).ee=s.ee:=by
 unfold lateS;split <;> exact ⟨rfl,rfl,rfl,rfl,rfl,rfl,rfl,rfl,rfl,rfl,rfl⟩
theorem late_set (s:St) (n:Nat):(lateS s n).th=s.th.set n (lateT (gth s.th n)):=by
 unfold lateS;split <;> rfl
theorem late_len (s:St) (n:Nat):(lateS s n).th.length=s.th.length:=by rw [late_set,List.length_set]
theorem cn_ok {ep:Int} {l:List Int} (h:okE ep l=true) (i:Int):okE ep (cnL ep l i)=true:=by
 unfold cnL;rw [if_pos h]
 unfold okE at h ⊢
 simp only [Bool.and_eq_true] at h ⊢
 exact ⟨h.1,ok_lv h.2 i⟩
theorem cn_stn {m ep:Int} {l:List Int} (h:stnB m l=true) (i:Int):stnB m (cnL ep l i)=true:=by
 unfold cnL;split
 ·exact stn_lv h
 ·exact h
theorem late_stB {s:St} (h:stB s=true) {n:Nat} (hn:n<s.th.length) (h1:opTimed (gth s.th n).ki=true) (h2:(gth s.th n).st≠0):stB (lateS s n)=true:=by
 have ht:=lateT_ok (gth_ok h hn) h1 h2
 obtain ⟨-,-,a,b,c,d⟩:=full_lines h
 unfold lateS;split
 ·exact th_stB (empty_stB (full_stB h (cn_ok c n) (cn_stn a n)) (cn_ok d n) (cn_stn b n)) ht
 ·exact th_stB h ht
theorem gth_late {s:St} {n j:Nat} (hn:n<s.th.length):gth (lateS s n).th j=if j=n then lateT (gth s.th j) else gth s.th j:=by
 rw [late_set,gth_set hn]
 by_cases e:n=j
 ·subst e;simp
 ·rw [if_neg e,if_neg (Ne.symm e)]
theorem lateK_rest:∀ (l:List Int) (s:St),(lateK l s).cf=s.cf∧(lateK l s).hd=s.hd∧(lateK l s).tl=s.tl∧(lateK l s).md=s.md∧(lateK l s).sl=s.sl∧(lateK l s).sn=s.sn∧(lateK l s).rc=s.rc∧(lateK l s).nw=s.nw∧(lateK l s).lg=s.lg∧(lateK l s).fe=s.fe∧(lateK l s).ee=s.ee
 | [],_=>⟨rfl,rfl,rfl,rfl,rfl,rfl,rfl,rfl,rfl,rfl,rfl⟩
 | i::l,s=>by
  obtain ⟨a1,a2,a3,a4,a5,a6,a7,a8,a9,a10,a11⟩:=lateK_rest l (lateS s i.toNat)
  obtain ⟨b1,b2,b3,b4,b5,b6,b7,b8,b9,b10,b11⟩:=lateS_rest s i.toNat
  exact ⟨a1.trans b1,a2.trans b2,a3.trans b3,a4.trans b4,a5.trans b5,a6.trans b6,a7.trans b7,a8.trans b8,a9.trans b9,a10.trans b10,a11.trans b11⟩
theorem lateK_len:∀ (l:List Int) (s:St),(lateK l s).th.length=s.th.length
 | [],_=>rfl
 | i::l,s=>(lateK_len l _).trans (late_len s _)
theorem gth_lateK:∀ (l:List Int) {s:St},(∀ i∈l,0≤i∧i.toNat<s.th.length)→∀ j:Nat,gth (lateK l s).th j=if (j:Int)∈l then lateT (gth s.th j) else gth s.th j
 | [],_,_,j=>rfl
 | i::l,s,h,j=>by
  have h0:=h i List.mem_cons_self
  have ih:=gth_lateK l (s:=lateS s i.toNat) (fun x hx=>by rw [late_len];exact h x (List.mem_cons_of_mem _ hx)) j
  show gth (lateK l (lateS s i.toNat)).th j=_
  rw [ih,gth_late h0.2]
  by_cases e:j=i.toNat
  ·have hj:(j:Int)=i:=by omega
   rw [if_pos e,if_pos (show (j:Int)∈i::l by rw [hj];exact List.mem_cons_self)]
   split
   ·exact lateT_two _
   ·rfl
  ·have hj:(j:Int)≠i:=by omega
   rw [if_neg e]
   simp only [List.mem_cons,hj,false_or]
theorem lateK_stB:∀ (l:List Int) {s:St},stB s=true→(∀ i∈l,∃ n:Nat,i=n∧n<s.th.length∧opTimed (gth s.th n).ki=true∧(gth s.th n).st≠0)→stB (lateK l s)=true
 | [],_,h,_=>h
 | i::l,s,h,hl=>by
  obtain ⟨n,rfl,hn,h1,h2⟩:=hl i List.mem_cons_self
  refine lateK_stB l (s:=lateS s (n:Int).toNat) (by rw [Int.toNat_natCast];exact late_stB h hn h1 h2) fun x hx=>?_
  obtain ⟨m,rfl,hm,h3,h4⟩:=hl x (List.mem_cons_of_mem _ hx)
  rw [Int.toNat_natCast]
  refine ⟨m,rfl,by rw [late_len];exact hm,?_,?_⟩
  ·rw [gth_late hn];split
   ·exact h3
   ·exact h3
  ·rw [gth_late hn];split
   ·unfold lateT;simp only;split <;> omega
   ·exact h4
theorem now_stB {s:St} (h:stB s=true) {n:Int} (h0:0≤n∧n≤1099511627776):stB (s.toNow n)=true:=by
 obtain ⟨a1,a2,a3,a4,a5,a6,a7,a8⟩:=st_iff.1 h
 exact st_iff.2 ⟨a1,a2,a3,a4,a5,h0.1,h0.2,a8⟩
theorem nw_bd {s:St} (h:stB s=true):0≤s.nw∧s.nw≤1099511627776:=by
 obtain ⟨a1,a2,a3,a4,a5,a6,a7,a8⟩:=st_iff.1 h
 exact ⟨a6,a7⟩
theorem tickE_ok {s:St} {n:Int} (h:tickE s n=0):stB s=true∧0≤n∧s.nw+n≤1099511627776:=by
 unfold tickE at h
 split at h
 ·cases h
 ·next hB =>
  split at h
  ·cases h
  ·exact ⟨by simpa using hB,by omega,by omega⟩
theorem tickE_mk {s:St} {n:Int} (h:stB s=true) (h0:0≤n) (h1:s.nw+n≤1099511627776):tickE s n=0:=by
 unfold tickE;rw [if_neg (by simp [h]),if_neg (by omega)]
theorem tick_no {s:St} {n:Int} (h:tickE s n≠0):tickS s n=s∧tickI s n=[]:=⟨if_neg h,if_neg h⟩
theorem tick_yes {s:St} {n:Int} (h:tickE s n=0):tickS s n=lateK (tickI s n) (s.toNow (s.nw+n))∧tickI s n=lateIds (duesS s) (s.nw+n):=⟨if_pos h,if_pos h⟩
theorem mem_tick {s:St} {n j:Int} (h:tickE s n=0):j∈tickI s n↔∃ i:Nat,j=i∧i<s.th.length∧tdB (gth s.th i)=true∧(gth s.th i).un≤s.nw+n:=by
 rw [(tick_yes h).2];exact mem_late (tickE_ok h).1
theorem td_is {t:Th}:tdB t=true↔opTimed t.ki=true∧t.st≠0∧t.la=false:=by simp [tdB]
theorem tick_stB (s:St) (n:Int):stB (tickS s n)=stB s:=by
 by_cases h:tickE s n=0
 ·obtain ⟨hB,h0,h1⟩:=tickE_ok h
  have hb:=nw_bd hB
  rw [hB,(tick_yes h).1]
  refine lateK_stB _ (now_stB hB (by omega)) fun i hi=>?_
  obtain ⟨m,rfl,hm,h2,-⟩:=(mem_tick h).1 hi
  obtain ⟨h3,h4,-⟩:=td_is.1 h2
  exact ⟨m,rfl,hm,h3,h4⟩
 ·rw [(tick_no h).1]
theorem tick_len (s:St) (n:Int):(tickS s n).th.length=s.th.length:=by
 by_cases h:tickE s n=0
 ·rw [(tick_yes h).1];exact lateK_len _ _
 ·rw [(tick_no h).1]
theorem gth_tick {s:St} {n:Int} (h:tickE s n=0) (j:Nat):gth (tickS s n).th j=if (j:Int)∈tickI s n then lateT (gth s.th j) else gth s.th j:=by
 rw [(tick_yes h).1]
 refine gth_lateK _ (s:=s.toNow (s.nw+n)) (fun i hi=>?_) j
 obtain ⟨m,rfl,hm,-⟩:=(mem_tick h).1 hi
 exact ⟨by omega,by rw [Int.toNat_natCast];exact hm⟩
theorem tick_rest {s:St} {n:Int} (h:tickE s n=0):(tickS s n).cf=s.cf∧(tickS s n).hd=s.hd∧(tickS s n).tl=s.tl∧(tickS s n).md=s.md∧(tickS s n).sl=s.sl∧(tickS s n).sn=s.sn∧(tickS s n).rc=s.rc∧(tickS s n).nw=s.nw+n∧(tickS s n).lg=s.lg∧(tickS s n).fe=s.fe∧(tickS s n).ee=s.ee:=by
 rw [(tick_yes h).1];exact lateK_rest _ _
theorem tick_wk {s:St} {N:Nat} (h:Wk s N) (n:Int):Wk (tickS s n) N:=by
 by_cases he:tickE s n=0
 ·obtain ⟨c1,-,-,-,c5,-,-,-,c9,-,-⟩:=tick_rest he
  refine ⟨(tick_stB s n).trans h.b,⟨by rw [c1];exact h.v.cf,by rw [c5];exact h.v.sl,fun t ht=>?_⟩,by rw [c9];exact h.l⟩
  obtain ⟨j,hj,rfl⟩:=List.mem_iff_getElem.1 ht
  have e:(tickS s n).th[j]=gth (tickS s n).th j:=(gth_eq hj).symm
  have hj' : j<s.th.length:=by rw [tick_len] at hj;exact hj
  have hv:=h.v.th (gth s.th j) (gth_mem hj')
  rw [e,gth_tick he]
  split
  ·exact hv
  ·exact hv
 ·rw [(tick_no he).1];exact h
end
section
theorem tickE_cfg (s:St) (n:Int):(tickE s n=20↔stB s=false):=by
 unfold tickE
 constructor
 ·intro h
  split at h
  ·next e=>exact e
  ·split at h <;> cases h
 ·intro h;rw [if_pos h]
end
section
structure Ca where
 ki:Int
 th:Int
 va:Int
 un:Int
def ca0:Ca:=⟨0,0,0,0⟩
def Ca.cells (x:Ca):List Value:=[.int .i64 x.ki,.int .i64 x.th,.int .i64 x.va,.int .i64 x.un]
def Ca.nums (x:Ca):List Int:=[x.ki,x.th,x.va,x.un]
def caE (x:Ca):Int :=
 if x.ki<1∨x.ki=9∨11<x.ki∨x.th<0∨15<x.th then 190
 else if x.ki=11∧(x.th≠0∨x.un≠0)∨x.ki=10∧(x.va≠0∨x.un≠0) then 190
 else if 4≤x.ki∧x.ki≤8∧x.va≠0∨x.ki≠3∧x.ki≠6∧x.un≠0 then 190
 else if x.un<0∨1099511627776<x.un∨x.ki=11∧(x.va<0∨1099511627776<x.va) then 50
 else 0
def numCa (l:List Int):Ca:=⟨l.getD 0 0,l.getD 1 0,l.getD 2 0,l.getD 3 0⟩
def deE (l:List Int):Int:=if l.length=4 then caE (numCa l) else 190
def deC (l:List Int):Ca:=if deE l=0 then numCa l else ca0
theorem nums_num {l:List Int} (h:l.length=4):(numCa l).nums=l:=by
 match l,h with
 | [a,b,c,d],_=>rfl
theorem de_nums (x:Ca):deE x.nums=caE x∧deC x.nums=if caE x=0 then x else ca0:=⟨rfl,rfl⟩
theorem de_ok {l:List Int} (h:deE l=0):l.length=4∧deC l=numCa l∧(deC l).nums=l∧caE (deC l)=0:=by
 have h4:l.length=4:=by
  unfold deE at h
  split at h
  ·next e=>exact e
  ·cases h
 have e:deC l=numCa l:=by unfold deC;rw [if_pos h]
 refine ⟨h4,e,by rw [e,nums_num h4],?_⟩
 rw [e]
 unfold deE at h
 rw [if_pos h4] at h
 exact h
theorem de_no {l:List Int} (h:deE l≠0):deC l=ca0:=if_neg h
theorem ca_iff {x:Ca}:caE x=0↔((x.ki=1∨x.ki=2)∧(0≤x.th∧x.th≤15)∧x.un=0)∨(x.ki=3∧(0≤x.th∧x.th≤15)∧0≤x.un∧x.un≤1099511627776)∨((x.ki=4∨x.ki=5∨x.ki=7∨x.ki=8∨x.ki=10)∧(0≤x.th∧x.th≤15)∧x.va=0∧x.un=0) ∨
  (x.ki=6∧(0≤x.th∧x.th≤15)∧x.va=0∧0≤x.un∧x.un≤1099511627776)∨(x.ki=11∧x.th=0∧x.un=0∧0≤x.va∧x.va≤1099511627776):=by
 unfold caE
 constructor
 ·intro h
  split at h
  ·cases h
  ·split at h
   ·cases h
   ·split at h
    ·cases h
    ·split at h
     ·cases h
     ·omega
 ·intro h
  rw [if_neg (by omega),if_neg (by omega),if_neg (by omega),if_neg (by omega)]
theorem ca_bd {x:Ca} (h:caE x=0):1≤x.ki∧x.ki≤11∧0≤x.th∧x.th≤15∧0≤x.un∧x.un≤1099511627776:=by
 have:=ca_iff.1 h;omega
def caDo (s:St) (x:Ca) (E:Int) (r:St):Prop :=
 (caE x≠0∧E=caE x∧r=s)∨(caE x=0∧x.ki=10∧E=pickE s x.th∧r=pickS s x.th)∨(caE x=0∧x.ki=11∧E=tickE s x.va∧r=tickS s x.va) ∨
 (caE x=0∧x.ki≠10∧x.ki≠11∧stBeg s x.th x.ki x.va (s.nw+x.un) E r)
theorem caDo_is (s:St) (x:Ca):∃ E r,caDo s x E r:=by
 by_cases h:caE x=0
 ·by_cases h1:x.ki=10
  ·exact ⟨_,_,.inr (.inl ⟨h,h1,rfl,rfl⟩)⟩
  ·by_cases h2:x.ki=11
   ·exact ⟨_,_,.inr (.inr (.inl ⟨h,h2,rfl,rfl⟩))⟩
   ·obtain ⟨E,r,hb⟩:=beg_stB s x.th x.ki x.va (s.nw+x.un)
    exact ⟨E,r,.inr (.inr (.inr ⟨h,h1,h2,hb⟩))⟩
 ·exact ⟨_,_,.inl ⟨h,rfl,rfl⟩⟩
theorem beg_no {s:St} {i k v u E:Int} {r:St} (h:stBeg s i k v u E r) (hE:E≠0):r=s:=by
 rcases h with ⟨-,-,rfl⟩ | ⟨-,-,-,rfl⟩ | ⟨-,-,n,t,-,hn,ht,rfl⟩
 ·rfl
 ·rfl
 ·have:t=gth s.th n:=by
   rcases ht with ⟨-,-,rfl⟩ | ⟨-,-,-,rfl⟩ | ⟨-,-,-,h0,-⟩ | ⟨-,-,-,-,-,rfl⟩ | ⟨-,-,-,-,h0,-⟩
   ·rfl
   ·rfl
   ·exact absurd h0 hE
   ·rfl
   ·exact absurd h0 hE
  rw [this];exact setTh_self s n
theorem beg_yes {s:St} {i k v u:Int} {r:St} (h:stBeg s i k v u 0 r):stB s=true∧∃ (n:Nat) (t:Th),i=n∧n<s.th.length∧thBeg (gth s.th n) k v u 0 t∧r=s.setTh n t:=by
 rcases h with ⟨-,h,-⟩ | ⟨-,h1,h,-⟩ | ⟨h,-,n,t,hi,hn,ht,hr⟩
 ·cases h
 ·exact absurd h.symm h1
 ·exact ⟨h,n,t,hi,hn,ht,hr⟩
theorem caDo_no {s:St} {x:Ca} {E:Int} {r:St} (h:caDo s x E r) (hE:E≠0):r=s:=by
 rcases h with ⟨-,-,rfl⟩ | ⟨-,-,rfl,rfl⟩ | ⟨-,-,rfl,rfl⟩ | ⟨-,-,-,h⟩
 ·rfl
 ·exact pick_no hE
 ·exact (tick_no hE).1
 ·exact beg_no h hE
theorem thBeg_ok {t:Th} {k v u E:Int} {r:Th} (h:thBeg t k v u E r) (c:thB t=true):thB r=true:=by
 rcases h with ⟨_,_,rfl⟩ | ⟨_,_,_,rfl⟩ | ⟨_,h1,h2,_,rfl⟩ | ⟨_,_,_,_,_,rfl⟩ | ⟨_,h1,h2,h3,_,rfl⟩
 ·exact c
 ·exact c
 ·rw [thB_iff];have h1:=opB_iff.1 h1;have h2:=mt timed_iff.2 (by rw [h2];decide);simp [bI];omega
 ·exact c
 ·rw [thB_iff];have h1:=opB_iff.1 h1;have h2:=timed_iff.1 h2;simp [bI];omega
theorem caDo_one {s r:St} {x:Ca} (h:caDo s x 0 r):stB s=true∧stB r=true∧(x.ki≠11→thingsN s r≤1∧r.sl.length=s.sl.length):=by
 rcases h with ⟨he,h0,-⟩ | ⟨-,hk,h0,rfl⟩ | ⟨-,hk,h0,rfl⟩ | ⟨-,-,-,h⟩
 ·exact absurd h0.symm he
 ·obtain ⟨n,-,hB,-⟩:=pick_iff.1 h0.symm
  exact ⟨hB,(pick_stB s x.th).trans hB,fun _=>⟨pick_things s x.th,pick_sl hB x.th⟩⟩
 ·have hB:=(tickE_ok h0.symm).1
  exact ⟨hB,(tick_stB s x.va).trans hB,fun e=>absurd hk e⟩
 ·obtain ⟨hB,n,t,-,hn,ht,rfl⟩:=beg_yes h
  exact ⟨hB,th_stB hB (thBeg_ok ht (gth_ok hB hn)),fun _=>⟨things_none rfl,rfl⟩⟩
theorem caDo_alone {s r:St} {x:Ca} (h:caDo s x 0 r) (hk:x.ki≠10):(r.hd=s.hd∧r.tl=s.tl∧r.md=s.md)∧r.sn=s.sn∧r.rc=s.rc∧r.lg=s.lg∧r.th.length=s.th.length∧(x.ki≠11→∃ (n:Nat) (t:Th),n<s.th.length∧r=s.setTh n t):=by
 rcases h with ⟨he,h0,-⟩ | ⟨-,h1,-⟩ | ⟨-,h1,h0,rfl⟩ | ⟨-,-,-,h⟩
 ·exact absurd h0.symm he
 ·exact absurd h1 hk
 ·obtain ⟨-,a2,a3,a4,-,a6,a7,-,a9,-,-⟩:=tick_rest h0.symm
  exact ⟨⟨a2,a3,a4⟩,a6,a7,a9,tick_len s x.va,fun e=>absurd h1 e⟩
 ·obtain ⟨hB,n,t,-,hn,ht,rfl⟩:=beg_yes h
  exact ⟨⟨rfl,rfl,rfl⟩,rfl,rfl,rfl,by show (s.th.set n t).length=_;rw [List.length_set],fun _=>⟨n,t,hn,rfl⟩⟩
def difT (s a:St):Nat→Nat
 | 0=>0
 | k+1=>difT s a k+if gth s.th k=gth a.th k then 0 else 1
theorem difT_le (s a:St):∀ k,difT s a k≤k
 | 0=>Nat.le_refl _
 | k+1=>by have:=difT_le s a k;unfold difT;split <;> omega
theorem difT_one {s:St} {n:Nat} {t:Th} (hn:n<s.th.length):∀ k,difT s (s.setTh n t) k≤if n<k then 1 else 0
 | 0=>by simp [difT]
 | k+1=>by
  have ih:=difT_one (t:=t) hn k
  have hg:gth (s.setTh n t).th k=if n=k then t else gth s.th k:=gth_set hn
  unfold difT
  by_cases e:n=k
  ·subst e
   rw [if_neg (Nat.lt_irrefl n)] at ih
   rw [if_pos (Nat.lt_succ_self n)]
   split <;> omega
  ·rw [hg,if_neg e,if_pos rfl]
   by_cases h:n<k
   ·rw [if_pos h] at ih;rw [if_pos (by omega)];omega
   ·rw [if_neg h] at ih;rw [if_neg (by omega)];omega
end
section
theorem put_parts {l:List Du} {d:Du} (h:codeI l d=0):putL l d=l.filter (fun e=>dahB e d)++d::l.filter (fun e=>dahB d e):=by
 obtain ⟨h1,h2,-,-,h5⟩:=ok_put h
 have hs:=(dok_iff.1 h2).2.1
 have hne:=nhas_iff.1 h5
 have tot:∀ e∈l,dahB d e = !dahB e d:=fun e he=>by
  cases hc:dahB e d
  ·rw [ahead_total (hne e he) hc];rfl
  ·rw [ahead_asymm hc];rfl
 rw [putL_ok h]
 refine sorted_unique ?_ (dok_iff.1 h1).2.1 ?_
 ·have e:l.filter (fun e=>dahB d e)=l.filter (fun e=>!dahB e d):=List.filter_congr fun e he=>tot e he
  rw [e]
  refine (srt_perm _).trans ?_
  refine List.Perm.trans ?_ List.perm_middle.symm
  exact List.perm_append_comm.trans (List.Perm.cons d (List.filter_append_perm (fun e=>dahB e d) l).symm)
 ·refine List.pairwise_append.2 ⟨hs.sublist List.filter_sublist,List.pairwise_cons.2 ⟨fun e he=>(List.mem_filter.1 he).2,hs.sublist List.filter_sublist⟩,fun a ha b hb=>?_⟩
  have h3:dahB a d=true:=(List.mem_filter.1 ha).2
  rcases List.mem_cons.1 hb with rfl | hb
  ·exact h3
  ·exact ahead_trans h3 (List.mem_filter.1 hb).2
theorem without_lt {l:List Du} {i:Int}:((without l i).length:Int)<l.length↔dhasB l i=true:=by
 unfold without
 rw [dhas_iff]
 constructor
 ·intro h
  refine Classical.byContradiction fun hn=>?_
  have:l.filter (fun e=>!(e.id==i))=l:=List.filter_eq_self.2 fun e he=>by
   have:e.id≠i:=fun h' => hn ⟨e,he,h'⟩
   simp [this]
  rw [this] at h;omega
 ·rintro ⟨e,he,rfl⟩
  have h1:=List.length_filter_le (fun x:Du=>!(x.id==e.id)) l
  have h2:(l.filter (fun x:Du=>!(x.id==e.id))).length≠l.length:=fun h=>by
   have:=List.length_filter_eq_length_iff.1 h e he
   simp at this
  omega
end
section
open Go.RowKit
def duT (d:Du):Value:=.agg #[.int .i64 d.tm,.int .i64 d.id]
def rowD (l:List Du):Value:=vRow l.length (l.map duT)
theorem allK_D (l:List Du):AllK 2 (l.map duT):=allK_map (f:=duT) (fun _=>⟨rfl,rfl⟩) l
def gd (l:List Du) (i:Nat):Du:=l.getD i ⟨0,0⟩
theorem gd_eq {l:List Du} {i:Nat} (h:i<l.length):gd l i=l[i]:=by simp [gd,h]
theorem ixD {l:List Du} {i:Nat} (h:i<l.length):IxP ((l.map duT).toArray) (i:Int) (duT (gd l i)):=⟨by omega,by simp [gd_eq h,h]⟩
def adO:Option (List Du)→Du→Option (List Du)
 | none,d=>some [d]
 | some m,d=>some (m++[d])
def listO:Option (List Du)→List Du
 | none=>[]
 | some m=>m
def tkO (p:Du→Bool):List Du→Option (List Du)→Option (List Du)
 | [],o=>o
 | d::l,o=>tkO p l (if p d then adO o d else o)
theorem tkO_some (p:Du→Bool):∀ (l m:List Du),tkO p l (some m)=some (m++l.filter p)
 | [],m=>by simp [tkO]
 | d::l,m=>by
  show tkO p l (if p d then some (m++[d]) else some m)=_
  cases h:p d <;> simp [tkO_some p l,h]
theorem tkO_is (p:Du→Bool):∀ (l:List Du) (o:Option (List Du)),listO (tkO p l o)=listO o++l.filter p
 | l,some m=>by rw [tkO_some];rfl
 | [],none=>rfl
 | d::l,none=>by
  show listO (tkO p l (if p d then some [d] else none))=_
  cases h:p d
  ·have:=tkO_is p l none
   simpa [h] using this
  ·simp [tkO_some,h,listO]
theorem tkO_at {p:Du→Bool} {l:List Du} {i:Nat} (h:i<l.length) (o:Option (List Du)):tkO p (l.drop i) o=tkO p (l.drop (i+1)) (if p (gd l i) then adO o (gd l i) else o):=by
 rw [List.drop_eq_getElem_cons h,gd_eq h];rfl
theorem listO_ad (o:Option (List Du)) (d:Du):(listO (adO o d)).length=(listO o).length+1:=by cases o <;> simp [adO,listO]
theorem tk_loop {L:Code} {x:Exit} {Hd:Nat→Option (List Du)→Sg} {l:List Du} {p:Du→Bool} (he:∀ o,LoopP Tryz.prog L (Hd l.length o) x (Hd l.length o))
  (hk:∀ i,i<l.length→∀ o,p (gd l i)=false→∀ S,LoopP Tryz.prog L (Hd (i+1) o) x S→LoopP Tryz.prog L (Hd i o) x S)
  (hp:∀ i,i<l.length→∀ o,(listO o).length≤i+20→p (gd l i)=true→∀ S,LoopP Tryz.prog L (Hd (i+1) (adO o (gd l i))) x S→LoopP Tryz.prog L (Hd i o) x S) :
  ∀ (k i:Nat) (o:Option (List Du)),l.length - i=k→i≤l.length→(listO o).length≤i+20→LoopP Tryz.prog L (Hd i o) x (Hd l.length (tkO p (l.drop i) o))
 | 0,i,o,hi,hl,_=>by
  have:i=l.length:=by omega
  subst this
  rw [List.drop_length];exact he o
 | k+1,i,o,hi,hl,ho=>by
  have h:i<l.length:=by omega
  rw [tkO_at h]
  cases e:p (gd l i)
  ·exact hk i h o e _ (tk_loop he hk hp k (i+1) o (by omega) (by omega) (by omega))
  ·exact hp i h o ho e _ (tk_loop he hk hp k (i+1) _ (by omega) (by omega) (by rw [listO_ad];omega))
def oB:Option (List Du)→List (Option Blk)
 | none=>[]
 | some m=>[some ⟨true,true,2,m.length,m.map duT⟩]
def oV (b:Nat):Option (List Du)→Value
 | none=>.slice none 0 0
 | some m=>.slice (some ⟨b,0,some 0⟩) m.length 0
theorem d_lt {n i:Nat} (h:i<n):decide ((i:Int)<n)=true:=by simp;omega
theorem d_nlt (n:Nat):decide ((n:Int)<n)=false:=by simp
theorem d_in {n i:Nat} (h:i<n) (hm:n≤1000000):In64 ((i:Int)+1):=by constructor <;> omega
theorem lenD (l:List Du):l.length=(l.map duT).length:=by simp
theorem appD {m:List Du} (d:Du) (h:m.length≤1000000):AppP (m++[d]).length ((m++[d]).map duT) m.length (m.map duT) 1 [duT d]:=⟨by simp,by simp,by omega⟩
theorem appD0 (d:Du):0<1∧AppP [d].length ([d].map duT) 0 [] 1 [duT d]:=⟨by omega,by simp,by simp,by omega⟩
def hdDw (l:List Du) (j:Int) (i:Nat) (o:Option (List Du)):Sg:=⟨mkT 28 [(0,rowD l),(1,.int .i64 j),(5,oV 0 o),(6,.int .i64 i)],oB o⟩
theorem wo_lp {l:List Du} (j:Int) (hm:l.length≤1000):LoopP Tryz.prog (loopOf Tryz.prog 161 0) (hdDw l j 0 none) (.exit 0) (hdDw l j l.length (tkO (fun e=>e.id != j) l none)) :=
 tk_loop (Hd:=hdDw l j) (l:=l) (p:=fun e=>e.id != j)
  (fun o=>by cases o with
   | none=>exact loop_end mixed (fuel:=9) (n:=3) (keep:=[0,1,5,6]) (ext:=[]) (im:=[]) (orc:=[.bool false]) (an (d_nlt l.length) trivial) (by intro e;cases e) (by kernel_rfl)
   | some m=>exact loop_end mixed (fuel:=9) (n:=3) (keep:=[0,1,5,6]) (ext:=[]) (im:=[0]) (orc:=[.bool false]) (an (d_nlt l.length) trivial) (by intro e;cases e) (by kernel_rfl))
  (fun i hi o hp S ih=>by cases o with
   | none=>exact loop_more mixed (fuel:=9) (n:=3) (keep:=[0,1,5,6]) (ext:=[]) (im:=[]) (orc:=[.bool true,duT (gd l i),.bool false]) (an (d_lt hi)<|an (ixD hi)<|an hp<|an (d_in hi (by omega)) trivial) (by kernel_rfl) ih
   | some m=>exact loop_more mixed (fuel:=9) (n:=3) (keep:=[0,1,5,6]) (ext:=[]) (im:=[0]) (orc:=[.bool true,duT (gd l i),.bool false]) (an (d_lt hi)<|an (ixD hi)<|an hp<|an (d_in hi (by omega)) trivial) (by kernel_rfl) ih)
  (fun i hi o hl hp S ih=>by cases o with
   | none=>exact loop_more mixed (fuel:=9) (n:=3) (keep:=[0,1,5,6]) (ext:=[]) (im:=[1]) (orc:=[.bool true,duT (gd l i),.bool true,duT (gd l i),rowD [gd l i]]) (an (d_lt hi)<|an (ixD hi)<|an hp<|an (ixD hi)<|an (rfl:(1:Nat)=1)<|an (allK_D [gd l i])<|an (appD0 (gd l i))<|an (d_in hi (by omega)) trivial) (by kernel_rfl) ih
   | some m=>exact loop_more mixed (fuel:=9) (n:=3) (keep:=[0,1,5,6]) (ext:=[]) (im:=[2]) (orc:=[.bool true,duT (gd l i),.bool true,duT (gd l i),rowD (m++[gd l i])]) (an (d_lt hi)<|an (ixD hi)<|an hp<|an (ixD hi)<|an (rfl:(1:Nat)=1)<|an (allK_D [gd l i])<|an (lenD m)<|an (appD (m:=m) (gd l i) (by have:m.length≤i+20:=hl;omega))<|an (d_in hi (by omega)) trivial) (by kernel_rfl) ih)
  l.length 0 none rfl (by omega) (by simp [listO])
theorem ac_rwithout (l:List Du) (j:Int) (hm:l.length≤1000):AC Tryz.prog 161 [rowD l,.int .i64 j] (rowD (without l j)):=by
 have hL:=wo_lp (l:=l) j hm
 have e:without l j=listO (tkO (fun e=>e.id != j) l none):=(tkO_is _ l none).symm
 rw [e]
 revert hL
 generalize tkO (fun e=>e.id != j) l none=o
 intro hL
 cases o with
 | none=>exact ac_path mixed (ext:=[]) (fuel:=9) (n:=3) (orc:=[oL [] [0,1,5,6] 0 [(0,rowD l),(1,.int .i64 j),(5,.slice none 0 0),(6,.int .i64 l.length)] []]) (an hL trivial) (by kernel_rfl)
 | some m=>exact ac_path mixed (ext:=[]) (fuel:=9) (n:=3) (orc:=[oL [] [0,1,5,6] 0 [(0,rowD l),(1,.int .i64 j),(5,oV 0 (some m)),(6,.int .i64 l.length)] (oB (some m))]) (an hL<|an (len_map (f:=duT) m) trivial) (by kernel_rfl)
theorem ac_rahead {a b:Du} {r:Bool} (h:dahB a b=r):AC Tryz.prog 162 [duT a,duT b] (.bool r):=by
 subst h
 unfold dahB
 cases h0:decide (a.tm<b.tm)
 ·cases h1:a.tm==b.tm
  ·exact ac_path mixed (ext:=[]) (fuel:=9) (n:=3) (orc:=[.bool false,.bool false]) (an h0<|an h1 trivial) (by kernel_rfl)
  ·exact ac_path mixed (ext:=[]) (fuel:=9) (n:=3) (orc:=[.bool false,.bool true]) (an h0<|an h1 trivial) (by kernel_rfl)
 ·exact ac_path mixed (ext:=[]) (fuel:=9) (n:=3) (orc:=[.bool true]) (an h0 trivial) (by kernel_rfl)
def hdDc (l:List Du) (i:Int):Sg:=⟨mkT 74 [(0,rowD l),(3,.int .i64 i)],[]⟩
def hdDk (l:List Du) (i k:Int):Sg:=⟨mkT 74 [(0,rowD l),(3,.int .i64 i),(4,.int .i64 k)],[]⟩
section
variable {l:List Du}
theorem gd_sorted (h:okB l=true) {k i:Nat} (hk:k<i) (hi:i<l.length):dahB (gd l k) (gd l i)=true∧(gd l k).id≠(gd l i).id:=by
 obtain ⟨-,h1,h2⟩:=dok_iff.1 h
 rw [gd_eq hi,gd_eq (by omega)]
 exact ⟨List.pairwise_iff_getElem.1 h1 k i (by omega) hi hk,List.pairwise_iff_getElem.1 h2 k i (by omega) hi hk⟩
theorem dk_lp (h:okB l=true) (hm:l.length≤1000) {i:Nat} (hi:i<l.length):∀ (j k:Nat),i - k=j→k≤i→LoopP Tryz.prog (loopOf Tryz.prog 160 1) (hdDk l i k) (.exit 2) (hdDk l i i)
 | 0,k,hj,hk=>by
  rw [show k=i by omega]
  exact loop_end mixed (fuel:=9) (n:=3) (im:=[]) (ext:=[162]) (keep:=[0,3,4]) (orc:=[.bool false]) (an (d_nlt i) trivial) (by intro e;cases e) (by kernel_rfl)
 | j+1,k,hj,hk=>by
  have hk' : k<i:=by omega
  have:=(gd_sorted h hk' hi).2
  exact loop_more mixed (fuel:=9) (n:=3) (im:=[]) (ext:=[162]) (keep:=[0,3,4]) (orc:=[.bool true,duT (gd l k),duT (gd l i),.bool false]) (an (d_lt hk')<|an (ixD (show k<l.length by omega))<|an (ixD hi)<|an (show ((gd l k).id==(gd l i).id)=false by simpa using this)<|an (d_in hk' (by omega)) trivial) (by kernel_rfl) (dk_lp h hm hi j (k+1) (by omega) (by omega))
theorem dc_more (h:okB l=true) (hm:l.length≤1000) {i:Nat} (hi:i<l.length) {x:Exit} {S:Sg} (ih:LoopP Tryz.prog (loopOf Tryz.prog 160 0) (hdDc l (i+1:Nat)) x S):LoopP Tryz.prog (loopOf Tryz.prog 160 0) (hdDc l i) x S:=by
 have ho:=(dok_iff.1 h).1 (gd l i) (by rw [gd_eq hi];exact List.getElem_mem hi)
 have h1:=inT_iff.1 ho.1
 have h2:0≤(gd l i).id∧(gd l i).id<16:=by simpa [ofTB] using ho.2
 have hd:=dk_lp h hm hi i 0 rfl (by omega)
 have a0:decide ((gd l i).tm<0)=false:=by simp;omega
 have a1:decide (1099511627776<(gd l i).tm)=false:=by simp;omega
 have a2:decide ((gd l i).id<0)=false:=by simp;omega
 have a3:decide (15<(gd l i).id)=false:=by simp;omega
 rcases Nat.eq_zero_or_pos i with h0 | h0
 ·subst h0
  exact loop_more mixed (fuel:=9) (n:=3) (im:=[]) (ext:=[162]) (keep:=[0,3]) (orc:=[.bool true,duT (gd l 0),.bool false,duT (gd l 0),.bool false,duT (gd l 0),.bool false,duT (gd l 0),.bool false,.bool false,oL [] [0,3,4] 2 [(0,rowD l),(3,.int .i64 (0:Nat)),(4,.int .i64 (0:Nat))] []])
   (an (d_lt hi)<|an (ixD hi)<|an a0<|an (ixD hi)<|an a1<|an (ixD hi)<|an a2<|an (ixD hi)<|an a3<|an (show decide ((0:Int)<(0:Nat))=false by simp)<|an hd<|an (d_in hi (by omega)) trivial) (by kernel_rfl) ih
 ·obtain ⟨k,rfl⟩:∃ k,i=k+1:=⟨i - 1,by omega⟩
  exact loop_more mixed (fuel:=9) (n:=3) (im:=[]) (ext:=[162]) (keep:=[0,3]) (orc:=[.bool true,duT (gd l (k+1)),.bool false,duT (gd l (k+1)),.bool false,duT (gd l (k+1)),.bool false,duT (gd l (k+1)),.bool false,.bool true,duT (gd l k),duT (gd l (k+1)),vD true,oL [] [0,3,4] 2 [(0,rowD l),(3,.int .i64 (k+1:Nat)),(4,.int .i64 (k+1:Nat))] []])
   (an (d_lt hi)<|an (ixD hi)<|an a0<|an (ixD hi)<|an a1<|an (ixD hi)<|an a2<|an (ixD hi)<|an a3<|an (show decide ((0:Int)<((k+1:Nat):Int))=true by simp)<|an (show In64 (((k+1:Nat):Int) - 1) by constructor <;> omega)<|an (show IxP ((l.map duT).toArray) (((k+1:Nat):Int) - 1) (duT (gd l k)) by rw [show ((k+1:Nat):Int) - 1=(k:Int) by omega];exact ixD (by omega))<|an (ixD hi)<|an (ac_rahead (gd_sorted h (show k<k+1 by omega) hi).1)<|an hd<|an (d_in hi (by omega)) trivial) (by kernel_rfl) ih
theorem dc_lp (h:okB l=true) (hm:l.length≤1000):∀ (k i:Nat),l.length - i=k→i≤l.length→LoopP Tryz.prog (loopOf Tryz.prog 160 0) (hdDc l i) (.exit 0) (hdDc l l.length)
 | 0,i,hk,hi=>by
  have:i=l.length:=by omega
  subst this
  exact loop_end mixed (fuel:=9) (n:=3) (im:=[]) (ext:=[162]) (keep:=[0,3]) (orc:=[.bool false]) (an (d_nlt l.length) trivial) (by intro e;cases e) (by kernel_rfl)
 | k+1,i,hk,hi=>dc_more h hm (by omega) (dc_lp h hm k (i+1) (by omega) (by omega))
theorem ac_rdcheck (h:okB l=true) (hm:l.length≤1000):AC Tryz.prog 160 [rowD l] (.bool true) :=
 ac_path mixed (ext:=[]) (fuel:=9) (n:=3) (orc:=[oL [] [0,3] 0 [(0,rowD l),(3,.int .i64 l.length)] []]) (an (dc_lp h hm l.length 0 rfl (by omega)) trivial) (by kernel_rfl)
def hdP (q:Nat) (l:List Du) (d:Du) (i:Nat) (o:Option (List Du)):Sg:=⟨mkT 85 [(0,rowD l),(3,pt 0),(7,oV 1 o),(q,.int .i64 i)],some ⟨true,false,2,1,[duT d]⟩::oB o⟩
theorem pa_lp (d:Du) (hm:l.length≤1000):LoopP Tryz.prog (loopOf Tryz.prog 114 0) (hdP 8 l d 0 none) (.exit 0) (hdP 8 l d l.length (tkO (fun e=>dahB e d) l none)) :=
 tk_loop (Hd:=hdP 8 l d) (l:=l) (p:=fun e=>dahB e d)
  (fun o=>by cases o with
   | none=>exact loop_end mixed (fuel:=9) (n:=3) (ext:=[162]) (keep:=[0,3,7,8]) (im:=[0]) (orc:=[.bool false]) (an (d_nlt l.length) trivial) (by intro e;cases e) (by kernel_rfl)
   | some m=>exact loop_end mixed (fuel:=9) (n:=3) (ext:=[162]) (keep:=[0,3,7,8]) (im:=[0,1]) (orc:=[.bool false]) (an (d_nlt l.length) trivial) (by intro e;cases e) (by kernel_rfl))
  (fun i hi o hp S ih=>by cases o with
   | none=>exact loop_more mixed (fuel:=9) (n:=3) (ext:=[162]) (keep:=[0,3,7,8]) (im:=[0]) (orc:=[.bool true,duT (gd l i),vD false]) (an (d_lt hi)<|an (ixD hi)<|an (ac_rahead hp)<|an (d_in hi (by omega)) trivial) (by kernel_rfl) ih
   | some m=>exact loop_more mixed (fuel:=9) (n:=3) (ext:=[162]) (keep:=[0,3,7,8]) (im:=[0,1]) (orc:=[.bool true,duT (gd l i),vD false]) (an (d_lt hi)<|an (ixD hi)<|an (ac_rahead hp)<|an (d_in hi (by omega)) trivial) (by kernel_rfl) ih)
  (fun i hi o hl hp S ih=>by cases o with
   | none=>exact loop_more mixed (fuel:=9) (n:=3) (ext:=[162]) (keep:=[0,3,7,8]) (im:=[0,2]) (orc:=[.bool true,duT (gd l i),vD true,duT (gd l i),rowD [gd l i]]) (an (d_lt hi)<|an (ixD hi)<|an (ac_rahead hp)<|an (ixD hi)<|an (rfl:(1:Nat)=1)<|an (allK_D [gd l i])<|an (appD0 (gd l i))<|an (d_in hi (by omega)) trivial) (by kernel_rfl) ih
   | some m=>exact loop_more mixed (fuel:=9) (n:=3) (ext:=[162]) (keep:=[0,3,7,8]) (im:=[0,3]) (orc:=[.bool true,duT (gd l i),vD true,duT (gd l i),rowD (m++[gd l i])]) (an (d_lt hi)<|an (ixD hi)<|an (ac_rahead hp)<|an (ixD hi)<|an (rfl:(1:Nat)=1)<|an (allK_D [gd l i])<|an (lenD m)<|an (appD (m:=m) (gd l i) (by have:m.length≤i+20:=hl;omega))<|an (d_in hi (by omega)) trivial) (by kernel_rfl) ih)
  l.length 0 none rfl (by omega) (by simp [listO])
theorem pb_lp (d:Du) (hm:l.length≤1000):∀ (k i:Nat) (m:List Du),l.length - i=k→i≤l.length→m.length≤l.length+i+1→LoopP Tryz.prog (loopOf Tryz.prog 114 1) (hdP 9 l d i (some m)) (.exit 2) (hdP 9 l d l.length (some (m++(l.drop i).filter (fun e=>dahB d e))))
 | 0,i,m,hk,hi,_=>by
  have:i=l.length:=by omega
  subst this
  rw [List.drop_length,List.filter_nil,List.append_nil]
  exact loop_end mixed (fuel:=9) (n:=3) (ext:=[162]) (keep:=[0,3,7,9]) (im:=[0,1]) (orc:=[.bool false]) (an (d_nlt l.length) trivial) (by intro e;cases e) (by kernel_rfl)
 | k+1,i,m,hk,hi',hl=>by
  have hi:i<l.length:=by omega
  rw [List.drop_eq_getElem_cons hi,← gd_eq hi]
  cases hp:dahB d (gd l i)
  ·rw [List.filter_cons_of_neg (by simp [hp])]
   exact loop_more mixed (fuel:=9) (n:=3) (ext:=[162]) (keep:=[0,3,7,9]) (im:=[0,1]) (orc:=[.bool true,duT (gd l i),vD false]) (an (d_lt hi)<|an (ixD hi)<|an (ac_rahead hp)<|an (d_in hi (by omega)) trivial) (by kernel_rfl) (pb_lp d hm k (i+1) m (by omega) (by omega) (by omega))
  ·rw [List.filter_cons_of_pos hp,List.append_cons]
   exact loop_more mixed (fuel:=9) (n:=3) (ext:=[162]) (keep:=[0,3,7,9]) (im:=[0,3]) (orc:=[.bool true,duT (gd l i),vD true,duT (gd l i),rowD (m++[gd l i])]) (an (d_lt hi)<|an (ixD hi)<|an (ac_rahead hp)<|an (ixD hi)<|an (rfl:(1:Nat)=1)<|an (allK_D [gd l i])<|an (lenD m)<|an (appD (m:=m) (gd l i) (by omega))<|an (d_in hi (by omega)) trivial) (by kernel_rfl) (pb_lp d hm k (i+1) _ (by omega) (by omega) (by simp;omega))
def dpE:List FuncId:=[160,161]
def dpO (l:List Du) (d:Du):List Value:=[vD true,.bool false,.bool false,.bool false,.bool false,rowD (without l d.id),.bool false]
theorem ac_rdput {d:Du} (h:codeI l d=0) (hm:l.length≤1000):AC Tryz.prog 114 [rowD l,duT d] (.tuple #[rowD (putL l d),.int .i64 0]):=by
 obtain ⟨h1,h2,h3,h4,h5⟩:=ok_put h
 have b3:=inT_iff.1 h3
 have b4:0≤d.id∧d.id<16:=by simpa [ofTB] using h4
 have a0:decide (d.tm<0)=false:=by simp;omega
 have a1:decide (1099511627776<d.tm)=false:=by simp;omega
 have a2:decide (d.id<0)=false:=by simp;omega
 have a3:decide (15<d.id)=false:=by simp;omega
 have a4:decide (((without l d.id).length:Int)<l.length)=false:=by
  simp only [decide_eq_false_iff_not]
  rw [without_lt,h5];simp
 have hL:=pa_lp (l:=l) d hm
 have e:putL l d=listO (tkO (fun e=>dahB e d) l none)++d::l.filter (fun e=>dahB d e):=by rw [tkO_is];exact put_parts h
 have hlen:(listO (tkO (fun e=>dahB e d) l none)).length≤l.length:=by rw [tkO_is];simp [listO];exact List.length_filter_le _ _
 rw [e]
 revert hL hlen
 generalize tkO (fun e=>dahB e d) l none=o
 intro hL hlen
 rw [show listO o++d::l.filter (fun e=>dahB d e)=(listO o++[d])++l.filter (fun e=>dahB d e) by simp]
 have hB:=pb_lp (l:=l) d hm l.length 0 (listO o++[d]) rfl (by omega) (by simp;omega)
 rw [List.drop_zero] at hB
 generalize hr:(listO o++[d])++l.filter (fun e=>dahB d e)=r at hB ⊢
 cases o with
 | none =>
  exact ac_path mixed (ext:=dpE) (fuel:=9) (n:=3) (orc:=dpO l d++[oL [0] [0,3,7,8] 0 [(0,rowD l),(3,pt 0),(7,.slice none 0 0),(8,.int .i64 l.length)] (hdP 8 l d l.length none).H,rowD [d],oL [1,3] [0,3,7,9] 2 [(0,rowD l),(3,pt 0),(7,oV 1 (some r)),(9,.int .i64 l.length)] (hdP 9 l d l.length (some r)).H])
   (an (ac_rdcheck h2 hm)<|an a0<|an a1<|an a2<|an a3<|an (ac_rwithout l d.id hm)<|an a4<|an hL<|an (rfl:(1:Nat)=1)<|an (allK_D [d])<|an (appD0 d)<|an hB<|an (len_map (f:=duT) r) trivial) (by kernel_rfl)
 | some m =>
  have hml:m.length≤l.length:=hlen
  exact ac_path mixed (ext:=dpE) (fuel:=9) (n:=3) (orc:=dpO l d++[oL [0] [0,3,7,8] 0 [(0,rowD l),(3,pt 0),(7,oV 1 (some m)),(8,.int .i64 l.length)] (hdP 8 l d l.length (some m)).H,rowD (m++[d]),oL [1,4] [0,3,7,9] 2 [(0,rowD l),(3,pt 0),(7,oV 1 (some r)),(9,.int .i64 l.length)] (hdP 9 l d l.length (some r)).H])
   (an (ac_rdcheck h2 hm)<|an a0<|an a1<|an a2<|an a3<|an (ac_rwithout l d.id hm)<|an a4<|an hL<|an (rfl:(1:Nat)=1)<|an (allK_D [d])<|an (lenD m)<|an (appD (m:=m) d (by omega))<|an hB<|an (len_map (f:=duT) r) trivial) (by kernel_rfl)
end
end
section
open Go.RowKit
theorem ac_rtimed {k:Int} {b:Bool} (h:opTimed k=b):AC Tryz.prog 113 [.int .i64 k] (.bool b):=by
 subst h
 unfold opTimed
 cases e:k==3
 ·exact ac_path mixed (ext:=[]) (fuel:=9) (n:=3) (orc:=[.bool false]) (an e trivial) (by kernel_rfl)
 ·exact ac_path mixed (ext:=[]) (fuel:=9) (n:=3) (orc:=[.bool true]) (an e trivial) (by kernel_rfl)
def cnE:List FuncId:=[84,98]
theorem ac_rcancel {ep:Int} {l:List Int} (i:Int) (hok:okE ep l=true):AC Tryz.prog 115 [evT ep l,.int .i64 i] (.tuple #[evT ep (cnL ep l i),.bool (lvE l i==0)]):=by
 rw [show cnL ep l i=lvL l i by simp [cnL,hok]]
 by_cases h:lvE l i=0
 ·rw [show (lvE l i==0)=true by simp [h]]
  exact ac_path mixed (ext:=cnE) (fuel:=9) (n:=3) (orc:=[vD true,.tuple #[rowI (lvL l i),.int .i64 (lvE l i)],.bool false]) (an (ac_recheck hok)<|an (ac_rleave (i:=i) (okE_ln hok))<|an (show (lvE l i != 0)=false by simp [h]) trivial) (by kernel_rfl)
 ·rw [show (lvE l i==0)=false by simp [h],(lv_no h).2]
  exact ac_path mixed (ext:=cnE) (fuel:=9) (n:=3) (orc:=[vD true,.tuple #[rowI (lvL l i),.int .i64 (lvE l i)],.bool true]) (an (ac_recheck hok)<|an (ac_rleave (i:=i) (okE_ln hok))<|an (show (lvE l i != 0)=true by simp [h]) trivial) (by kernel_rfl)
theorem td_code {s:St} (h:stB s=true) {k:Nat} (hk:k<s.th.length) (ht:tdB (gth s.th k)=true):codeI (tdS s k) (tdDu s k)=0:=by
 obtain ⟨h1,h2⟩:=td_ok h (k:=k) (by omega)
 have hth:=(th_len h).2.2
 have hu:=td_time (gth_ok h hk) ht
 refine code_mk h1 (inT_iff.2 hu) (by unfold ofTB;rw [Bool.and_eq_true];exact ⟨decide_eq_true (show (0:Int)≤(k:Int) by omega),decide_eq_true (show (k:Int)<16 by omega)⟩) (nhas_iff.2 fun d hd=>?_)
 obtain ⟨i,hi,-,rfl⟩:=(h2 d).1 hd
 show ((i:Int))≠(k:Int)
 omega
theorem putL_le (l:List Du) (d:Du):(putL l d).length≤l.length+1:=by
 unfold putL;split
 ·rw [srt_len];simp
 ·omega
theorem td_len (s:St):∀ k,(tdS s k).length≤k
 | 0=>by simp [tdS]
 | k+1=>by
  have:=td_len s k
  have:=putL_le (tdS s k) (tdDu s k)
  simp only [tdS];split <;> omega
def tdO (s:St):Nat→Option (List Du)
 | 0=>none
 | k+1=>if tdB (gth s.th k) then some (putL (listO (tdO s k)) (tdDu s k)) else tdO s k
theorem tdO_is (s:St):∀ k,listO (tdO s k)=tdS s k
 | 0=>rfl
 | k+1=>by
  simp only [tdO,tdS,tdO_is s k]
  split
  ·rfl
  ·exact tdO_is s k
def oRw:Option (List Du)→Value
 | none=>.slice none 0 0
 | some m=>rowD m
def hdDu (s:St) (i:Nat) (o:Option (List Du)):Sg:=⟨mkT 48 [(1,pt 0),(4,oRw o),(5,.int .i64 i)],[bS s]⟩
theorem du_more {s:St} (h:stB s=true) {i:Nat} (hi:i<s.th.length) {S:Sg} (ih:LoopP Tryz.prog (loopOf Tryz.prog 52 0) (hdDu s (i+1) (tdO s (i+1))) (.exit 0) S):LoopP Tryz.prog (loopOf Tryz.prog 52 0) (hdDu s i (tdO s i)) (.exit 0) S:=by
 have hm:=(th_len h).2.2
 have hc:=td_code h hi
 have hln:=td_len s i
 rw [← tdO_is] at hc hln
 have d0:=d_lt hi
 have dn:=d_in hi (by omega)
 simp only [tdO] at ih
 generalize tdO s i=o at ih hc hln ⊢
 cases ht:opTimed (gth s.th i).ki
 ·rw [show tdB (gth s.th i)=false by simp [tdB,ht]] at ih
  cases o with
  | none=>exact loop_more mixed (fuel:=9) (n:=3) (im:=[0]) (keep:=[1,4,5]) (ext:=[113,114]) (orc:=[.bool true,thT (gth s.th i),vD false]) (an d0<|an (ixT hi)<|an (ac_rtimed ht)<|an dn trivial) (by kernel_rfl) ih
  | some m=>exact loop_more mixed (fuel:=9) (n:=3) (im:=[0]) (keep:=[1,4,5]) (ext:=[113,114]) (orc:=[.bool true,thT (gth s.th i),vD false]) (an d0<|an (ixT hi)<|an (ac_rtimed ht)<|an dn trivial) (by kernel_rfl) ih
 ·cases hs:(gth s.th i).st != 0
  ·rw [show tdB (gth s.th i)=false by simp [tdB];intro _ h0;simp [h0] at hs] at ih
   cases o with
   | none=>exact loop_more mixed (fuel:=9) (n:=3) (im:=[0]) (keep:=[1,4,5]) (ext:=[113,114]) (orc:=[.bool true,thT (gth s.th i),vD true,.bool false]) (an d0<|an (ixT hi)<|an (ac_rtimed ht)<|an hs<|an dn trivial) (by kernel_rfl) ih
   | some m=>exact loop_more mixed (fuel:=9) (n:=3) (im:=[0]) (keep:=[1,4,5]) (ext:=[113,114]) (orc:=[.bool true,thT (gth s.th i),vD true,.bool false]) (an d0<|an (ixT hi)<|an (ac_rtimed ht)<|an hs<|an dn trivial) (by kernel_rfl) ih
  ·cases hl : !(gth s.th i).la
   ·rw [show tdB (gth s.th i)=false by simp [tdB,hl]] at ih
    cases o with
    | none=>exact loop_more mixed (fuel:=9) (n:=3) (im:=[0]) (keep:=[1,4,5]) (ext:=[113,114]) (orc:=[.bool true,thT (gth s.th i),vD true,.bool true,.bool false]) (an d0<|an (ixT hi)<|an (ac_rtimed ht)<|an hs<|an hl<|an dn trivial) (by kernel_rfl) ih
    | some m=>exact loop_more mixed (fuel:=9) (n:=3) (im:=[0]) (keep:=[1,4,5]) (ext:=[113,114]) (orc:=[.bool true,thT (gth s.th i),vD true,.bool true,.bool false]) (an d0<|an (ixT hi)<|an (ac_rtimed ht)<|an hs<|an hl<|an dn trivial) (by kernel_rfl) ih
   ·have hB:tdB (gth s.th i)=true:=by
     have:(gth s.th i).st≠0:=by simpa using hs
     simp [tdB,ht,hl,this]
    rw [hB] at ih
    have hp:=ac_rdput (hc hB) (by omega)
    cases o with
    | none=>exact loop_more mixed (fuel:=9) (n:=3) (im:=[0]) (keep:=[1,4,5]) (ext:=[113,114]) (orc:=[.bool true,thT (gth s.th i),vD true,.bool true,.bool true,.tuple #[rowD (putL [] (tdDu s i)),.int .i64 0]]) (an d0<|an (ixT hi)<|an (ac_rtimed ht)<|an hs<|an hl<|an hp<|an dn trivial) (by kernel_rfl) ih
    | some m=>exact loop_more mixed (fuel:=9) (n:=3) (im:=[0]) (keep:=[1,4,5]) (ext:=[113,114]) (orc:=[.bool true,thT (gth s.th i),vD true,.bool true,.bool true,.tuple #[rowD (putL m (tdDu s i)),.int .i64 0]]) (an d0<|an (ixT hi)<|an (ac_rtimed ht)<|an hs<|an hl<|an hp<|an dn trivial) (by kernel_rfl) ih
theorem du_lp {s:St} (h:stB s=true):∀ (k i:Nat),s.th.length - i=k→i≤s.th.length→LoopP Tryz.prog (loopOf Tryz.prog 52 0) (hdDu s i (tdO s i)) (.exit 0) (hdDu s s.th.length (tdO s s.th.length))
 | 0,i,hk,hi=>by
  have:i=s.th.length:=by omega
  subst this
  generalize tdO s s.th.length=o
  cases o with
  | none=>exact loop_end mixed (fuel:=9) (n:=3) (im:=[0]) (keep:=[1,4,5]) (ext:=[113,114]) (orc:=[.bool false]) (an (d_nlt s.th.length) trivial) (by intro e;cases e) (by kernel_rfl)
  | some m=>exact loop_end mixed (fuel:=9) (n:=3) (im:=[0]) (keep:=[1,4,5]) (ext:=[113,114]) (orc:=[.bool false]) (an (d_nlt s.th.length) trivial) (by intro e;cases e) (by kernel_rfl)
 | k+1,i,hk,hi=>du_more h (by omega) (du_lp h k (i+1) (by omega) (by omega))
theorem ac_rdues {s:St} (ho:s.ok) (hw:s.few):AC Tryz.prog 52 [stT s] (rowD (duesS s)):=by
 cases h:stB s
 ·rw [show duesS s=[] by simp [duesS,h]]
  exact ac_path mixed (fuel:=9) (n:=3) (ext:=[46]) (orc:=[vD false]) (an (ac_rcheck h ho hw) trivial) (by kernel_rfl)
 ·rw [show duesS s=tdS s s.th.length by simp [duesS,h],← tdO_is]
  have hL:=du_lp h s.th.length 0 rfl (by omega)
  rw [show tdO s 0=none from rfl] at hL
  generalize tdO s s.th.length=o at hL ⊢
  cases o with
  | none=>exact ac_path mixed (fuel:=9) (n:=3) (ext:=[46]) (orc:=[vD true,oL [0] [1,4,5] 0 [(1,pt 0),(4,.slice none 0 0),(5,.int .i64 s.th.length)] [bS s]]) (an (ac_rcheck h ho hw)<|an hL trivial) (by kernel_rfl)
  | some m=>exact ac_path mixed (fuel:=9) (n:=3) (ext:=[46]) (orc:=[vD true,oL [0] [1,4,5] 0 [(1,pt 0),(4,rowD m),(5,.int .i64 s.th.length)] [bS s]]) (an (ac_rcheck h ho hw)<|an hL trivial) (by kernel_rfl)
def laT (t:Th) (x:Int):Th:=⟨x,t.ki,t.va,t.un,t.pc,t.re,t.se,t.tr,true,t.rs,t.go⟩
def ccS (s:St) (n:Nat):St:=⟨s.cf,s.hd,s.tl,s.md,s.sl,s.sn,s.rc,s.fe,cnL s.fe s.fl n,s.ee,cnL s.ee s.el n,s.nw,s.th,s.lg⟩
theorem ac_rlate {s:St} (hB:stB s=true) {i:Int} (h:0≤i∧i.toNat<s.th.length):AC Tryz.prog 53 [stT s,.int .i64 i] (stT (lateS s i.toNat)):=by
 obtain ⟨n,rfl⟩:∃ n:Nat,i=n:=⟨i.toNat,by omega⟩
 rw [Int.toNat_natCast] at h ⊢
 have hn:=h.2
 have hm:=(th_len hB).2.2
 obtain ⟨-,-,-,-,hf,he⟩:=full_lines hB
 by_cases h2:(gth s.th n).st=2
 ·have e:lateS s n=(ccS s n).setTh n (laT (gth s.th n) 1):=by unfold lateS lateT;rw [if_pos h2,if_pos h2];rfl
  rw [e]
  exact ac_path mixed (fuel:=9) (n:=3) (ext:=[115,56]) (orc:=[thT (gth s.th n),.bool true,.tuple #[evT s.fe (cnL s.fe s.fl n),.bool (lvE s.fl n==0)],.tuple #[evT s.ee (cnL s.ee s.el n),.bool (lvE s.el n==0)],stT ((ccS s n).setTh n (laT (gth s.th n) 1))])
   (an (ixT hn)<|an (show ((gth s.th n).st==2)=true by simp [h2])<|an (ac_rcancel (n:Int) hf)<|an (ac_rcancel (n:Int) he)<|an (ac_rwith (ccS s n) n (laT (gth s.th n) 1) hn (by show s.th.length≤1000;omega)) trivial) (by kernel_rfl)
 ·have e:lateS s n=s.setTh n (laT (gth s.th n) (gth s.th n).st):=by unfold lateS lateT;rw [if_neg h2,if_neg h2];rfl
  rw [e]
  exact ac_path mixed (fuel:=9) (n:=3) (ext:=[115,56]) (orc:=[thT (gth s.th n),.bool false,stT (s.setTh n (laT (gth s.th n) (gth s.th n).st))])
   (an (ixT hn)<|an (show ((gth s.th n).st==2)=false by simpa using h2)<|an (ac_rwith s n (laT (gth s.th n) (gth s.th n).st) hn (by omega)) trivial) (by kernel_rfl)
def adI:Option (List Int)→Int→Option (List Int)
 | none,d=>some [d]
 | some m,d=>some (m++[d])
def listI:Option (List Int)→List Int
 | none=>[]
 | some m=>m
def lsO:List Int→Option (List Int)→Option (List Int)
 | [],o=>o
 | x::r,o=>lsO r (adI o x)
theorem lsO_is:∀ (l:List Int) (o:Option (List Int)),listI (lsO l o)=listI o++l
 | [],o=>by simp [lsO]
 | x::r,o=>by
  show listI (lsO r (adI o x))=_
  rw [lsO_is r]
  cases o <;> simp [adI,listI]
theorem listI_ad (o:Option (List Int)) (d:Int):(listI (adI o d)).length=(listI o).length+1:=by cases o <;> simp [adI,listI]
def iB:Option (List Int)→List (Option Blk)
 | none=>[]
 | some m=>[some ⟨true,true,1,m.length,m.map (Value.int .i64 ·)⟩]
def iV (b:Nat):Option (List Int)→Value
 | none=>.slice none 0 0
 | some m=>.slice (some ⟨b,0,some 0⟩) m.length 0
def hdTk (s:St) (l:List Du) (i:Nat) (o:Option (List Int)):Sg:=⟨mkT 64 [(2,pt 0),(4,pt 1),(8,rowD l),(9,iV 2 o),(10,.int .i64 i)],bS s::bZ::iB o⟩
theorem appI {m:List Int} (d:Int) (h:m.length≤1000000):AppP (m++[d]).length ((m++[d]).map (Value.int .i64 ·)) m.length (m.map (Value.int .i64 ·)) 1 [.int .i64 d]:=⟨by simp,by simp,by omega⟩
theorem appI0 (d:Int):0<1∧AppP [d].length ([d].map (Value.int .i64 ·)) 0 [] 1 [.int .i64 d]:=⟨by omega,by simp,by simp,by omega⟩
theorem lateIds_cons (d:Du) (l:List Du) (now:Int):lateIds (d::l) now=if lateB now d then d.id::lateIds l now else lateIds l now:=by
 unfold lateIds
 cases h:lateB now d <;> simp [h]
def TdOk (s:St) (i:Int):Prop:=0≤i∧i.toNat<s.th.length∧opTimed (gth s.th i.toNat).ki=true∧(gth s.th i.toNat).st≠0
theorem TdOk.late {s:St} {i j:Int} (h:TdOk s i) (hj:TdOk s j):TdOk (lateS s j.toNat) i:=by
 obtain ⟨h0,h1,h2,h3⟩:=h
 refine ⟨h0,by rw [late_len];exact h1,?_,?_⟩
 ·rw [gth_late hj.2.1];split
  ·exact h2
  ·exact h2
 ·rw [gth_late hj.2.1];split
  ·unfold lateT;simp only;split <;> omega
  ·exact h3
theorem tk_more {s:St} {l:List Du} {o:Option (List Int)} {i:Nat} (hB:stB s=true) (hm:l.length≤1000) (hi:i<l.length) (hd:TdOk s (gd l i).id) (ho:(listI o).length≤i) {S:Sg}
  (ih:LoopP Tryz.prog (loopOf Tryz.prog 26 0) (if lateB s.nw (gd l i) then hdTk (lateS s (gd l i).id.toNat) l (i+1) (adI o (gd l i).id) else hdTk s l (i+1) o) (.exit 0) S):LoopP Tryz.prog (loopOf Tryz.prog 26 0) (hdTk s l i o) (.exit 0) S:=by
 cases hl:lateB s.nw (gd l i)
 ·rw [hl] at ih
  cases o with
  | none=>exact loop_more mixed (fuel:=9) (n:=3) (keep:=[2,4,8,9,10]) (ext:=[53]) (im:=[0,1]) (orc:=[.bool true,duT (gd l i),.bool false]) (an (d_lt hi)<|an (ixD hi)<|an hl<|an (d_in hi (by omega)) trivial) (by kernel_rfl) ih
  | some m=>exact loop_more mixed (fuel:=9) (n:=3) (keep:=[2,4,8,9,10]) (ext:=[53]) (im:=[0,1,2]) (orc:=[.bool true,duT (gd l i),.bool false]) (an (d_lt hi)<|an (ixD hi)<|an hl<|an (d_in hi (by omega)) trivial) (by kernel_rfl) ih
 ·rw [hl] at ih
  have hc:=ac_rlate hB ⟨hd.1,hd.2.1⟩
  cases o with
  | none=>exact loop_more mixed (fuel:=9) (n:=3) (keep:=[2,4,8,9,10]) (ext:=[53]) (im:=[0,1,3]) (orc:=[.bool true,duT (gd l i),.bool true,duT (gd l i),rowI [(gd l i).id],duT (gd l i),stT (lateS s (gd l i).id.toNat)]) (an (d_lt hi)<|an (ixD hi)<|an hl<|an (ixD hi)<|an (rfl:(1:Nat)=1)<|an (allK_I [(gd l i).id])<|an (appI0 (gd l i).id)<|an (ixD hi)<|an hc<|an (d_in hi (by omega)) trivial) (by kernel_rfl) ih
  | some m=>exact loop_more mixed (fuel:=9) (n:=3) (keep:=[2,4,8,9,10]) (ext:=[53]) (im:=[0,1,4]) (orc:=[.bool true,duT (gd l i),.bool true,duT (gd l i),rowI (m++[(gd l i).id]),duT (gd l i),stT (lateS s (gd l i).id.toNat)]) (an (d_lt hi)<|an (ixD hi)<|an hl<|an (ixD hi)<|an (rfl:(1:Nat)=1)<|an (allK_I [(gd l i).id])<|an (lenIs m)<|an (appI (m:=m) (gd l i).id (by have:m.length≤i:=ho;omega))<|an (ixD hi)<|an hc<|an (d_in hi (by omega)) trivial) (by kernel_rfl) ih
theorem tick_lp {l:List Du} (hm:l.length≤1000):∀ (k i:Nat) {s:St} {o:Option (List Int)},l.length - i=k→i≤l.length→stB s=true→(∀ d∈l,TdOk s d.id)→(listI o).length≤i →
  LoopP Tryz.prog (loopOf Tryz.prog 26 0) (hdTk s l i o) (.exit 0) (hdTk (lateK (lateIds (l.drop i) s.nw) s) l l.length (lsO (lateIds (l.drop i) s.nw) o))
 | 0,i,s,o,hk,hi,_,_,_=>by
  have:i=l.length:=by omega
  subst this
  rw [List.drop_length]
  cases o with
  | none=>exact loop_end mixed (fuel:=9) (n:=3) (keep:=[2,4,8,9,10]) (ext:=[53]) (im:=[0,1]) (orc:=[.bool false]) (an (d_nlt l.length) trivial) (by intro e;cases e) (by kernel_rfl)
  | some m=>exact loop_end mixed (fuel:=9) (n:=3) (keep:=[2,4,8,9,10]) (ext:=[53]) (im:=[0,1,2]) (orc:=[.bool false]) (an (d_nlt l.length) trivial) (by intro e;cases e) (by kernel_rfl)
 | k+1,i,s,o,hk,hi',hB,hd,ho=>by
  have hi:i<l.length:=by omega
  have hdi:=hd (gd l i) (by rw [gd_eq hi];exact List.getElem_mem hi)
  refine tk_more hB hm hi hdi ho ?_
  rw [List.drop_eq_getElem_cons hi,← gd_eq hi,lateIds_cons]
  cases hl:lateB s.nw (gd l i)
  ·exact tick_lp hm k (i+1) (by omega) (by omega) hB hd (by omega)
  ·have hs:=late_stB hB hdi.2.1 hdi.2.2.1 hdi.2.2.2
   have:=tick_lp hm k (i+1) (s:=lateS s (gd l i).id.toNat) (o:=adI o (gd l i).id) (by omega) (by omega) hs (fun d h=>(hd d h).late hdi) (by rw [listI_ad];omega)
   rw [(lateS_rest s _).2.2.2.2.2.2.2.1] at this
   exact this
theorem ac_rtick {s:St} {n:Int} (ho:s.ok) (hw:s.few) (hn:In64 n):AC Tryz.prog 26 [stT s,.int .i64 n] (.tuple #[stT (tickS s n),rowI (tickI s n),.int .i64 (tickE s n)]):=by
 cases hB:stB s
 ·have e:tickE s n=20:=by simp [tickE,hB]
  obtain ⟨h1,h2⟩:=tick_no (s:=s) (n:=n) (by omega)
  rw [h1,h2,e]
  exact ac_path mixed (fuel:=9) (n:=3) (ext:=[46,52]) (orc:=[vD false]) (an (ac_rcheck hB ho hw) trivial) (by kernel_rfl)
 ·have hb:=nw_bd hB
  have hsub:In64 (1099511627776 - s.nw):=by constructor <;> omega
  by_cases h0:n<0
  ·have e:tickE s n=50:=by simp [tickE,hB,h0]
   obtain ⟨h1,h2⟩:=tick_no (s:=s) (n:=n) (by omega)
   rw [h1,h2,e]
   exact ac_path mixed (fuel:=9) (n:=3) (ext:=[46,52]) (orc:=[vD true,.bool true]) (an (ac_rcheck hB ho hw)<|an (show decide (n<0)=true by simpa using h0) trivial) (by kernel_rfl)
  ·by_cases h1:1099511627776 - s.nw<n
   ·have e:tickE s n=50:=by simp [tickE,hB,h1]
    obtain ⟨h3,h2⟩:=tick_no (s:=s) (n:=n) (by omega)
    rw [h3,h2,e]
    exact ac_path mixed (fuel:=9) (n:=3) (ext:=[46,52]) (orc:=[vD true,.bool false,.bool true]) (an (ac_rcheck hB ho hw)<|an (show decide (n<0)=false by simpa using h0)<|an hsub<|an (show decide (1099511627776 - s.nw<n)=true by simpa using h1) trivial) (by kernel_rfl)
   ·have e:tickE s n=0:=tickE_mk hB (by omega) (by omega)
    obtain ⟨e1,e2⟩:=tick_yes e
    have hL:=tick_lp (l:=duesS s) (by have:=td_len s s.th.length;have:=(th_len hB).2.2;simp only [duesS,hB,if_true];omega) (duesS s).length 0 (s:=s.toNow (s.nw+n)) (o:=none) rfl (by omega) (now_stB hB (by omega)) (fun d hd=>by
     obtain ⟨j,hj,ht,rfl⟩:=(mem_dues hB).1 hd
     obtain ⟨a,b,-⟩:=td_is.1 ht
     exact ⟨by show (0:Int)≤(j:Int);omega,by show ((j:Int)).toNat<_;rw [Int.toNat_natCast];exact hj,by show opTimed (gth s.th ((j:Int)).toNat).ki=true;rw [Int.toNat_natCast];exact a,by show (gth s.th ((j:Int)).toNat).st≠0;rw [Int.toNat_natCast];exact b⟩) (by simp [listI])
    rw [List.drop_zero,show (s.toNow (s.nw+n)).nw=s.nw+n from rfl,← e2,← e1] at hL
    rw [e,show rowI (tickI s n)=rowI (listI (lsO (tickI s n) none)) by rw [lsO_is];rfl]
    have hd:=ac_rdues ho hw
    generalize lsO (tickI s n) none=o at hL ⊢
    generalize duesS s=l at hL hd ⊢
    generalize tickS s n=r at hL ⊢
    cases o with
    | none=>exact ac_path mixed (fuel:=9) (n:=3) (ext:=[46,52]) (orc:=[vD true,.bool false,.bool false,rowD l,oL [0,1] [2,4,8,9,10] 0 [(2,pt 0),(4,pt 1),(8,rowD l),(9,.slice none 0 0),(10,.int .i64 l.length)] [bS r,bZ]]) (an (ac_rcheck hB ho hw)<|an (show decide (n<0)=false by simpa using h0)<|an hsub<|an (show decide (1099511627776 - s.nw<n)=false by simpa using h1)<|an hd<|an (show In64 (s.nw+n) by constructor <;> omega)<|an hL trivial) (by kernel_rfl)
    | some m=>exact ac_path mixed (fuel:=9) (n:=3) (ext:=[46,52]) (orc:=[vD true,.bool false,.bool false,rowD l,oL [0,1] [2,4,8,9,10] 0 [(2,pt 0),(4,pt 1),(8,rowD l),(9,iV 2 (some m)),(10,.int .i64 l.length)] (bS r::bZ::iB (some m))]) (an (ac_rcheck hB ho hw)<|an (show decide (n<0)=false by simpa using h0)<|an hsub<|an (show decide (1099511627776 - s.nw<n)=false by simpa using h1)<|an hd<|an (show In64 (s.nw+n) by constructor <;> omega)<|an hL<|an (len_map (f:=(Value.int .i64 ·)) m) trivial) (by kernel_rfl)
end
section
open Go.RowKit
structure TkK (s:St):Prop where
 ok:s.ok
 few:s.few
theorem tickI_len {s:St} (h:TkK s) (n:Int):(tickI s n).length≤16:=by
 by_cases e:tickE s n=0
 ·obtain ⟨hB,-⟩:=tickE_ok e
  have:=td_len s s.th.length
  have:=(th_len hB).2.2
  rw [(tick_yes e).2]
  unfold lateIds
  rw [List.length_map]
  refine Nat.le_trans (List.length_filter_le _ _) ?_
  simp only [duesS,hB,if_true];omega
 ·rw [(tick_no e).2];simp
end
section
open Go.RowKit
theorem ac_rtruns {t:Th} {e:Int} (h:thRuns t.st=e):AC Tryz.prog 47 [thT t] (.int .i64 e):=by
 subst h
 by_cases h0:t.st=0
 ·rw [show thRuns t.st=121 by simp [thRuns,h0]]
  exact ac_path mixed (ext:=[]) (fuel:=9) (n:=3) (orc:=[.bool true]) (an (show (t.st==0)=true by simpa using h0) trivial) (by kernel_rfl)
 ·by_cases h2:t.st=2
  ·rw [show thRuns t.st=122 by simp [thRuns,h2]]
   exact ac_path mixed (ext:=[]) (fuel:=9) (n:=3) (orc:=[.bool false,.bool true]) (an (show (t.st==0)=false by simpa using h0)<|an (show (t.st==2)=true by simpa using h2) trivial) (by kernel_rfl)
  ·rw [runs1 h0 h2]
   exact ac_path mixed (ext:=[]) (fuel:=9) (n:=3) (orc:=[.bool false,.bool false]) (an (show (t.st==0)=false by simpa using h0)<|an (show (t.st==2)=false by simpa using h2) trivial) (by kernel_rfl)
theorem d_t {p:Prop} [Decidable p] (h:p):decide p=true:=decide_eq_true h
theorem d_f {p:Prop} [Decidable p] (h:¬ p):decide p=false:=decide_eq_false h
theorem ac_rmay {c:Cf} {i k r:Int} (h:opMay c.th c.si i k=r):AC Tryz.prog 54 [cfT c,.int .i64 i,.int .i64 k] (.int .i64 r):=by
 have hs:=side_is k
 have hb:opB k=false↔(k<1∨8<k):=by simp only [opB,Bool.and_eq_false_iff,decide_eq_false_iff_not];omega
 subst h;unfold opMay
 by_cases h0:i<0
 ·rw [if_pos (.inl h0)]
  exact ac_path mixed (ext:=[]) (fuel:=9) (n:=3) (orc:=[.bool true]) (an (d_t h0) trivial) (by kernel_rfl)
 by_cases h1:c.th≤i
 ·rw [if_pos (.inr h1)]
  exact ac_path mixed (ext:=[]) (fuel:=9) (n:=3) (orc:=[.bool false,.bool true]) (an (d_f h0)<|an (d_t h1) trivial) (by kernel_rfl)
 rw [if_neg (by omega)]
 by_cases h2:k<1
 ·rw [if_pos (hb.2 (.inl h2))]
  exact ac_path mixed (ext:=[]) (fuel:=9) (n:=3) (orc:=[.bool false,.bool false,.bool true]) (an (d_f h0)<|an (d_f h1)<|an (d_t h2) trivial) (by kernel_rfl)
 by_cases h3:8<k
 ·rw [if_pos (hb.2 (.inr h3))]
  exact ac_path mixed (ext:=[]) (fuel:=9) (n:=3) (orc:=[.bool false,.bool false,.bool false,.bool true]) (an (d_f h0)<|an (d_f h1)<|an (d_f h2)<|an (d_t h3) trivial) (by kernel_rfl)
 rw [if_neg (fun e=>by have:=hb.1 e;omega)]
 cases h4:c.si
 ·rw [if_neg (by simp)]
  exact ac_path mixed (ext:=[]) (fuel:=9) (n:=3) (orc:=[.bool false,.bool false,.bool false,.bool false,.bool false]) (an (d_f h0)<|an (d_f h1)<|an (d_f h2)<|an (d_f h3)<|an h4 trivial) (by kernel_rfl)
 by_cases h5:4≤k
 ·by_cases h6:k≤6
  ·by_cases h7:i=0
   ·rw [if_neg (fun e=>e.2.2 h7)]
    exact ac_path mixed (ext:=[]) (fuel:=9) (n:=3) (orc:=[.bool false,.bool false,.bool false,.bool false,.bool true,.bool true,.bool true,.bool false]) (an (d_f h0)<|an (d_f h1)<|an (d_f h2)<|an (d_f h3)<|an h4<|an (d_t h5)<|an (d_t h6)<|an (show (i != 0)=false by simpa using h7) trivial) (by kernel_rfl)
   ·rw [if_pos ⟨rfl,by omega,h7⟩]
    exact ac_path mixed (ext:=[]) (fuel:=9) (n:=3) (orc:=[.bool false,.bool false,.bool false,.bool false,.bool true,.bool true,.bool true,.bool true]) (an (d_f h0)<|an (d_f h1)<|an (d_f h2)<|an (d_f h3)<|an h4<|an (d_t h5)<|an (d_t h6)<|an (show (i != 0)=true by simpa using h7) trivial) (by kernel_rfl)
  ·rw [if_neg (fun e=>by have:=e.2.1;omega)]
   exact ac_path mixed (ext:=[]) (fuel:=9) (n:=3) (orc:=[.bool false,.bool false,.bool false,.bool false,.bool true,.bool true,.bool false]) (an (d_f h0)<|an (d_f h1)<|an (d_f h2)<|an (d_f h3)<|an h4<|an (d_t h5)<|an (d_f h6) trivial) (by kernel_rfl)
 ·rw [if_neg (fun e=>by have:=e.2.1;omega)]
  exact ac_path mixed (ext:=[]) (fuel:=9) (n:=3) (orc:=[.bool false,.bool false,.bool false,.bool false,.bool true,.bool false]) (an (d_f h0)<|an (d_f h1)<|an (d_f h2)<|an (d_f h3)<|an h4<|an (d_f h5) trivial) (by kernel_rfl)
theorem ac_rtbeg {t r:Th} {k v u E:Int} (h:thBeg t k v u E r):AC Tryz.prog 55 [thT t,.int .i64 k,.int .i64 v,.int .i64 u] (.tuple #[thT r,.int .i64 E]):=by
 have hb:∀ {b},opB k=b→(b=false↔(k<1∨8<k)):=fun e=>by subst e;simp only [opB,Bool.and_eq_false_iff,decide_eq_false_iff_not];omega
 have s0:t.st=0→(t.st != 0)=false:=fun e=>by simp [e]
 rcases h with ⟨h0,rfl,rfl⟩ | ⟨h0,h1,rfl,rfl⟩ | ⟨h0,h1,h2,rfl,rfl⟩ | ⟨h0,h1,h2,h3,rfl,rfl⟩ | ⟨h0,h1,h2,h3,rfl,rfl⟩
 ·exact ac_path mixed (ext:=[113]) (fuel:=9) (n:=3) (orc:=[.bool true]) (an (show (r.st != 0)=true by simpa using h0) trivial) (by kernel_rfl)
 ·by_cases h2:k<1
  ·exact ac_path mixed (ext:=[113]) (fuel:=9) (n:=3) (orc:=[.bool false,.bool true]) (an (s0 h0)<|an (d_t h2) trivial) (by kernel_rfl)
  ·exact ac_path mixed (ext:=[113]) (fuel:=9) (n:=3) (orc:=[.bool false,.bool false,.bool true]) (an (s0 h0)<|an (d_f h2)<|an (d_t (show 8<k by have:=(hb h1).1 rfl;omega)) trivial) (by kernel_rfl)
 all_goals have k1:¬ k<1:=fun e=>by have:=(hb h1).2 (.inl e);cases this
 all_goals have k8:¬ 8<k:=fun e=>by have:=(hb h1).2 (.inr e);cases this
 ·exact ac_path mixed (ext:=[113]) (fuel:=9) (n:=3) (orc:=[.bool false,.bool false,.bool false,vD false]) (an (s0 h0)<|an (d_f k1)<|an (d_f k8)<|an (ac_rtimed h2) trivial) (by kernel_rfl)
 ·by_cases h4:u<0
  ·exact ac_path mixed (ext:=[113]) (fuel:=9) (n:=3) (orc:=[.bool false,.bool false,.bool false,vD true,.bool true]) (an (s0 h0)<|an (d_f k1)<|an (d_f k8)<|an (ac_rtimed h2)<|an (d_t h4) trivial) (by kernel_rfl)
  ·exact ac_path mixed (ext:=[113]) (fuel:=9) (n:=3) (orc:=[.bool false,.bool false,.bool false,vD true,.bool false,.bool true]) (an (s0 h0)<|an (d_f k1)<|an (d_f k8)<|an (ac_rtimed h2)<|an (d_f h4)<|an (d_t (show 1099511627776<u by omega)) trivial) (by kernel_rfl)
 ·exact ac_path mixed (ext:=[113]) (fuel:=9) (n:=3) (orc:=[.bool false,.bool false,.bool false,vD true,.bool false,.bool false]) (an (s0 h0)<|an (d_f k1)<|an (d_f k8)<|an (ac_rtimed h2)<|an (d_f (show ¬ u<0 by omega))<|an (d_f (show ¬ 1099511627776<u by omega)) trivial) (by kernel_rfl)
theorem ac_rinvoke {s r:St} {i k v u E:Int} (h:stBeg s i k v u E r) (ho:s.ok) (hw:s.few):AC Tryz.prog 27 [stT s,.int .i64 i,.int .i64 k,.int .i64 v,.int .i64 u] (.tuple #[stT r,.int .i64 E]):=by
 rcases h with ⟨hB,rfl,rfl⟩ | ⟨hB,h1,rfl,rfl⟩ | ⟨hB,h1,n,t,rfl,hn,ht,rfl⟩
 ·exact ac_path mixed (ext:=[46,54,55,56]) (fuel:=9) (n:=3) (orc:=[vD false]) (an (ac_rcheck hB ho hw) trivial) (by kernel_rfl)
 ·exact ac_path mixed (ext:=[46,54,55,56]) (fuel:=9) (n:=3) (orc:=[vD true,.int .i64 (opMay r.cf.th r.cf.si i k),.bool true]) (an (ac_rcheck hB ho hw)<|an (ac_rmay (c:=r.cf) (i:=i) (k:=k) rfl)<|an (show (opMay r.cf.th r.cf.si i k != 0)=true by simpa using h1) trivial) (by kernel_rfl)
 ·by_cases hE:E=0
  ·subst hE
   exact ac_path mixed (ext:=[46,54,55,56]) (fuel:=9) (n:=3) (orc:=[vD true,.int .i64 0,.nilFunc,thT (gth s.th n),.tuple #[thT t,.int .i64 0],.nilFunc,stT (s.setTh n t)]) (an (ac_rcheck hB ho hw)<|an (ac_rmay (c:=s.cf) h1)<|an (ixT hn)<|an (ac_rtbeg ht)<|an (ac_rwith s n t hn hw.th) trivial) (by kernel_rfl)
  ·rw [beg_no (.inr (.inr ⟨hB,h1,n,t,rfl,hn,ht,rfl⟩)) hE]
   exact ac_path mixed (ext:=[46,54,55,56]) (fuel:=9) (n:=3) (orc:=[vD true,.int .i64 0,.nilFunc,thT (gth s.th n),.tuple #[thT t,.int .i64 E],.bool true]) (an (ac_rcheck hB ho hw)<|an (ac_rmay (c:=s.cf) h1)<|an (ixT hn)<|an (ac_rtbeg ht)<|an (show (E != 0)=true by simpa using hE) trivial) (by kernel_rfl)
theorem ac_rpick {s:St} {i:Int} (ho:s.ok) (hw:s.few) (hl:s.lg.length≤999):AC Tryz.prog 25 [stT s,.int .i64 i] (.tuple #[stT (pickS s i),.int .i64 (pickE s i)]):=by
 cases hB:stB s
 ·have e:pickE s i=20:=if_pos hB
  rw [e,pick_no (by rw [e];decide)]
  exact ac_path mixed (ext:=[46,47,48,49,50,51]) (fuel:=9) (n:=3) (orc:=[vD false]) (an (ac_rcheck hB ho hw) trivial) (by kernel_rfl)
 ·by_cases h0:i<0
  ·have e:pickE s i=123:=by unfold pickE;rw [if_neg (by simp [hB]),if_pos (.inl h0)]
   rw [e,pick_no (by rw [e];decide)]
   exact ac_path mixed (ext:=[46,47,48,49,50,51]) (fuel:=9) (n:=3) (orc:=[vD true,.bool true]) (an (ac_rcheck hB ho hw)<|an (d_t h0) trivial) (by kernel_rfl)
  ·by_cases h1:(s.th.length:Int)≤i
   ·have e:pickE s i=123:=by unfold pickE;rw [if_neg (by simp [hB]),if_pos (.inr h1)]
    rw [e,pick_no (by rw [e];decide)]
    exact ac_path mixed (ext:=[46,47,48,49,50,51]) (fuel:=9) (n:=3) (orc:=[vD true,.bool false,.bool true]) (an (ac_rcheck hB ho hw)<|an (d_f h0)<|an (d_t h1) trivial) (by kernel_rfl)
   ·obtain ⟨n,rfl⟩:∃ n:Nat,i=n:=⟨i.toNat,by omega⟩
    have hn:n<s.th.length:=by omega
    have e:pickE s n=thRuns (gth s.th n).st:=by unfold pickE;rw [if_neg (by simp [hB]),if_neg (by omega),Int.toNat_natCast]
    by_cases h2:thRuns (gth s.th n).st=0
    ·have e0:pickE s n=0:=e.trans h2
     rw [e0,pick_yes e0,stepS_is]
     unfold stepD
     rw [Int.toNat_natCast]
     by_cases h3:opSide (gth s.th n).ki=1
     ·rw [if_pos h3]
      exact ac_path mixed (ext:=[46,47,48,49,50,51]) (fuel:=9) (n:=3) (orc:=[vD true,.bool false,.bool false,thT (gth s.th n),.int .i64 0,.nilFunc,thT (gth s.th n),.int .i64 1,.nilFunc,stT (sendS s n)]) (an (ac_rcheck hB ho hw)<|an (d_f h0)<|an (d_f h1)<|an (ixT hn)<|an (ac_rtruns (t:=gth s.th n) h2)<|an (ixT hn)<|an (ac_rside h3)<|an (ac_rstep (i:=n) ho hw) trivial) (by kernel_rfl)
     ·rw [if_neg h3]
      by_cases h4:opSide (gth s.th n).ki=2
      ·rw [if_pos h4]
       exact ac_path mixed (ext:=[46,47,48,49,50,51]) (fuel:=9) (n:=3) (orc:=[vD true,.bool false,.bool false,thT (gth s.th n),.int .i64 0,.nilFunc,thT (gth s.th n),.int .i64 2,.nilFunc,.nilFunc,stT (recvS s n)]) (an (ac_rcheck hB ho hw)<|an (d_f h0)<|an (d_f h1)<|an (ixT hn)<|an (ac_rtruns (t:=gth s.th n) h2)<|an (ixT hn)<|an (ac_rside h4)<|an (ac_rrstep (i:=n) ho hw) trivial) (by kernel_rfl)
      ·rw [if_neg h4]
       exact ac_path mixed (ext:=[46,47,48,49,50,51]) (fuel:=9) (n:=3) (orc:=[vD true,.bool false,.bool false,thT (gth s.th n),.int .i64 0,.nilFunc,thT (gth s.th n),.int .i64 (opSide (gth s.th n).ki),.bool false,.bool false,stT (closeS s n)]) (an (ac_rcheck hB ho hw)<|an (d_f h0)<|an (d_f h1)<|an (ixT hn)<|an (ac_rtruns (t:=gth s.th n) h2)<|an (ixT hn)<|an (ac_rside (k:=(gth s.th n).ki) rfl)<|an (show (opSide (gth s.th n).ki==1)=false by simpa using h3)<|an (show (opSide (gth s.th n).ki==2)=false by simpa using h4)<|an (ac_rcstep (i:=n) ho hw hl) trivial) (by kernel_rfl)
    ·have e0:pickE s n≠0:=by rw [e];exact h2
     rw [pick_no e0,e]
     exact ac_path mixed (ext:=[46,47,48,49,50,51]) (fuel:=9) (n:=3) (orc:=[vD true,.bool false,.bool false,thT (gth s.th n),.int .i64 (thRuns (gth s.th n).st),.bool true]) (an (ac_rcheck hB ho hw)<|an (d_f h0)<|an (d_f h1)<|an (ixT hn)<|an (ac_rtruns (t:=gth s.th n) rfl)<|an (show (thRuns (gth s.th n).st != 0)=true by simpa using h2) trivial) (by kernel_rfl)
end
section
open Go.ChangeShapes Go.WideShapes Go.ChangeAt Go.RowKit
def caT (x:Ca):Value:=.agg #[.int .i64 x.ki,.int .i64 x.th,.int .i64 x.va,.int .i64 x.un]
theorem rp_caT {ρ:PMap} {O:Nat→Prop} {W:World} {x:Ca} {c:Value}:Rp ρ O W (caT x) c↔c = .agg #[.int .i64 x.ki,.int .i64 x.th,.int .i64 x.va,.int .i64 x.un]:=rp_atm (isAtm_all rfl)
def Ca.shape:List (Ck 0):=[.int .i64,.int .i64,.int .i64,.int .i64]
abbrev Ca.size:Nat:=4
def Ca.ok (x:Ca):Prop:=In64 x.ki∧In64 x.th∧In64 x.va∧In64 x.un
def Ca.zero:List Value:=[.int .i64 0,.int .i64 0,.int .i64 0,.int .i64 0]
theorem Ca.of_read {W:World} {vs:List Value} (h:ReadL W Ca.shape vs):∃ x:Ca,vs=x.cells∧x.ok:=by
 simp only [Ca.shape,read_nil,read_cons,read_int,read_bool,read_str] at h
 obtain ⟨_,_,rfl,⟨a,rfl,h0⟩,_,_,rfl,⟨b,rfl,h1⟩,_,_,rfl,⟨c,rfl,h2⟩,_,_,rfl,⟨d,rfl,h3⟩,rfl⟩:=h
 exact ⟨⟨a,b,c,d⟩,rfl,in64_of_wf h0,in64_of_wf h1,in64_of_wf h2,in64_of_wf h3⟩
theorem ki_cases (k:Int):(k=1∨k=2∨k=3∨k=4∨k=5∨k=6∨k=7∨k=8∨k=10∨k=11)∨(k<1∨k=9∨11<k):=by omega
set_option maxHeartbeats 2000000 in
theorem rcae_any (x:Ca) (w:World):Calls Tryz.prog 15 #[.agg #[.int .i64 x.ki,.int .i64 x.th,.int .i64 x.va,.int .i64 x.un]] w fun e w' => e = .returned (.int .i64 (caE x))∧Kept w w' := by
 obtain ⟨ki,th,va,un⟩:=x
 rcases ki_cases ki with (rfl | rfl | rfl | rfl | rfl | rfl | rfl | rfl | rfl | rfl) | h
 all_goals (go_enter Tryz.func15,Tryz.ntmps15;go_wp2_with fail;all_goals (go_ret;exact ⟨ret_int (Eq.symm (by (try simp only [bne_eq_false_iff_eq,bne_iff_ne,beq_iff_eq,beq_eq_false_iff_ne] at *);dsimp only [caE];split <;> first | rfl | (exfalso;omega) | (split <;> first | rfl | (exfalso;omega) | (split <;> first | rfl | (exfalso;omega) | (split <;> first | rfl | (exfalso;omega)))))),by repeat' (first | (with_reducible exact Below.refl _ _) | (with_reducible assumption) | (with_reducible refine kept_alloc ?_ _) | (with_reducible refine kept_drewN ?_ _) | (with_reducible refine Below.drew ?_) | (with_reducible refine Below.setCell ?_ (by first | omega | (simp;omega) | (simp;done)) _) | (refine kept_trans ?_ (by with_reducible assumption)))⟩))
theorem ac_rcae (x:Ca):AC Tryz.prog 15 [caT x] (.int .i64 (caE x)):=by
 intro O W vs hl hat ;obtain ⟨ys,rfl,_,_,rfl,h0,rfl⟩:=args_of hat
 rw [rp_caT] at h0
 subst h0
 exact (rcae_any x W).mono fun e W' ⟨he,hk⟩=>⟨_,he,rp_int.2 rfl,hk⟩
end
section
open Go.ChangeShapes Go.WideShapes Go.ChangeAt Go.RowKit
theorem ask_add {t:TypeId} (a b:Int) (x y:Operand):AskP Tryz.prog (.binOp .add t x y t) [.int .i64 a,.int .i64 b] (.int .i64 (IntKind.i64.wrap (a+b))):=by
 intro W o f ho hm
 obtain ⟨h1,h2⟩:=two_is hm
 simp [execOp,ho,h1,h2,eqGuard,binOp,Op.intArith]
theorem beg_wrap {s r:St} {i k v u E:Int} (h:stBeg s i k v (s.nw+u) E r) (hu:0≤u∧u≤1099511627776):stBeg s i k v (IntKind.i64.wrap (s.nw+u)) E r:=by
 rcases h with ⟨hB,rfl,rfl⟩ | h | h
 ·exact .inl ⟨hB,rfl,rfl⟩
 ·have hb:=nw_bd h.1
  rw [wrap_in (n:=s.nw+u) ⟨by omega,by omega⟩];exact .inr (.inl h)
 ·have hb:=nw_bd h.1
  rw [wrap_in (n:=s.nw+u) ⟨by omega,by omega⟩];exact .inr (.inr h)
theorem de_code (a b c d:Int):deE [a,b,c,d]=caE ⟨a,b,c,d⟩∧deC [a,b,c,d]=if caE ⟨a,b,c,d⟩=0 then ⟨a,b,c,d⟩ else ca0:=⟨rfl,rfl⟩
theorem ixC4 (a b c d:Int):IxP (([a,b,c,d].map (Value.int .i64 ·)).toArray) 0 (.int .i64 a)∧IxP (([a,b,c,d].map (Value.int .i64 ·)).toArray) 1 (.int .i64 b)∧IxP (([a,b,c,d].map (Value.int .i64 ·)).toArray) 2 (.int .i64 c)∧IxP (([a,b,c,d].map (Value.int .i64 ·)).toArray) 3 (.int .i64 d):=⟨⟨by decide,rfl⟩,⟨by decide,rfl⟩,⟨by decide,rfl⟩,⟨by decide,rfl⟩⟩
theorem ac_rcdec (l:List Int):AC Tryz.prog 11 [rowI l] (.tuple #[caT (deC l),.int .i64 (deE l)]):=by by_cases h:l.length=4;(match l,h with | [a,b,c,d],_=>(obtain ⟨i0,i1,i2,i3⟩:=ixC4 a b c d;have hc:=ac_rcae ⟨a,b,c,d⟩;rw [(de_code a b c d).1,(de_code a b c d).2];by_cases he:caE ⟨a,b,c,d⟩=0;(rw [he] at hc ⊢;exact ac_path mixed (ext:=[15]) (fuel:=9) (n:=3) (orc:=[.nilFunc,.int .i64 a,.int .i64 b,.int .i64 c,.int .i64 d,.int .i64 0,.nilFunc]) (an i0<|an i1<|an i2<|an i3<|an hc trivial) (by kernel_rfl));(rw [if_neg he];exact ac_path mixed (ext:=[15]) (fuel:=9) (n:=3) (orc:=[.nilFunc,.int .i64 a,.int .i64 b,.int .i64 c,.int .i64 d,.int .i64 (caE ⟨a,b,c,d⟩),.bool true]) (an i0<|an i1<|an i2<|an i3<|an hc<|an (show (caE ⟨a,b,c,d⟩ != 0)=true by simpa using he) trivial) (by kernel_rfl))));(have e:deE l=190:=if_neg h;rw [e,de_no (by rw [e];decide)];exact ac_path mixed (ext:=[15]) (fuel:=9) (n:=3) (orc:=[.bool true]) (an (show ((l.length:Int) != 4)=true by simp;omega) trivial) (by kernel_rfl))
theorem ac_rcdo {s r:St} {x:Ca} {E:Int} (h:caDo s x E r) (ho:s.ok) (hw:s.few) (hl:s.lg.length≤999):AC Tryz.prog 13 [stT s,caT x] (.tuple #[stT r,.int .i64 E]):=by
 have hc:=ac_rcae x
 rcases h with ⟨he,rfl,rfl⟩ | ⟨he,hk,rfl,rfl⟩ | ⟨he,hk,rfl,rfl⟩ | ⟨he,h1,h2,h⟩
 ·exact ac_path mixed (ext:=[15,25,26,27]) (fuel:=9) (n:=3) (orc:=[.int .i64 (caE x),.bool true]) (an hc<|an (show (caE x != 0)=true by simpa using he) trivial) (by kernel_rfl)
 ·rw [he] at hc
  exact ac_path mixed (ext:=[15,25,26,27]) (fuel:=9) (n:=3) (orc:=[.int .i64 0,.nilFunc,.bool true,.tuple #[stT (pickS s x.th),.int .i64 (pickE s x.th)]]) (an hc<|an (show (x.ki==10)=true by simpa using hk)<|an (ac_rpick (i:=x.th) ho hw hl) trivial) (by kernel_rfl)
 ·rw [he] at hc
  have hv:In64 x.va:=by have:=ca_iff.1 he;constructor <;> omega
  exact ac_path mixed (ext:=[15,25,26,27]) (fuel:=9) (n:=3) (orc:=[.int .i64 0,.nilFunc,.bool false,.bool true,.tuple #[stT (tickS s x.va),rowI (tickI s x.va),.int .i64 (tickE s x.va)]]) (an hc<|an (show (x.ki==10)=false by simp [hk])<|an (show (x.ki==11)=true by simpa using hk)<|an (ac_rtick (n:=x.va) ho hw hv) trivial) (by kernel_rfl)
 ·rw [he] at hc
  have hb:=ca_bd he
  exact ac_path mixed (ext:=[15,25,26,27]) (fuel:=9) (n:=3) (orc:=[.int .i64 0,.nilFunc,.bool false,.bool false,.iface 1000014 (.int .i64 (IntKind.i64.wrap (s.nw+x.un))),.tuple #[stT r,.int .i64 E]]) (an hc<|an (show (x.ki==10)=false by simpa using h1)<|an (show (x.ki==11)=false by simpa using h2)<|an (ask_add (t:=3) s.nw x.un (.tmp 46) (.tmp 48))<|an (ac_rinvoke (beg_wrap h ⟨hb.2.2.2.2.1,hb.2.2.2.2.2⟩) ho hw) trivial) (by kernel_rfl)
end
end Go.Proofs.YtbckpadeamlidaaGreat
