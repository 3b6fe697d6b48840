/- Texts merged: DueQT, DueRT, DueST, DueWT, DueTT, DueXT, TkJT, TkWT, TkLT, IterOT, LdsT, TkIT, TkUT, TkTT. -/
import Derived.Test.YtfogkllejkmpdaaGreatZf14
import Derived.Laws.MakeOwn
import Derived.Test.YtfogkllejkmpdaaGreatZf4
import Derived.Test.YtfogkllejkmpdaaGreatZf12
import Derived.Test.YtfogkllejkmpdaaGreatZf10
import Derived.Test.YtfogkllejkmpdaaGreatZf9
import Derived.Test.YtfogkllejkmpdaaGreatZf5
import Derived.Test.YtfogkllejkmpdaaGreatZf8
namespace Go.Proofs.YtfogkllejkmpdaaGreat
set_option linter.unusedVariables false
set_option linter.unusedSimpArgs false
set_option maxRecDepth 100000
section
open Go.ChangeShapes Go.WideShapes Go.ChangeAt Go.RowKit
def pq (e:MapEntry):Du :=
 match e.val with
 | .agg cs=>⟨intOf (cs.getD 0 undef),intOf (cs.getD 1 undef)⟩
 | _=>⟨0,0⟩
theorem MapAt.du {w:World} {mb:Nat} {l:List Du} {es:Array MapEntry} {ck:Nat} (h:MapAt w mb l es ck):es.toList.map pq=l:=by
 have h1:=congrArg (List.map (fun p:Value×Value=>pq { key:=p.1,val:=p.2,born:=0 })) h.ents
 rw [List.map_map,List.map_map] at h1
 have h2:((fun p:Value×Value=>pq { key:=p.1,val:=p.2,born:=0 })∘fun e:MapEntry=>(e.key,e.val))=pq:=by funext e;rfl
 have h3:((fun p:Value×Value=>pq { key:=p.1,val:=p.2,born:=0 })∘fun d:Du=>(Value.int .i64 d.id,.agg #[.int .i64 d.tm,.int .i64 d.id]))=id:=by funext d;rfl
 rw [h2,h3,List.map_id] at h1
 exact h1
theorem MapAt.val {w:World} {mb:Nat} {l:List Du} {es:Array MapEntry} {ck:Nat} (h:MapAt w mb l es ck) {e:MapEntry} (he:e∈es.toList):e.key = .int .i64 (pq e).id∧e.val = .agg #[.int .i64 (pq e).tm,.int .i64 (pq e).id]:=by
 obtain ⟨d,_,h1,h2⟩:=h.mem he
 have:pq e=d:=by unfold pq;rw [h2];rfl
 rw [this];exact ⟨h1,h2⟩
theorem lC {e:MapEntry}:∀ {M:List MapEntry},(M.map (·.born)).Nodup→e∈M→M.Perm (e::M.filter (fun x=>!(x.born==e.born)))
 | [],_,h=>by simp at h
 | x::M,hn,h=>by
  rw [List.map_cons,List.nodup_cons] at hn
  rcases List.mem_cons.1 h with rfl | h
  ·rw [List.filter_cons_of_neg (by simp),List.filter_eq_self.2 (fun y hy=>by
    have:y.born≠e.born:=fun hh=>hn.1 (hh ▸ List.mem_map.2 ⟨y,hy,rfl⟩)
    simpa using this)]
  ·have hne:x.born≠e.born:=fun hh=>hn.1 (hh ▸ List.mem_map.2 ⟨e,h,rfl⟩)
   rw [List.filter_cons_of_pos (by simpa using hne)]
   exact ((lC hn.2 h).cons x).trans (List.Perm.swap e x _)
theorem Ml {es:Array MapEntry} {seen:Array Nat} {e:MapEntry} (hn:(es.toList.map (·.born)).Nodup) (he:e∈(leftOf es seen).toList):(leftOf es seen).toList.Perm (e::(leftOf es (seen.push e.born)).toList):=by
 have h1:(leftOf es (seen.push e.born)).toList=(leftOf es seen).toList.filter (fun x=>!(x.born==e.born)):=by
  unfold leftOf
  rw [Array.toList_filter,Array.toList_filter,List.filter_filter]
  congr 1
  funext x
  rw [contains_push]
  cases seen.contains x.born <;> cases (x.born==e.born) <;> rfl
 rw [h1]
 refine lC ?_ he
 unfold leftOf
 rw [Array.toList_filter]
 exact (List.filter_sublist.map _).nodup hn
theorem Ia {es:Array MapEntry} {seen:Array Nat} (h:(leftOf es seen).size=0):(leftOf es seen).toList=[]:=by
 have:leftOf es seen=#[]:=Array.eq_empty_of_size_eq_zero h
 rw [this]
theorem Mc (es:Array MapEntry):leftOf es #[]=es:=by
 unfold leftOf
 exact Array.filter_eq_self.2 (fun a _=>by simp)
def uf (es:Array MapEntry) (r:Nat) (w:World):Nat:=(leftOf es (w.iterSeen r)).size
theorem qI {es:Array MapEntry} {r:Nat} {w:World} {m:Option Nat} {a c:Nat} {seen:Array Nat} (h:w.heap[r]? = some (.mapIter m a seen c)):uf es r w=(leftOf es seen).size:=by
 unfold uf World.iterSeen;rw [h]
def NN (w:World) (l:List Du) (e:Ending) (w' : World):Prop :=
 ∃ (pb g cap:Nat) (t:List Du),e = .returned (.iface 253 (.pointer (some ⟨pb,0,none⟩)))∧Pile w' pb g cap t∧t.Perm l∧Heap t∧Kept w w' ∧ w.heap.size≤pb∧w.heap.size≤g
set_option maxHeartbeats 4000000 in
theorem Ae (l:List Du) (mb:Nat) (w:World) (h:MapD w mb l) (hm:l.length≤800):Calls Tryz.prog 258 #[.map (some mb)] w (NN w l):=by
 obtain ⟨es,ck,hA⟩:=h
 have hu:=Tryz.underlying238
 have hlt:=(show MapD w mb l from ⟨es,ck,hA⟩).lt
 have HA:=Lib.hid hA
 have hrg:=run_range_map (P:=Tryz.prog) ((w.alloc (.cells #[] 150)).alloc (.cells #[.slice (some ⟨w.heap.size,0,none⟩) 0 0] 254)) 238 3 150 mb es ck hu (by rw [heap_alloc_old _ _ (by simp;omega),heap_alloc_old _ _ hlt];exact hA.obj)
 have hA0:MapAt w mb l es ck:=hA
 clear hA
 go_enter Tryz.func258,Tryz.ntmps258
 go_wp2
 clear hrg hu
 have hP0:Pile (((w.alloc (.cells #[] 150)).alloc (.cells #[.slice (some ⟨w.heap.size,0,none⟩) 0 0] 254)).alloc (.mapIter (some mb) ck #[] ck)) (w.heap.size+1) w.heap.size 0 []:=by
  refine Pile.kept (w:=(w.alloc (.cells #[] 150)).alloc (.cells #[.slice (some ⟨w.heap.size,0,none⟩) 0 0] 254)) ⟨by omega,?_,?_⟩ ((Below.refl _ _).alloc (Nat.le_refl _) _)
  ·have:=heap_alloc_new (w.alloc (.cells #[] 150)) (.cells #[.slice (some ⟨w.heap.size,0,none⟩) 0 0] 254)
   simpa using this
  ·exact Ow.kept (Ow.made (base:=0) Du.enc [] #[] rfl (Nat.zero_le _) (by decide) rfl rfl) ((Below.refl _ _).alloc (Nat.le_refl _) _)
 have hI0:(((w.alloc (.cells #[] 150)).alloc (.cells #[.slice (some ⟨w.heap.size,0,none⟩) 0 0] 254)).alloc (.mapIter (some mb) ck #[] ck)).heap[w.heap.size+1+1]? = some (.mapIter (some mb) ck #[] ck):=by
  have:=heap_alloc_new ((w.alloc (.cells #[] 150)).alloc (.cells #[.slice (some ⟨w.heap.size,0,none⟩) 0 0] 254)) (.mapIter (some mb) ck #[] ck)
  simpa using this
 have hp0:([]++(leftOf es #[]).toList.map pq:List Du).Perm l:=by rw [Mc,List.nil_append,hA0.du]
 have HP:=Lib.hid (And.intro hP0 (And.intro hI0 hp0))
 clear hP0 hI0 hp0 hA0
 go_loopw [10] (fun _ wr=>∃ (g cap:Nat) (t:List Du) (seen:Array Nat) (c0:Nat),Pile wr (w.heap.size+1) g cap t∧Heap t∧wr.heap[w.heap.size+1+1]? = some (.mapIter (some mb) ck seen c0)∧ck≤c0∧(t++(leftOf es seen).toList.map pq).Perm l∧Kept w wr∧w.heap.size≤g) (fun _ wr=>uf es (w.heap.size+1+1) wr)
 case atStart=>exact ⟨_,_,_,_,_,HP.out.1,Ua,HP.out.2.1,Nat.le_refl _,HP.out.2.2,by exact F6,Nat.le_refl _⟩
 case round =>
  obtain ⟨g,cap,t,seen,c0,hP,hh,hI,hc0,hp,hB,hg⟩:=hrel
  clear HP
  have hAr:wr.heap[mb]? = some (.map es ck):=(hB.block _ hlt).trans HA.out.obj
  have hms:=qI (es:=es) hI
  rcases run_next_at (P:=Tryz.prog) wr 0 (w.heap.size+1+1) mb ck c0 seen es ck hI hAr HA.out.born hc0 with ⟨h0,hrun⟩ | ⟨e,he,w1,hal,hrun⟩
  ·have hE:=Lib.hid (And.intro hP (And.intro hh (And.intro hp (And.intro hB (And.intro hg h0)))))
   clear hP hh hI hp hB hg h0 hms hAr
   go_wp2
   go_ret
   have hp:=hE.out.2.2.1
   rw [Ia hE.out.2.2.2.2.2,List.map_nil,List.append_nil] at hp
   exact ⟨_,g,cap,t,rfl,hE.out.1,hp,hE.out.2.1,hE.out.2.2.2.1,by omega,hE.out.2.2.2.2.1⟩
  ·obtain ⟨hv1,hv2⟩:=HA.out.val (mem_left he).1
   have hlp:=Ml HA.out.nodup he
   have hls:=left_shrinks es seen e he
   have hr1:w1.heap[w.heap.size+1+1]? = some (.mapIter (some mb) ck seen c0):=by rcases hal with rfl | rfl <;> exact hI
   have hset:=MapKept.heap_set (o' := .mapIter (some mb) ck (seen.push e.born) ck) hr1
   obtain ⟨W2,hW2⟩:∃ W2,Go.ChangeMaps.setBlock w1 (w.heap.size+1+1) (.mapIter (some mb) ck (seen.push e.born) ck)=W2:=⟨_,rfl⟩
   have hO2:Out [w.heap.size+1+1] wr W2:=by
    rw [← hW2]
    refine ⟨?_,?_,?_,?_,fun j _ hn=>(hset.2 j (by simpa using hn)).trans ?_⟩ <;> rcases hal with rfl | rfl <;> first | rfl | exact Nat.le_of_eq (by simp [Go.ChangeMaps.setBlock])
   have hI2:W2.heap[w.heap.size+1+1]? = some (.mapIter (some mb) ck (seen.push e.born) ck):=by rw [← hW2];exact hset.1
   have hM2:W2.heap[mb]? = some (.map es ck):=(hO2.block mb (Array.getElem?_eq_some_iff.1 hAr).1 (by simp;omega)).trans hAr
   have hen:=run_entry_at (P:=Tryz.prog) W2 (w.heap.size+1+1) mb ck seen es ck e hI2 hM2 (mem_left he).1 HA.out.nodup
   rw [hW2] at hrun
   rw [hv1,hv2] at hrun hen
   have hgr:g≠w.heap.size+1+1:=by
    rintro rfl
    obtain ⟨_,⟨h1,_⟩ | ⟨_,_,_,h1,_,h2,_⟩⟩:=hP.own
    ·cases h1
    ·cases h1;rw [h2] at hI;cases hI
   have hP2:=hP.out hO2 (by simp) (by simpa using hgr)
   have htl:t.length≤800:=by have:=hp.length_eq;simp at this;omega
   generalize hd:pq e=d at *
   have hlp2:=hlp.map pq
   rw [List.map_cons,hd] at hlp2
   have hE:=Lib.hid (And.intro hP2 (And.intro hh (And.intro hp (And.intro hB (And.intro hg (And.intro hlp2 (And.intro hls (And.intro hO2 (And.intro hI2 (And.intro hgr hms))))))))))
   clear hP hh hI hp hB hg hms hAr hv1 hv2 hlp hls hr1 hset hW2 hO2 hI2 hM2 hgr hP2 hd hlp2 he hal
   go_wp2_with fail
   refine (Np _ _ g cap t d (hE.out.1.kept ((Below.refl _ _).alloc (Nat.le_refl _) _)) hE.out.2.1 (by omega)).mono ?_
   rintro e1 w3 ⟨rfl,g3,k3,t3,hP3,hp3,hh3,hO3,hg3⟩
   have hE3:=Lib.hid (And.intro hP3 (And.intro hp3 (And.intro hh3 (And.intro hO3 hg3))))
   clear hP3 hp3 hh3 hO3 hg3
   go_wp2
   go_roundw
   case rel =>
    obtain ⟨-,-,f3,f4,f5,f6,f7,f8,f9,f10,-⟩:=hE.out
    obtain ⟨g1,g2,g3',g4,g5⟩:=hE3.out
    have hs8:=f8.size
    have hs4:=f4.size
    have hlt2:=(Array.getElem?_eq_some_iff.1 f9).1
    have hI3:w3.heap[w.heap.size+1+1]? = some (.mapIter (some mb) ck (seen.push e.born) ck):=by
     refine (g4.block _ (by simp;omega) (by simp;omega)).trans ?_
     rw [heap_alloc_old _ _ hlt2];exact f9
    have hp4:(t3++(leftOf es (seen.push e.born)).toList.map pq).Perm l:=by
     refine ((g2.append_right _).trans ?_).trans f3
     rw [List.append_assoc]
     exact (f6.symm).append_left t
    have hB2:Below w.heap.size w (W2.alloc (.cells #[.int .i64 d.tm,.int .i64 d.id] 150)):=(Out.below f4 f8 (by simp;omega) f4.size).alloc (by omega) _
    have hB3:Below w.heap.size w w3:=Out.below hB2 g4 (by simp;omega) hB2.size
    exact ⟨g3,k3,t3,_,ck,g1,g3',hI3,Nat.le_refl _,hp4,hB3,by rcases g5 with rfl | h;exact f5;simp at h;omega⟩
   case measure =>
    obtain ⟨-,-,f3,f4,f5,f6,f7,f8,f9,f10,f11⟩:=hE.out
    obtain ⟨g1,g2,g3',g4,g5⟩:=hE3.out
    have hlt2:=(Array.getElem?_eq_some_iff.1 f9).1
    have hI3:w3.heap[w.heap.size+1+1]? = some (.mapIter (some mb) ck (seen.push e.born) ck):=by
     refine (g4.block _ (by simp;omega) (by simp;omega)).trans ?_
     rw [heap_alloc_old _ _ hlt2];exact f9
    rw [qI hI3,f11]
    exact f7
end
section
open Go.ChangeShapes Go.WideShapes Go.ChangeAt Go.RowKit
theorem hS1 (w:World) (d:Du) {g:Nat} (hg:w.heap.size=g):Sl (w.alloc (.cells #[.int .i64 d.tm,.int .i64 d.id] 150)) 2 Du.cells [d] (.slice (some ⟨g,0,none⟩) 1 1) :=
 Ow.sl Du.enc (Ow.made (base:=0) (e:=150) (W:=w) Du.enc [d] #[.int .i64 d.tm,.int .i64 d.id] rfl (Nat.zero_le _) (by show 1≤maxLen;decide) hg rfl)
theorem yz {w w' : World} (h:w.grownBy w' none):Below w.heap.size w w' := ⟨h.os,h.tape,h.output,h.size,fun j hj=>h.block j hj (by simp)⟩
theorem qh {w w' : World} {row:Option Nat} (h:w.grownBy w' row):Out row.toList w w' := ⟨h.os,h.tape,h.output,h.size,fun j hj hn=>h.block j hj (fun e=>hn (by simp [e]))⟩
end
section
open Go.ChangeShapes Go.WideShapes Go.ChangeAt Go.RowKit
def QU (w:World) (l:List Du) (e:Ending) (w' : World):Prop:=∃ mb,e = .returned (.tuple #[.map (some mb),.bool true])∧MapD w' mb l∧w.heap.size≤mb∧Kept w w'
theorem Ap (l:List Du) (p:Option Addr) (k:Nat) (w:World) (hl:Sl w 2 Du.cells l (.slice p l.length k)) (hm:l.length≤1000) (ho:okB l=true):Calls Tryz.prog 256 #[.slice p l.length k] w (QU w l):=by
 refine (OH l p k w hl hm).mono ?_
 rintro e w1 ⟨hB1,⟨-,mb,rfl,hM,hmb⟩ | ⟨h1,-⟩⟩
 ·exact ⟨mb,rfl,hM,hmb,hB1⟩
 ·rw [ho] at h1;cases h1
end
section
open Go.ChangeShapes Go.WideShapes Go.ChangeAt Go.RowKit
def a2d (base:Nat) (w:World) (r:List Du) (e:Ending) (w' : World):Prop :=
 ∃ (p:Option Addr) (k:Nat),e = .returned (.slice p r.length k)∧(Sl w' 2 Du.cells r (.slice p r.length k)∧∀ a,p=some a→base≤a.block)∧Kept w w'
def a0l (w:World) (r:List Du) (c:Int) (e:Ending) (w' : World):Prop :=
 ∃ (p:Option Addr) (k:Nat),e = .returned (.tuple #[.slice p r.length k,.int .i64 c])∧(Sl w' 2 Du.cells r (.slice p r.length k)∧∀ a,p=some a→w.heap.size≤a.block)∧Kept w w'
set_option maxHeartbeats 4000000 in
theorem jZ {base:Nat} (l:List Du) (mb:Nat) (w:World) (h:MapD w mb l) (ha:Apart l) (hm:l.length≤800) (hb0:base≤w.heap.size):Calls Tryz.prog 260 #[.map (some mb)] w (a2d base w (srt l)):=by
 obtain ⟨es,ck,hA⟩:=h
 have hob:=hA.obj
 have hsz:=hA.size
 obtain ⟨i,hi,hz0,hz1,hz2⟩:=info_parts yh
 obtain ⟨w0,hmk,how0,hgr0⟩:=run_make_own w w.heap.size 147 150 i _ 2 Tryz.underlying147 hi hz0 hz1 .i64 .i64 l.length (by rw [hz2];omega) (by unfold maxLen;omega) (Nat.le_refl _)
 have hM:MapD w mb l:=⟨es,ck,hA⟩
 have HA:=Lib.hid hA
 have HM:=Lib.hid hM
 clear hA hi hz0 hz1 hz2 hM
 have hlen:((es.size:Nat):Int)=((l.length:Nat):Int):=by rw [hsz]
 have hln:(Builtin.len_ #[238] 3 #[.map (some mb)]).run Tryz.prog w = .ok (.int .i64 l.length) w:=by
  have hg:=MapKept.run_getObj_map (P:=Tryz.prog) hob
  rw [← hlen]
  simp [Builtin.len_,hg,goInt,Result.andThen]
 clear hsz
 have hB0:=yz hgr0
 have HO:=Lib.hid (show Ow w0 w.heap.size 150 2 Du.cells [] (.slice (some ⟨w.heap.size,0,none⟩) 0 l.length) from how0)
 clear how0 hgr0 hlen
 go_enter Tryz.func260,Tryz.ntmps260
 go_wp2_with fail
 refine (Ae l mb w0 (HM.out.kept hB0) hm).mono ?_
 rintro e w1 ⟨pb,g,cap,t,rfl,hP,hp,hh,hB1,hpb,hg⟩
 have hs0:=hB0.size
 have hO1:=Ow.kept HO.out hB1
 have hB01:Below w.heap.size w w1:=kept_trans hB0 hB1
 have hlt0:=(Ow.lt HO.out _ rfl).2
 have HE:=Lib.hid (And.intro hP (And.intro hp (And.intro hh (And.intro hO1 (And.intro hB01 (And.intro hlt0 (And.intro hpb hg)))))))
 have hpg:w.heap.size≤pb∧w.heap.size≤g:=by omega
 clear hP hp hh hO1 hB1 hB0 hB01 hlt0 hpb hg hs0 hln hmk hob
 go_wp2
 go_loopw [3] (fun s3 wr=>∃ (p3:Option Addr) (k3:Nat) (done todo t:List Du),s3 = .slice p3 done.length k3∧srt l=done++todo∧Ow wr w.heap.size 150 2 Du.cells done (.slice p3 done.length k3)∧Pile wr pb g cap t∧Heap t∧t.Perm todo∧Kept w wr∧∀ x,p3=some x→x.block≠pb∧x.block≠g) (fun s3 _=>match s3 with | .slice _ n _=>l.length - n | _=>0)
 case atStart=>exact ⟨_,_,[],srt l,t,rfl,rfl,HE.out.2.2.2.1,HE.out.1,HE.out.2.2.1,HE.out.2.1.trans (eO l).symm,HE.out.2.2.2.2.1,fun x hx=>by cases hx;have:=HE.out.2.2.2.2.2;show w.heap.size≠pb∧w.heap.size≠g;omega⟩
 case round =>
  clear HE
  obtain ⟨p3,k3,done,todo,t',rfl,hsl,hO,hP,hh,hp,hB,hne⟩:=hrel
  have hlen:done.length+todo.length=l.length:=by have:=congrArg List.length hsl;rw [JL,List.length_append] at this;omega
  cases todo with
  | nil =>
   have ht:t' = []:=List.perm_nil.1 hp
   subst ht
   have HE:=Lib.hid (And.intro hsl (And.intro hO (And.intro hP hB)))
   clear hsl hO hh hp hB hne hlen hP
   go_wp2_with fail
   refine (jl wr pb g cap _ HE.out.2.2.1).mono ?_
   rintro e w2 ⟨rfl,hg2⟩
   rw [List.length_nil]
   go_wp2
   go_ret
   have e1:=HE.out.1
   rw [List.append_nil] at e1
   rw [e1]
   exact ⟨p3,k3,rfl,⟨(Ow.sl Du.enc HE.out.2.1).kept hg2,fun a ha=>by subst ha;exact Nat.le_trans hb0 (Ow.lt HE.out.2.1 a.block rfl).1⟩,kept_trans HE.out.2.2.2 hg2⟩
  | cons d0 todo =>
   obtain ⟨n,hn⟩:∃ n,t'.length=n+1:=⟨todo.length,by rw [hp.length_eq];simp⟩
   have hsd:Sorted (d0::todo):=by
    have:=lc ha
    rw [hsl,Sorted,List.pairwise_append] at this
    exact this.2.1
   have hnb:n≤800:=by have:=hp.length_eq;simp at this hlen;omega
   have hdl:done.length≤800:=by omega
   have HE:=Lib.hid (And.intro hsl (And.intro hO (And.intro hP (And.intro hh (And.intro hp (And.intro hB (And.intro hne (And.intro hlen (And.intro hn hsd)))))))))
   clear hsl hO hP hh hp hB hne hlen hn hsd
   go_wp2_with fail
   refine (jl wr pb g cap _ HE.out.2.2.1).mono ?_
   rintro e w2 ⟨rfl,hg2⟩
   rw [HE.out.2.2.2.2.2.2.2.2.1]
   have b1:(0:Int)<(n:Int)+1:=by omega
   go_wp2_with fail
   refine (zF w2 pb g cap n t' (HE.out.2.2.1.kept hg2) HE.out.2.2.2.1 HE.out.2.2.2.2.2.2.2.2.1 (by omega)).mono ?_
   rintro e w3 ⟨rfl,t3,hP3,hp3,hh3,hO3⟩
   obtain ⟨hd,hp4⟩:=yM HE.out.2.2.2.2.1 HE.out.2.2.2.2.2.2.2.2.2 hp3 (fun e he=>by
    obtain ⟨k,hk,rfl⟩:=Un he
    exact yL HE.out.2.2.2.1 k hk)
   rw [hd]
   have HE3:=Lib.hid (And.intro hP3 (And.intro hh3 (And.intro hO3 hp4)))
   clear hP3 hh3 hO3 hp4 hp3 hd
   have hO3:Ow w3 w.heap.size 150 2 Du.cells done (.slice p3 done.length k3):=by
    refine (Ow.kept HE.out.2.1 hg2).of_block (fun x hx=>HE3.out.2.2.1.block x (Ow.lt (Ow.kept HE.out.2.1 hg2) x hx).2 ?_)
    cases p3 with
    | none=>cases hx
    | some y=>cases hx;have:=HE.out.2.2.2.2.2.2.1 y rfl;simp;omega
   have hB3:Below w.heap.size w w3:=Out.below (kept_trans HE.out.2.2.2.2.2.1 hg2) HE3.out.2.2.1 (by simp;omega) (by have:=HE.out.2.2.2.2.2.1.size;have:=hg2.size;omega)
   have HQ:=Lib.hid (And.intro hO3 hB3)
   clear hO3 hB3 hpg
   go_wp2_with ((at_builtin;refine uM (wb:=w) rfl _ _ 147 rfl (.agg #[.int .i64 0,.int .i64 0]) 16 Tryz.underlying147 yh rfl (by decide) Du.enc rfl rfl (xs:=done) (ys:=[d0]) (HQ.out.1.kept ((Below.refl _ _).alloc (Nat.le_refl _) _)) (hS1 _ d0 rfl) (HQ.out.2.alloc (by have:=HQ.out.2.size;omega) _) (by simp only [List.length_append,List.length_nil,List.length_cons];unfold maxLen;omega) (by simp only [List.length_append,List.length_nil,List.length_cons];omega) ?_);intro v1 w4 ho1 hb1 hgr1 hbk1;obtain ⟨g1,k4,rfl⟩:=Df ho1 (by simp);rw [List.length_append,List.length_singleton] at ho1 hbk1)
   have HX:=Lib.hid (And.intro ho1 (And.intro hb1 (And.intro hgr1 hbk1)))
   clear ho1 hb1 hgr1 hbk1
   go_wp2
   go_roundw
   case rel =>
    obtain ⟨x1,x2,x3,x4⟩:=HX.out
    obtain ⟨y1,y2,y3,y4,y5,y6,y7,y8,y9,y10⟩:=HE.out
    obtain ⟨z1,z2,z3,z4⟩:=HE3.out
    have hrow:pb∉((Value.slice p3 done.length k3).ownBlock).toList∧g∉((Value.slice p3 done.length k3).ownBlock).toList:=by
     cases p3 with
     | none=>simp [Value.ownBlock]
     | some y=>have:=y7 y rfl;simp [Value.ownBlock];omega
    have hP4:Pile w4 pb g cap t3:=(z1.kept ((Below.refl _ _).alloc (Nat.le_refl _) _)).out (qh x3) hrow.1 hrow.2
    have hlt:=z1.lt
    refine ⟨some ⟨g1,0,none⟩,k4,done++[d0],todo,t3,by simp,by rw [y1];simp,by rw [List.length_append,List.length_singleton];exact x1,hP4,z2,z4,x2,fun x hx=>?_⟩
    cases hx
    show g1≠pb∧g1≠g
    rcases x4 g1 rfl with h | h
    ·cases p3 with
     | none=>cases h
     | some y=>have:=y7 y rfl;cases h;exact this
    ·simp at h;omega
   case measure =>
    have:=HE.out.2.2.2.2.2.2.2.1
    simp at this ⊢
    omega
set_option maxHeartbeats 2000000 in
theorem Pf (l:List Du) (d:Du) (p:Option Addr) (k:Nat) (w:World) (hl:Sl w 2 Du.cells l (.slice p l.length k)) (hm:l.length≤700) (h0:oH l d=0) :
  Calls Tryz.prog 253 #[.slice p l.length k,.agg #[.int .i64 d.tm,.int .i64 d.id]] w (a0l w (ji l d) 0):=by
 have H:=Lib.hid hl
 obtain ⟨-,hok,h3,h4,hT⟩:=UF h0
 have hI:mO d=true:=h3
 have hF:lQ d=true:=h4
 have HO:=Lib.hid hok
 have HT:=Lib.hid hT
 have e2:ji l d=srt (l++[d]):=Kb h0
 have hap:Apart (l++[d]):=List.pairwise_append.2 ⟨(nS.1 hok).2.2,by simp,fun a hA b hb=>by rw [List.mem_singleton] at hb;subst hb;exact iB.1 hT a hA⟩
 rw [e2]
 have HAP:=Lib.hid hap
 clear hl hok e2 hT hap h0 h3 h4
 go_enter Tryz.func253,Tryz.ntmps253;go_wp2_with fail;refine (Ap l p k _ (H.out.kept (by exact F6)) (by omega) HO.out).mono ?_;rintro e w1 ⟨mb,rfl,hM,hmb,hB1⟩;have hcs:E8 w1 [(w.heap.size,0,.int .i64 d.tm),(w.heap.size,1,.int .i64 d.id)]:=ax hB1 (by (exact xP));have hq0:=hcs.1.2;have hq1:=hcs.2.1.2;have hz0:=hcs.1.1;obtain ⟨x,hx⟩:=Gj hM d.id;rw [HT.out] at hx;have HM:=Lib.hid hM;clear hM
 go_wp2_with fail;refine (dH d _).mono ?_;rintro e w2 ⟨rfl,hB2⟩;have hcs:E8 w2 [(w.heap.size,0,.int .i64 d.tm),(w.heap.size,1,.int .i64 d.id)]:=ax hB2 (by (exact xP));have hq0:=hcs.1.2;have hq1:=hcs.2.1.2;have hz0:=hcs.1.1
 rw [hI]
 clear hI
 go_wp2_with fail;refine (dx d _).mono ?_;rintro e w3 ⟨rfl,hB3⟩;have hcs:E8 w3 [(w.heap.size,0,.int .i64 d.tm),(w.heap.size,1,.int .i64 d.id)]:=ax hB3 (by (exact xP));have hq0:=hcs.1.2;have hq1:=hcs.2.1.2;have hz0:=hcs.1.1
 rw [hF]
 clear hF
 have hB13:Kept w1 w3:=by exact F6
 obtain ⟨w4,hu,hM4,hO4,hs4⟩:=BI (HM.out.kept hB13) d HT.out
 have HE:=Lib.hid (And.intro hM4 (And.intro hO4 hs4))
 clear hM4 hO4 hs4
 go_wp2_with fail
 have hBw0:Kept w w3:=by exact F6
 refine (jZ (base:=w.heap.size) (l++[d]) mb w4 HE.out.1 HAP.out (by simp;omega) (Nat.le_trans hBw0.size (Nat.le_of_eq HE.out.2.2.symm))).mono ?_
 rintro e w5 ⟨p5,k5,rfl,hS5,hB5⟩
 go_wp2
 go_ret2
 have hBw:Kept w w3:=by exact F6
 have hmb' : w.heap.size≤mb:=by simp at hmb;omega
 exact ⟨p5,k5,rfl,hS5,kept_trans (Out.below hBw HE.out.2.1 (by simp;exact hmb') hBw.size) hB5⟩
end
section
open Go.ChangeShapes Go.WideShapes Go.ChangeAt Go.RowKit
theorem oO {now:Int}:∀ {done todo:List Du},(∀ d∈done,fK now d=true)→(∀ d,todo.head? = some d→fK now d=false)→(done++todo).takeWhile (fK now)=done∧(done++todo).dropWhile (fK now)=todo
 | [],todo,_,h2=>by
  cases todo with
  | nil=>simp
  | cons d r=>have:=h2 d rfl;simp [List.takeWhile_cons,List.dropWhile_cons,this]
 | e::done,todo,h1,h2=>by
  have he:=h1 e (by simp)
  obtain ⟨a,b⟩:=oO (done:=done) (fun d hd=>h1 d (by simp [hd])) h2
  simp [List.takeWhile_cons,List.dropWhile_cons,he,a,b]
theorem hI1 (w:World) (x:Int) {g:Nat} (hg:w.heap.size=g):Sl (w.alloc (.cells #[.int .i64 x] 3)) 1 Z8 [x] (.slice (some ⟨g,0,none⟩) 1 1) :=
 Ow.sl jk (Ow.made (base:=0) (e:=3) (W:=w) jk [x] #[.int .i64 x] rfl (Nat.zero_le _) (by show 1≤maxLen;decide) hg rfl)
structure LateAt (w0 wr:World) (l done todo t:List Du) (now:Int) (p3:Option Addr) (k3 mb pb g cap:Nat):Prop where
 all:l=done++todo
 late:∀ d∈done,fK now d=true
 own:Ow wr w0.heap.size 3 1 Z8 (done.map Du.id) (.slice p3 done.length k3)
 map:MapD wr mb todo
 pile:Pile wr pb g cap t
 heap:Heap t
 perm:t.Perm todo
 kept:Kept w0 wr
 ne:∀ x,p3=some x→x.block≠pb∧x.block≠g
 ge:w0.heap.size≤mb∧w0.heap.size≤pb∧w0.heap.size≤g
theorem uZ {w:World} {mb pb g cap:Nat} {l t:List Du} (h:MapD w mb l) (k:Pile w pb g cap t):mb≠pb∧mb≠g:=by
 obtain ⟨es,ck,h1,_⟩:=h
 refine ⟨fun e=>?_,fun e=>?_⟩
 ·subst e;rw [k.obj] at h1;cases h1
 ·subst e
  obtain ⟨_,⟨h2,_⟩ | ⟨_,_,_,h2,_,h3,_⟩⟩:=k.own
  ·cases h2
  ·cases h2;rw [h3] at h1;cases h1
theorem wF {w:World} {mb base n k c:Nat} {α:Type} {e:TypeId} {enc:α→List Value} {xs:List α} {l:List Du} {p:Option Addr} (h:MapD w mb l) (ho:Ow w base e k enc xs (.slice p n c)):∀ x,p=some x→x.block≠mb:=by
 obtain ⟨es,ck,h1,_⟩:=h
 intro x hx e'
 obtain ⟨_,⟨h2,_⟩ | ⟨_,_,_,h2,_,h3,_⟩⟩:=ho
 ·cases h2;cases hx
 ·cases h2;cases hx;have e2:_=mb:=e';simp only at e2;rw [e2] at h3;rw [h3] at h1;cases h1
theorem Na {w4 X w5:World} {mb:Nat} {d0:Du} {todo:List Du} {v:Value} (hM:MapD w4 mb (d0::todo)) (hW:Below w4.heap.size w4 X) (hb:X.heap[w4.heap.size]? = some (.cells #[.int .i64 d0.tm,.int .i64 d0.id] 150 (0,0))) (hgr:X.grownBy w5 v.ownBlock)
  (hrow:∀ x,v.ownBlock=some x→x≠mb∧x≠w4.heap.size) (ha:Apart (d0::todo)) :
  ∃ w6,w5.cell? ⟨w4.heap.size,1,none⟩=some (.int .i64 d0.id)∧(Builtin.delete_ #[238,3] 0 #[.map (some mb),.int .i64 d0.id]).run Tryz.prog w5 = .ok (.tuple #[]) w6∧MapD w6 mb todo∧Out [mb] w5 w6∧MapD w5 mb (d0::todo):=by
 have hM5:MapD w5 mb (d0::todo):=hM.of_block ((hgr.block mb (Nat.lt_of_lt_of_le hM.lt hW.size) (fun e=>(hrow mb e.symm).1 rfl)).trans (hW.block mb hM.lt))
 have hb5:w5.heap[w4.heap.size]? = _:=(hgr.block w4.heap.size (Array.getElem?_eq_some_iff.1 hb).1 (fun e=>(hrow _ e.symm).2 rfl)).trans hb
 obtain ⟨w6,hu,hM6,hO6,hs6⟩:=map_drop hM5 d0.id ha 0
 have hw:without (d0::todo) d0.id=todo:=by
  have hp:=(List.pairwise_cons.1 ha).1
  unfold without
  rw [List.filter_cons_of_neg (by simp),List.filter_eq_self.2 (fun x hx=>by simpa using Ne.symm (hp x hx))]
 rw [hw] at hM6
 exact ⟨w6,by simp [World.cell?,hb5],hu,hM6,hO6,hM5⟩
end
section
open Go.ChangeShapes Go.WideShapes Go.ChangeAt Go.RowKit
def a2A (w:World) (r:List Int) (s:List Du) (e:Ending) (w' : World):Prop :=
 ∃ (p q:Option Addr) (k j:Nat),e = .returned (.tuple #[.slice p r.length k,.slice q s.length j])∧Sl w' 1 Z8 r (.slice p r.length k)∧Sl w' 2 Du.cells s (.slice q s.length j)∧((∀ a,p=some a→w.heap.size≤a.block)∧(∀ a,q=some a→w.heap.size≤a.block))∧Kept w w'
set_option maxHeartbeats 4000000 in
theorem Ol (l:List Du) (now:Int) (p:Option Addr) (k:Nat) (w:World) (hl:Sl w 2 Du.cells l (.slice p l.length k)) (hm:l.length≤700) (hok:okB l=true) :
  Calls Tryz.prog 246 #[.slice p l.length k,.int .i64 now] w (a2A w (uU l now) (FL l now)):=by
 have H:=Lib.hid hl
 obtain ⟨e1,e2⟩:=Wv (now:=now) hok
 rw [e1,e2]
 have HO:=Lib.hid hok
 have hso:=(nS.1 hok).2
 have HSO:=Lib.hid hso
 clear hl hok e1 e2 hso
 go_enter Tryz.func246,Tryz.ntmps246
 go_wp2_with fail
 refine (Ap l p k _ (H.out.kept (by exact F6)) (by omega) HO.out).mono ?_
 rintro e w1 ⟨mb,rfl,hM,hmb,hB1⟩
 go_wp2_with fail
 refine (Ae l mb _ (hM.kept (by exact F6)) (by omega)).mono ?_
 rintro e w2 ⟨pb,g,cap,t,rfl,hP,hp,hh,hB2,hpb,hg⟩
 have hs1:=hB1.size
 have hs2:=hB2.size
 have hL0:LateAt w w2 l [] l t now (some ⟨w1.heap.size,0,none⟩) 0 mb pb g cap:=by
  refine ⟨rfl,by simp,?_,hM.kept (kept_trans (by exact F6) hB2),hP,hh,hp,by exact F6,fun x hx=>?_,?_⟩
  ·exact Ow.kept (Ow.made (W:=w1) jk [] #[] rfl hs1 (by decide) rfl rfl) hB2
  ·cases hx;simp at hpb hg;show w1.heap.size≠pb∧w1.heap.size≠g;omega
  ·simp at hpb hg hmb;omega
 clear hM hmb hB1 hP hp hh hB2 hpb hg hs1 hs2
 have HL:=Lib.hid hL0
 clear hL0
 go_wp2
 go_loopw [8] (fun s8 wr=>∃ (p3:Option Addr) (k3:Nat) (done todo t:List Du),s8 = .slice p3 done.length k3∧LateAt w wr l done todo t now p3 k3 mb pb g cap) (fun s8 _=>match s8 with | .slice _ n _=>l.length - n | _=>0)
 case atStart=>exact ⟨_,_,[],l,t,rfl,HL.out⟩
 case round =>
  clear HL
  obtain ⟨p3,k3,done,todo,t',rfl,hL⟩:=hrel
  have HL:=Lib.hid hL
  cases todo with
  | nil =>
   have ht:t' = []:=List.perm_nil.1 hL.perm
   subst ht
   clear hL
   go_wp2_with fail
   refine (jl wr pb g cap _ HL.out.pile).mono ?_
   rintro e w3 ⟨rfl,hg3⟩
   rw [List.length_nil]
   go_wp2_with fail
   refine (jZ (base:=w.heap.size) [] mb w3 (HL.out.map.kept hg3) (by simp) (by simp) (Nat.le_trans HL.out.kept.size hg3.size)).mono ?_
   rintro e w4 ⟨p5,k5,rfl,⟨hS5,hN5⟩,hB5⟩
   go_wp2
   go_ret2
   have hsp:=oO (now:=now) HL.out.late (todo:=[]) (by simp)
   rw [← HL.out.all] at hsp
   rw [hsp.1,hsp.2]
   exact ⟨p3,p5,k3,k5,(by rw [List.length_map];rfl),(by rw [List.length_map];exact ((Ow.sl jk HL.out.own).kept hg3).kept hB5),hS5,⟨fun a ha=>by subst ha;exact (Ow.lt HL.out.own a.block rfl).1,hN5⟩,kept_trans (kept_trans HL.out.kept hg3) hB5⟩
  | cons d0 todo =>
   obtain ⟨n,hn⟩:∃ n,t'.length=n+1:=⟨todo.length,by rw [hL.perm.length_eq];simp⟩
   have hsd:Sorted (d0::todo):=by
    have:=HSO.out.1
    rw [hL.all,Sorted,List.pairwise_append] at this
    exact this.2.1
   have had:Apart (d0::todo):=by
    have:=HSO.out.2
    rw [hL.all,Apart,List.pairwise_append] at this
    exact this.2.1
   have hlen:done.length+(todo.length+1)=l.length:=by have:=congrArg List.length hL.all;simpa using this.symm
   have hnb:n≤700:=by have:=hL.perm.length_eq;simp at this;omega
   have HS:=Lib.hid (And.intro hsd (And.intro had (And.intro hlen hn)))
   have hdl:done.length≤700:=by omega
   clear hL hsd had hlen hn
   go_wp2_with fail
   refine (jl wr pb g cap _ HL.out.pile).mono ?_
   rintro e w3 ⟨rfl,hg3⟩
   rw [HS.out.2.2.2]
   have b1:(0:Int)<(n:Int)+1:=by omega
   go_wp2_with fail
   refine (zF w3 pb g cap n t' (HL.out.pile.kept hg3) HL.out.heap HS.out.2.2.2 (by omega)).mono ?_
   rintro e w4 ⟨rfl,t4,hP4,hp4,hh4,hO4⟩
   obtain ⟨hd,hp5⟩:=yM HL.out.perm HS.out.1 hp4 (fun e he=>by
    obtain ⟨k,hk,rfl⟩:=Un he
    exact yL HL.out.heap k hk)
   rw [hd]
   have hM4:MapD w4 mb (d0::todo):=by
    have h1:=HL.out.map.kept hg3
    have h2:=uZ h1 (HL.out.pile.kept hg3)
    exact h1.out hO4 (by simp [h2])
   have hO5:Ow w4 w.heap.size 3 1 Z8 (done.map Du.id) (.slice p3 done.length k3):=by
    refine (Ow.kept HL.out.own hg3).of_block (fun x hx=>hO4.block x (Ow.lt (Ow.kept HL.out.own hg3) x hx).2 ?_)
    cases p3 with
    | none=>cases hx
    | some y=>cases hx;have:=HL.out.ne y rfl;simp;omega
   have hB4:Below w.heap.size w w4:=Out.below (kept_trans HL.out.kept hg3) hO4 (by have:=HL.out.ge;simp;omega) (by have:=HL.out.kept.size;have:=hg3.size;omega)
   have HE:=Lib.hid (And.intro hP4 (And.intro hh4 (And.intro hp5 (And.intro hM4 (And.intro hO5 hB4)))))
   clear hP4 hp4 hh4 hO4 hp5 hd hM4 hO5 hB4
   by_cases hnow:now<d0.tm
   ·go_wp2_with fail
    refine (jZ (base:=w.heap.size) (d0::todo) mb _ (HE.out.2.2.2.1.kept (by exact F6)) HS.out.2.1 (by have:=HS.out.2.2.1;simp;omega) (Nat.le_trans HE.out.2.2.2.2.2.size (by simp))).mono ?_
    rintro e w5 ⟨p5,k5,rfl,⟨hS5,hN5⟩,hB5⟩
    go_wp2
    go_ret2
    have hsp:=oO (now:=now) HL.out.late (todo:=d0::todo) (fun d hd=>by cases hd;simp [fK];omega)
    rw [← HL.out.all] at hsp
    rw [hsp.1,hsp.2]
    rw [a0r HS.out.1 HS.out.2.1] at hS5 ⊢
    exact ⟨p3,p5,k3,k5,(by rw [List.length_map];rfl),(by rw [List.length_map];exact (Ow.sl jk HE.out.2.2.2.2.1).kept (((Below.refl _ _).alloc (Nat.le_refl _) _).trans (hB5.mono (by simp)))),hS5,⟨fun a ha=>by subst ha;exact (Ow.lt HE.out.2.2.2.2.1 a.block rfl).1,hN5⟩,kept_trans (HE.out.2.2.2.2.2.alloc (by have:=HE.out.2.2.2.2.2.size;omega) _) hB5⟩
   ·have hnow' : d0.tm≤now:=by omega
    have hW:Below w4.heap.size w4 ((w4.alloc (.cells #[.int .i64 d0.tm,.int .i64 d0.id] 150)).alloc (.cells #[.int .i64 d0.id] 3)):=by exact F6
    have hbox:((w4.alloc (.cells #[.int .i64 d0.tm,.int .i64 d0.id] 150)).alloc (.cells #[.int .i64 d0.id] 3)).heap[w4.heap.size]? = some (.cells #[.int .i64 d0.tm,.int .i64 d0.id] 150 (0,0)):=by
     rw [heap_alloc_old _ _ (by simp)];exact heap_alloc_new _ _
    have HW:=Lib.hid (And.intro hW hbox)
    have hown:=HE.out.2.2.2.2.1.kept hW
    have hsl:=hI1 (w4.alloc (.cells #[.int .i64 d0.tm,.int .i64 d0.id] 150)) d0.id rfl
    simp only [World.size_alloc] at hsl
    have hbe:=HE.out.2.2.2.2.2.trans (hW.mono HE.out.2.2.2.2.2.size)
    have HZ:=Lib.hid (And.intro hown (And.intro hsl hbe))
    clear hW hbox hown hsl hbe
    have hrow:∀ x,(Value.slice p3 done.length k3).ownBlock=some x→x≠mb∧x≠w4.heap.size:=fun x hx=>by
     cases p3 with
     | none=>cases hx
     | some y=>cases hx;exact ⟨wF HE.out.2.2.2.1 HE.out.2.2.2.2.1 y rfl,Nat.ne_of_lt (Ow.lt HE.out.2.2.2.2.1 _ rfl).2⟩
    have HR:=Lib.hid hrow
    clear hrow
    go_wp2_with ((at_builtin;refine uM (wb:=w) rfl _ _ 28 rfl (.int .i64 0) 8 Tryz.underlying28 sJ rfl (by decide) jk rfl rfl (xs:=(done.map Du.id)) (ys:=[d0.id]) HZ.out.1 HZ.out.2.1 HZ.out.2.2 (by simp only [List.length_append,List.length_nil,List.length_cons,List.length_map];unfold maxLen;omega) (by simp only [List.length_append,List.length_nil,List.length_cons,List.length_map];omega) ?_);intro v1 w5 ho1 hb1 hgr1 hbk1;obtain ⟨g1,k4,rfl⟩:=Df ho1 (by simp);rw [List.length_append,List.length_map,List.length_singleton] at ho1 hbk1;obtain ⟨w6,hq5,hu,hX⟩:=Na HE.out.2.2.2.1 HW.out.1 HW.out.2 hgr1 HR.out HS.out.2.1;have HX:=Lib.hid (And.intro ho1 (And.intro hb1 (And.intro hgr1 (And.intro hbk1 hX))));clear ho1 hb1 hgr1 hbk1 hX)
    go_roundw
    case rel =>
     obtain ⟨x1,x2,x3,x4,x5,x6,x7⟩:=HX.out
     have x3' : ((w4.alloc (.cells #[.int .i64 d0.tm,.int .i64 d0.id] 150)).alloc (.cells #[.int .i64 d0.id] 3)).grownBy w5 (Value.slice p3 done.length k3).ownBlock:=x3
     have x4' : (some g1:Option Nat)=(Value.slice p3 done.length k3).ownBlock∨g1=w4.heap.size+1+1:=by
      rcases x4 g1 rfl with h | h
      ·exact .inl h.symm
      ·exact .inr (by simpa using h)
     obtain ⟨y1,y2,y3,y4,y5,y6⟩:=HE.out
     have hrow:pb∉((Value.slice p3 done.length k3).ownBlock).toList∧g∉((Value.slice p3 done.length k3).ownBlock).toList:=by
      cases p3 with
      | none=>simp [Value.ownBlock]
      | some y=>have:=HL.out.ne y rfl;simp [Value.ownBlock];omega
     have hP5:Pile w5 pb g cap t4:=(y1.kept HW.out.1).out (qh x3') hrow.1 hrow.2
     have hmp:=uZ x7 hP5
     have hmo:=wF x7 x1 ⟨g1,0,none⟩ rfl
     have hP6:=hP5.out x6 (by simpa using hmp.1.symm) (by simpa using hmp.2.symm)
     have hO6:=x1.of_block (fun x hx=>by cases hx;exact x6.block _ (Ow.lt x1 _ rfl).2 (by simpa using hmo))
     refine ⟨some ⟨g1,0,none⟩,k4,done++[d0],todo,t4,by simp,⟨by rw [HL.out.all];simp,fun d hd=>?_,?_,x5,hP6,y2,y3,Out.below x2 x6 (by have:=HL.out.ge;simp;omega) x2.size,fun x hx=>?_,HL.out.ge⟩⟩
     ·rcases List.mem_append.1 hd with h | h
      ·exact HL.out.late d h
      ·rw [List.mem_singleton] at h;subst h;exact qd.2 hnow'
     ·rw [List.map_append,List.length_append,List.length_singleton];exact hO6
     ·cases hx
      show g1≠pb∧g1≠g
      have hlt:=y1.lt
      rcases x4' with h | h
      ·cases p3 with
       | none=>cases h
       | some y=>cases h;exact HL.out.ne y rfl
      ·omega
    case measure =>
     have:=HS.out.2.2.1
     simp
     omega
end
section
open Go.RowKit
theorem Dh {O:Nat→Prop} {W:World} {l:List Du} {c:Value}:Rp nowhere O W (uL l) c↔∃ p cap,c = .slice p l.length cap∧SlP (fun g=>¬ O g) W 2 Du.cells l p l.length cap :=
 qi (f:=duT) (enc:=Du.cells) (fun _=>rfl) (fun _=>rfl) (fun _=>rfl)
theorem KY {O:Nat→Prop} {W:World} (hl:Low O W) {g:Nat} (h:W.heap.size≤g):¬ O g:=fun hO=>by have:=hl g hO;omega
theorem vB {s:St} (h:stB s=true):s.th≠[]:=by
 rintro e
 have:=(Y3 h).2.1
 rw [e] at this;simp at this
theorem Ot {l:List Du} {n:Int} (h:okB l=true) (hm:l.length≤700):AC Tryz.prog 246 [uL l,.int .i64 n] (.tuple #[l5 (uU l n),uL (FL l n)]):=by
 intro O W vs hl hat ;obtain ⟨ys,rfl,_,_,rfl,h0,_,_,rfl,h1,rfl⟩:=T9 hat
 obtain ⟨p,k,rfl,hs⟩:=Dh.1 h0
 rw [p8] at h1
 subst h1
 refine (Ol l n p k W hs.s hm h).mono ?_
 rintro e W' ⟨p1,p2,k1,k2,rfl,s1,s2,⟨b1,b2⟩,hk⟩
 exact ⟨_,rfl,(vX (xs:=[l5 (uU l n),uL (FL l n)])).2 ⟨_,rfl,_,_,rfl,V5.2 ⟨p1,k1,rfl,s1,fun _ a ha=>KY hl (b1 a ha)⟩,_,_,rfl,Dh.2 ⟨p2,k2,rfl,s2,fun _ a ha=>KY hl (b2 a ha)⟩,rfl⟩,hk⟩
theorem xR {ep:Int} {l:List Int} (i:Int) (h:okE ep l=true):AC Tryz.prog 255 [evT ep l,.int .i64 i] (.tuple #[evT ep (cnL ep l i),.bool (cnB ep l i)]):=by
 have hl:=X9 (R8 h)
 rw [show cnL ep l i=lvL l i by simp [cnL,h],show cnB ep l i=(lvE l i==0) by simp [cnB,h]]
 exact d9 mixed (ext:=[70,269]) (fuel:=9) (n:=5) (orc:=[vD true,.tuple #[l5 (lvL l i),.int .i64 (lvE l i)]]) (an (F9 h)<|an (jA l i (by omega)) trivial) (by kernel_rfl)
theorem Nu (t:Th):AC Tryz.prog 265 [thT t] (.bool (tdB t)):=by
 by_cases h0:t.st=0
 ·rw [show tdB t=false by simp [tdB,h0]]
  exact d9 mixed (ext:=[198]) (fuel:=9) (n:=5) (orc:=[.bool false]) (an (show (t.st != 0)=false by simpa using h0) trivial) (by kernel_rfl)
 ·cases h1:K3 t.ki
  ·rw [show tdB t=false by simp [tdB,h1]]
   exact d9 mixed (ext:=[198]) (fuel:=9) (n:=5) (orc:=[.bool true,vD false]) (an (show (t.st != 0)=true by simpa using h0)<|an (R5 h1) trivial) (by kernel_rfl)
  ·rw [show tdB t = !t.la by simp [tdB,h1,h0]]
   exact d9 mixed (ext:=[198]) (fuel:=9) (n:=5) (orc:=[.bool true,vD true]) (an (show (t.st != 0)=true by simpa using h0)<|an (R5 h1) trivial) (by kernel_rfl)
end
section
open Go.RowKit
def Wkr (a b:Value):Prop:=∀ (ρ:A8) (O:Nat→Prop) (W:World) (c:Value),Rp ρ O W a c→Rp ρ O W b c
theorem Wkr.refl (a:Value):Wkr a a:=fun _ _ _ _ h=>h
theorem a1V (b:Bool):Wkr (vD b) (.bool b):=fun _ _ _ _ h=>H5.2 (rG.1 h)
def ElW (a b:Value):Prop:=a.cells.size=b.cells.size∧∀ (j:Nat) (y:Value),b.cells[j]? = some y→∃ x,a.cells[j]? = some x∧Wkr x y
theorem ElW.refl (a:Value):ElW a a:=⟨rfl,fun _ y hy=>⟨y,hy,Wkr.refl y⟩⟩
def Wy (l m:List Value):Prop:=l.length=m.length∧∀ (i:Nat) (b:Value),m[i]? = some b→∃ a,l[i]? = some a∧ElW a b
theorem TN {l:List Value} {i:Nat} {a b:Value} (h:ElW a b):Wy (l.set i a) (l.set i b):=by
 refine ⟨by simp,fun j y hy=>?_⟩
 by_cases e:i=j
 ·subst e
  by_cases hi:i<l.length
  ·simp [hi] at hy
   subst hy
   exact ⟨a,by simp [hi],h⟩
  ·simp [hi] at hy
 ·rw [List.getElem?_set,if_neg e] at hy
  exact ⟨y,by rw [List.getElem?_set,if_neg e];exact hy,ElW.refl y⟩
theorem Sc {ρ:A8} {O:Nat→Prop} {W:World} {g k n n' : Nat} {w arr:Bool} {l m:List Value} (hk:k≠0) (h:Wy l m) (hB:BlkAt ρ O W g ⟨w,arr,k,n,l⟩):BlkAt ρ O W g ⟨w,arr,k,n',m⟩:=by
 obtain ⟨ar,ty,h1,h2,h3⟩:=(I4 (rM hk)).1 hB
 refine (I4 (rM hk)).2 ⟨ar,ty,h1,?_,fun q el hq=>?_⟩
 ·have e:l.length=m.length:=h.1
  show m.length * k≤ar.size
  rw [← e];exact h2
 ·obtain ⟨a,ha,h4,h5⟩:=h.2 q el hq
  obtain ⟨h6,h7⟩:=h3 q a ha
  refine ⟨h4.symm.trans h6,fun j x hx=>?_⟩
  obtain ⟨y,hy,hw⟩:=h5 j x hx
  obtain ⟨u,hu,hr⟩:=h7 j y hy
  exact ⟨u,hu,hw _ _ _ _ hr⟩
theorem yB {b0 b1 b1' b2:Option Blk} (h:∀ b',b1' = some b' → ∃ b,b1=some b∧b.w=b'.w) {i:Nat} {b' : Blk} (hb:look [b1',b0,b2] i=some b'):∃ b,look [b1,b0,b2] i=some b∧b.w=b'.w:=by
 match i,hb with
 | 0,hb=>exact h b' hb
 | 1,hb=>exact ⟨b',hb,rfl⟩
 | 2,hb=>exact ⟨b',hb,rfl⟩
 | i+3,hb=>simp [look] at hb
theorem Gw {P:Program} {K k n n' : Nat} {c:Code} {T:List Value} {w arr:Bool} {b0 b2:Option Blk} {l m:List Value} {x:Exit} {S:Sg} (hk:k≠0) (h:Wy l m) (hL:eY P K c ⟨T,[some ⟨w,arr,k,n',m⟩,b0,b2]⟩ x S):eY P K c ⟨T,[some ⟨w,arr,k,n,l⟩,b0,b2]⟩ x S:=by
 obtain ⟨N,hN⟩:=hL
 have up:∀ {i:Nat} {b' : Blk},look [some ⟨w,arr,k,n',m⟩,b0,b2] i=some b' → ∃ b,look [some ⟨w,arr,k,n,l⟩,b0,b2] i=some b∧b.w=b'.w:=fun hb=>yB (fun b' e=>by cases e;exact ⟨_,rfl,rfl⟩) hb
 have dn:∀ {i:Nat} {b' : Blk},look [some ⟨w,arr,k,n,l⟩,b0,b2] i=some b' → ∃ b,look [some ⟨w,arr,k,n',m⟩,b0,b2] i=some b∧b.w=b'.w:=fun hb=>yB (fun b' e=>by cases e;exact ⟨_,rfl,rfl⟩) hb
 refine ⟨N,fun ρ O a W Q hH hT hK=>hN ρ O a W Q ⟨hH.low,hH.fr,fun i=>?_,fun i j b b' g k k' h1 h2=>?_⟩ hT fun ρ' O' a' W' h1 h2 h3 h4=>hK ρ' O' a' W' h1 h2 ⟨fun g hg i b k hi hp=>?_,h3.still,fun g hg hn=>h3.keepO g hg fun i b hb=>?_,h3.str,fun g hg hn=>h3.blk g hg fun i b hb hw=>?_⟩ h4⟩
 ·have:=hH.hp i
  match i,this with
  | 0,this=>obtain ⟨g,h1,h2,h3⟩:=this;exact ⟨g,h1,h2,Sc hk h h3⟩
  | 1,this=>exact this
  | 2,this=>exact this
  | i+3,this=>exact this
 ·obtain ⟨c,hc,-⟩:=up h1
  obtain ⟨c',hc',-⟩:=up h2
  exact hH.inj i j c c' g k k' hc hc'
 ·obtain ⟨i0,b0',k0,h5,h6,h7⟩:=h3.old g hg i b k hi hp
  obtain ⟨c,hc,e⟩:=up h5
  exact ⟨i0,c,k0,hc,fun hw=>e.trans (h6 hw),h7⟩
 ·obtain ⟨c,hc,-⟩:=up hb
  exact hn i c hc
 ·obtain ⟨c,hc,e⟩:=up hb
  exact hn i c hc (e.trans hw)
end
section
open Go.RowKit
def Gb (t:Th):Th:=⟨t.st,t.ki,t.va,t.un,t.pc,t.re,t.se,t.tr,true,t.rs,t.go⟩
theorem WB {t:Th} (h:t.st≠2):Gb t=M4 t:=by unfold M4;rw [if_neg h];rfl
theorem PE {t:Th} (h:t.st=2):D8 (Gb t)=M4 t:=by
 unfold M4 D8;rw [if_pos h,if_pos (show (Gb t).st=2 from h)];rfl
def CX (t:Th):Value:=.agg #[.int .i64 t.st,.int .i64 t.ki,.int .i64 t.va,.int .i64 t.un,.int .i64 t.pc,.int .i64 t.re,.int .i64 t.se,.int .i64 t.tr,vD true,.int .i64 t.rs,.int .i64 t.go]
theorem a1L (t:Th):ElW (CX t) (thT (Gb t)):=by
 refine ⟨rfl,fun j y hy=>?_⟩
 match j,hy with
 | 0,hy=>exact ⟨y,hy,Wkr.refl y⟩
 | 1,hy=>exact ⟨y,hy,Wkr.refl y⟩
 | 2,hy=>exact ⟨y,hy,Wkr.refl y⟩
 | 3,hy=>exact ⟨y,hy,Wkr.refl y⟩
 | 4,hy=>exact ⟨y,hy,Wkr.refl y⟩
 | 5,hy=>exact ⟨y,hy,Wkr.refl y⟩
 | 6,hy=>exact ⟨y,hy,Wkr.refl y⟩
 | 7,hy=>exact ⟨y,hy,Wkr.refl y⟩
 | 8,hy=>cases hy;exact ⟨_,rfl,a1V true⟩
 | 9,hy=>exact ⟨y,hy,Wkr.refl y⟩
 | 10,hy=>exact ⟨y,hy,Wkr.refl y⟩
 | j+11,hy=>simp [thT,Value.cells] at hy
def BX (l:List Th) (n:Nat):List Value:=(l.map thT).set (0+(n:Int).toNat) (CX (gth l n))
theorem a1g (l:List Th) (n:Nat):Wy (BX l n) ((l.set n (Gb (gth l n))).map thT):=by
 rw [K4];exact TN (a1L _)
theorem elD {l:List Th} {n:Nat} (h:n<l.length):ElP (BX l n) (0+(n:Int).toNat) (CX (gth l n)):=by simp [ElP,BX,h]
theorem a3e (l:List Th) (n:Nat) (t:Th):(l.set n t).map thT=(BX l n).set (0+(n:Int).toNat) (thT t):=by simp [BX,List.map_set]
structure LaK (v:St) (l:List Int):Prop where
 b:stB v=true
 l:∀ i∈l,∃ n:Nat,i=n∧n<v.th.length∧K3 (gth v.th n).ki=true∧(gth v.th n).st≠0
theorem LaK.next {v:St} {i:Int} {l:List Int} (h:LaK v (i::l)):∃ n:Nat,i=n∧n<v.th.length∧LaK (O4 v n) l:=by
 obtain ⟨n,rfl,hn,h1,h2⟩:=h.l i List.mem_cons_self
 refine ⟨n,rfl,hn,wW h.b hn h1 h2,fun x hx=>?_⟩
 obtain ⟨m,rfl,hm,h3,h4⟩:=h.l x (List.mem_cons_of_mem _ hx)
 refine ⟨m,rfl,by rw [jm];exact hm,?_,?_⟩
 ·rw [gK hn];split
  ·exact h3
  ·exact h3
 ·rw [gK hn];split
  ·unfold M4;simp only;split <;> omega
  ·exact h4
def bTk (s:St) (N:Nat):Option Blk:=some ⟨true,false,20,1,[.agg (stO s 0 N).toArray]⟩
def bWk:Option Blk:=some ⟨true,false,1,1,[.func (.func 254) #[] #[vFz [pt 1]]]⟩
def a2z (l:List Int) (i:Int):List (Nat×Value):=[(4,pt 2),(8,l5 l),(45,l5 l),(46,.int .i64 l.length),(47,.int .i64 i)]
def hdK (v:St) (l:List Int) (i:Int) (N M:Nat):Sg:=⟨mkT 56 (a2z l i),[bT v.th M,bTk v N,bWk]⟩
theorem Vq {v:St} {l:List Int} {N i n:Nat} {x:Exit} {S:Sg} (hB:stB v=true) (hN:v.th.length=N) (hi:i<l.length) (he:l[i]=n) (hn:n<v.th.length) (hm:l.length≤1000000) (ih:eY Tryz.prog 3 (j3 Tryz.prog 245 0) (hdK (O4 v n) l ((i:Int)+1) N (O4 v n).th.length) x S):eY Tryz.prog 3 (j3 Tryz.prog 245 0) (hdK v l i N v.th.length) x S:=by
 obtain ⟨a,b,-⟩:=l6 hB
 have hx:IxP ((l.map (Value.int .i64 ·)).toArray) (i:Int) (.int .i64 n):=he ▸ a3B hi
 have hid:0≤(n:Int)∧(n:Int).toNat<N:=by subst hN;exact idT hn
 have h1:decide ((i:Int)<l.length)=true:=by simp;omega
 have h2:In64 ((i:Int)+1):=by constructor <;> omega
 by_cases hs:(gth v.th n).st=2
 ·obtain ⟨-,-,-,-,hf,hg⟩:=l6 hB
  rw [show O4 v n=((v.toFull v.fe (cnL v.fe v.fl n)).toEmpty v.ee (cnL v.ee v.el n)).setTh n (M4 (gth v.th n)) by unfold O4;rw [if_pos hs]] at ih
  exact bC mixed (fuel:=9) (n:=9) (im:=[0,1,2]) (keep:=[4,8,45,46,47]) (ext:=[255,203]) (orc:=[.bool true,.int .i64 n,thT (gth v.th n),F4 v.th.length (BX v.th n),CX (gth v.th n),.bool false,.tuple #[evT v.fe (cnL v.fe v.fl n),.bool (cnB v.fe v.fl n)],.tuple #[evT v.ee (cnL v.ee v.el n),.bool (cnB v.ee v.el n)],CX (gth v.th n),thT (M4 (gth v.th n)),CX (gth v.th n),aT (v.th.set n (M4 (gth v.th n)))])
   (an h1<|an hx<|an hid<|an (elT hn)<|an (show BX v.th n=(v.th.map thT).set (0+(n:Int).toNat) (CX (gth v.th n)) from rfl)<|an (elD hn)<|an (show ((gth v.th n).st != 2)=false by rw [hs];rfl)<|an (xR n hf)<|an (xR n hg)<|an (elD hn) <|
    an (show AC Tryz.prog 203 [thT (Gb (gth v.th n))] (thT (M4 (gth v.th n))) from PE hs ▸ Gt (Gb (gth v.th n)))<|an (elD hn)<|an (a3e v.th n (M4 (gth v.th n)))<|an h2 trivial) (by kernel_rfl) (by rfl) ih
 ·rw [show O4 v n=v.setTh n (Gb (gth v.th n)) by unfold O4;rw [if_neg hs,WB hs]] at ih
  exact bC mixed (fuel:=9) (n:=9) (im:=[0,1,2]) (keep:=[4,8,45,46,47]) (ext:=[255,203]) (orc:=[.bool true,.int .i64 n,thT (gth v.th n),F4 v.th.length (BX v.th n),CX (gth v.th n),.bool true])
   (an h1<|an hx<|an hid<|an (elT hn)<|an (show BX v.th n=(v.th.map thT).set (0+(n:Int).toNat) (CX (gth v.th n)) from rfl)<|an (elD hn)<|an (show ((gth v.th n).st != 2)=true by simpa using hs)<|an h2 trivial) (by kernel_rfl) (by rfl) (Gw (n:=v.th.length) (by decide) (a1g v.th n) ih)
theorem YU {l:List Int} {N:Nat} (hm:l.length≤1000000):∀ (k i:Nat) {v:St},l.length - i=k→i≤l.length→LaK v (l.drop i)→v.th.length=N→eY Tryz.prog 3 (j3 Tryz.prog 245 0) (hdK v l i N v.th.length) (.exit 1) (hdK (aF (l.drop i) v) l l.length N (aF (l.drop i) v).th.length)
 | 0,i,v,hk,hi,h,hN=>by
  have:i=l.length:=by omega
  subst this
  rw [List.drop_length]
  exact jo mixed (fuel:=9) (n:=9) (im:=[0,1,2]) (keep:=[4,8,45,46,47]) (ext:=[255,203]) (orc:=[.bool false]) (an (aG l.length) trivial) (by intro e;cases e) (by kernel_rfl) (by rfl)
 | k+1,i,v,hk,hi',h,hN=>by
  have hi:i<l.length:=by omega
  rw [List.drop_eq_getElem_cons hi] at h ⊢
  obtain ⟨n,he,hn,h'⟩:=h.next
  rw [he]
  exact Vq h.b hN hi he hn hm (YU hm k (i+1) (v:=O4 v n) (by omega) (by omega) h' (by rw [jm];exact hN))
end
section
open Go.RowKit
def YK {α:Type} (P:Program) (gf:Nat) (bd lb:Array Value) (enc:α→Value) (b:Nat) (xs:List α) (w:World):Prop :=
 ∀ (l:Nat) (J:List α→World→Prop) (W:World),w.heap.size≤l→Below w.heap.size w W →
  (∀ s A C,J s A→Below A.heap.size A C→J s C) →
  (∀ (m:Nat) pre x suf A,9≤m→xs=pre++x::suf→J pre A→YieldAt Fence.wide m P l #[enc x] A fun e C=>e = .returned (.bool true)∧J (pre++[x]) C∧Out [b,l] A C) →
  J [] W→Calls P gf (bd++#[.func (.yield l) #[] #[]]++lb) W fun e C=>(∃ v,e = .returned v)∧J xs C
def a3C {α:Type} (b:Nat) (I:List α→World→Prop) (xs:List α) (A:World):Exit→Act→World→Prop
 | .normal,_,C=>Out [b] A C∧I xs C
 | _,_,_=>False
theorem Jt {α:Type} {P:Program} {n:Nat} {g:Operand} {ps:Array Tmp} {assign body:Code} {Q:Exit→Act→World→Prop} {a:Act} {w:World}
  {gf:Nat} {bd lb:Array Value} (hg:a.eval g = .func (.func gf) bd lb) (eg:∀ args w,(callFunc gf args).run P w = .ok (.enter gf args) w)
  {enc:α→Value} {b:Nat} {xs:List α} (hseq:YK P gf bd lb enc b xs w) (hb:b<w.heap.size) (hps:ps.size=1)
  (I:List α→World→Prop) (hI:∀ s A C,I s A→Turn w.heap.size A C→I s C) (h0:I [] w)
  (hround:∀ (m l:Nat) (pre suf:List α) (x:α) (A:World),9≤m→xs=pre++x::suf→w.heap.size+2≤A.heap.size→I pre A →
   assign.wpIn (Fence.wide.inRound l) m P (Exit.then (fun a₁ A₁=>Below A.heap.size A A₁∧∀ C,Turn w.heap.size A₁ C→C.heap.size=A₁.heap.size →
     body.wpIn (Fence.wide.inRound l) m P (a3C b I (pre++[x]) C) a₁ C) (fun _ _ _=>False))
    { tmps:=(ps.zip #[enc x]).foldl (fun t (p,v)=>t.setIfInBounds p v) a.tmps,defers:=[] } A)
  (hdone:∀ (D:Nat) (W:World),w.heap.size≤D→I xs W→W.heap[D]? = some (.deferred (some []))→Q .normal { a with defers:={ target:=.collected D,args:=#[] }::a.defers } W) :
  (Code.rangeFunc g ps assign body).wpIn Fence.wide n P Q a w:=by
 refine wpIn_rangeFunc fun fn hfn=>?_
 obtain ⟨rec,hrec⟩:∃ rec:LoopState→Option Code→Loop,rec=fun st pe=>{ state:=st,pending:=pe,fn,tmps:=a.tmps,params:=ps,assign,body,defers:=w.heap.size }:=⟨_,rfl⟩
 obtain ⟨V,hV⟩:∃ V,(w.alloc (.deferred (some []))).alloc (.loop (rec .ready none))=V:=⟨_,rfl⟩
 have hwV:Below w.heap.size w V:=by rw [← hV];exact ((Below.refl _ w).alloc (Nat.le_refl _) _).alloc (by simp) _
 have hsV:V.heap.size=w.heap.size+2:=by rw [← hV];simp
 have hlV:V.heap[w.heap.size+1]? = some (.loop (rec .ready none)):=by
  rw [← hV];have:=World.alloc_heap_new (w.alloc (.deferred (some []))) (.loop (rec .ready none));rwa [World.size_alloc] at this
 have hdV:V.heap[w.heap.size]? = some (.deferred (some [])):=by
  rw [← hV];exact (Below.heap_alloc _ _ _ (by simp)).trans (World.alloc_heap_new w _)
 refine ⟨w.heap.size+1,[{ target:=.collected w.heap.size,args:=#[] }],V,{ target:=.fn (.func gf) lb,args:=bd++#[.func (.yield (w.heap.size+1)) #[] #[]] },V,gf,
  bd++#[.func (.yield (w.heap.size+1)) #[] #[]]++lb,V,?_,?_,fun _ _=>trivial,?_,fun h=>by simp [Fence.wide] at h,?_⟩
 ·rw [← hV,hrec];exact run_enterLoop_outer _ _ _ _ _
 ·simp only [resolve,hg]
  simp [go_sem,Deferred.ofValue]
 ·simp [invoke,go_sem,eg]
 refine (callsIn_wide.2 (hseq (w.heap.size+1)
  (fun pre W=>I pre W∧W.heap[w.heap.size+1]? = some (.loop (rec .ready none))∧W.heap[w.heap.size]? = some (.deferred (some []))∧w.heap.size+2≤W.heap.size)
  V (by omega) hwV
  (fun s A C hs hk=>⟨hI s A C hs.1 (Turn.of_kept hk),(hk.block _ (lt_of_some hs.2.1)).trans hs.2.1,(hk.block _ (lt_of_some hs.2.2.1)).trans hs.2.2.1,Nat.le_trans hs.2.2.2 hk.size⟩)
  ?_ ⟨hI _ _ _ h0 (Turn.of_kept hwV),hlV,hdV,by omega⟩)).mono ?_
 ·rintro m pre x suf A hm hxs ⟨hi,hl,hd,hsz⟩
  have hy:=run_yield (P:=P) (args:=#[enc x]) hl (by rw [hrec];exact hps.symm)
  rw [hrec] at hy
  refine ⟨fn,_,assign,body,hy,roundIn_of_wpIn trivial (wpIn_mono (hround m (w.heap.size+1) pre suf x A hm hxs hsz hi) ?_)⟩
  clear hy
  rintro e a₁ A₁ hq
  cases e with
  | normal =>
   obtain ⟨hk,hbody⟩:=hq
   have hl1:=(hk.block _ (lt_of_some hl)).trans hl
   have hd1:=(hk.block _ (lt_of_some hd)).trans hd
   refine ⟨_,run_beginRound hl1 (by rw [hrec]),wpIn_mono (hbody _ (Turn.putObj hl1 rfl (by omega) _) (by simp)) ?_⟩
   obtain ⟨A₂,hA₂⟩:∃ A₂,A₁.putObj (w.heap.size+1) (.loop { rec .ready none with state:=.busy })=A₂:=⟨_,rfl⟩
   rw [hA₂]
   have hl2:A₂.heap[w.heap.size+1]? = some (.loop (rec .busy none)):=by rw [← hA₂];exact (World.putObj_heap_same (lt_of_some hl1)).trans (by rw [hrec])
   have hd2:A₂.heap[w.heap.size]? = some (.deferred (some [])):=by rw [← hA₂];exact (World.putObj_heap_other (by omega)).trans hd1
   have ho2:∀ k,k≠w.heap.size+1→A₂.heap[k]? = A₁.heap[k]? := fun k hk=>by rw [← hA₂];exact World.putObj_heap_other hk
   have hs2:A₂.heap.size=A₁.heap.size:=by rw [← hA₂];simp
   have hos:A₂.os=A₁.os∧A₂.tape=A₁.tape∧A₂.output=A₁.output:=by rw [← hA₂];exact ⟨rfl,rfl,rfl⟩
   rintro e a₃ C hp
   cases e with
   | normal =>
    obtain ⟨hC,hi3⟩:=hp
    have hsk:=hk.size
    have hl3:=(hC.block (w.heap.size+1) (by omega) (by simp;omega)).trans hl2
    have hd3:=(hC.block w.heap.size (by omega) (by simp;omega)).trans hd2
    have hr:(Instr.endRound (w.heap.size+1) none).run P C = .ok (.bool true) (C.putObj (w.heap.size+1) (.loop (rec .ready none))):=(run_endRound (P:=P) none hl3).trans (by rw [hrec];rfl)
    refine ⟨_,_,hr,⟨rfl,⟨hI _ _ _ hi3 (Turn.putObj hl3 rfl (by omega) _),World.putObj_heap_same (lt_of_some hl3),(World.putObj_heap_other (by omega)).trans hd3,?_⟩,?_⟩⟩
    ·have:=hC.size;simp;omega
    ·refine ⟨?_,?_,?_,?_,fun k hk' hn=>?_⟩
     ·exact hC.os.trans (hos.1.trans hk.os)
     ·exact hC.tape.trans (hos.2.1.trans hk.tape)
     ·exact hC.output.trans (hos.2.2.trans hk.output)
     ·have:=hC.size;simp;omega
     ·simp only [List.mem_cons,List.not_mem_nil,or_false,not_or] at hn
      rw [World.putObj_heap_other hn.2,hC.block k (by omega) (by simpa using hn.1),ho2 k hn.2,hk.block k (by omega)]
   | ret=>exact hp.elim
   | exit id=>exact hp.elim
   | goto t=>exact hp.elim
   | panic ch=>exact hp.elim
   | outgrown=>exact hp.elim
  | ret=>exact hq
  | exit id=>exact hq
  | goto t=>exact hq
  | panic ch=>exact hq
  | outgrown=>exact hq
 ·rintro e C ⟨⟨v,rfl⟩,hi,hl,hd,-⟩
  have he:=run_endLoop (P:=P) hl (by rw [hrec];simp)
  rw [hrec] at he
  exact ⟨none,_,he,hdone _ _ (Nat.le_refl _) (hI _ _ _ hi (Turn.putObj hl rfl (by omega) _)) ((World.putObj_heap_other (by omega)).trans hd)⟩
end
section
open Go.ChangeShapes Go.WideShapes Go.ChangeAt Go.RowKit
theorem Bk.off {W W' : World} {b c:Nat} {cs:List Value} (h:Bk W b cs) (ho:Out [c] W W') (hne:b<c∨c<b):Bk W' b cs:=h.out ho (VI hne)
section
variable {ops:Array Oper} {rest:List Oper} {o:Oper} {a:Act} {w:World} {Q:Exit→Act→World→Prop} {b off:Nat} {cs:List Value}
theorem XH (hgd:Region.wanted o (yielded ops a.tmps)=true) {x:Operand} (ho:o.op = .load 52 x) (hx:a.eval x = .pointer (some ⟨b,off,none⟩)) (hb:Bk w b cs) {u0 u1 u2 u3 u4 u5 u6 u7 u8 u9 u10 u11 u12 u13 u14 u15 u16 u17 u18 u19:Value} (hp:cs[off+0]? = some u0∧cs[off+1]? = some u1∧cs[off+2]? = some u2∧cs[off+3]? = some u3∧cs[off+4]? = some u4∧cs[off+5]? = some u5∧cs[off+6]? = some u6∧cs[off+7]? = some u7∧cs[off+8]? = some u8∧cs[off+9]? = some u9∧cs[off+10]? = some u10∧cs[off+11]? = some u11∧cs[off+12]? = some u12∧cs[off+13]? = some u13∧cs[off+14]? = some u14∧cs[off+15]? = some u15∧cs[off+16]? = some u16∧cs[off+17]? = some u17∧cs[off+18]? = some u18∧cs[off+19]? = some u19) (h:wpList Tryz.prog ops Q rest (a.put o.dst (.agg #[u0,u1,u2,u3,u4,u5,u6,u7,u8,u9,u10,u11,u12,u13,u14,u15,u16,u17,u18,u19])) w):wpList Tryz.prog ops Q (o::rest) a w:=by
 obtain ⟨h0,h1,h2,h3,h4,h5,h6,h7,h8,h9,h10,h11,h12,h13,h14,h15,h16,h17,h18,h19⟩:=hp
 exact CW hgd 52 x ho hx hb Tryz.underlying52 rfl [u0,u1,u2,u3,u4,u5,u6,u7,u8,u9,u10,u11,u12,u13,u14,u15,u16,u17,u18,u19] (by kernel_rfl) (fun j v hv=>by
  have hj:j<20:=(List.getElem?_eq_some_iff.1 hv).1
  match j,hj with
  | 0,_=>exact h0.trans hv
  | 1,_=>exact h1.trans hv
  | 2,_=>exact h2.trans hv
  | 3,_=>exact h3.trans hv
  | 4,_=>exact h4.trans hv
  | 5,_=>exact h5.trans hv
  | 6,_=>exact h6.trans hv
  | 7,_=>exact h7.trans hv
  | 8,_=>exact h8.trans hv
  | 9,_=>exact h9.trans hv
  | 10,_=>exact h10.trans hv
  | 11,_=>exact h11.trans hv
  | 12,_=>exact h12.trans hv
  | 13,_=>exact h13.trans hv
  | 14,_=>exact h14.trans hv
  | 15,_=>exact h15.trans hv
  | 16,_=>exact h16.trans hv
  | 17,_=>exact h17.trans hv
  | 18,_=>exact h18.trans hv
  | 19,_=>exact h19.trans hv) h
theorem a0q (hgd:Region.wanted o (yielded ops a.tmps)=true) {x:Operand} (ho:o.op = .load 50 x) (hx:a.eval x = .pointer (some ⟨b,off,none⟩)) (hb:Bk w b cs) {u:Value} (hp:cs[off]? = some u) (h:wpList Tryz.prog ops Q rest (a.put o.dst u) w):wpList Tryz.prog ops Q (o::rest) a w :=
 BH 50 Tryz.underlying50 rfl hgd _ ho hx hb hp h
end
end
section
open Go.ChangeShapes Go.WideShapes Go.ChangeAt Go.RowKit Go.Shelf
attribute [local go_sem] Oper.semAt_some
def wtL (s:St):Nat→List Du
 | 0=>[]
 | k+1=>if tdB (gth s.th k)=true then wtL s k++[oZ s k] else wtL s k
def wtS (s:St):List Du:=if stB s=true then wtL s s.th.length else []
theorem CG (s:St):∀ k,(wtL s k).foldl ji []=tdS s k
 | 0=>rfl
 | k+1=>by
  by_cases h:tdB (gth s.th k)=true
  ·simp only [wtL,tdS,h,if_true,List.foldl_append,CG s k,List.foldl_cons,List.foldl_nil]
  ·rw [show wtL s (k+1)=wtL s k from if_neg h,show tdS s (k+1)=tdS s k from if_neg h];exact CG s k
theorem WC (s:St):(wtS s).foldl ji []=Y1 s:=by
 unfold wtS Y1;split
 ·exact CG s _
 ·rfl
theorem SI {s:St}:∀ {n:Nat} {pre suf:List Du} {x:Du},wtL s n=pre++x::suf→∃ k,k<n∧tdB (gth s.th k)=true∧pre=wtL s k∧x=oZ s k
 | 0,pre,suf,x,h=>by simp [wtL] at h
 | n+1,pre,suf,x,h=>by
  by_cases ht:tdB (gth s.th n)=true
  ·simp only [wtL,ht,if_true] at h
   rcases List.eq_nil_or_concat suf with rfl | ⟨q,y,rfl⟩
   ·obtain ⟨h1,h2⟩:=List.append_inj' h rfl
    cases h2
    exact ⟨n,by omega,ht,h1.symm,rfl⟩
   ·rw [List.concat_eq_append,← List.cons_append,← List.append_assoc] at h
    obtain ⟨h1,-⟩:=List.append_inj' h rfl
    obtain ⟨k,hk,a,b,c⟩:=SI h1
    exact ⟨k,by omega,a,b,c⟩
  ·simp only [wtL,ht] at h
   obtain ⟨k,hk,a,b,c⟩:=SI h
   exact ⟨k,by omega,a,b,c⟩
theorem YL {s:St} {k:Nat} (ht:tdB (gth s.th k)=true):∀ {n:Nat},k<n→∃ suf,wtL s n=wtL s k++oZ s k::suf
 | 0,h=>absurd h (by omega)
 | n+1,h=>by
  by_cases e:k=n
  ·subst e;exact ⟨[],by simp [wtL,ht]⟩
  ·obtain ⟨q,hq⟩:=YL ht (n:=n) (by omega)
   by_cases h1:tdB (gth s.th n)=true
   ·exact ⟨q++[oZ s n],by simp [wtL,h1,hq]⟩
   ·exact ⟨q,by simp only [wtL,h1];exact hq⟩
theorem at_one {g:FuncId} {a v:Value} {b:Bool} {W:World} (h:AC Tryz.prog g [a] (.bool b)) (hr:Rp nowhere (fun _=>False) W a v):Calls Tryz.prog g #[v] W fun e W' => e = .returned (.bool b)∧Kept W W' := by
 have hA:AtAll (Rp nowhere (fun _=>False) W) [a].toArray [v].toArray:=X7.2 ⟨_,_,rfl,hr,rfl⟩
 refine (h (fun _=>False) W _ (fun _ h=>h.elim) hA).mono ?_
 rintro e W' ⟨c,rfl,hr,hk⟩
 exact ⟨by rw [H5.1 hr],hk⟩
theorem zW {s:St} {b:Bool} (hb:stB s=b) {z:Pz} {W:World} (hz:StAt W s z) (ho:s.ok):Calls Tryz.prog 42 #[.agg #[.int .i64 s.cf.lg,.int .i64 s.cf.th,.int .i64 s.cf.po,.int .i64 s.cf.wt,.int .i64 s.cf.sp,.int .i64 s.cf.yi,.bool s.cf.si,.int .i64 s.hd,.int .i64 s.tl,.int .i64 s.md,.slice z.p1 s.sl.length z.k1,.slice z.p2 s.sn.length z.k2,.slice z.p3 s.rc.length z.k3,.int .i64 s.fe,.slice z.p4 s.fl.length z.k4,.int .i64 s.ee,.slice z.p5 s.el.length z.k5,.int .i64 s.nw,.slice z.p6 s.th.length z.k6,.slice z.p7 s.lg.length z.k7]] W fun e W' => e = .returned (.bool b)∧Kept W W' := by
 have hr:Rp nowhere (fun _=>False) W (stT s) (.agg #[.int .i64 s.cf.lg,.int .i64 s.cf.th,.int .i64 s.cf.po,.int .i64 s.cf.wt,.int .i64 s.cf.sp,.int .i64 s.cf.yi,.bool s.cf.si,.int .i64 s.hd,.int .i64 s.tl,.int .i64 s.md,.slice z.p1 s.sl.length z.k1,.slice z.p2 s.sn.length z.k2,.slice z.p3 s.rc.length z.k3,.int .i64 s.fe,.slice z.p4 s.fl.length z.k4,.int .i64 s.ee,.slice z.p5 s.el.length z.k5,.int .i64 s.nw,.slice z.p6 s.th.length z.k6,.slice z.p7 s.lg.length z.k7]):=Qk.2 ⟨z,rfl,hz.loc.mono fun _ _ h=>h⟩
 exact at_one (o7 hb ho) hr
theorem AR {t:Th} {b:Bool} (hb:tdB t=b) (W:World):Calls Tryz.prog 265 #[.agg #[.int .i64 t.st,.int .i64 t.ki,.int .i64 t.va,.int .i64 t.un,.int .i64 t.pc,.int .i64 t.re,.int .i64 t.se,.int .i64 t.tr,.bool t.la,.int .i64 t.rs,.int .i64 t.go]] W fun e W' => e = .returned (.bool b)∧Kept W W' := by
 subst hb
 exact at_one (Nu t) (a0T.2 rfl)
theorem Sl.outs {α:Type} {W W' : World} {k n c:Nat} {S:List Nat} {enc:α→List Value} {xs:List α} {p:Option Addr} (h:Sl W k enc xs (.slice p n c)) (ho:Out S W W') (hne:xs≠[]→∀ a,p=some a→a.block∉S):Sl W' k enc xs (.slice p n c):=by
 obtain ⟨q,cap,hv,h1,h2,h3,h4⟩:=h.is
 cases hv
 refine ⟨p,c,rfl,h1,h2,h3,fun hx=>?_⟩
 obtain ⟨g,o,rfl,hg,hc⟩:=h4 hx
 refine ⟨g,o,rfl,Nat.lt_of_lt_of_le hg ho.size,fun i x hi l hl=>?_⟩
 have hb:=ho.block g hg (hne hx _ rfl)
 rw [← hc i x hi l hl]
 simp [World.cell?,hb]
def duV (d:Du):Value:=.agg #[.int .i64 d.tm,.int .i64 d.id]
set_option maxHeartbeats 4000000 in
theorem Nc {s:St} (ho:s.ok) {b b' : Nat} {z:Pz} {w:World} (hb:Bk w b [.int .i64 s.cf.lg,.int .i64 s.cf.th,.int .i64 s.cf.po,.int .i64 s.cf.wt,.int .i64 s.cf.sp,.int .i64 s.cf.yi,.bool s.cf.si,.int .i64 s.hd,.int .i64 s.tl,.int .i64 s.md,.slice z.p1 s.sl.length z.k1,.slice z.p2 s.sn.length z.k2,.slice z.p3 s.rc.length z.k3,.int .i64 s.fe,.slice z.p4 s.fl.length z.k4,.int .i64 s.ee,.slice z.p5 s.el.length z.k5,.int .i64 s.nw,.slice z.p6 s.th.length z.k6,.slice z.p7 s.lg.length z.k7]) (hbb:b≠b') (hz:StAt w s z) (hp:s.th≠[]→∀ a,z.p6=some a→a.block≠b') :
  YK Tryz.prog 264 #[] #[.pointer (some ⟨b,0,none⟩)] duV b' (wtS s) w:=by
 intro l J W hl hB hJ hY h0
 have hbw:b<w.heap.size:=hb.lt
 have hk0:=hb.kept hB
 have hzW:=hz.kept hB
 show Calls Tryz.prog 264 #[.func (.yield l) #[] #[],.pointer (some ⟨b,0,none⟩)] W _
 cases hst:stB s
 ·have hx:wtS s=[]:=by simp [wtS,hst]
  rw [hx]
  clear hx
  go_enter Tryz.func264,Tryz.ntmps264
  go_wp2_with (first | (refine XH (by rfl) rfl rfl (by first | assumption | exact Bk.past (by assumption)) (by repeat' (first | rfl | (refine ⟨?_,?_⟩))) ?_) | (refine a0q (by rfl) rfl rfl (by first | assumption | exact Bk.past (by assumption)) rfl ?_))
  refine (zW hst hzW ho).mono ?_
  rintro e w1 ⟨rfl,hgx⟩
  go_wp2
  refine bodyPost_ret (results_none rfl _ _ _) rfl ?_
  exact ⟨⟨_,rfl⟩,hJ _ _ _ h0 hgx⟩
 ·have hx:wtS s=wtL s s.th.length:=by simp [wtS,hst]
  rw [hx] at hY ⊢
  clear hx
  go_enter Tryz.func264,Tryz.ntmps264
  go_wp2_with (first | (refine XH (by rfl) rfl rfl (by first | assumption | exact Bk.past (by assumption)) (by repeat' (first | rfl | (refine ⟨?_,?_⟩))) ?_) | (refine a0q (by rfl) rfl rfl (by first | assumption | exact Bk.past (by assumption)) rfl ?_))
  refine (zW hst hzW ho).mono ?_
  rintro e w1 ⟨rfl,hgx⟩
  replace hk0:=hk0.kept hgx
  go_wp2_with (first | (refine XH (by rfl) rfl rfl (by first | assumption | exact Bk.past (by assumption)) (by repeat' (first | rfl | (refine ⟨?_,?_⟩))) ?_) | (refine a0q (by rfl) rfl rfl (by first | assumption | exact Bk.past (by assumption)) rfl ?_))
  obtain ⟨p6,hp6⟩:∃ p6,z.p6=p6:=⟨_,rfl⟩
  have hth:=hz.th
  rw [hp6] at hth hp ⊢
  have hne:s.th≠[]:=vB hst
  obtain ⟨g,o,rfl⟩:∃ g o,p6=some ⟨g,o,none⟩:=by
   obtain ⟨q,c,e,-,-,-,h4⟩:=hth.is
   cases e
   obtain ⟨g,o,e,-⟩:=h4 hne
   exact ⟨g,o,e⟩
  have hgb:g≠b' := hp hne _ rfl
  have hgl:g<w.heap.size:=by
   obtain ⟨q,c,e,-,-,-,h4⟩:=hth.is
   cases e
   obtain ⟨g',o',e,h5,-⟩:=h4 hne
   cases e;exact h5
  obtain ⟨N,hN⟩:∃ N,s.th.length=N:=⟨_,rfl⟩
  rw [hN]
  have hNm:N≤1000000:=by have:=(Y3 hst).2.2;omega
  have hOw:Out [b',l] w w1:=Out.of_kept (hB.trans (hgx.mono hB.size))
  have hJ1:=hJ _ _ _ h0 hgx
  have HK:=Lib.hid (And.intro hJ1 (And.intro hOw (And.intro hth (And.intro hN hY))))
  clear hJ1 hOw hth hN hY hk0 hzW hgx hB hb hz hp hne
  refine (wpIn_wide (n:=10)).1 ?_
  gi_loopw [11] (fun i wr=>∃ k:Nat,k≤N∧i = .int .i64 k∧J (wtL s k) wr∧Out [b',l] w wr) (fun i _=>N - (intOf i).toNat)
  case atStart=>exact ⟨0,by omega,rfl,HK.out.1,HK.out.2.1⟩
  case round =>
   obtain ⟨k,hk,rfl,hj,hO⟩:=hrel
   rcases Nat.lt_or_ge k N with hkN | hkN
   ·have hw:=Sl.outs HK.out.2.2.1 hO (fun _ a ha=>by cases ha;simp;omega)
    obtain ⟨t,ht⟩:∃ t,gth s.th k=t:=⟨_,rfl⟩
    obtain ⟨c0,c1,c2,c3,c4,c5,c6,c7,c8,c9,c10⟩:=a1f hw (j:=k) (by rw [HK.out.2.2.2.1];exact hkN)
    rw [ht] at c0 c1 c2 c3 c4 c5 c6 c7 c8 c9 c10
    obtain ⟨st,ki,va,un,pc,re,se,tr,la,rs,go⟩:=t
    simp only at c0 c1 c2 c3 c4 c5 c6 c7 c8 c9 c10
    have HT:=Lib.hid ht
    have HO:=Lib.hid hO
    clear ht hw hO
    cases htd:tdB ⟨st,ki,va,un,pc,re,se,tr,la,rs,go⟩
    ·have e1:Hid (wtL s (k+1)=wtL s k):=Lib.hid (if_neg (by rw [HT.out,htd];decide))
     gi_wp2_with (refine ⟨trivial,?_⟩;gi_at_call 265;refine (callsIn_wide.2 (AR htd _)).mono ?_;rintro e w2 ⟨rfl,hk2⟩)
     refine ⟨fun f hf=>(by cases hf),?_⟩
     gi_wp2
     go_roundw
     case rel=>exact ⟨k+1,by omega,rfl,by rw [e1.out];exact hJ _ _ _ hj (by exact F6),HO.out.then (by exact F6)⟩
     case measure=>simp [intOf];omega
    ·have e1:Hid (wtL s (k+1)=wtL s k++[oZ s k]):=Lib.hid (if_pos (by rw [HT.out];exact htd))
     gi_wp2_with fail
     refine ⟨trivial,?_⟩
     refine (callsIn_wide.2 (AR htd _)).mono ?_
     rintro e w2 ⟨rfl,hk2⟩
     have hx:Below wr.heap.size wr w2:=by exact F6
     have c30:w2.cell? ⟨wr.heap.size,3,none⟩=some (.int .i64 un):=(hk2.cell (p:=⟨wr.heap.size,3,none⟩) (by simp)).trans (by simp)
     obtain ⟨suf,hs⟩:=YL (k:=k) (by rw [HT.out];exact htd) hkN
     obtain ⟨fn,tmps,assign,body,hy,hR⟩:=HK.out.2.2.2.2 (10 - 1) (wtL s k) (oZ s k) suf w2 (by omega) (by rw [HK.out.2.2.2.1];exact hs) (hJ _ _ _ hj hx)
     simp only [duV,oZ,HT.out] at hy
     have HX:=Lib.hid (And.intro hx hs)
     clear hx hs
     gi_wp2
     refine hR.mono ?_
     rintro e C ⟨rfl,hj',hO'⟩
     gi_wp2
     go_roundw
     case rel=>exact ⟨k+1,by omega,rfl,by rw [e1.out];exact hj',(HO.out.then HX.out.1).trans hO' (fun j hj=>.inl hj)⟩
     case measure=>simp [intOf];omega
   ·obtain rfl:k=N:=by omega
    gi_wp2
    go_end0
    exact ⟨⟨_,rfl⟩,by rw [HK.out.2.2.2.1];exact hj⟩
end
section
open Go.ChangeShapes Go.WideShapes Go.ChangeAt Go.RowKit Go.Shelf
attribute [local go_sem] Oper.semAt_some
set_option maxHeartbeats 2000000 in
theorem NB {s:St} {z:Pz} {w:World}:Calls Tryz.prog 252 #[.agg #[.int .i64 s.cf.lg,.int .i64 s.cf.th,.int .i64 s.cf.po,.int .i64 s.cf.wt,.int .i64 s.cf.sp,.int .i64 s.cf.yi,.bool s.cf.si,.int .i64 s.hd,.int .i64 s.tl,.int .i64 s.md,.slice z.p1 s.sl.length z.k1,.slice z.p2 s.sn.length z.k2,.slice z.p3 s.rc.length z.k3,.int .i64 s.fe,.slice z.p4 s.fl.length z.k4,.int .i64 s.ee,.slice z.p5 s.el.length z.k5,.int .i64 s.nw,.slice z.p6 s.th.length z.k6,.slice z.p7 s.lg.length z.k7]] w fun e w' => ∃ b,e = .returned (.func (.func 264) #[] #[.pointer (some ⟨b,0,none⟩)])∧w.heap.size≤b∧Bk w' b [.int .i64 s.cf.lg,.int .i64 s.cf.th,.int .i64 s.cf.po,.int .i64 s.cf.wt,.int .i64 s.cf.sp,.int .i64 s.cf.yi,.bool s.cf.si,.int .i64 s.hd,.int .i64 s.tl,.int .i64 s.md,.slice z.p1 s.sl.length z.k1,.slice z.p2 s.sn.length z.k2,.slice z.p3 s.rc.length z.k3,.int .i64 s.fe,.slice z.p4 s.fl.length z.k4,.int .i64 s.ee,.slice z.p5 s.el.length z.k5,.int .i64 s.nw,.slice z.p6 s.th.length z.k6,.slice z.p7 s.lg.length z.k7]∧Kept w w' := by
 go_enter Tryz.func252,Tryz.ntmps252;go_upto_region 1 with fail;refine QP (fun W=>Below w.heap.size w W∧Bk W (w.heap.size) [.int .i64 s.cf.lg ,.int .i64 s.cf.th ,.int .i64 s.cf.po ,.int .i64 s.cf.wt ,.int .i64 s.cf.sp ,.int .i64 s.cf.yi ,.bool s.cf.si ,.int .i64 s.hd ,.int .i64 s.tl ,.int .i64 s.md ,.slice z.p1 s.sl.length z.k1 ,.slice z.p2 s.sn.length z.k2 ,.slice z.p3 s.rc.length z.k3 ,.int .i64 s.fe ,.slice z.p4 s.fl.length z.k4 ,.int .i64 s.ee ,.slice z.p5 s.el.length z.k5 ,.int .i64 s.nw ,.slice z.p6 s.th.length z.k6 ,.slice z.p7 s.lg.length z.k7]) ⟨by exact F6,(by repeat (first | (exact Bk.new (by first | rfl | (simp;done) | (simp;omega))) | (refine Bk.past ?_)))⟩ ?_;rintro V ⟨hB,hk0⟩
 go_wp2
 go_ret
 exact ⟨_,rfl,Nat.le_refl _,hk0,hB⟩
theorem Sl.turn {α:Type} {W W' : World} {B k:Nat} {enc:α→List Value} {xs:List α} {v:Value} (he:∀ x,(enc x).length=k) (hk:0<k) (h:Sl W k enc xs v) (ht:Turn B W W'):Sl W' k enc xs v:=by
 obtain ⟨p,cap,hv,h1,h2,h3,h4⟩:=h.is
 refine ⟨p,cap,hv,h1,h2,h3,fun hne=>?_⟩
 obtain ⟨b,o,hp,hb,hc⟩:=h4 hne
 have cell:∀ i x,xs[i]? = some x→∀ j,j<k→W'.cell? ⟨b,o+i * k+j,none⟩=(enc x)[j]? := fun i x hx j hj=>by
  have h5:=hc i x hx j hj
  have hj' : j<(enc x).length:=by rw [he];exact hj
  rw [List.getElem?_eq_getElem hj'] at h5 ⊢
  exact ht.cell h5
 refine ⟨b,o,hp,?_,cell⟩
 obtain ⟨x,r,rfl⟩:=List.exists_cons_of_ne_nil hne
 have h5:=cell 0 x rfl 0 hk
 have hj' : 0<(enc x).length:=by rw [he];exact hk
 rw [List.getElem?_eq_getElem hj'] at h5
 obtain ⟨ob,h6,-⟩:=cells_of_cell h5
 exact lt_of_some h6
structure DuAt (w A:World) (b:Nat) (L:List Du):Prop where
 is:∃ (p:Option Addr) (k:Nat),A.cell? ⟨b,0,none⟩=some (.slice p L.length k)∧A.frozen? ⟨b,0,none⟩=false∧Sl A 2 Du.cells L (.slice p L.length k)∧∀ a,p=some a→w.heap.size≤a.block∧a.block≠b
 kept:Below w.heap.size w A
theorem DuAt.turn {w A C:World} {b B:Nat} {L:List Du} (h:DuAt w A b L) (ht:Turn B A C) (hB:w.heap.size≤B):DuAt w C b L:=by
 obtain ⟨⟨p,k,h1,h2,h3,h4⟩,h5⟩:=h
 exact ⟨⟨p,k,ht.cell h1,(ht.frozen h1).trans h2,h3.turn (fun _=>rfl) (by decide) ht,h4⟩,ht.below hB h5⟩
theorem a0t {s:St} {pre suf:List Du} {x:Du} (h:wtS s=pre++x::suf):oH (pre.foldl ji []) x=0∧(pre.foldl ji []).length≤700∧In64 x.tm:=by
 cases hB:stB s
 ·simp [wtS,hB] at h
 ·rw [show wtS s=wtL s s.th.length by simp [wtS,hB]] at h
  obtain ⟨k,hk,ht,rfl,rfl⟩:=SI h
  rw [CG]
  have:=BA s k
  have:=(Y3 hB).2.2
  have hu:=Dm (l9 hB hk) ht
  exact ⟨WL hB hk ht,by omega,⟨by show -9223372036854775808≤(gth s.th k).un;omega,by show (gth s.th k).un≤9223372036854775807;omega⟩⟩
def a3h (r:List Du) (w:World) (e:Ending) (w' : World):Prop:=∃ (p:Option Addr) (k:Nat),e = .returned (.slice p r.length k)∧(Sl w' 2 Du.cells r (.slice p r.length k)∧∀ a,p=some a→w.heap.size≤a.block)∧Kept w w'
set_option maxHeartbeats 4000000 in
theorem Ta {s:St} (ho:s.ok) {z:Pz} {w:World} (hz:StAt w s z):Calls Tryz.prog 243 #[.agg #[.int .i64 s.cf.lg,.int .i64 s.cf.th,.int .i64 s.cf.po,.int .i64 s.cf.wt,.int .i64 s.cf.sp,.int .i64 s.cf.yi,.bool s.cf.si,.int .i64 s.hd,.int .i64 s.tl,.int .i64 s.md,.slice z.p1 s.sl.length z.k1,.slice z.p2 s.sn.length z.k2,.slice z.p3 s.rc.length z.k3,.int .i64 s.fe,.slice z.p4 s.fl.length z.k4,.int .i64 s.ee,.slice z.p5 s.el.length z.k5,.int .i64 s.nw,.slice z.p6 s.th.length z.k6,.slice z.p7 s.lg.length z.k7]] w (a3h (Y1 s) w):=by
 refine (callsIn_wide (n:=20)).1 ?_
 refine callsIn_of_wp_marks Tryz.func243 rfl trivial ?_
 simp only [Tryz.ntmps243,List.size_toArray,List.length_cons,List.length_nil,Nat.reduceAdd,Nat.reduceSub,Array.replicate_succ,Array.replicate_zero,List.push_toArray,List.append_toArray,List.nil_append,List.cons_append]
 refine wpIn_wide.2 ?_
 go_upto_region 2 with fail
 refine QP (fun W=>Below w.heap.size w W∧Bk W w.heap.size [.int .i64 s.cf.lg,.int .i64 s.cf.th,.int .i64 s.cf.po,.int .i64 s.cf.wt,.int .i64 s.cf.sp,.int .i64 s.cf.yi,.bool s.cf.si,.int .i64 s.hd,.int .i64 s.tl,.int .i64 s.md,.slice z.p1 s.sl.length z.k1,.slice z.p2 s.sn.length z.k2,.slice z.p3 s.rc.length z.k3,.int .i64 s.fe,.slice z.p4 s.fl.length z.k4,.int .i64 s.ee,.slice z.p5 s.el.length z.k5,.int .i64 s.nw,.slice z.p6 s.th.length z.k6,.slice z.p7 s.lg.length z.k7]∧Bk W (w.heap.size+1) [.slice none 0 0]) ⟨by exact F6,(by repeat (first | (exact Bk.new (by first | rfl | (simp;done) | (simp;omega))) | (refine Bk.past ?_))),(by repeat (first | (exact Bk.new (by first | rfl | (simp;done) | (simp;omega))) | (refine Bk.past ?_)))⟩ ?_
 rintro V ⟨hB,hk0,hk1⟩
 have hVl:=hk1.lt
 go_wp2_with (first | (refine XH (by rfl) rfl rfl (by first | assumption | exact Bk.past (by assumption)) (by repeat' (first | rfl | (refine ⟨?_,?_⟩))) ?_))
 refine NB.mono ?_
 rintro e w2 ⟨b,rfl,hbl,hbk,hgx⟩
 have hk2:=hk1.kept hgx
 have hB2:Below w.heap.size w w2:=hB.trans (hgx.mono hB.size)
 have hs2:V.heap.size≤w2.heap.size:=hgx.size
 have hz2:=hz.kept hB2
 have hp:s.th≠[]→∀ a,z.p6=some a→a.block≠w.heap.size+1:=fun hne a ha=>by have:=hz.loc.th.i hne a ha;omega
 clear hB hk0 hk1 hgx
 go_wp2_with fail
 refine (wpIn_wide (n:=20)).1 ?_
 refine Jt (gf:=264) (bd:=#[]) (lb:=#[.pointer (some ⟨b,0,none⟩)]) (b:=w.heap.size+1) rfl (enters_of Tryz.func264 (by kernel_rfl) rfl) (Nc ho hbk (by omega) hz2 hp) (by omega) rfl
  (fun pre A=>DuAt w A (w.heap.size+1) (pre.foldl ji [])) (fun _ _ _ h ht=>h.turn ht (by omega)) ?h0 ?round ?done
 case h0=>exact ⟨⟨none,0,hk2.cell 0,hk2.frozen 0,⟨none,0,rfl,by simp,by simp,fun _=>rfl,fun h=>absurd rfl h⟩,fun a ha=>by cases ha⟩,hB2⟩
 case round =>
  rintro m l pre suf x A hm hxs hsz hI
  obtain ⟨hc0,hl7,-⟩:=a0t hxs
  simp only [duV]
  have hlt:w.heap.size+1<A.heap.size:=by omega
  gi_wp2
  refine ⟨(Below.refl _ _).alloc (Nat.le_refl _) _,fun C ht hsC=>?_⟩
  have h1m:1≤m:=by omega
  have hn0:C.cell? ⟨A.heap.size,0,none⟩=some (.int .i64 x.tm):=ht.cell (by simp)
  have hn1:C.cell? ⟨A.heap.size,1,none⟩=some (.int .i64 x.id):=ht.cell (by simp)
  have hA1:Turn w2.heap.size A (A.alloc (.cells #[.int .i64 x.tm,.int .i64 x.id] 150)):=Turn.of_kept ((Below.refl _ _).alloc (Nat.le_refl _) _)
  have hI2:=(hI.turn hA1 (by omega)).turn ht (by omega)
  clear hI hA1 ht
  obtain ⟨⟨p,k,hc,hf,hS,hN⟩,hBC⟩:=hI2
  have hCl:w.heap.size+1<C.heap.size:=by rw [hsC];simp;omega
  have e1:Hid ((pre++[x]).foldl ji []=ji (pre.foldl ji []) x):=Lib.hid (by simp)
  generalize pre.foldl ji []=L at *
  have HS:=Lib.hid (And.intro hS (And.intro hN (And.intro hc0 (And.intro hl7 hBC))))
  clear hS hN hc0 hl7 hBC
  gi_wp2_with (refine ⟨trivial,?_⟩;gi_at_call 253;refine (CallsIn.inRound l (callsIn_wide.2 (Pf L x p k C HS.out.1 HS.out.2.2.2.1 HS.out.2.2.1))).mono ?_;rintro e D ⟨p2,k2,rfl,⟨hS2,hN2⟩,hD⟩;have hcD:=(hD.cell (p:=⟨w.heap.size+1,0,none⟩) hCl).trans hc;have hfD:=(hD.frozen (p:=⟨w.heap.size+1,0,none⟩) hCl).trans hf;have HD:=Lib.hid (And.intro hS2 (And.intro hN2 hD));clear hS2 hN2 hD)
  have hDC:=HD.out.2.2.size
  have ho:=Out.set (Out.refl [w.heap.size+1] D) (x:=⟨w.heap.size+1,0,none⟩) (.inl (by simp)) (.slice p2 (ji L x).length k2)
  show Out [w.heap.size+1] C _∧DuAt w _ (w.heap.size+1) ((pre++[x]).foldl ji [])
  rw [e1.out]
  refine ⟨(Out.of_kept HD.out.2.2).set (.inl (by simp)) _,⟨p2,k2,World.cell?_setCell_same' _ _ _ (by rw [hcD];rfl),by rw [World.frozen?_setCell];exact hfD,HD.out.1.outs ho (fun _ a ha=>by have:=HD.out.2.1 a ha;simp;omega),fun a ha=>by have:=HD.out.2.1 a ha;omega⟩,?_⟩
  exact (HS.out.2.2.2.2.trans (HD.out.2.2.mono HS.out.2.2.2.2.size)).setCell (by simp) _
 case done =>
  rintro D W hD ⟨⟨p,k,hc,hf,hS,hN⟩,hBW⟩ hK
  rw [WC] at hc hS
  have HS:=Lib.hid (And.intro hS (And.intro hN hBW))
  clear hS hN hBW
  go_wp2
  have hT:Turn (w.heap.size+2) W (W.putObj D (.deferred none)):=Turn.putObj hK rfl (by omega) _
  have hSW:=Sl.turn (k:=2) (enc:=Du.cells) (fun _=>rfl) (by decide) HS.out.1 hT
  have hBW:=hT.below (by omega) HS.out.2.2
  have hN:=HS.out.2.1
  refine ⟨by simp,.inl ⟨_,_,rfl,run_takeDeferred hK,?_⟩⟩
  revert hSW hBW
  generalize (W.putObj D (.deferred none))=X
  intro hSW hBW
  exact ⟨.slice p (Y1 s).length k,by simp [results,Tryz.results243,go_sem],p,k,rfl,⟨hSW,fun a ha=>(hN a ha).1⟩,hBW⟩
theorem Uq {s:St} (ho:s.ok):AN Tryz.prog 243 [stT s] (uL (Y1 s)):=by
 intro O W vs hl hat ;obtain ⟨ys,rfl,_,_,rfl,h0,rfl⟩:=T9 hat
 obtain ⟨z,rfl,hz⟩:=Qk.1 h0
 refine (Ta ho hz.at).mono ?_
 rintro e W' ⟨p,k,rfl,⟨hS,hN⟩,hk⟩
 exact ⟨_,rfl,Dh.2 ⟨p,k,rfl,hS,fun _ a ha h=>by have:=hN a ha;rcases h with h | h;have:=hl _ h;omega;omega⟩,hk⟩
end
section
open Go.RowKit
theorem TkK.fit {s:St} (h:TkK s):s.fit:=by
 obtain ⟨a,b,c,d,e,f,g⟩:=h.few
 exact ⟨by omega,by omega,by omega,by omega,by omega,by omega,by omega⟩
theorem wS (s:St):hasB s (-1)=false:=by
 cases h:hasB s (-1)
 ·rfl
 ·have:=(J5.1 h).2.1;omega
abbrev DuK (s:St):Prop:=AN Tryz.prog 243 [stT s] (uL (Y1 s))
theorem UC {s:St} (h:stB s=true):(Y1 s).length≤16:=by
 have:=BA s s.th.length
 have:=(Y3 h).2.2
 simp only [Y1,h,if_true];omega
theorem PV {s:St} {n:Int} (h:M8 s n=0):uU (Y1 s) (s.nw+n)=ed s n:=by
 rw [(dw h).2,VK (JZ s)]
theorem VW {s:St} {n:Int} (h:M8 s n=0):LaK (s.toNow (s.nw+n)) (ed s n):=by
 obtain ⟨hB,h0,h1⟩:=jN h
 have hb:=Ba hB
 refine ⟨Dl hB (by omega),fun i hi=>?_⟩
 obtain ⟨m,rfl,hm,h2,-⟩:=(rR h).1 hi
 obtain ⟨h3,h4,-⟩:=Rs.1 h2
 exact ⟨m,rfl,hm,h3,h4⟩
def tcE:List FuncId:=[154,42,243,246]
def aoW (s:St):Value:=.iface 1000004 (.func (.yield 18) #[.agg (stL s),.int .i64 11] #[])
theorem a1r {s v:St} {n:Int} {L:List Int} {R:List Du} (h:TkK s) (hB:stB s=true) (hD:DuK s) (h0:0≤n) (h1:s.nw+n≤1099511627776) (hn:0≤s.nw) (hL:AC Tryz.prog 246 [uL (Y1 s),.int .i64 (s.nw+n)] (.tuple #[l5 L,uL R]))
  (hK:eY Tryz.prog 3 (j3 Tryz.prog 245 0) (hdK (s.toNow (s.nw+n)) L (0:Nat) s.th.length s.th.length) (.exit 1) (hdK v L L.length s.th.length v.th.length)) (hl:v.th.length=s.th.length):AC Tryz.prog 206 [stT s,.int .i64 n] (.tuple #[stT v,l5 L,.int .i64 0]) :=
 d9 mixed (ext:=tcE) (fuel:=9) (n:=9) (orc:=[aoW s,vD true,.iface 1000012 (uL (Y1 s)),.bool false,.bool false,.tuple #[l5 L,uL R],oK 3 [4,5,9] [4,8,45,46,47] 1 (a2z L L.length) [bT v.th v.th.length,bTk v s.th.length,bWk]])
  (an (kN (wS s) h.ok h.fit (vB hB))<|an (l7 (f:=thT) s.th)<|an (o7 hB h.ok)<|an (l7 (f:=thT) s.th)<|an hD<|an (show decide (n<0)=false by simp;omega)<|an (show In64 (1099511627776 - s.nw) by constructor <;> omega)<|an (show decide (1099511627776 - s.nw<n)=false by simp;omega)<|an (show In64 (s.nw+n) by constructor <;> omega)<|an hL<|an hK <|
   an (show pu s.th.length v.th.length (v.th.map thT) from ⟨by simp [hl],by simp⟩) trivial) (by kernel_rfl)
theorem QI {s:St} {n:Int} (h:TkK s) (hn:In64 n):AC Tryz.prog 206 [stT s,.int .i64 n] (.tuple #[stT (M0 s n),l5 (ed s n),.int .i64 (M8 s n)]):=by
 have hD:DuK s:=Uq h.ok
 cases hB:stB s
 ·have e:M8 s n=20:=(Mv s n).2 hB
  have e1:=aM (s:=s) (n:=n) (by rw [e];decide)
  rw [e,e1.1,e1.2]
  have hd:Y1 s=[]:=by simp [Y1,hB]
  unfold DuK at hD
  rw [hd] at hD
  exact d9 mixed (ext:=tcE) (fuel:=9) (n:=9) (orc:=[stT s,vD false,.iface 1000012 (uL [])]) (an (kQ (wS s) h.ok h.fit)<|an (o7 hB h.ok)<|an hD trivial) (by kernel_rfl)
 ·have hb:=Ba hB
  by_cases h0:n<0
  ·have e:M8 s n=50:=by unfold M8;rw [if_neg (by simp [hB]),if_pos (.inl h0)]
   have e1:=aM (s:=s) (n:=n) (by rw [e];decide)
   rw [e,e1.1,e1.2]
   exact d9 mixed (ext:=tcE) (fuel:=9) (n:=9) (orc:=[aoW s,vD true,.iface 1000012 (uL (Y1 s)),.bool true])
    (an (kN (wS s) h.ok h.fit (vB hB))<|an (l7 (f:=thT) s.th)<|an (o7 hB h.ok)<|an (l7 (f:=thT) s.th)<|an hD<|an (show decide (n<0)=true by simpa using h0)<|an (l7 (f:=thT) s.th) trivial) (by kernel_rfl)
  ·by_cases h1:1099511627776 - s.nw<n
   ·have e:M8 s n=50:=by unfold M8;rw [if_neg (by simp [hB]),if_pos (.inr h1)]
    have e1:=aM (s:=s) (n:=n) (by rw [e];decide)
    rw [e,e1.1,e1.2]
    exact d9 mixed (ext:=tcE) (fuel:=9) (n:=9) (orc:=[aoW s,vD true,.iface 1000012 (uL (Y1 s)),.bool false,.bool true])
     (an (kN (wS s) h.ok h.fit (vB hB))<|an (l7 (f:=thT) s.th)<|an (o7 hB h.ok)<|an (l7 (f:=thT) s.th)<|an hD<|an (show decide (n<0)=false by simpa using h0)<|an (show In64 (1099511627776 - s.nw) by constructor <;> omega)<|an (show decide (1099511627776 - s.nw<n)=true by simpa using h1)<|an (l7 (f:=thT) s.th) trivial) (by kernel_rfl)
   ·have e:=UM (s:=s) (n:=n) hB (by omega) (by omega)
    have hL:=Ot (l:=Y1 s) (n:=s.nw+n) (JZ s) (by have:=UC hB;omega)
    have hm:=LK h n
    have hK:=YU (l:=ed s n) (N:=s.th.length) (by omega) (ed s n).length 0 (v:=s.toNow (s.nw+n)) rfl (by omega) (VW e) rfl
    rw [List.drop_zero,← (dw e).1] at hK
    rw [PV e] at hL
    rw [e]
    exact a1r h hB hD (by omega) (by omega) hb.1 hL hK (yP s n)
end
end Go.Proofs.YtfogkllejkmpdaaGreat
