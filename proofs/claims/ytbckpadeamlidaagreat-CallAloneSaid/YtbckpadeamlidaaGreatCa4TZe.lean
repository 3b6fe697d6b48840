/- A pick alone tells anything, time changes no thing but who waits, and what is begun changes one thread: true of every state and call. -/
import Derived.Test.YtbckpadeamlidaaGreatCa1TZe
namespace Go.Proofs.YtbckpadeamlidaaGreat
set_option linter.unusedVariables false
set_option linter.unusedSimpArgs false
set_option maxRecDepth 100000
section
open Go.ChangeShapes Go.WideShapes Go.ChangeAt Go.RowKit
theorem ask_tnL (t u:Th) {r:Bool} (h:(!decide (t=u))=r) (x y:Operand):AskP Tryz.prog (.binOp .neq 52 x y 52) [thT t,thT u] (.bool r) :=
 ask_bin (fun x y W=>(guard_agg (by kernel_rfl) x y _ _ W).1) (fun W=>by rw [← h];exact th_neq t u W) x y
def bCa (x:Ca):Option Blk:=some ⟨true,false,4,1,[caT x]⟩
def hdAlT (i c:Nat):List (Nat×Value):=[(2,pt 0),(3,pt 1),(5,vD true),(6,pt 2),(8,.int .i64 c),(9,.int .i64 i)]
def hdAl (s a:St) (x:Ca) (i c:Nat):Sg:=⟨mkT 100 (hdAlT i c),[bS s,bCa x,bS a]⟩
theorem ka_lp {s a:St} {x:Ca} (hl:a.th.length=s.th.length) (hm:s.th.length≤1000):∀ (k i:Nat),s.th.length - i=k→i≤s.th.length→LoopP Tryz.prog (loopOf Tryz.prog 6 0) (hdAl s a x i (difT s a i)) (.exit 0) (hdAl s a x s.th.length (difT s a s.th.length))
 | 0,i,hk,hi=>by
  have:i=s.th.length:=by omega
  subst this
  exact loop_end mixed (fuel:=9) (n:=3) (im:=[0,1,2]) (keep:=[2,3,5,6,8,9]) (ext:=[]) (orc:=[.bool false]) (an (d_nlt s.th.length) trivial) (by intro e;cases e) (by kernel_rfl)
 | k+1,i,hk,hi' => by
  have hi:i<s.th.length:=by omega
  have ha:i<a.th.length:=by omega
  have ih:=ka_lp (x:=x) hl hm k (i+1) (by omega) (by omega)
  have hd:=difT_le s a i
  by_cases c:gth s.th i=gth a.th i
  ·rw [show difT s a (i+1)=difT s a i by simp [difT,c]] at ih
   exact loop_more mixed (fuel:=9) (n:=3) (im:=[0,1,2]) (keep:=[2,3,5,6,8,9]) (ext:=[]) (orc:=[.bool true,.bool true,thT (gth s.th i),thT (gth a.th i),.bool false,.nilFunc]) (an (d_lt hi)<|an (show decide ((i:Int)<a.th.length)=true from d_lt ha)<|an (ixT hi)<|an (ixT ha)<|an (ask_tnL (gth s.th i) (gth a.th i) (r:=false) (by simp [c]) (.tmp 47) (.tmp 52))<|an (d_in hi (by omega)) trivial) (by kernel_rfl) ih
  ·rw [show difT s a (i+1)=difT s a i+1 by simp [difT,c]] at ih
   exact loop_more mixed (fuel:=9) (n:=3) (im:=[0,1,2]) (keep:=[2,3,5,6,8,9]) (ext:=[]) (orc:=[.bool true,.bool true,thT (gth s.th i),thT (gth a.th i),.bool true,.nilFunc]) (an (d_lt hi)<|an (show decide ((i:Int)<a.th.length)=true from d_lt ha)<|an (ixT hi)<|an (ixT ha)<|an (ask_tnL (gth s.th i) (gth a.th i) (r:=true) (by simp [c]) (.tmp 47) (.tmp 52))<|an (show In64 ((difT s a i:Int)+1) by constructor <;> omega)<|an (d_in hi (by omega)) trivial) (by kernel_rfl) ih
section
variable {s a:St} {x:Ca} (hF:fewB s=true)
include hF
theorem ka_no {E:Int} (hd:AC Tryz.prog 12 [stT s,caT x] (.tuple #[stT a,.int .i64 E])) (hE:(E != 0)=true):AC Tryz.prog 6 [stT s,caT x] (.bool true) :=
 ac_path mixed (ext:=llX) (fuel:=9) (n:=6) (orc:=[vD true,vD true,.tuple #[stT a,.int .i64 E],.bool true]) (an ac_awakeL<|an (hF ▸ ac_rfew s)<|an hd<|an hE trivial) (by kernel_rfl)
variable (hd:AC Tryz.prog 12 [stT s,caT x] (.tuple #[stT a,.int .i64 0]))
include hd
theorem ka_pick (hk:(x.ki==10)=true):AC Tryz.prog 6 [stT s,caT x] (.bool true) :=
 ac_path mixed (ext:=llX) (fuel:=9) (n:=6) (orc:=[vD true,vD true,.tuple #[stT a,.int .i64 0],.nilFunc,.bool true]) (an ac_awakeL<|an (hF ▸ ac_rfew s)<|an hd<|an hk trivial) (by kernel_rfl)
variable (hk:(x.ki==10)=false) {c:Nat} (hL:LoopP Tryz.prog (loopOf Tryz.prog 6 0) (hdAl s a x 0 0) (.exit 0) (hdAl s a x s.th.length c)) (hg:AC Tryz.prog 21 [rowE a.lg,rowE s.lg] (.bool true)) (hw:AskP Tryz.prog (.binOp .eql 25 (.tmp 66) (.tmp 68) 25) [wdT a.hd a.tl a.md,wdT s.hd s.tl s.md] (.bool true)) (h1:AC Tryz.prog 17 [rowI a.sn,rowI s.sn] (.bool true)) (h2:AC Tryz.prog 17 [rowI a.rc,rowI s.rc] (.bool true))
include hk hL hg hw h1 h2
theorem ka_time (ht:(x.ki==11)=true):AC Tryz.prog 6 [stT s,caT x] (.bool true):=ac_path mixed (ext:=llX) (fuel:=9) (n:=6) (orc:=[vD true,vD true,.tuple #[stT a,.int .i64 0],.nilFunc,.bool false,oL [0,1,2] [2,3,5,6,8,9] 0 (hdAlT s.th.length c) [bS s,bCa x,bS a],vD true,.bool true,.nilFunc,vD true,vD true,.bool true]) (an ac_awakeL<|an (hF ▸ ac_rfew s)<|an hd<|an hk<|an hL<|an hg<|an hw<|an h1<|an h2<|an ht trivial) (by kernel_rfl)
theorem ka_beg (ht:(x.ki==11)=false) (hc:decide ((c:Int)≤1)=true) (h3:AC Tryz.prog 20 [stT s,stT a] (.int .i64 0)):AC Tryz.prog 6 [stT s,caT x] (.bool true):=ac_path mixed (ext:=llX) (fuel:=9) (n:=6) (orc:=[vD true,vD true,.tuple #[stT a,.int .i64 0],.nilFunc,.bool false,oL [0,1,2] [2,3,5,6,8,9] 0 (hdAlT s.th.length c) [bS s,bCa x,bS a],vD true,.bool true,.nilFunc,vD true,vD true,.bool false,.bool true,.int .i64 0]) (an ac_awakeL<|an (hF ▸ ac_rfew s)<|an hd<|an hk<|an hL<|an hg<|an hw<|an h1<|an h2<|an ht<|an hc<|an h3 trivial) (by kernel_rfl)
end
theorem ac_callAlone {s:St} {x:Ca} (ho:s.ok):AC Tryz.prog 6 [stT s,caT x] (.bool true):=by
 cases hF:fewB s
 ·exact ac_path mixed (ext:=llX) (fuel:=9) (n:=6) (orc:=[vD true,vD false]) (an ac_awakeL<|an (hF ▸ ac_rfew s) trivial) (by kernel_rfl)
 ·have h:=ll_few hF ho
  have f1:=h.few
  obtain ⟨E,r,hd⟩:=caDo_is s x
  have hd' := ac_cdo hd h
  by_cases hE:E=0
  ·subst hE
   by_cases hk:x.ki=10
   ·exact ka_pick hF hd' (by simpa using hk)
   ·obtain ⟨⟨w1,w2,w3⟩,e1,e2,e3,e4,e5⟩:=caDo_alone hd hk
    have hL:=ka_lp (x:=x) e4 f1.th s.th.length 0 rfl (by omega)
    have hg:AC Tryz.prog 21 [rowE r.lg,rowE s.lg] (.bool true):=by rw [e3];exact ac_rlogs s.lg (by have:=f1.lg;omega)
    have hw:AskP Tryz.prog (.binOp .eql 25 (.tmp 66) (.tmp 68) 25) [wdT r.hd r.tl r.md,wdT s.hd s.tl s.md] (.bool true):=by rw [w1,w2,w3];exact ask_wd _ _ _ _ _
    have h1:AC Tryz.prog 17 [rowI r.sn,rowI s.sn] (.bool true):=by rw [e1];exact ac_rints s.sn (by have:=f1.sn;omega)
    have h2:AC Tryz.prog 17 [rowI r.rc,rowI s.rc] (.bool true):=by rw [e2];exact ac_rints s.rc (by have:=f1.rc;omega)
    by_cases ht:x.ki=11
    ·exact ka_time hF hd' (by simpa using hk) hL hg hw h1 h2 (by simpa using ht)
    ·obtain ⟨n,t,hn,rfl⟩:=e5 ht
     have hc:=difT_one (t:=t) hn s.th.length
     rw [if_pos hn] at hc
     have h3:=tg_0 (a:=s) (b:=s.setTh n t) rfl f1.sl ⟨by have:=f1.sn;omega,by have:=f1.rc;omega,by have:=f1.fl;omega,by have:=f1.el;omega⟩ (by simp [St.setTh]) (by simp [St.setTh]) (by simp [St.setTh]) (by simp [St.setTh]) (by simp [St.setTh]) (by simp [St.setTh]) (by simp [St.setTh])
     rw [show 0+diffL s.sl (s.setTh n t).sl=0 from (Nat.zero_add _).trans (diffL_self s.sl)] at h3
     exact ka_beg hF hd' (by simpa using hk) hL hg hw h1 h2 (by simpa using ht) (by simp;omega) h3
  ·exact ka_no hF hd' (by simpa using hE)
theorem callAlone_walk (s:St) (sz:Pz) (hs:s.ok) (x:Ca) (hx:x.ok) (w:World) (hss:StAt w s sz) :
  Calls Tryz.prog 6 #[.agg (s.cells sz).toArray,.agg x.cells.toArray] w fun e w' => e = .returned (.bool true)∧Kept w w' := by
 refine law_of (ac_callAlone (s:=s) (x:=x) hs) (cells_at.2 ?_)
 exact ⟨_,_,rfl,st_free hss,_,_,rfl,rp_caT.2 rfl,rfl⟩
theorem callAlone_lifted (os:Os) (started:os.Started) (H:Type) (enc:TypeId×Value→H) :
  ReturnsInHanded {} Tryz.checked os 6 .any (Rows.callAloneSpec.pre6 enc Tryz.prog Tryz.f6 Rows.callAloneRow.domain false) (Rows.callAloneSpec.post enc Tryz.prog Tryz.f6 false true false false):=by
 refine returnsInHanded_of_change (C:=Tryz.checked) own started (by kernel_rfl) Tryz.func6
  (ChangeSpec.witness6 (enc:=enc) (C:=Tryz.checked) false ⟨#[],#[.agg St.zero.toArray,.agg Ca.zero.toArray],[]⟩ 8 (by kernel_rfl) (by kernel_rfl) (by kernel_rfl) (by kernel_rfl)) ?_
 intro W base args ds gs before hval0 hW hcnd _
 have hval:∀ (j:Nat) t v,Tryz.f6.params[j]? = some t→args[j]? = some v→Value.okWide Tryz.prog W .any base t v:=hval0
 have hW' := hW
 obtain ⟨p,q,hA0,hV,rfl,hfz,hnd⟩:=hW
 have hA:DataW.TrodAll enc Tryz.prog W 0 (fun _=>true) true Tryz.f6.params.toList args.toList ds p:=hA0
 rw [Tryz.params6] at hA hval
 obtain ⟨v0,vs0,d0,ds0,p0,q0,hargs,rfl,rfl,h0,r0⟩:=trodAll_cons hA
 obtain ⟨v1,vs1,d1,ds1,p1,q1,rfl,rfl,rfl,h1,r1⟩:=trodAll_cons r0
 obtain ⟨rfl,rfl,rfl⟩:=trodAll_nil r1
 obtain rfl:args=#[v0,v1]:=by cases args;simp_all
 obtain ⟨rfl,rfl⟩:=trodVars_none hV
 obtain ⟨scs,rfl,srd⟩:=open_struct (g:=9) (l:=St.shape) Tryz.underlying33 (by kernel_rfl) (hval 0 33 v0 rfl rfl) h0
 obtain ⟨s,sz,rfl,ssl,sok⟩:=St.of_read srd
 obtain ⟨xcs,rfl,xrd⟩:=open_struct (g:=9) (l:=Ca.shape) Tryz.underlying35 (by kernel_rfl) (hval 1 35 v1 rfl rfl) h1
 obtain ⟨x,rfl,xok⟩:=Ca.of_read xrd
 clear hA0 hval0
 refine (callAlone_walk s sz sok x xok W ssl).mono fun e W' ⟨he,hg⟩=>?_
 subst he
 exact ⟨_,rfl,law_post laid hW' rfl (by kernel_rfl) rfl Tryz.underlying4 rfl hg⟩
theorem callAlone_holds:Rows.CallAloneSaid :=
 OpenClaim.holds_of_wide 6 Tryz.f6 rfl rfl rfl rfl rfl rfl rfl ⟨rfl,rfl,rfl,rfl,rfl⟩ rfl rfl rfl rfl rfl (by kernel_rfl) Tryz.func6 (by kernel_rfl)
  (of_decide_eq_true (by kernel_rfl)) (by unfold Func.isWrapper;rw [if_neg (of_decide_eq_false (by kernel_rfl))];exact ⟨rfl,rfl⟩)
  (fun os started H enc _=>callAlone_lifted os started H enc)
end
end Go.Proofs.YtbckpadeamlidaaGreat
