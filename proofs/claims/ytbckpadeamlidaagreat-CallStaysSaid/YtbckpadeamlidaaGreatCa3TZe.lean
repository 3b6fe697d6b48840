/- What may be stays so, a call with an error changes nothing, and no call changes more than one thing, but for time: true of every state and call. -/
import Derived.Test.YtbckpadeamlidaaGreatCa1TZe
namespace Go.Proofs.YtbckpadeamlidaaGreat
set_option linter.unusedVariables false
set_option linter.unusedSimpArgs false
set_option maxRecDepth 100000
section
open Go.ChangeShapes Go.WideShapes Go.ChangeAt Go.RowKit
section
variable {s a:St} {x:Ca} (hF:fewB s=true)
include hF
theorem cs_no {E:Int} (hd:AC Tryz.prog 12 [stT s,caT x] (.tuple #[stT s,.int .i64 E])) (hE:(E != 0)=true) (hs:AC Tryz.prog 16 [stT s,stT s] (.bool true)):AC Tryz.prog 5 [stT s,caT x] (.bool true) :=
 ac_path mixed (ext:=llX) (fuel:=9) (n:=6) (orc:=[vD true,vD true,.tuple #[stT s,.int .i64 E],.bool true,vD true]) (an ac_awakeL<|an (hF ▸ ac_rfew s)<|an hd<|an hE<|an hs trivial) (by kernel_rfl)
variable (hd:AC Tryz.prog 12 [stT s,caT x] (.tuple #[stT a,.int .i64 0])) (h1:AC Tryz.prog 19 [stT s] (.bool true)) (h2:AC Tryz.prog 19 [stT a] (.bool true))
include hd h1 h2
theorem cs_time (hk:(x.ki==11)=true):AC Tryz.prog 5 [stT s,caT x] (.bool true) :=
 ac_path mixed (ext:=llX) (fuel:=9) (n:=6) (orc:=[vD true,vD true,.tuple #[stT a,.int .i64 0],.nilFunc,.nilFunc,vD true,vD true,.bool true]) (an ac_awakeL<|an (hF ▸ ac_rfew s)<|an hd<|an h1<|an h2<|an hk trivial) (by kernel_rfl)
theorem cs_one {v:Int} (hk:(x.ki==11)=false) (h3:AC Tryz.prog 20 [stT s,stT a] (.int .i64 v)) (hv:v≤1):AC Tryz.prog 5 [stT s,caT x] (.bool true):=by
 have h:=ac_path mixed (ext:=llX) (fuel:=9) (n:=6) (g:=5) (args:=[stT s,caT x]) (r:=.bool (decide (v≤1))) (orc:=[vD true,vD true,.tuple #[stT a,.int .i64 0],.nilFunc,.nilFunc,vD true,vD true,.bool false,.int .i64 v]) (an ac_awakeL<|an (hF ▸ ac_rfew s)<|an hd<|an h1<|an h2<|an hk<|an h3 trivial) (by kernel_rfl)
 rwa [decide_eq_true hv] at h
end
theorem ac_callStays {s:St} {x:Ca} (ho:s.ok) (hx:x.ok):AC Tryz.prog 5 [stT s,caT x] (.bool true):=by
 cases hF:fewB s
 ·exact ac_path mixed (ext:=llX) (fuel:=9) (n:=6) (orc:=[vD true,vD false]) (an ac_awakeL<|an (hF ▸ ac_rfew s) trivial) (by kernel_rfl)
 ·have h:=ll_few hF ho
  obtain ⟨-,-,h200⟩:=few_is hF
  obtain ⟨E,r,hd⟩:=caDo_is s x
  have hw:=caDo_wk (N:=200) hd hx ho h.few h200 (by omega)
  by_cases hE:E=0
  ·subst hE
   obtain ⟨hB,hA,h1⟩:=caDo_one hd
   by_cases hk:x.ki=11
   ·exact cs_time hF (ac_cdo hd h) (ac_pcheck hB ho) (ac_pcheck hA hw.2.2) (by simpa using hk)
   ·obtain ⟨h2,h3⟩:=h1 hk
    have f1:=h.few
    obtain ⟨v,hv,h4⟩:=ac_things (a:=s) (b:=r) h3.symm f1.sl ⟨by have:=f1.sn;omega,by have:=f1.rc;omega,by have:=f1.fl;omega,by have:=f1.el;omega⟩ h2
    exact cs_one hF (ac_cdo hd h) (ac_pcheck hB ho) (ac_pcheck hA hw.2.2) (by simpa using hk) h4 hv
  ·have hd' := ac_cdo hd h
   rw [caDo_no hd hE] at hd'
   exact cs_no hF hd' (by simpa using hE) (ac_rsame h.few (by omega))
theorem callStays_walk (s:St) (sz:Pz) (hs:s.ok) (x:Ca) (hx:x.ok) (w:World) (hss:StAt w s sz) :
  Calls Tryz.prog 5 #[.agg (s.cells sz).toArray,.agg x.cells.toArray] w fun e w' => e = .returned (.bool true)∧Kept w w' := by
 refine law_of (ac_callStays (s:=s) (x:=x) hs hx) (cells_at.2 ?_)
 exact ⟨_,_,rfl,st_free hss,_,_,rfl,rp_caT.2 rfl,rfl⟩
theorem callStays_lifted (os:Os) (started:os.Started) (H:Type) (enc:TypeId×Value→H) :
  ReturnsInHanded {} Tryz.checked os 5 .any (Rows.callStaysSpec.pre6 enc Tryz.prog Tryz.f5 Rows.callStaysRow.domain false) (Rows.callStaysSpec.post enc Tryz.prog Tryz.f5 false true false false):=by
 refine returnsInHanded_of_change (C:=Tryz.checked) own started (by kernel_rfl) Tryz.func5
  (ChangeSpec.witness6 (enc:=enc) (C:=Tryz.checked) false ⟨#[],#[.agg St.zero.toArray,.agg Ca.zero.toArray],[]⟩ 8 (by kernel_rfl) (by kernel_rfl) (by kernel_rfl) (by kernel_rfl)) ?_
 intro W base args ds gs before hval0 hW hcnd _
 have hval:∀ (j:Nat) t v,Tryz.f5.params[j]? = some t→args[j]? = some v→Value.okWide Tryz.prog W .any base t v:=hval0
 have hW' := hW
 obtain ⟨p,q,hA0,hV,rfl,hfz,hnd⟩:=hW
 have hA:DataW.TrodAll enc Tryz.prog W 0 (fun _=>true) true Tryz.f5.params.toList args.toList ds p:=hA0
 rw [Tryz.params5] at hA hval
 obtain ⟨v0,vs0,d0,ds0,p0,q0,hargs,rfl,rfl,h0,r0⟩:=trodAll_cons hA
 obtain ⟨v1,vs1,d1,ds1,p1,q1,rfl,rfl,rfl,h1,r1⟩:=trodAll_cons r0
 obtain ⟨rfl,rfl,rfl⟩:=trodAll_nil r1
 obtain rfl:args=#[v0,v1]:=by cases args;simp_all
 obtain ⟨rfl,rfl⟩:=trodVars_none hV
 obtain ⟨scs,rfl,srd⟩:=open_struct (g:=9) (l:=St.shape) Tryz.underlying33 (by kernel_rfl) (hval 0 33 v0 rfl rfl) h0
 obtain ⟨s,sz,rfl,ssl,sok⟩:=St.of_read srd
 obtain ⟨xcs,rfl,xrd⟩:=open_struct (g:=9) (l:=Ca.shape) Tryz.underlying35 (by kernel_rfl) (hval 1 35 v1 rfl rfl) h1
 obtain ⟨x,rfl,xok⟩:=Ca.of_read xrd
 clear hA0 hval0
 refine (callStays_walk s sz sok x xok W ssl).mono fun e W' ⟨he,hg⟩=>?_
 subst he
 exact ⟨_,rfl,law_post laid hW' rfl (by kernel_rfl) rfl Tryz.underlying4 rfl hg⟩
theorem callStays_holds:Rows.CallStaysSaid :=
 OpenClaim.holds_of_wide 5 Tryz.f5 rfl rfl rfl rfl rfl rfl rfl ⟨rfl,rfl,rfl,rfl,rfl⟩ rfl rfl rfl rfl rfl (by kernel_rfl) Tryz.func5 (by kernel_rfl)
  (of_decide_eq_true (by kernel_rfl)) (by unfold Func.isWrapper;rw [if_neg (of_decide_eq_false (by kernel_rfl))];exact ⟨rfl,rfl⟩)
  (fun os started H enc _=>callStays_lifted os started H enc)
end
end Go.Proofs.YtbckpadeamlidaaGreat
