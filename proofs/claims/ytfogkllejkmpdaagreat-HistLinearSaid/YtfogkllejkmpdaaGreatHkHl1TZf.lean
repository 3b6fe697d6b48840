/- The statement HistLinear of the landed program: true of every configuration and every script. -/
import Derived.Test.YtfogkllejkmpdaaGreatZf19
import Derived.Test.YtfogkllejkmpdaaGreatZf11
import Derived.Test.YtfogkllejkmpdaaGreatZf18
namespace Go.Proofs.YtfogkllejkmpdaaGreat
set_option linter.unusedVariables false
set_option linter.unusedSimpArgs false
set_option maxRecDepth 100000
section
open Go.ChangeShapes Go.WideShapes Go.ChangeAt Go.RowKit
theorem vw (c:Cf) (hc:c.ok) (raw:List Rw) (rawv:Value) (hraw:∀ x∈raw,x.ok) (hrawm:raw.length≤maxLen) (w:World) (hraws:RrAt w raw rawv) :
  Calls Tryz.prog 4 #[.agg c.cells.toArray,rawv] w fun e w' => e = .returned (.bool true)∧Kept w w' := by
 refine BS (zm wh (c:=c) (raw:=raw.map Rw.l) hc (Lf hraw) (by simpa using hrawm)) (X7.2 ?_)
 exact ⟨_,_,rfl,ng.2 rfl,_,_,rfl,ww hraws,rfl⟩
theorem su (os:Os) (started:os.Started) (H:Type) (enc:TypeId×Value→H) :
  ReturnsInHanded {} Tryz.checked os 4 .any (Rows.histLinearSpec.pre6 enc Tryz.prog Tryz.f4 Rows.histLinearRow.domain false) (Rows.histLinearSpec.post enc Tryz.prog Tryz.f4 false true false false):=by
 refine returnsInHanded_of_change (C:=Tryz.checked) own started (by kernel_rfl) Tryz.func4
  (ChangeSpec.witness6 (enc:=enc) (C:=Tryz.checked) false ⟨#[],#[.agg Cf.zero.toArray,.slice none 0 0],[]⟩ 8 (by kernel_rfl) (by kernel_rfl) (by kernel_rfl) (by kernel_rfl)) ?_
 intro W base args ds gs before hval0 hW hcnd _
 have hval:∀ (j:Nat) t v,Tryz.f4.params[j]? = some t→args[j]? = some v→Value.okWide Tryz.prog W .any base t v:=hval0
 have hW' := hW
 obtain ⟨p,q,hA0,hV,rfl,hfz,hnd⟩:=hW
 have hA:DataW.TrodAll enc Tryz.prog W 0 (fun _=>true) true Tryz.f4.params.toList args.toList ds p:=hA0
 rw [Tryz.params4] at hA hval
 obtain ⟨v0,vs0,d0,ds0,p0,q0,hargs,rfl,rfl,h0,r0⟩:=trodAll_cons hA
 obtain ⟨v1,vs1,d1,ds1,p1,q1,rfl,rfl,rfl,h1,r1⟩:=trodAll_cons r0
 obtain ⟨rfl,rfl,rfl⟩:=trodAll_nil r1
 obtain rfl:args=#[v0,v1]:=by cases args;simp_all
 obtain ⟨rfl,rfl⟩:=trodVars_none hV
 obtain ⟨ccs,rfl,crd⟩:=iL (g:=9) (l:=Cf.shape) Tryz.underlying23 (by kernel_rfl) (hval 0 23 v0 rfl rfl) h0
 obtain ⟨c,rfl,cok⟩:=Cf.of_read crd
 obtain ⟨raw,rawsl,rawok,rawml⟩:=vI (open_row (g:=9) (l:=Rw.shape) Tryz.underlying24 (by kernel_rfl) (hval 1 24 v1 rfl rfl) h1)
 clear hA0 hval0
 refine (vw c cok raw v1 rawok rawml W rawsl).mono fun e W' ⟨he,hg⟩=>?_
 subst he
 exact ⟨_,rfl,ql laid hW' rfl (by kernel_rfl) rfl Tryz.underlying4 rfl hg⟩
theorem histLinear_holds:Rows.HistLinearSaid :=
 OpenClaim.holds_of_wide 4 Tryz.f4 rfl rfl rfl rfl rfl rfl rfl ⟨rfl,rfl,rfl,rfl,rfl⟩ rfl rfl rfl rfl rfl (by kernel_rfl) Tryz.func4 (by kernel_rfl)
  (of_decide_eq_true (by kernel_rfl)) (by unfold Func.isWrapper;rw [if_neg (of_decide_eq_false (by kernel_rfl))];exact ⟨rfl,rfl⟩)
  (fun os started H enc _=>su os started H enc)
end
end Go.Proofs.YtfogkllejkmpdaaGreat
