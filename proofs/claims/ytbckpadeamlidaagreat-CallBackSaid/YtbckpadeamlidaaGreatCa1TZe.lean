/- Whether any call may be, that of any numbers, and what any does, are what the document says, or its error: true of every state, call and list of numbers. -/
import Derived.Test.YtbckpadeamlidaaGreatZe15
namespace Go.Proofs.YtbckpadeamlidaaGreat
set_option linter.unusedVariables false
set_option linter.unusedSimpArgs false
set_option maxRecDepth 100000
section
open Go.ChangeShapes Go.WideShapes Go.ChangeAt Go.RowKit
def llX:List FuncId:=[8,9,14,10,18,12,15,11,13,17,16,21,20,19]
theorem ll_few {s:St} (hF:fewB s=true) (ho:s.ok):TkK s:=⟨ho,(few_is hF).1⟩
theorem ac_callTells {s:St} {x:Ca} {l:List Int} (ho:s.ok) (hx:x.ok):AC Tryz.prog 3 [stT s,caT x,rowI l] (.bool true):=by
 cases hF:fewB s
 ·exact ac_path mixed (ext:=llX) (fuel:=9) (n:=6) (orc:=[vD true,vD false]) (an ac_awakeL<|an (hF ▸ ac_rfew s) trivial) (by kernel_rfl)
 ·cases hl:decide (10<(l.length:Int))
  ·have h:=ll_few hF ho
   have h200:=(few_is hF).2.2
   obtain ⟨E,r,hd⟩:=caDo_is s x
   have hr:=caDo_wk (N:=200) hd hx ho h.few h200 (by omega)
   exact ac_path mixed (ext:=llX) (fuel:=9) (n:=6) (orc:=[vD true,vD true,.bool false,.tuple #[caT (deC l),.int .i64 (deE l)],.tuple #[caT (deC l),.int .i64 (deE l)],.tuple #[stT r,.int .i64 E],.tuple #[stT r,.int .i64 E],.int .i64 (caE x),.int .i64 (caE x),.bool true,.bool true,.nilFunc,.bool true,vD true,.bool true,rowI x.nums,vD true])
    (an ac_awakeL<|an (hF ▸ ac_rfew s)<|an hl<|an (ac_cdec l)<|an (ac_rcdec l)<|an (ac_cdo hd h)<|an (ac_rcdo hd ho h.few (by omega))<|an (ac_pcae x)<|an (ac_rcae x)<|an (beq_self_eq_true (caE x))<|an (ask_ca (deC l) (.tmp 57) (.tmp 58))<|an (beq_self_eq_true (deE l)) <|
     an (ac_rsame hr.1 (by have:=hr.2.1;omega))<|an (beq_self_eq_true E)<|an (ac_cenc x)<|an (⟨rfl,rfl⟩:LenP 4 4 (x.nums.map (Value.int .i64 ·)))<|an (ac_rints x.nums (by show 4≤1000000;decide)) trivial) (by kernel_rfl)
  ·exact ac_path mixed (ext:=llX) (fuel:=9) (n:=6) (orc:=[vD true,vD true,.bool true]) (an ac_awakeL<|an (hF ▸ ac_rfew s)<|an hl trivial) (by kernel_rfl)
theorem sl_freeL {W:World} {l:List Int} {v:Value} (h:Sl W 1 intC l v):Rp nowhere (fun _=>False) W (rowI l) v:=by
 obtain ⟨p,k,rfl,-⟩:=h.is
 exact rp_rowI.2 ⟨p,k,rfl,h.loc.mono fun _ _ h=>h⟩
theorem callTells_walk (s:St) (sz:Pz) (hs:s.ok) (x:Ca) (hx:x.ok) (l:List Int) (lv:Value) (hl:∀ x∈l,In64 x) (hlm:l.length≤maxLen) (w:World) (hss:StAt w s sz) (hls:Sl w 1 intC l lv) :
  Calls Tryz.prog 3 #[.agg (s.cells sz).toArray,.agg x.cells.toArray,lv] w fun e w' => e = .returned (.bool true)∧Kept w w' := by
 refine law_of (ac_callTells (s:=s) (x:=x) (l:=l) hs hx) (cells_at.2 ?_)
 exact ⟨_,_,rfl,st_free hss,_,_,rfl,rp_caT.2 rfl,_,_,rfl,sl_freeL hls,rfl⟩
theorem callTells_lifted (os:Os) (started:os.Started) (H:Type) (enc:TypeId×Value→H) :
  ReturnsInHanded {} Tryz.checked os 3 .any (Rows.callTellsSpec.pre6 enc Tryz.prog Tryz.f3 Rows.callTellsRow.domain false) (Rows.callTellsSpec.post enc Tryz.prog Tryz.f3 false true false false):=by
 refine returnsInHanded_of_change (C:=Tryz.checked) own started (by kernel_rfl) Tryz.func3
  (ChangeSpec.witness6 (enc:=enc) (C:=Tryz.checked) false ⟨#[],#[.agg St.zero.toArray,.agg Ca.zero.toArray,.slice none 0 0],[]⟩ 8 (by kernel_rfl) (by kernel_rfl) (by kernel_rfl) (by kernel_rfl)) ?_
 intro W base args ds gs before hval0 hW hcnd _
 have hval:∀ (j:Nat) t v,Tryz.f3.params[j]? = some t→args[j]? = some v→Value.okWide Tryz.prog W .any base t v:=hval0
 have hW' := hW
 obtain ⟨p,q,hA0,hV,rfl,hfz,hnd⟩:=hW
 have hA:DataW.TrodAll enc Tryz.prog W 0 (fun _=>true) true Tryz.f3.params.toList args.toList ds p:=hA0
 rw [Tryz.params3] at hA hval
 obtain ⟨v0,vs0,d0,ds0,p0,q0,hargs,rfl,rfl,h0,r0⟩:=trodAll_cons hA
 obtain ⟨v1,vs1,d1,ds1,p1,q1,rfl,rfl,rfl,h1,r1⟩:=trodAll_cons r0
 obtain ⟨v2,vs2,d2,ds2,p2,q2,rfl,rfl,rfl,h2,r2⟩:=trodAll_cons r1
 obtain ⟨rfl,rfl,rfl⟩:=trodAll_nil r2
 obtain rfl:args=#[v0,v1,v2]:=by cases args;simp_all
 obtain ⟨rfl,rfl⟩:=trodVars_none hV
 obtain ⟨scs,rfl,srd⟩:=open_struct (g:=9) (l:=St.shape) Tryz.underlying33 (by kernel_rfl) (hval 0 33 v0 rfl rfl) h0
 obtain ⟨s,sz,rfl,ssl,sok⟩:=St.of_read srd
 obtain ⟨xcs,rfl,xrd⟩:=open_struct (g:=9) (l:=Ca.shape) Tryz.underlying35 (by kernel_rfl) (hval 1 35 v1 rfl rfl) h1
 obtain ⟨x,rfl,xok⟩:=Ca.of_read xrd
 obtain ⟨l,lsl,lok,lml⟩:=Sl.of_read intC In64 (by decide) (open_row (g:=9) (l:=intShape) Tryz.underlying27 (by kernel_rfl) (hval 2 27 v2 rfl rfl) h2) (fun vs h=>int_of_read h)
 clear hA0 hval0
 refine (callTells_walk s sz sok x xok l v2 lok lml W ssl lsl).mono fun e W' ⟨he,hg⟩=>?_
 subst he
 exact ⟨_,rfl,law_post laid hW' rfl (by kernel_rfl) rfl Tryz.underlying4 rfl hg⟩
theorem callTells_holds:Rows.CallTellsSaid :=
 OpenClaim.holds_of_wide 3 Tryz.f3 rfl rfl rfl rfl rfl rfl rfl ⟨rfl,rfl,rfl,rfl,rfl⟩ rfl rfl rfl rfl rfl (by kernel_rfl) Tryz.func3 (by kernel_rfl)
  (of_decide_eq_true (by kernel_rfl)) (by unfold Func.isWrapper;rw [if_neg (of_decide_eq_false (by kernel_rfl))];exact ⟨rfl,rfl⟩)
  (fun os started H enc _=>callTells_lifted os started H enc)
end
end Go.Proofs.YtbckpadeamlidaaGreat
