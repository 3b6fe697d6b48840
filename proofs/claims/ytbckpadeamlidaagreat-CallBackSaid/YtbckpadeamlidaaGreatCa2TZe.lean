/- What was encoded is decoded, if it may be, and what was decoded is encoded so: true of every call and list of numbers. -/
import Derived.Test.YtbckpadeamlidaaGreatCa1TZe
namespace Go.Proofs.YtbckpadeamlidaaGreat
set_option linter.unusedVariables false
set_option linter.unusedSimpArgs false
set_option maxRecDepth 100000
section
open Go.ChangeShapes Go.WideShapes Go.ChangeAt Go.RowKit
theorem ac_callBack {x:Ca} {l:List Int}:AC Tryz.prog 4 [caT x,rowI l] (.bool true):=by
 cases hl:decide (10<(l.length:Int))
 ·have h1:=ac_cdec x.nums
  rw [(de_nums x).1,(de_nums x).2] at h1
  have h2:=ac_cdec l
  have h3:=ac_pcae x
  have m:l.length≤1000000:=by have:=of_decide_eq_false hl;omega
  by_cases he:caE x=0
  ·rw [he,if_pos rfl] at h1
   rw [he] at h3
   by_cases hf:deE l=0
   ·obtain ⟨h4,e1,e2,e3⟩:=de_ok hf
    rw [hf,e1] at h2
    rw [e1] at e2 e3
    have h5:=ac_cenc (numCa l)
    rw [e2] at h5
    have h6:=ac_pcae (numCa l)
    rw [e3] at h6
    exact ac_path mixed (ext:=llX) (fuel:=9) (n:=6) (orc:=[vD true,.bool false,rowI x.nums,.tuple #[caT x,.int .i64 0],.tuple #[caT (numCa l),.int .i64 0],.int .i64 0,.nilFunc,.nilFunc,.bool true,.nilFunc,.nilFunc,.nilFunc,rowI l,vD true,.int .i64 0]) (an ac_awakeL<|an hl<|an (ac_cenc x)<|an h1<|an h2<|an h3<|an (ask_ca x (.tmp 37) (.tmp 38))<|an h5<|an (ac_rints l m)<|an h6 trivial) (by kernel_rfl)
   ·rw [de_no hf] at h2
    exact ac_path mixed (ext:=llX) (fuel:=9) (n:=6) (orc:=[vD true,.bool false,rowI x.nums,.tuple #[caT x,.int .i64 0],.tuple #[caT ca0,.int .i64 (deE l)],.int .i64 0,.nilFunc,.nilFunc,.bool true,.nilFunc,.bool true,.bool true,.nilFunc]) (an ac_awakeL<|an hl<|an (ac_cenc x)<|an h1<|an h2<|an h3<|an (ask_ca x (.tmp 37) (.tmp 38))<|an (show (deE l != 0)=true by simpa using hf)<|an (ask_ca ca0 (.tmp 55) (.tmp 56)) trivial) (by kernel_rfl)
  ·rw [if_neg he] at h1
   have n0:(caE x==0)=false:=by simpa using he
   have n1:(caE x != 0)=true:=by simpa using he
   have n2:=beq_self_eq_true (caE x)
   by_cases hf:deE l=0
   ·obtain ⟨h4,e1,e2,e3⟩:=de_ok hf
    rw [hf,e1] at h2
    rw [e1] at e2 e3
    have h5:=ac_cenc (numCa l)
    rw [e2] at h5
    have h6:=ac_pcae (numCa l)
    rw [e3] at h6
    exact ac_path mixed (ext:=llX) (fuel:=9) (n:=6) (orc:=[vD true,.bool false,rowI x.nums,.tuple #[caT ca0,.int .i64 (caE x)],.tuple #[caT (numCa l),.int .i64 0],.int .i64 (caE x),.bool true,.bool false,.bool true,.bool true,.nilFunc,.nilFunc,.nilFunc,rowI l,vD true,.int .i64 0]) (an ac_awakeL<|an hl<|an (ac_cenc x)<|an h1<|an h2<|an h3<|an n2<|an n0<|an n1<|an (ask_ca ca0 (.tmp 45) (.tmp 46))<|an h5<|an (ac_rints l m)<|an h6 trivial) (by kernel_rfl)
   ·rw [de_no hf] at h2
    exact ac_path mixed (ext:=llX) (fuel:=9) (n:=6) (orc:=[vD true,.bool false,rowI x.nums,.tuple #[caT ca0,.int .i64 (caE x)],.tuple #[caT ca0,.int .i64 (deE l)],.int .i64 (caE x),.bool true,.bool false,.bool true,.bool true,.nilFunc,.bool true,.bool true,.nilFunc]) (an ac_awakeL<|an hl<|an (ac_cenc x)<|an h1<|an h2<|an h3<|an n2<|an n0<|an n1<|an (ask_ca ca0 (.tmp 45) (.tmp 46))<|an (show (deE l != 0)=true by simpa using hf)<|an (ask_ca ca0 (.tmp 55) (.tmp 56)) trivial) (by kernel_rfl)
 ·exact ac_path mixed (ext:=llX) (fuel:=9) (n:=6) (orc:=[vD true,.bool true]) (an ac_awakeL<|an hl trivial) (by kernel_rfl)
theorem callBack_walk (x:Ca) (hx:x.ok) (l:List Int) (lv:Value) (hl:∀ x∈l,In64 x) (hlm:l.length≤maxLen) (w:World) (hls:Sl w 1 intC l lv) :
  Calls Tryz.prog 4 #[.agg x.cells.toArray,lv] w fun e w' => e = .returned (.bool true)∧Kept w w' := by
 refine law_of (ac_callBack (x:=x) (l:=l)) (cells_at.2 ?_)
 exact ⟨_,_,rfl,rp_caT.2 rfl,_,_,rfl,sl_freeL hls,rfl⟩
theorem callBack_lifted (os:Os) (started:os.Started) (H:Type) (enc:TypeId×Value→H) :
  ReturnsInHanded {} Tryz.checked os 4 .any (Rows.callBackSpec.pre6 enc Tryz.prog Tryz.f4 Rows.callBackRow.domain false) (Rows.callBackSpec.post enc Tryz.prog Tryz.f4 false true false false):=by
 refine returnsInHanded_of_change (C:=Tryz.checked) own started (by kernel_rfl) Tryz.func4
  (ChangeSpec.witness6 (enc:=enc) (C:=Tryz.checked) false ⟨#[],#[.agg Ca.zero.toArray,.slice none 0 0],[]⟩ 8 (by kernel_rfl) (by kernel_rfl) (by kernel_rfl) (by kernel_rfl)) ?_
 intro W base args ds gs before hval0 hW hcnd _
 have hval:∀ (j:Nat) t v,Tryz.f4.params[j]? = some t→args[j]? = some v→Value.okWide Tryz.prog W .any base t v:=hval0
 have hW' := hW
 obtain ⟨p,q,hA0,hV,rfl,hfz,hnd⟩:=hW
 have hA:DataW.TrodAll enc Tryz.prog W 0 (fun _=>true) true Tryz.f4.params.toList args.toList ds p:=hA0
 rw [Tryz.params4] at hA hval
 obtain ⟨v0,vs0,d0,ds0,p0,q0,hargs,rfl,rfl,h0,r0⟩:=trodAll_cons hA
 obtain ⟨v1,vs1,d1,ds1,p1,q1,rfl,rfl,rfl,h1,r1⟩:=trodAll_cons r0
 obtain ⟨rfl,rfl,rfl⟩:=trodAll_nil r1
 obtain rfl:args=#[v0,v1]:=by cases args;simp_all
 obtain ⟨rfl,rfl⟩:=trodVars_none hV
 obtain ⟨xcs,rfl,xrd⟩:=open_struct (g:=9) (l:=Ca.shape) Tryz.underlying35 (by kernel_rfl) (hval 0 35 v0 rfl rfl) h0
 obtain ⟨x,rfl,xok⟩:=Ca.of_read xrd
 obtain ⟨l,lsl,lok,lml⟩:=Sl.of_read intC In64 (by decide) (open_row (g:=9) (l:=intShape) Tryz.underlying27 (by kernel_rfl) (hval 1 27 v1 rfl rfl) h1) (fun vs h=>int_of_read h)
 clear hA0 hval0
 refine (callBack_walk x xok l v1 lok lml W lsl).mono fun e W' ⟨he,hg⟩=>?_
 subst he
 exact ⟨_,rfl,law_post laid hW' rfl (by kernel_rfl) rfl Tryz.underlying4 rfl hg⟩
theorem callBack_holds:Rows.CallBackSaid :=
 OpenClaim.holds_of_wide 4 Tryz.f4 rfl rfl rfl rfl rfl rfl rfl ⟨rfl,rfl,rfl,rfl,rfl⟩ rfl rfl rfl rfl rfl (by kernel_rfl) Tryz.func4 (by kernel_rfl)
  (of_decide_eq_true (by kernel_rfl)) (by unfold Func.isWrapper;rw [if_neg (of_decide_eq_false (by kernel_rfl))];exact ⟨rfl,rfl⟩)
  (fun os started H enc _=>callBack_lifted os started H enc)
end
end Go.Proofs.YtbckpadeamlidaaGreat
