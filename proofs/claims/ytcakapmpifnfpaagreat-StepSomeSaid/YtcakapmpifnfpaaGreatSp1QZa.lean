/- What may be stays so, whoever is picked; a pick with an error changes nothing, one without one thing at most: true of every state and thread. -/
import Derived.Test.YtcakapmpifnfpaaGreatZa12
import Derived.Test.YtcakapmpifnfpaaGreatZa13
namespace Go.Proofs.YtcakapmpifnfpaaGreat
set_option linter.unusedVariables false
set_option linter.unusedSimpArgs false
open Go.ChangeShapes Go.WideShapes Go.ChangeAt Go.RowKit
def lwX : List FuncId := [7, 8, 9, 13, 15, 14, 10, 12, 11]
set_option maxRecDepth 100000 in
theorem sp1_no {s : St} {i e : Int} (hF : fewB s = true) (hp : AC Tryz.prog 9 [stT s, .int .i64 i] (.tuple #[stT s, .int .i64 e])) (he : (e != 0) = true) (hs : AC Tryz.prog 10 [stT s, stT s] (.bool true)) : AC Tryz.prog 3 [stT s, .int .i64 i] (.bool true) :=
  ac_path mixed (ext := lwX) (fuel := 9) (n := 6) (orc := [vD true, vD true, .tuple #[stT s, .int .i64 e], .bool true, vD true]) (an ac_awakeS <| an (hF ▸ ac_rfew s) <| an hp <| an he <| an hs trivial) (by kernel_rfl)
set_option maxRecDepth 100000 in
theorem sp1_ok {s a : St} {i v : Int} (hF : fewB s = true) (hp : AC Tryz.prog 9 [stT s, .int .i64 i] (.tuple #[stT a, .int .i64 0])) (h1 : AC Tryz.prog 11 [stT s] (.bool true)) (h2 : AC Tryz.prog 11 [stT a] (.bool true)) (h3 : AC Tryz.prog 12 [stT s, stT a] (.int .i64 v)) (hv : v ≤ 1) : AC Tryz.prog 3 [stT s, .int .i64 i] (.bool true) := by
  have h := ac_path mixed (ext := lwX) (fuel := 9) (n := 6) (g := 3) (args := [stT s, .int .i64 i]) (r := .bool (decide (v ≤ 1))) (orc := [vD true, vD true, .tuple #[stT a, .int .i64 0], .nilFunc, .nilFunc, vD true, vD true, .int .i64 v]) (an ac_awakeS <| an (hF ▸ ac_rfew s) <| an hp <| an h1 <| an h2 <| an h3 trivial) (by kernel_rfl)
  rwa [decide_eq_true hv] at h
set_option maxRecDepth 100000 in
theorem ac_stepStays {s : St} {i : Int} (ho : s.ok) : AC Tryz.prog 3 [stT s, .int .i64 i] (.bool true) := by
  cases hF : fewB s
  · exact ac_path mixed (ext := lwX) (fuel := 9) (n := 6) (orc := [vD true, vD false]) (an ac_awakeS <| an (hF ▸ ac_rfew s) trivial) (by kernel_rfl)
  · obtain ⟨f1, f2, f3⟩ := few_is hF
    have hp := ac_pick (i := i) ho f2 (by omega)
    by_cases he : pickE s i = 0
    · obtain ⟨n, rfl, hB, hn, h1⟩ := pick_iff.1 he
      have w : Wk s 200 := ⟨hB, .of ho, f3⟩
      have wa := pick_wk w n
      obtain ⟨v, hv, h3⟩ := ac_things (a := s) (b := pickS s n) (pick_sl hB n).symm f1.sl ⟨by have := f1.sn; omega, by have := f1.rc; omega, by have := f1.fl; omega, by have := f1.el; omega⟩ (pick_things s n)
      rw [he] at hp
      exact sp1_ok hF hp (ac_pcheck hB ho) (ac_pcheck wa.b (wa.ok (by omega))) h3 hv
    · rw [pick_no he] at hp
      exact sp1_no hF hp (by simp [he]) (ac_rsame (s := s) f1 (by omega))
theorem stepStays_walk (s : St) (sz : Pz) (hs : s.ok) (id : Int) (hid : In64 id) (w : World) (hss : StAt w s sz) :
    Calls Tryz.prog 3 #[.agg (s.cells sz).toArray, .int .i64 id] w fun e w' => e = .returned (.bool true) ∧ Kept w w' := by
  refine law_of (ac_stepStays (s := s) (i := id) hs) (cells_at.2 ?_)
  exact ⟨_, _, rfl, st_free hss, _, _, rfl, rp_int.2 rfl, rfl⟩
set_option maxRecDepth 100000 in
theorem stepStays_lifted (os : Os) (started : os.Started) (H : Type) (enc : TypeId × Value → H) :
    ReturnsInHanded {} Tryz.checked os 3 .any (Rows.stepStaysSpec.pre6 enc Tryz.prog Tryz.f3 Rows.stepStaysRow.domain false) (Rows.stepStaysSpec.post enc Tryz.prog Tryz.f3 false true false false) := by
  refine returnsInHanded_of_change (C := Tryz.checked) own started (by kernel_rfl) Tryz.func3
    (ChangeSpec.witness6 (enc := enc) (C := Tryz.checked) false ⟨#[], #[.agg St.zero.toArray, .int .i64 0], []⟩ 8 (by kernel_rfl) (by kernel_rfl) (by kernel_rfl) (by kernel_rfl)) ?_
  intro W base args ds gs before hval0 hW hcnd _
  have hval : ∀ (j : Nat) t v, Tryz.f3.params[j]? = some t → args[j]? = some v → Value.okWide Tryz.prog W .any base t v := hval0
  have hW' := hW
  obtain ⟨p, q, hA0, hV, rfl, hfz, hnd⟩ := hW
  have hA : DataW.TrodAll enc Tryz.prog W 0 (fun _ => true) true Tryz.f3.params.toList args.toList ds p := hA0
  rw [Tryz.params3] at hA hval
  obtain ⟨v0, vs0, d0, ds0, p0, q0, hargs, rfl, rfl, h0, r0⟩ := trodAll_cons hA
  obtain ⟨v1, vs1, d1, ds1, p1, q1, rfl, rfl, rfl, h1, r1⟩ := trodAll_cons r0
  obtain ⟨rfl, rfl, rfl⟩ := trodAll_nil r1
  obtain rfl : args = #[v0, v1] := by cases args; simp_all
  obtain ⟨rfl, rfl⟩ := trodVars_none hV
  obtain ⟨scs, rfl, srd⟩ := open_struct (g := 9) (l := St.shape) Tryz.underlying33 (by kernel_rfl) (hval 0 33 v0 rfl rfl) h0
  obtain ⟨s, sz, rfl, ssl, sok⟩ := St.of_read srd
  obtain ⟨id, rfl, rfl, rfl, wf1⟩ := open_int Tryz.underlying3 (hval 1 3 v1 rfl rfl) h1
  clear hA0 hval0
  refine (stepStays_walk s sz sok id (in64_of_wf wf1) W ssl).mono fun e W' ⟨he, hg⟩ => ?_
  subst he
  exact ⟨_, rfl, law_post laid hW' rfl (by kernel_rfl) rfl Tryz.underlying4 rfl hg⟩

/-- The statement, whole. -/
theorem stepStays_holds : Rows.StepStaysSaid :=
  OpenClaim.holds_of_wide 3 Tryz.f3 rfl rfl rfl rfl rfl rfl rfl ⟨rfl, rfl, rfl, rfl, rfl⟩ rfl rfl rfl rfl rfl (by kernel_rfl) Tryz.func3 (by kernel_rfl)
    (of_decide_eq_true (by kernel_rfl)) (by unfold Func.isWrapper; rw [if_neg (of_decide_eq_false (by kernel_rfl))]; exact ⟨rfl, rfl⟩)
    (fun os started H enc _ => stepStays_lifted os started H enc)
end Go.Proofs.YtcakapmpifnfpaaGreat
