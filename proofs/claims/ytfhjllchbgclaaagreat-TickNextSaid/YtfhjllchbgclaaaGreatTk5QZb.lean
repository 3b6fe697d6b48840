/- Ahead of the time that is told nobody becomes late, and at it somebody does: true of every state. -/
import Derived.Test.YtfhjllchbgclaaaGreatZb14
namespace Go.Proofs.YtfhjllchbgclaaaGreat
set_option linter.unusedVariables false
set_option linter.unusedSimpArgs false
open Go.ChangeShapes Go.WideShapes Go.ChangeAt Go.RowKit
set_option maxRecDepth 100000 in
theorem tk5_no {s a : St} {e : Int} (hF : fewB s = true) (h1 : AC Tryz.prog 15 [stT s] (.tuple #[.int .i64 0, .bool false])) (h2 : AC Tryz.prog 20 [stT s] (rowD [])) (h3 : AC Tryz.prog 11 [stT s, .int .i64 1073741824] (.tuple #[stT a, rowI [], .int .i64 e])) : AC Tryz.prog 7 [stT s] (.bool true) :=
  ac_path mixed (ext := lkX) (fuel := 9) (n := 6) (orc := [vD true, vD true, .tuple #[.int .i64 0, .bool false], rowD [], .nilFunc, .tuple #[stT a, rowI [], .int .i64 e], .nilFunc, .nilFunc]) (an ac_awakeK <| an (hF ▸ ac_rfew s) <| an h1 <| an h2 <| an h3 trivial) (by kernel_rfl)
section
variable {s a b : St} {d : Du} {r : List Du} {q m : List Int} {e : Int} (hF : fewB s = true) (h1 : AC Tryz.prog 15 [stT s] (.tuple #[.int .i64 d.tm, .bool true])) (h2 : AC Tryz.prog 20 [stT s] (rowD (d :: r))) (hi : In64 (d.tm - s.nw)) (hj : In64 (d.tm - s.nw - 1)) (h3 : AC Tryz.prog 11 [stT s, .int .i64 (max (d.tm - s.nw) 0)] (.tuple #[stT a, rowI (d.id :: q), .int .i64 0]))
include hF h1 h2 hi hj h3
set_option maxRecDepth 100000 in
theorem tk5_now (h4 : AC Tryz.prog 11 [stT s, .int .i64 (max (d.tm - s.nw - 1) 0)] (.tuple #[stT b, rowI m, .int .i64 e])) (h5 : d.tm ≤ s.nw) : AC Tryz.prog 7 [stT s] (.bool true) :=
  ac_path mixed (ext := lkX) (fuel := 9) (n := 6) (orc := [vD true, vD true, .tuple #[.int .i64 d.tm, .bool true], rowD (d :: r), .nilFunc, .tuple #[stT a, rowI (d.id :: q), .int .i64 0], .tuple #[stT b, rowI m, .int .i64 e], .nilFunc, .bool true, .bool true, duT d, .bool true, .int .i64 d.id, duT d, .bool true, .bool true])
    (an ac_awakeK <| an (hF ▸ ac_rfew s) <| an h1 <| an h2 <| an hi <| an h3 <| an hi <| an hj <| an h4 <| an (show decide ((0 : Int) < (d.id :: q).length) = true by simp) <| an (show decide ((0 : Int) < (d :: r).length) = true by simp) <| an (ixD (l := d :: r) (i := 0) (by simp)) <| an (beq_self_eq_true d.tm) <| an (ixIl (l := d.id :: q) (i := 0) (by simp)) <| an (ixD (l := d :: r) (i := 0) (by simp)) <| an (beq_self_eq_true d.id) <| an (show decide (d.tm ≤ s.nw) = true by simpa using h5) trivial) (by kernel_rfl)
set_option maxRecDepth 100000 in
theorem tk5_then (h4 : AC Tryz.prog 11 [stT s, .int .i64 (max (d.tm - s.nw - 1) 0)] (.tuple #[stT b, rowI [], .int .i64 e])) (h5 : ¬d.tm ≤ s.nw) : AC Tryz.prog 7 [stT s] (.bool true) :=
  ac_path mixed (ext := lkX) (fuel := 9) (n := 6) (orc := [vD true, vD true, .tuple #[.int .i64 d.tm, .bool true], rowD (d :: r), .nilFunc, .tuple #[stT a, rowI (d.id :: q), .int .i64 0], .tuple #[stT b, rowI [], .int .i64 e], .nilFunc, .bool true, .bool true, duT d, .bool true, .int .i64 d.id, duT d, .bool true, .bool false])
    (an ac_awakeK <| an (hF ▸ ac_rfew s) <| an h1 <| an h2 <| an hi <| an h3 <| an hi <| an hj <| an h4 <| an (show decide ((0 : Int) < (d.id :: q).length) = true by simp) <| an (show decide ((0 : Int) < (d :: r).length) = true by simp) <| an (ixD (l := d :: r) (i := 0) (by simp)) <| an (beq_self_eq_true d.tm) <| an (ixIl (l := d.id :: q) (i := 0) (by simp)) <| an (ixD (l := d :: r) (i := 0) (by simp)) <| an (beq_self_eq_true d.id) <| an (show decide (d.tm ≤ s.nw) = false by simpa using h5) trivial) (by kernel_rfl)
end
set_option maxRecDepth 100000 in
theorem ac_tickNext {s : St} (ho : s.ok) : AC Tryz.prog 7 [stT s] (.bool true) := by
  cases hF : fewB s
  · exact ac_path mixed (ext := lkX) (fuel := 9) (n := 6) (orc := [vD true, vD false]) (an ac_awakeK <| an (hF ▸ ac_rfew s) trivial) (by kernel_rfl)
  · have h := lk_few hF ho
    have h1 := ac_ptnext h
    have h2 := ac_pdues h
    cases hb : nextB s
    · obtain ⟨e1, e2⟩ := next_no hb
      have h3 := ac_ptick (n := 1073741824) h (by constructor <;> omega)
      rw [hb, e2] at h1
      rw [e1] at h2
      rw [tick_none e1] at h3
      exact tk5_no hF h1 h2 h3
    · obtain ⟨p1, ⟨d, r, q, e1, e2, e3⟩, p3⟩ := next_tick hb
      obtain ⟨d', r', e1', e2', hB, t0, t1⟩ := next_is hb
      rw [e1] at e1'
      obtain ⟨rfl, -⟩ := List.cons.inj e1'
      have hw := nw_bd hB
      have hi : In64 (d.tm - s.nw) := by constructor <;> omega
      have hj : In64 (d.tm - s.nw - 1) := by constructor <;> omega
      have h3 := ac_ptick (n := max (nextT s - s.nw) 0) h (by constructor <;> omega)
      have h4 := ac_ptick (n := max (nextT s - s.nw - 1) 0) h (by constructor <;> omega)
      rw [p1, e3, e2] at h3
      rw [hb, e2] at h1
      rw [e1] at h2
      rw [e2] at p3 h4
      by_cases h5 : d.tm ≤ s.nw
      · exact tk5_now hF h1 h2 hi hj h3 h4 h5
      · rw [p3.resolve_left h5] at h4
        exact tk5_then hF h1 h2 hi hj h3 h4 h5
theorem tickNext_walk (s : St) (sz : Pz) (hs : s.ok) (w : World) (hss : StAt w s sz) :
    Calls Tryz.prog 7 #[.agg (s.cells sz).toArray] w fun e w' => e = .returned (.bool true) ∧ Kept w w' := by
  refine law_of (ac_tickNext (s := s) hs) (cells_at.2 ?_)
  exact ⟨_, _, rfl, st_free hss, rfl⟩
set_option maxRecDepth 100000 in
theorem tickNext_lifted (os : Os) (started : os.Started) (H : Type) (enc : TypeId × Value → H) :
    ReturnsInHanded {} Tryz.checked os 7 .any (Rows.tickNextSpec.pre6 enc Tryz.prog Tryz.f7 Rows.tickNextRow.domain false) (Rows.tickNextSpec.post enc Tryz.prog Tryz.f7 false true false false) := by
  refine returnsInHanded_of_change (C := Tryz.checked) own started (by kernel_rfl) Tryz.func7
    (ChangeSpec.witness6 (enc := enc) (C := Tryz.checked) false ⟨#[], #[.agg St.zero.toArray], []⟩ 8 (by kernel_rfl) (by kernel_rfl) (by kernel_rfl) (by kernel_rfl)) ?_
  intro W base args ds gs before hval0 hW hcnd _
  have hval : ∀ (j : Nat) t v, Tryz.f7.params[j]? = some t → args[j]? = some v → Value.okWide Tryz.prog W .any base t v := hval0
  have hW' := hW
  obtain ⟨p, q, hA0, hV, rfl, hfz, hnd⟩ := hW
  have hA : DataW.TrodAll enc Tryz.prog W 0 (fun _ => true) true Tryz.f7.params.toList args.toList ds p := hA0
  rw [Tryz.params7] at hA hval
  obtain ⟨v0, vs0, d0, ds0, p0, q0, hargs, rfl, rfl, h0, r0⟩ := trodAll_cons hA
  obtain ⟨rfl, rfl, rfl⟩ := trodAll_nil r0
  obtain rfl : args = #[v0] := by cases args; simp_all
  obtain ⟨rfl, rfl⟩ := trodVars_none hV
  obtain ⟨scs, rfl, srd⟩ := open_struct (g := 9) (l := St.shape) Tryz.underlying33 (by kernel_rfl) (hval 0 33 v0 rfl rfl) h0
  obtain ⟨s, sz, rfl, ssl, sok⟩ := St.of_read srd
  clear hA0 hval0
  refine (tickNext_walk s sz sok W ssl).mono fun e W' ⟨he, hg⟩ => ?_
  subst he
  exact ⟨_, rfl, law_post laid hW' rfl (by kernel_rfl) rfl Tryz.underlying4 rfl hg⟩

/-- The statement, whole. -/
theorem tickNext_holds : Rows.TickNextSaid :=
  OpenClaim.holds_of_wide 7 Tryz.f7 rfl rfl rfl rfl rfl rfl rfl ⟨rfl, rfl, rfl, rfl, rfl⟩ rfl rfl rfl rfl rfl (by kernel_rfl) Tryz.func7 (by kernel_rfl)
    (of_decide_eq_true (by kernel_rfl)) (by unfold Func.isWrapper; rw [if_neg (of_decide_eq_false (by kernel_rfl))]; exact ⟨rfl, rfl⟩)
    (fun os started H enc _ => tickNext_lifted os started H enc)
end Go.Proofs.YtfhjllchbgclaaaGreat
