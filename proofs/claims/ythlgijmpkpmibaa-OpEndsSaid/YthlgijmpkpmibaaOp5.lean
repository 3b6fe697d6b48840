/- Layer 11: OpEnds holds for every input. -/
import Derived.Test.YthlgijmpkpmibaaOpM
namespace Go.Proofs.Ythlgijmpkpmibaa
set_option linter.unusedVariables false
set_option linter.unusedSimpArgs false
open Go.ChangeShapes Go.WideShapes Go.ChangeAt Go.RowKit
theorem ends_range {k r : Int} (h : opEnds k r = true) : 1 ≤ r ∧ r ≤ 7 := by
  unfold opEnds at h
  (repeat' split at h) <;> first | omega | (simp at h)
set_option maxHeartbeats 2000000 in
theorem opEnds_walk (k : Int) (hk : In64 k) (r : Int) (hr : In64 r) (w : World) :
    Calls Try.prog 7 #[.int .i64 k, .int .i64 r] w fun e w' => e = .returned (.bool true) ∧ Kept w w' := by
  have h1 : opEnds k 1 = opB k := rfl
  have h0 : opEnds k 0 = false := rfl
  have h5 : opEnds k 5 = opTimed k := rfl
  have h7 : opEnds k 6 = opEnds k 7 := rfl
  obtain ⟨u, hu⟩ : ∃ u, opEnds k 7 = u := ⟨_, rfl⟩
  rw [hu] at h7
  cases e1 : opEnds k r
  all_goals
    first
      | (have er := ends_range e1; obtain ⟨er1, er2⟩ := er)
      | skip
    cases e2 : opB k <;> cases e3 : opTimed k <;> cases u
    all_goals
      rw [e2] at h1
      rw [e3] at h5
      go_enter Try.func7, Try.ntmps7
      go_wp2_with (first | (go_at_call 8; refine (opawake_any _).mono ?_; rintro e wx ⟨rfl, hgx⟩) | (go_at_call 9; refine (ocheck_any _ _).mono ?_; rintro e wx ⟨rfl, hgx⟩) | (go_at_call 13; refine (otimed_any _ _).mono ?_; rintro e wx ⟨rfl, hgx⟩) | (go_at_call 19; refine (oends_any _ _ _).mono ?_; rintro e wx ⟨rfl, hgx⟩))
      all_goals (go_ret; exact ⟨rfl, by repeat' (first | (with_reducible exact Below.refl _ _) | (with_reducible assumption) | (with_reducible refine kept_alloc ?_ _) | (with_reducible refine kept_drewN ?_ _) | (with_reducible refine Below.drew ?_) | (with_reducible refine Below.setCell ?_ (by first | omega | (simp; omega) | (simp; done)) _) | (refine kept_trans ?_ (by with_reducible assumption)))⟩)
set_option maxRecDepth 100000 in
theorem opEnds_lifted (os : Os) (started : os.Started) (H : Type) (enc : TypeId × Value → H) :
    ReturnsInHanded {} Try.checked os 7 .any (Rows.opEndsSpec.pre6 enc Try.prog Try.f7 Rows.opEndsRow.domain false) (Rows.opEndsSpec.post enc Try.prog Try.f7 false true false false) := by
  refine returnsInHanded_of_change (C := Try.checked) own started (by kernel_rfl) Try.func7
    (ChangeSpec.witness6 (enc := enc) (C := Try.checked) false ⟨#[], #[.int .i64 0, .int .i64 0], []⟩ 8 (by kernel_rfl) (by kernel_rfl) (by kernel_rfl) (by kernel_rfl)) ?_
  intro W base args ds gs before hval0 hW hcnd _
  have hval : ∀ (j : Nat) t v, Try.f7.params[j]? = some t → args[j]? = some v → Value.okWide Try.prog W .any base t v := hval0
  have hW' := hW
  obtain ⟨p, q, hA0, hV, rfl, hfz, hnd⟩ := hW
  have hA : DataW.TrodAll enc Try.prog W 0 (fun _ => true) true Try.f7.params.toList args.toList ds p := hA0
  rw [Try.params7] at hA hval
  obtain ⟨v0, vs0, d0, ds0, p0, q0, hargs, rfl, rfl, h0, r0⟩ := trodAll_cons hA
  obtain ⟨v1, vs1, d1, ds1, p1, q1, rfl, rfl, rfl, h1, r1⟩ := trodAll_cons r0
  obtain ⟨rfl, rfl, rfl⟩ := trodAll_nil r1
  obtain rfl : args = #[v0, v1] := by cases args; simp_all
  obtain ⟨rfl, rfl⟩ := trodVars_none hV
  obtain ⟨k, rfl, rfl, rfl, wf0⟩ := open_int Try.underlying3 (hval 0 3 v0 rfl rfl) h0
  obtain ⟨r, rfl, rfl, rfl, wf1⟩ := open_int Try.underlying3 (hval 1 3 v1 rfl rfl) h1
  clear hA0 hval0
  refine (opEnds_walk k (in64_of_wf wf0) r (in64_of_wf wf1) W).mono fun e W' ⟨he, hg⟩ => ?_
  subst he
  exact ⟨_, rfl, law_post laid hW' rfl (by kernel_rfl) rfl Try.underlying4 rfl hg⟩

/-- The statement, whole. -/
theorem opEnds_holds : Rows.OpEndsSaid :=
  OpenClaim.holds_of_wide 7 Try.f7 rfl rfl rfl rfl rfl rfl rfl ⟨rfl, rfl, rfl, rfl, rfl⟩ rfl rfl rfl rfl rfl (by kernel_rfl) Try.func7 (by kernel_rfl)
    (of_decide_eq_true (by kernel_rfl)) (by unfold Func.isWrapper; rw [if_neg (of_decide_eq_false (by kernel_rfl))]; exact ⟨rfl, rfl⟩)
    (fun os started H enc _ => opEnds_lifted os started H enc)
end Go.Proofs.Ythlgijmpkpmibaa
