/- Layer 11: OpSides holds for every input. -/
import Derived.Test.YthlgijmpkpmibaaOpM
import Derived.Test.YthlgijmpkpmibaaFifoP
namespace Go.Proofs.Ythlgijmpkpmibaa
set_option linter.unusedVariables false
set_option linter.unusedSimpArgs false
open Go.ChangeShapes Go.WideShapes Go.ChangeAt Go.RowKit
theorem sends_side (k : Int) : sendsB k = (opSide k == 1) := by
  rw [Bool.eq_iff_iff]; simp only [sendsB, Bool.and_eq_true, decide_eq_true_eq, beq_iff_eq]
  have := side_is k; omega
theorem recvs_side (k : Int) : recvsB k = (opSide k == 2) := by
  rw [Bool.eq_iff_iff]; simp only [recvsB, Bool.and_eq_true, decide_eq_true_eq, beq_iff_eq]
  have := side_is k; omega
set_option maxHeartbeats 2000000 in
theorem opSides_walk (k : Int) (hk : In64 k) (w : World) :
    Calls Try.prog 4 #[.int .i64 k] w fun e w' => e = .returned (.bool true) ∧ Kept w w' := by
  have h1 := sends_side k
  have h2 := recvs_side k
  have h3 := opB_side k
  have h4 : (opSide k = 1 ∧ opTimed k = false ∧ opOnce k = false) ∨ (opSide k = 1 ∧ opTimed k = true ∧ opOnce k = false) ∨ (opSide k = 1 ∧ opTimed k = false ∧ opOnce k = true) ∨ (opSide k = 2 ∧ opTimed k = false ∧ opOnce k = false) ∨ (opSide k = 2 ∧ opTimed k = true ∧ opOnce k = false) ∨ (opSide k = 2 ∧ opTimed k = false ∧ opOnce k = true) ∨ (opSide k = 3 ∧ opTimed k = false ∧ opOnce k = false) ∨ (opSide k = 0 ∧ opTimed k = false ∧ opOnce k = false) := by
    have := side_is k
    simp only [opTimed, opOnce, Bool.or_eq_true, Bool.or_eq_false_iff, beq_iff_eq, beq_eq_false_iff_ne]
    omega
  rcases h4 with ⟨hs, t1, t2⟩ | ⟨hs, t1, t2⟩ | ⟨hs, t1, t2⟩ | ⟨hs, t1, t2⟩ | ⟨hs, t1, t2⟩ | ⟨hs, t1, t2⟩ | ⟨hs, t1, t2⟩ | ⟨hs, t1, t2⟩
  all_goals
    rw [hs] at h1 h2 h3
    simp only [Int.reduceBEq, Bool.not_true, Bool.not_false] at h1 h2 h3
    go_enter Try.func4, Try.ntmps4
    go_wp2_with (first | (go_at_call 8; refine (opawake_any _).mono ?_; rintro e wx ⟨rfl, hgx⟩) | (go_at_call 9; refine (ocheck_any _ _).mono ?_; rintro e wx ⟨rfl, hgx⟩) | (go_at_call 11; refine (oside_any _ _).mono ?_; rintro e wx ⟨rfl, hgx⟩) | (go_at_call 13; refine (otimed_any _ _).mono ?_; rintro e wx ⟨rfl, hgx⟩) | (go_at_call 15; refine (oonce_any _ _).mono ?_; rintro e wx ⟨rfl, hgx⟩) | (go_at_call 21; refine (psends_any _ _).mono ?_; rintro e wx ⟨rfl, hgx⟩) | (go_at_call 22; refine (precvs_any _ _).mono ?_; rintro e wx ⟨rfl, hgx⟩))
    all_goals (go_ret; exact ⟨rfl, by repeat' (first | (with_reducible exact Below.refl _ _) | (with_reducible assumption) | (with_reducible refine kept_alloc ?_ _) | (with_reducible refine kept_drewN ?_ _) | (with_reducible refine Below.drew ?_) | (with_reducible refine Below.setCell ?_ (by first | omega | (simp; omega) | (simp; done)) _) | (refine kept_trans ?_ (by with_reducible assumption)))⟩)
set_option maxRecDepth 100000 in
theorem opSides_lifted (os : Os) (started : os.Started) (H : Type) (enc : TypeId × Value → H) :
    ReturnsInHanded {} Try.checked os 4 .any (Rows.opSidesSpec.pre6 enc Try.prog Try.f4 Rows.opSidesRow.domain false) (Rows.opSidesSpec.post enc Try.prog Try.f4 false true false false) := by
  refine returnsInHanded_of_change (C := Try.checked) own started (by kernel_rfl) Try.func4
    (ChangeSpec.witness6 (enc := enc) (C := Try.checked) false ⟨#[], #[.int .i64 0], []⟩ 8 (by kernel_rfl) (by kernel_rfl) (by kernel_rfl) (by kernel_rfl)) ?_
  intro W base args ds gs before hval0 hW hcnd _
  have hval : ∀ (j : Nat) t v, Try.f4.params[j]? = some t → args[j]? = some v → Value.okWide Try.prog W .any base t v := hval0
  have hW' := hW
  obtain ⟨p, q, hA0, hV, rfl, hfz, hnd⟩ := hW
  have hA : DataW.TrodAll enc Try.prog W 0 (fun _ => true) true Try.f4.params.toList args.toList ds p := hA0
  rw [Try.params4] at hA hval
  obtain ⟨v0, vs0, d0, ds0, p0, q0, hargs, rfl, rfl, h0, r0⟩ := trodAll_cons hA
  obtain ⟨rfl, rfl, rfl⟩ := trodAll_nil r0
  obtain rfl : args = #[v0] := by cases args; simp_all
  obtain ⟨rfl, rfl⟩ := trodVars_none hV
  obtain ⟨k, rfl, rfl, rfl, wf0⟩ := open_int Try.underlying3 (hval 0 3 v0 rfl rfl) h0
  clear hA0 hval0
  refine (opSides_walk k (in64_of_wf wf0) W).mono fun e W' ⟨he, hg⟩ => ?_
  subst he
  exact ⟨_, rfl, law_post laid hW' rfl (by kernel_rfl) rfl Try.underlying4 rfl hg⟩

/-- The statement, whole. -/
theorem opSides_holds : Rows.OpSidesSaid :=
  OpenClaim.holds_of_wide 4 Try.f4 rfl rfl rfl rfl rfl rfl rfl ⟨rfl, rfl, rfl, rfl, rfl⟩ rfl rfl rfl rfl rfl (by kernel_rfl) Try.func4 (by kernel_rfl)
    (of_decide_eq_true (by kernel_rfl)) (by unfold Func.isWrapper; rw [if_neg (of_decide_eq_false (by kernel_rfl))]; exact ⟨rfl, rfl⟩)
    (fun os started H enc _ => opSides_lifted os started H enc)
end Go.Proofs.Ythlgijmpkpmibaa
