/- TurnRobin holds for every input: no conditions. -/
import Derived.Test.YtlmiedgpibollaaTurn3
namespace Go.Proofs.Ytlmiedgpibollaa
set_option linter.unusedVariables false
set_option linter.unusedSimpArgs false
open Go.ChangeShapes Go.WideShapes Go.ChangeAt Go.RowKit

theorem rob_facts {n m x : Nat} (hn : 1 ≤ n ∧ n ≤ 16) (hm : 1 ≤ m ∧ m ≤ 1000) (hx : x < n) :
    ctO (rbL n m) x = m ∧ fairB (rbL n m) [(x : Int)] n = true ∧ gapO (rbL n m) x ≤ n - 1 ∧ ctO (rbL n m) n = 0 ∧ (rbL n m).length = n * m := by
  rw [rob_full hn hm]
  have hg := rob_gap hx (n * m)
  refine ⟨rob_count hx m, ?_, by omega, rob_none (by omega), rob_len _ _⟩
  rw [least_fair hn.1, wid_one]
  exact decide_eq_true hg

set_option maxRecDepth 100000 in
set_option maxHeartbeats 4000000 in
theorem turnRobin_walk (threads : Int) (hthreads : 0 ≤ threads ∧ threads ≤ 255) (rounds : Int) (hrounds : 0 ≤ rounds ∧ rounds ≤ 255) (who : Int) (hwho : 0 ≤ who ∧ who ≤ 255) (w : World) :
    Calls Try.prog 6 #[.int .u8 threads, .int .u8 rounds, .int .u8 who] w fun e w' => e = .returned (.bool true) ∧ Kept w w' := by
  obtain ⟨n, hn⟩ : ∃ n : Nat, 1 + threads % 16 = (n : Int) := ⟨(1 + threads % 16).toNat, by omega⟩
  obtain ⟨m, hm⟩ : ∃ m : Nat, 1 + rounds % 30 = (m : Int) := ⟨(1 + rounds % 30).toNat, by omega⟩
  have hn1 : 1 ≤ n ∧ n ≤ 16 := by omega
  have hm1 : 1 ≤ m ∧ m ≤ 30 := by omega
  obtain ⟨x, hx⟩ : ∃ x : Nat, who % (n : Int) = (x : Int) := ⟨(who % (n : Int)).toNat, by have := Int.emod_nonneg who (show (n : Int) ≠ 0 by omega); omega⟩
  have hxn : x < n := by have := Int.emod_lt_of_pos who (show (0 : Int) < (n : Int) by omega); omega
  obtain ⟨f1, f2, f3, f4, f5⟩ := rob_facts hn1 (show 1 ≤ m ∧ m ≤ 1000 by omega) hxn
  obtain ⟨L, hL⟩ : ∃ L, rbL n m = L := ⟨_, rfl⟩
  rw [hL] at f1 f2 f3 f4 f5
  obtain ⟨G, hG⟩ : ∃ G, gapO L x = G := ⟨_, rfl⟩
  rw [hG] at f3
  obtain ⟨T, hT⟩ : ∃ T, n * m = T := ⟨_, rfl⟩
  have hTb : T ≤ 16000 := by rw [← hT]; exact Nat.mul_le_mul hn1.2 (show m ≤ 1000 by omega)
  have hwr : IntKind.i64.wrap ((n : Int) * (m : Int)) = (T : Int) := by rw [show (n : Int) * (m : Int) = (T : Int) by rw [← hT]; simp]; exact IntWalk.i64_in _ (by omega)
  rw [hT] at f5
  have HF := Lib.hid (And.intro f1 (And.intro f2 (And.intro hG (And.intro f4 (And.intro f5 hL)))))
  have hw1 : IntKind.i64.wrap ((n : Int) - 1) = (n : Int) - 1 := IntWalk.i64_in _ (by omega)
  have d1 : (G : Int) ≤ (n : Int) - 1 := by omega
  have d2 : ((m : Int) == (m : Int)) = true := by simp
  have d3 : ((T : Int) == (T : Int)) = true := by simp
  have hn64 : In64 (n : Int) := by unfold In64; omega
  have hm64 : In64 (m : Int) := by unfold In64; omega
  have HNM := Lib.hid (And.intro hn (And.intro hm hx))
  have nz : (0 : Int) < (n : Int) := by omega
  have nz2 : ¬ (n : Int) = 0 := by omega
  clear hn hm hx f1 f2 f3 f4 f5 hL hG hT
  go_enter Try.func6, Try.ntmps6; go_wp2_with fail; refine (turnawake_any _).mono ?_; rintro e w1 ⟨rfl, hg1⟩
  go_wp2_with fail
  rw [HNM.out.1, HNM.out.2.1]
  refine (trobin_val HF.out.2.2.2.2.2 hn64 hm64 _).mono ?_
  rintro e w2 ⟨p, k, rfl, hO, hg2⟩
  have HO := Lib.hid (Ow.sl intEnc hO)
  rw [HF.out.2.2.2.2.1]
  clear hO
  go_wp2_with fail
  rw [HNM.out.2.2]
  refine (tcount_val HF.out.2.2.2.2.1 HF.out.1 p k _ (HO.out.kept (by repeat' (first | (with_reducible exact Below.refl _ _) | (with_reducible assumption) | (with_reducible refine kept_alloc ?_ _) | (with_reducible refine kept_drewN ?_ _) | (with_reducible refine Below.drew ?_) | (with_reducible refine Below.setCell ?_ (by first | omega | (simp; omega) | (simp; done)) _) | (refine kept_trans ?_ (by with_reducible assumption)))))).mono ?_
  rintro e w3 ⟨rfl, hg3⟩
  go_wp2_with fail
  refine (tfair_val HF.out.2.2.2.2.1 (rfl : [(x : Int)].length = 1) HF.out.2.1 hn64 p _ k 1 _ (HO.out.kept (by repeat' (first | (with_reducible exact Below.refl _ _) | (with_reducible assumption) | (with_reducible refine kept_alloc ?_ _) | (with_reducible refine kept_drewN ?_ _) | (with_reducible refine Below.drew ?_) | (with_reducible refine Below.setCell ?_ (by first | omega | (simp; omega) | (simp; done)) _) | (refine kept_trans ?_ (by with_reducible assumption))))) (sl_one _ (x : Int) (by first | rfl | simp))).mono ?_
  rintro e w4 ⟨rfl, hg4⟩
  go_wp2_with fail
  refine (tgap_val HF.out.2.2.2.2.1 HF.out.2.2.1 p k _ (HO.out.kept (by repeat' (first | (with_reducible exact Below.refl _ _) | (with_reducible assumption) | (with_reducible refine kept_alloc ?_ _) | (with_reducible refine kept_drewN ?_ _) | (with_reducible refine Below.drew ?_) | (with_reducible refine Below.setCell ?_ (by first | omega | (simp; omega) | (simp; done)) _) | (refine kept_trans ?_ (by with_reducible assumption)))))).mono ?_
  rintro e w5 ⟨rfl, hg5⟩
  go_wp2_with fail
  refine (tcount_val HF.out.2.2.2.2.1 HF.out.2.2.2.1 p k _ (HO.out.kept (by repeat' (first | (with_reducible exact Below.refl _ _) | (with_reducible assumption) | (with_reducible refine kept_alloc ?_ _) | (with_reducible refine kept_drewN ?_ _) | (with_reducible refine Below.drew ?_) | (with_reducible refine Below.setCell ?_ (by first | omega | (simp; omega) | (simp; done)) _) | (refine kept_trans ?_ (by with_reducible assumption)))))).mono ?_
  rintro e w6 ⟨rfl, hg6⟩
  go_wp2
  all_goals (go_ret; exact ⟨rfl, by repeat' (first | (with_reducible exact Below.refl _ _) | (with_reducible assumption) | (with_reducible refine kept_alloc ?_ _) | (with_reducible refine kept_drewN ?_ _) | (with_reducible refine Below.drew ?_) | (with_reducible refine Below.setCell ?_ (by first | omega | (simp; omega) | (simp; done)) _) | (refine kept_trans ?_ (by with_reducible assumption)))⟩)
set_option maxRecDepth 100000 in
theorem turnRobin_lifted (os : Os) (started : os.Started) (H : Type) (enc : TypeId × Value → H) :
    ReturnsInHanded {} Try.checked os 6 .any (Rows.turnRobinSpec.pre6 enc Try.prog Try.f6 Rows.turnRobinRow.domain false) (Rows.turnRobinSpec.post enc Try.prog Try.f6 false true false false) := by
  refine returnsInHanded_of_change (C := Try.checked) own started (by kernel_rfl) Try.func6
    (ChangeSpec.witness6 (enc := enc) (C := Try.checked) false ⟨#[], #[.int .u8 0, .int .u8 0, .int .u8 0], []⟩ 8 (by kernel_rfl) (by kernel_rfl) (by kernel_rfl) (by kernel_rfl)) ?_
  intro W base args ds gs before hval0 hW hcnd _
  have hval : ∀ (j : Nat) t v, Try.f6.params[j]? = some t → args[j]? = some v → Value.okWide Try.prog W .any base t v := hval0
  have hW' := hW
  obtain ⟨p, q, hA0, hV, rfl, hfz, hnd⟩ := hW
  have hA : DataW.TrodAll enc Try.prog W 0 (fun _ => true) true Try.f6.params.toList args.toList ds p := hA0
  rw [Try.params6] at hA hval
  obtain ⟨v0, vs0, d0, ds0, p0, q0, hargs, rfl, rfl, h0, r0⟩ := trodAll_cons hA
  obtain ⟨v1, vs1, d1, ds1, p1, q1, rfl, rfl, rfl, h1, r1⟩ := trodAll_cons r0
  obtain ⟨v2, vs2, d2, ds2, p2, q2, rfl, rfl, rfl, h2, r2⟩ := trodAll_cons r1
  obtain ⟨rfl, rfl, rfl⟩ := trodAll_nil r2
  obtain rfl : args = #[v0, v1, v2] := by cases args; simp_all
  obtain ⟨rfl, rfl⟩ := trodVars_none hV
  obtain ⟨threads, rfl, rfl, rfl, wf0⟩ := open_int Try.underlying5 (hval 0 5 v0 rfl rfl) h0
  obtain ⟨rounds, rfl, rfl, rfl, wf1⟩ := open_int Try.underlying5 (hval 1 5 v1 rfl rfl) h1
  obtain ⟨who, rfl, rfl, rfl, wf2⟩ := open_int Try.underlying5 (hval 2 5 v2 rfl rfl) h2
  clear hA0 hval0
  refine (turnRobin_walk threads (bounds_u8 wf0) rounds (bounds_u8 wf1) who (bounds_u8 wf2) W).mono fun e W' ⟨he, hg⟩ => ?_
  subst he
  exact ⟨_, rfl, law_post laid hW' rfl (by kernel_rfl) rfl Try.underlying4 rfl hg⟩

/-- The statement, whole. -/
theorem turnRobin_holds : Rows.TurnRobinSaid :=
  OpenClaim.holds_of_wide 6 Try.f6 rfl rfl rfl rfl rfl rfl rfl ⟨rfl, rfl, rfl, rfl, rfl⟩ rfl rfl rfl rfl rfl (by kernel_rfl) Try.func6 (by kernel_rfl)
    (of_decide_eq_true (by kernel_rfl)) (by unfold Func.isWrapper; rw [if_neg (of_decide_eq_false (by kernel_rfl))]; exact ⟨rfl, rfl⟩)
    (fun os started H enc _ => turnRobin_lifted os started H enc)
end Go.Proofs.Ytlmiedgpibollaa
