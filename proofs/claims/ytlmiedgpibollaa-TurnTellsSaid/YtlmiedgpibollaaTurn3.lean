/- TurnLeast holds for every input: no conditions. -/
import Derived.Test.YtlmiedgpibollaaTurnM
namespace Go.Proofs.Ytlmiedgpibollaa
set_option linter.unusedVariables false
set_option linter.unusedSimpArgs false
open Go.ChangeShapes Go.WideShapes Go.ChangeAt Go.RowKit

set_option maxRecDepth 100000 in
set_option maxHeartbeats 4000000 in
theorem turnLeast_walk (picks : List Int) (picksv : Value) (hpicks : ∀ x ∈ picks, In64 x) (hpicksm : picks.length ≤ maxLen) (who : List Int) (whov : Value) (hwho : ∀ x ∈ who, In64 x) (hwhom : who.length ≤ maxLen) (w : World) (hpickss : Sl w 1 intC picks picksv) (hwhos : Sl w 1 intC who whov) :
    Calls Try.prog 5 #[picksv, whov] w fun e w' => e = .returned (.bool true) ∧ Kept w w' := by
  obtain ⟨p, k, rfl, -⟩ := hpickss.is
  obtain ⟨q, kw, rfl, -⟩ := hwhos.is
  have H : Hid (Sl w 1 intC picks (.slice p picks.length k)) := Lib.hid hpickss
  have HW : Hid (Sl w 1 intC who (.slice q who.length kw)) := Lib.hid hwhos
  obtain ⟨N, hN⟩ : ∃ N, picks.length = N := ⟨_, rfl⟩
  obtain ⟨M, hM⟩ : ∃ M, who.length = M := ⟨_, rfl⟩
  have hwl := wid_len picks who
  obtain ⟨W, hWW⟩ : ∃ W, widO picks who = W := ⟨_, rfl⟩
  rw [hN, hWW] at hwl
  have HN := Lib.hid (And.intro hN hM)
  rw [hN, hM]
  have HL : Hid (lstI picks who = (if W = N then (0 : Int) else (W : Int) + 1) ∧ lstB picks who = decide (W ≠ N)) := Lib.hid (by unfold lstI lstB; rw [hN, hWW]; exact ⟨rfl, rfl⟩)
  have HF : Hid (∀ m : Nat, 1 ≤ m → fairB picks who m = decide (W < m)) := Lib.hid (fun m h => by rw [least_fair h, hWW])
  rw [hN] at hpicksm
  rw [hM] at hwhom
  clear hpickss hwhos hpicks hwho hN hM hWW
  by_cases h1 : N ≤ 100
  · by_cases h2 : M ≤ 100
    · have g1 : ¬ (100 : Int) < (N : Int) := by omega
      have g2 : ¬ (100 : Int) < (M : Int) := by omega
      by_cases hd : W = N
      · have hi : lstI picks who = 0 := by rw [HL.out.1, if_pos hd]
        have hb : lstB picks who = false := by rw [HL.out.2]; exact decide_eq_false (by omega)
        have HI := Lib.hid (And.intro hi hb)
        clear hi hb
        by_cases hz : N = 0
        · have b1 : ((N : Int) == 0) = true := by simp [hz]
          clear hz
          go_enter Try.func5, Try.ntmps5; go_wp2_with fail; refine (turnawake_any _).mono ?_; rintro e w1 ⟨rfl, hg1⟩
          go_wp2_with fail
          refine (tleast_val HN.out.1 HN.out.2 HI.out.1 HI.out.2 p q k kw _ (H.out.kept (by repeat' (first | (with_reducible exact Below.refl _ _) | (with_reducible assumption) | (with_reducible refine kept_alloc ?_ _) | (with_reducible refine kept_drewN ?_ _) | (with_reducible refine Below.drew ?_) | (with_reducible refine Below.setCell ?_ (by first | omega | (simp; omega) | (simp; done)) _) | (refine kept_trans ?_ (by with_reducible assumption))))) (HW.out.kept (by repeat' (first | (with_reducible exact Below.refl _ _) | (with_reducible assumption) | (with_reducible refine kept_alloc ?_ _) | (with_reducible refine kept_drewN ?_ _) | (with_reducible refine Below.drew ?_) | (with_reducible refine Below.setCell ?_ (by first | omega | (simp; omega) | (simp; done)) _) | (refine kept_trans ?_ (by with_reducible assumption)))))).mono ?_
          rintro e w2 ⟨rfl, hg2⟩
          go_wp2
          all_goals (go_ret; exact ⟨rfl, by repeat' (first | (with_reducible exact Below.refl _ _) | (with_reducible assumption) | (with_reducible refine kept_alloc ?_ _) | (with_reducible refine kept_drewN ?_ _) | (with_reducible refine Below.drew ?_) | (with_reducible refine Below.setCell ?_ (by first | omega | (simp; omega) | (simp; done)) _) | (refine kept_trans ?_ (by with_reducible assumption)))⟩)
        · have b1 : ((N : Int) == 0) = false := by simp; omega
          have hf : fairB picks who N = false := by rw [HF.out N (by omega)]; exact decide_eq_false (by omega)
          have HX := Lib.hid hf
          have hN64 : In64 (N : Int) := by unfold In64; omega
          clear hz hf
          go_enter Try.func5, Try.ntmps5; go_wp2_with fail; refine (turnawake_any _).mono ?_; rintro e w1 ⟨rfl, hg1⟩
          go_wp2_with fail
          refine (tleast_val HN.out.1 HN.out.2 HI.out.1 HI.out.2 p q k kw _ (H.out.kept (by repeat' (first | (with_reducible exact Below.refl _ _) | (with_reducible assumption) | (with_reducible refine kept_alloc ?_ _) | (with_reducible refine kept_drewN ?_ _) | (with_reducible refine Below.drew ?_) | (with_reducible refine Below.setCell ?_ (by first | omega | (simp; omega) | (simp; done)) _) | (refine kept_trans ?_ (by with_reducible assumption))))) (HW.out.kept (by repeat' (first | (with_reducible exact Below.refl _ _) | (with_reducible assumption) | (with_reducible refine kept_alloc ?_ _) | (with_reducible refine kept_drewN ?_ _) | (with_reducible refine Below.drew ?_) | (with_reducible refine Below.setCell ?_ (by first | omega | (simp; omega) | (simp; done)) _) | (refine kept_trans ?_ (by with_reducible assumption)))))).mono ?_
          rintro e w2 ⟨rfl, hg2⟩
          go_wp2_with fail
          refine (tfair_val HN.out.1 HN.out.2 HX.out hN64 p q k kw _ (H.out.kept (by repeat' (first | (with_reducible exact Below.refl _ _) | (with_reducible assumption) | (with_reducible refine kept_alloc ?_ _) | (with_reducible refine kept_drewN ?_ _) | (with_reducible refine Below.drew ?_) | (with_reducible refine Below.setCell ?_ (by first | omega | (simp; omega) | (simp; done)) _) | (refine kept_trans ?_ (by with_reducible assumption))))) (HW.out.kept (by repeat' (first | (with_reducible exact Below.refl _ _) | (with_reducible assumption) | (with_reducible refine kept_alloc ?_ _) | (with_reducible refine kept_drewN ?_ _) | (with_reducible refine Below.drew ?_) | (with_reducible refine Below.setCell ?_ (by first | omega | (simp; omega) | (simp; done)) _) | (refine kept_trans ?_ (by with_reducible assumption)))))).mono ?_
          rintro e w3 ⟨rfl, hg3⟩
          go_wp2
          all_goals (go_ret; exact ⟨rfl, by repeat' (first | (with_reducible exact Below.refl _ _) | (with_reducible assumption) | (with_reducible refine kept_alloc ?_ _) | (with_reducible refine kept_drewN ?_ _) | (with_reducible refine Below.drew ?_) | (with_reducible refine Below.setCell ?_ (by first | omega | (simp; omega) | (simp; done)) _) | (refine kept_trans ?_ (by with_reducible assumption)))⟩)
      · have hi : lstI picks who = ((W + 1 : Nat) : Int) := by rw [HL.out.1, if_neg hd]; simp
        have hb : lstB picks who = true := by rw [HL.out.2]; exact decide_eq_true hd
        obtain ⟨n, hn⟩ : ∃ n, W + 1 = n := ⟨_, rfl⟩
        rw [hn] at hi
        have hf : fairB picks who n = true := by rw [HF.out n (by omega)]; exact decide_eq_true (by omega)
        have hn64 : In64 (n : Int) := by unfold In64; omega
        have n1 : (1 : Int) ≤ (n : Int) := by omega
        have n2 : (n : Int) ≤ (N : Int) := by omega
        have HI := Lib.hid (And.intro hi (And.intro hb hf))
        clear hi hb hf
        by_cases hz : W = 0
        · have b1 : ((n : Int) == 1) = true := by simp; omega
          have HZ := Lib.hid (And.intro hz hn)
          clear hz hn
          go_enter Try.func5, Try.ntmps5; go_wp2_with fail; refine (turnawake_any _).mono ?_; rintro e w1 ⟨rfl, hg1⟩
          go_wp2_with fail
          refine (tleast_val HN.out.1 HN.out.2 HI.out.1 HI.out.2.1 p q k kw _ (H.out.kept (by repeat' (first | (with_reducible exact Below.refl _ _) | (with_reducible assumption) | (with_reducible refine kept_alloc ?_ _) | (with_reducible refine kept_drewN ?_ _) | (with_reducible refine Below.drew ?_) | (with_reducible refine Below.setCell ?_ (by first | omega | (simp; omega) | (simp; done)) _) | (refine kept_trans ?_ (by with_reducible assumption))))) (HW.out.kept (by repeat' (first | (with_reducible exact Below.refl _ _) | (with_reducible assumption) | (with_reducible refine kept_alloc ?_ _) | (with_reducible refine kept_drewN ?_ _) | (with_reducible refine Below.drew ?_) | (with_reducible refine Below.setCell ?_ (by first | omega | (simp; omega) | (simp; done)) _) | (refine kept_trans ?_ (by with_reducible assumption)))))).mono ?_
          rintro e w2 ⟨rfl, hg2⟩
          go_wp2_with fail
          refine (tfair_val HN.out.1 HN.out.2 HI.out.2.2 hn64 p q k kw _ (H.out.kept (by repeat' (first | (with_reducible exact Below.refl _ _) | (with_reducible assumption) | (with_reducible refine kept_alloc ?_ _) | (with_reducible refine kept_drewN ?_ _) | (with_reducible refine Below.drew ?_) | (with_reducible refine Below.setCell ?_ (by first | omega | (simp; omega) | (simp; done)) _) | (refine kept_trans ?_ (by with_reducible assumption))))) (HW.out.kept (by repeat' (first | (with_reducible exact Below.refl _ _) | (with_reducible assumption) | (with_reducible refine kept_alloc ?_ _) | (with_reducible refine kept_drewN ?_ _) | (with_reducible refine Below.drew ?_) | (with_reducible refine Below.setCell ?_ (by first | omega | (simp; omega) | (simp; done)) _) | (refine kept_trans ?_ (by with_reducible assumption)))))).mono ?_
          rintro e w3 ⟨rfl, hg3⟩
          go_wp2
          all_goals (go_ret; exact ⟨rfl, by repeat' (first | (with_reducible exact Below.refl _ _) | (with_reducible assumption) | (with_reducible refine kept_alloc ?_ _) | (with_reducible refine kept_drewN ?_ _) | (with_reducible refine Below.drew ?_) | (with_reducible refine Below.setCell ?_ (by first | omega | (simp; omega) | (simp; done)) _) | (refine kept_trans ?_ (by with_reducible assumption)))⟩)
        · have b1 : ((n : Int) == 1) = false := by simp; omega
          have hw1 : IntKind.i64.wrap ((n : Int) - 1) = (W : Int) := by rw [show (n : Int) - 1 = (W : Int) by omega]; exact IntWalk.i64_in _ (by omega)
          have hf2 : fairB picks who (W : Int) = false := by rw [HF.out W (by omega)]; exact decide_eq_false (by omega)
          have hW64 : In64 (W : Int) := by unfold In64; omega
          have HZ := Lib.hid (And.intro hz (And.intro hn hf2))
          clear hz hn hf2
          go_enter Try.func5, Try.ntmps5; go_wp2_with fail; refine (turnawake_any _).mono ?_; rintro e w1 ⟨rfl, hg1⟩
          go_wp2_with fail
          refine (tleast_val HN.out.1 HN.out.2 HI.out.1 HI.out.2.1 p q k kw _ (H.out.kept (by repeat' (first | (with_reducible exact Below.refl _ _) | (with_reducible assumption) | (with_reducible refine kept_alloc ?_ _) | (with_reducible refine kept_drewN ?_ _) | (with_reducible refine Below.drew ?_) | (with_reducible refine Below.setCell ?_ (by first | omega | (simp; omega) | (simp; done)) _) | (refine kept_trans ?_ (by with_reducible assumption))))) (HW.out.kept (by repeat' (first | (with_reducible exact Below.refl _ _) | (with_reducible assumption) | (with_reducible refine kept_alloc ?_ _) | (with_reducible refine kept_drewN ?_ _) | (with_reducible refine Below.drew ?_) | (with_reducible refine Below.setCell ?_ (by first | omega | (simp; omega) | (simp; done)) _) | (refine kept_trans ?_ (by with_reducible assumption)))))).mono ?_
          rintro e w2 ⟨rfl, hg2⟩
          go_wp2_with fail
          refine (tfair_val HN.out.1 HN.out.2 HI.out.2.2 hn64 p q k kw _ (H.out.kept (by repeat' (first | (with_reducible exact Below.refl _ _) | (with_reducible assumption) | (with_reducible refine kept_alloc ?_ _) | (with_reducible refine kept_drewN ?_ _) | (with_reducible refine Below.drew ?_) | (with_reducible refine Below.setCell ?_ (by first | omega | (simp; omega) | (simp; done)) _) | (refine kept_trans ?_ (by with_reducible assumption))))) (HW.out.kept (by repeat' (first | (with_reducible exact Below.refl _ _) | (with_reducible assumption) | (with_reducible refine kept_alloc ?_ _) | (with_reducible refine kept_drewN ?_ _) | (with_reducible refine Below.drew ?_) | (with_reducible refine Below.setCell ?_ (by first | omega | (simp; omega) | (simp; done)) _) | (refine kept_trans ?_ (by with_reducible assumption)))))).mono ?_
          rintro e w3 ⟨rfl, hg3⟩
          go_wp2_with fail
          refine (tfair_val HN.out.1 HN.out.2 HZ.out.2.2 hW64 p q k kw _ (H.out.kept (by repeat' (first | (with_reducible exact Below.refl _ _) | (with_reducible assumption) | (with_reducible refine kept_alloc ?_ _) | (with_reducible refine kept_drewN ?_ _) | (with_reducible refine Below.drew ?_) | (with_reducible refine Below.setCell ?_ (by first | omega | (simp; omega) | (simp; done)) _) | (refine kept_trans ?_ (by with_reducible assumption))))) (HW.out.kept (by repeat' (first | (with_reducible exact Below.refl _ _) | (with_reducible assumption) | (with_reducible refine kept_alloc ?_ _) | (with_reducible refine kept_drewN ?_ _) | (with_reducible refine Below.drew ?_) | (with_reducible refine Below.setCell ?_ (by first | omega | (simp; omega) | (simp; done)) _) | (refine kept_trans ?_ (by with_reducible assumption)))))).mono ?_
          rintro e w4 ⟨rfl, hg4⟩
          go_wp2
          all_goals (go_ret; exact ⟨rfl, by repeat' (first | (with_reducible exact Below.refl _ _) | (with_reducible assumption) | (with_reducible refine kept_alloc ?_ _) | (with_reducible refine kept_drewN ?_ _) | (with_reducible refine Below.drew ?_) | (with_reducible refine Below.setCell ?_ (by first | omega | (simp; omega) | (simp; done)) _) | (refine kept_trans ?_ (by with_reducible assumption)))⟩)
    · have hlen' : (100 : Int) < (M : Int) := by omega
      have g1 : ¬ (100 : Int) < (N : Int) := by omega
      clear h2
      go_enter Try.func5, Try.ntmps5; go_wp2_with fail; refine (turnawake_any _).mono ?_; rintro e w1 ⟨rfl, hg1⟩
      go_wp2
      all_goals (go_ret; exact ⟨rfl, by repeat' (first | (with_reducible exact Below.refl _ _) | (with_reducible assumption) | (with_reducible refine kept_alloc ?_ _) | (with_reducible refine kept_drewN ?_ _) | (with_reducible refine Below.drew ?_) | (with_reducible refine Below.setCell ?_ (by first | omega | (simp; omega) | (simp; done)) _) | (refine kept_trans ?_ (by with_reducible assumption)))⟩)
  · have hlen' : (100 : Int) < (N : Int) := by omega
    clear h1
    go_enter Try.func5, Try.ntmps5; go_wp2_with fail; refine (turnawake_any _).mono ?_; rintro e w1 ⟨rfl, hg1⟩
    go_wp2
    all_goals (go_ret; exact ⟨rfl, by repeat' (first | (with_reducible exact Below.refl _ _) | (with_reducible assumption) | (with_reducible refine kept_alloc ?_ _) | (with_reducible refine kept_drewN ?_ _) | (with_reducible refine Below.drew ?_) | (with_reducible refine Below.setCell ?_ (by first | omega | (simp; omega) | (simp; done)) _) | (refine kept_trans ?_ (by with_reducible assumption)))⟩)
set_option maxRecDepth 100000 in
theorem turnLeast_lifted (os : Os) (started : os.Started) (H : Type) (enc : TypeId × Value → H) :
    ReturnsInHanded {} Try.checked os 5 .any (Rows.turnLeastSpec.pre6 enc Try.prog Try.f5 Rows.turnLeastRow.domain false) (Rows.turnLeastSpec.post enc Try.prog Try.f5 false true false false) := by
  refine returnsInHanded_of_change (C := Try.checked) own started (by kernel_rfl) Try.func5
    (ChangeSpec.witness6 (enc := enc) (C := Try.checked) false ⟨#[], #[.slice none 0 0, .slice none 0 0], []⟩ 8 (by kernel_rfl) (by kernel_rfl) (by kernel_rfl) (by kernel_rfl)) ?_
  intro W base args ds gs before hval0 hW hcnd _
  have hval : ∀ (j : Nat) t v, Try.f5.params[j]? = some t → args[j]? = some v → Value.okWide Try.prog W .any base t v := hval0
  have hW' := hW
  obtain ⟨p, q, hA0, hV, rfl, hfz, hnd⟩ := hW
  have hA : DataW.TrodAll enc Try.prog W 0 (fun _ => true) true Try.f5.params.toList args.toList ds p := hA0
  rw [Try.params5] at hA hval
  obtain ⟨v0, vs0, d0, ds0, p0, q0, hargs, rfl, rfl, h0, r0⟩ := trodAll_cons hA
  obtain ⟨v1, vs1, d1, ds1, p1, q1, rfl, rfl, rfl, h1, r1⟩ := trodAll_cons r0
  obtain ⟨rfl, rfl, rfl⟩ := trodAll_nil r1
  obtain rfl : args = #[v0, v1] := by cases args; simp_all
  obtain ⟨rfl, rfl⟩ := trodVars_none hV
  obtain ⟨picks, pickssl, picksok, picksml⟩ := Sl.of_read intC In64 (by decide) (open_row (g := 9) (l := intShape) Try.underlying22 (by kernel_rfl) (hval 0 22 v0 rfl rfl) h0) (fun vs h => int_of_read h)
  obtain ⟨who, whosl, whook, whoml⟩ := Sl.of_read intC In64 (by decide) (open_row (g := 9) (l := intShape) Try.underlying22 (by kernel_rfl) (hval 1 22 v1 rfl rfl) h1) (fun vs h => int_of_read h)
  clear hA0 hval0
  refine (turnLeast_walk picks v0 picksok picksml who v1 whook whoml W pickssl whosl).mono fun e W' ⟨he, hg⟩ => ?_
  subst he
  exact ⟨_, rfl, law_post laid hW' rfl (by kernel_rfl) rfl Try.underlying4 rfl hg⟩

/-- The statement, whole. -/
theorem turnLeast_holds : Rows.TurnLeastSaid :=
  OpenClaim.holds_of_wide 5 Try.f5 rfl rfl rfl rfl rfl rfl rfl ⟨rfl, rfl, rfl, rfl, rfl⟩ rfl rfl rfl rfl rfl (by kernel_rfl) Try.func5 (by kernel_rfl)
    (of_decide_eq_true (by kernel_rfl)) (by unfold Func.isWrapper; rw [if_neg (of_decide_eq_false (by kernel_rfl))]; exact ⟨rfl, rfl⟩)
    (fun os started H enc _ => turnLeast_lifted os started H enc)
end Go.Proofs.Ytlmiedgpibollaa
