/- TurnFair holds for every input: no conditions. -/
import Derived.Test.YtlmiedgpibollaaTurn6
namespace Go.Proofs.Ytlmiedgpibollaa
set_option linter.unusedVariables false
set_option linter.unusedSimpArgs false
open Go.ChangeShapes Go.WideShapes Go.ChangeAt Go.RowKit

theorem wid_snoc (l : List Int) (x : Int) : ∀ who : List Int, widO l (who ++ [x]) = max (widO l who) (gapO l x)
  | [] => by simp [widO]
  | y :: who => by simp only [List.cons_append, widO, wid_snoc l x who]; omega
theorem fair_snoc {l who : List Int} {j : Nat} (hj : j < who.length) (win : Int) : fairB l (who.take (j + 1)) win = (fairB l (who.take j) win && decide ((gapO l who[j] : Int) < win)) := by
  unfold fairB
  rw [List.take_succ_eq_append_getElem hj, wid_snoc]
  by_cases h1 : 1 ≤ win
  · rw [decide_eq_true h1, Bool.true_and, Bool.true_and]
    by_cases h2 : (widO l (who.take j) : Int) < win
    · rw [decide_eq_true h2, Bool.true_and]
      by_cases h3 : (gapO l who[j] : Int) < win
      · rw [decide_eq_true h3, decide_eq_true (by omega)]
      · rw [decide_eq_false h3, decide_eq_false (by omega)]
    · rw [decide_eq_false h2, Bool.false_and, decide_eq_false (by omega)]
  · rw [decide_eq_false h1]; simp
theorem fair_none (l : List Int) (win : Int) : fairB l [] win = decide (1 ≤ win) := by
  unfold fairB
  by_cases h1 : 1 ≤ win
  · rw [decide_eq_true h1, Bool.true_and]; exact decide_eq_true (by simp [widO]; omega)
  · rw [decide_eq_false h1]; rfl
theorem fair_wide {l who : List Int} {win wide : Int} (h : fairB l who win = true) (hw : win ≤ wide) : fairB l who wide = true := by
  rw [fair_iff] at h ⊢
  exact ⟨by omega, fun x hx => by have := h.2 x hx; omega⟩

set_option maxRecDepth 100000 in
set_option maxHeartbeats 1000000 in
theorem turnFair_walk (picks : List Int) (picksv : Value) (hpicks : ∀ x ∈ picks, In64 x) (hpicksm : picks.length ≤ maxLen) (who : List Int) (whov : Value) (hwho : ∀ x ∈ who, In64 x) (hwhom : who.length ≤ maxLen) (window : Int) (hwindow : In64 window) (more : Int) (hmore : 0 ≤ more ∧ more ≤ 255) (w : World) (hpickss : Sl w 1 intC picks picksv) (hwhos : Sl w 1 intC who whov) :
    Calls Try.prog 4 #[picksv, whov, .int .i64 window, .int .u8 more] w fun e w' => e = .returned (.bool true) ∧ Kept w w' := by
  obtain ⟨p, k, rfl, -⟩ := hpickss.is
  obtain ⟨q, kw, rfl, -, -, -, hne⟩ := hwhos.is
  have H : Hid (Sl w 1 intC picks (.slice p picks.length k)) := Lib.hid hpickss
  have HW : Hid (Sl w 1 intC who (.slice q who.length kw)) := Lib.hid hwhos
  have HNE := Lib.hid hne
  obtain ⟨N, hN⟩ : ∃ N, picks.length = N := ⟨_, rfl⟩
  obtain ⟨M, hM⟩ : ∃ M, who.length = M := ⟨_, rfl⟩
  have HN := Lib.hid (And.intro hN hM)
  rw [hN, hM]
  rw [hN] at hpicksm
  rw [hM] at hwhom
  clear hpickss hwhos hpicks hwho hN hM hne
  rcases Nat.lt_or_ge 100 N with h1 | h1
  · ((have hlen' : (100 : Int) < (N : Int) := by omega); clear h1; go_enter Try.func4, Try.ntmps4; go_wp2_with fail; refine (turnawake_any _).mono ?_; rintro e w1 ⟨rfl, hg1⟩; go_wp2; all_goals (go_ret; exact ⟨rfl, by repeat' (first | (with_reducible exact Below.refl _ _) | (with_reducible assumption) | (with_reducible refine kept_alloc ?_ _) | (with_reducible refine kept_drewN ?_ _) | (with_reducible refine Below.drew ?_) | (with_reducible refine Below.setCell ?_ (by first | omega | (simp; omega) | (simp; done)) _) | (refine kept_trans ?_ (by with_reducible assumption)))⟩))
  rcases Nat.lt_or_ge 100 M with h2 | h2
  · ((have hlen' : (100 : Int) < (M : Int) := by omega); (have g1 : ¬ (100 : Int) < (N : Int) := by omega); clear h2; go_enter Try.func4, Try.ntmps4; go_wp2_with fail; refine (turnawake_any _).mono ?_; rintro e w1 ⟨rfl, hg1⟩; go_wp2; all_goals (go_ret; exact ⟨rfl, by repeat' (first | (with_reducible exact Below.refl _ _) | (with_reducible assumption) | (with_reducible refine kept_alloc ?_ _) | (with_reducible refine kept_drewN ?_ _) | (with_reducible refine Below.drew ?_) | (with_reducible refine Below.setCell ?_ (by first | omega | (simp; omega) | (simp; done)) _) | (refine kept_trans ?_ (by with_reducible assumption)))⟩))
  have g1 : ¬ (100 : Int) < (N : Int) := by omega
  have g2 : ¬ (100 : Int) < (M : Int) := by omega
  obtain ⟨F, hF⟩ : ∃ F, fairB picks who window = F := ⟨_, rfl⟩
  have HF := Lib.hid hF
  obtain ⟨B0, hB0⟩ : ∃ B0, decide (1 ≤ window) = B0 := ⟨_, rfl⟩
  have HB0 : Hid (B0 = fairB picks [] window) := Lib.hid (by rw [fair_none, hB0])
  clear hF
  go_enter Try.func4, Try.ntmps4; go_wp2_with fail; refine (turnawake_any _).mono ?_; rintro e w1 ⟨rfl, hg1⟩
  go_wp2_with fail
  refine (tfair_val HN.out.1 HN.out.2 HF.out hwindow p q k kw _ (H.out.kept (by repeat' (first | (with_reducible exact Below.refl _ _) | (with_reducible assumption) | (with_reducible refine kept_alloc ?_ _) | (with_reducible refine kept_drewN ?_ _) | (with_reducible refine Below.drew ?_) | (with_reducible refine Below.setCell ?_ (by first | omega | (simp; omega) | (simp; done)) _) | (refine kept_trans ?_ (by with_reducible assumption))))) (HW.out.kept (by repeat' (first | (with_reducible exact Below.refl _ _) | (with_reducible assumption) | (with_reducible refine kept_alloc ?_ _) | (with_reducible refine kept_drewN ?_ _) | (with_reducible refine Below.drew ?_) | (with_reducible refine Below.setCell ?_ (by first | omega | (simp; omega) | (simp; done)) _) | (refine kept_trans ?_ (by with_reducible assumption)))))).mono ?_
  rintro e w2 ⟨rfl, hg2⟩
  go_wp2
  clear hB0
  have hB2 : Below w.heap.size w w2 := by repeat' (first | (with_reducible exact Below.refl _ _) | (with_reducible assumption) | (with_reducible refine kept_alloc ?_ _) | (with_reducible refine kept_drewN ?_ _) | (with_reducible refine Below.drew ?_) | (with_reducible refine Below.setCell ?_ (by first | omega | (simp; omega) | (simp; done)) _) | (refine kept_trans ?_ (by with_reducible assumption)))
  have HB2 := Lib.hid hB2
  clear hB2 hg1 hg2
  go_loopw [11, 12] (fun s11 s12 wr => ∃ j : Nat, j ≤ M ∧ s12 = .int .i64 j ∧ s11 = .bool (fairB picks (who.take j) window) ∧ Below w.heap.size w wr) (fun _ s12 _ => M - (intOf s12).toNat)
  case atStart => exact ⟨0, by omega, rfl, by rw [HB0.out, List.take_zero], HB2.out⟩
  case round =>
    obtain ⟨j, hj, rfl, rfl, hB⟩ := hrel
    clear HB0 HB2
    have HB := Lib.hid hB
    clear hB
    by_cases hlt : j < M
    · have hlt' : j < who.length := by rw [HN.out.2]; exact hlt
      obtain ⟨b, o, rfl, hb, -⟩ := HNE.out (by intro h; subst h; simp at hlt')
      have c1 := (HB.out.cell (p := ⟨b, o + j, none⟩) hb).trans (sl_int HW.out hlt')
      have hbw : b < wr.heap.size := Nat.lt_of_lt_of_le hb HB.out.size
      have i1 : (0 : Int) ≤ (j : Int) := by omega
      have i2 : (j : Int) < (M : Int) := by omega
      have hnx := fair_snoc (l := picks) hlt' window
      have hgl := gap_len picks who[j]
      rw [HN.out.1] at hgl
      generalize who[j] = y at *
      obtain ⟨G, hG⟩ : ∃ G, gapO picks y = G := ⟨_, rfl⟩
      rw [hG] at hnx hgl
      obtain ⟨B, hBB⟩ : ∃ B, fairB picks (who.take j) window = B := ⟨_, rfl⟩
      rw [hBB] at hnx ⊢
      clear hBB
      cases B
      · rw [Bool.false_and] at hnx
        have HX := Lib.hid hnx
        clear hnx hG
        go_wp2
        exact ⟨⟨j + 1, by omega, by go_num, by rw [HX.out], HB.out⟩, by simp [intOf]; omega⟩
      · rw [Bool.true_and] at hnx
        by_cases hwn : (N : Int) < window
        · rw [decide_eq_true (by omega)] at hnx
          have HX := Lib.hid hnx
          clear hnx hG
          go_wp2
          exact ⟨⟨j + 1, by omega, by go_num, by rw [HX.out], HB.out⟩, by simp [intOf]; omega⟩
        · obtain ⟨D, hD⟩ : ∃ D, decide ((G : Int) < window) = D := ⟨_, rfl⟩
          rw [hD] at hnx
          have HX := Lib.hid (And.intro hnx hG)
          clear hnx hG
          go_wp2_with fail
          refine (tgap_val HN.out.1 HX.out.2 p k _ (H.out.kept HB.out)).mono ?_
          rintro e w3 ⟨rfl, hg3⟩
          go_wp2
          exact ⟨⟨j + 1, by omega, by go_num, by rw [HX.out.1], kept_trans HB.out hg3⟩, by simp [intOf]; omega⟩
    · have : j = M := by omega
      subst this
      have ht : who.take j = who := by rw [← HN.out.2, List.take_length]
      rw [ht, HF.out]
      clear ht
      cases F
      · go_wp2
        all_goals (go_ret; exact ⟨rfl, HB.out⟩)
      · have bb : (true == true) = true := rfl
        by_cases hbig : window < 4611686018427387904
        · have hw1 : IntKind.i64.wrap (window + more) = window + more := IntWalk.i64_in _ (by unfold In64 at hwindow; omega)
          have hf2 := fair_wide HF.out (show window ≤ window + more by omega)
          have HG := Lib.hid hf2
          have h64 : In64 (window + more) := by unfold In64 at *; omega
          clear hf2
          go_wp2_with fail
          refine (tfair_val HN.out.1 HN.out.2 HG.out h64 p q k kw _ (H.out.kept HB.out) (HW.out.kept HB.out)).mono ?_
          rintro e w3 ⟨rfl, hg3⟩
          go_wp2
          all_goals (go_ret; exact ⟨rfl, kept_trans HB.out hg3⟩)
        · go_wp2_with fail
          refine (tfair_val HN.out.1 HN.out.2 HF.out hwindow p q k kw _ (H.out.kept HB.out) (HW.out.kept HB.out)).mono ?_
          rintro e w3 ⟨rfl, hg3⟩
          go_wp2
          all_goals (go_ret; exact ⟨rfl, kept_trans HB.out hg3⟩)
set_option maxRecDepth 100000 in
theorem turnFair_lifted (os : Os) (started : os.Started) (H : Type) (enc : TypeId × Value → H) :
    ReturnsInHanded {} Try.checked os 4 .any (Rows.turnFairSpec.pre6 enc Try.prog Try.f4 Rows.turnFairRow.domain false) (Rows.turnFairSpec.post enc Try.prog Try.f4 false true false false) := by
  refine returnsInHanded_of_change (C := Try.checked) own started (by kernel_rfl) Try.func4
    (ChangeSpec.witness6 (enc := enc) (C := Try.checked) false ⟨#[], #[.slice none 0 0, .slice none 0 0, .int .i64 0, .int .u8 0], []⟩ 8 (by kernel_rfl) (by kernel_rfl) (by kernel_rfl) (by kernel_rfl)) ?_
  intro W base args ds gs before hval0 hW hcnd _
  have hval : ∀ (j : Nat) t v, Try.f4.params[j]? = some t → args[j]? = some v → Value.okWide Try.prog W .any base t v := hval0
  have hW' := hW
  obtain ⟨p, q, hA0, hV, rfl, hfz, hnd⟩ := hW
  have hA : DataW.TrodAll enc Try.prog W 0 (fun _ => true) true Try.f4.params.toList args.toList ds p := hA0
  rw [Try.params4] at hA hval
  obtain ⟨v0, vs0, d0, ds0, p0, q0, hargs, rfl, rfl, h0, r0⟩ := trodAll_cons hA
  obtain ⟨v1, vs1, d1, ds1, p1, q1, rfl, rfl, rfl, h1, r1⟩ := trodAll_cons r0
  obtain ⟨v2, vs2, d2, ds2, p2, q2, rfl, rfl, rfl, h2, r2⟩ := trodAll_cons r1
  obtain ⟨v3, vs3, d3, ds3, p3, q3, rfl, rfl, rfl, h3, r3⟩ := trodAll_cons r2
  obtain ⟨rfl, rfl, rfl⟩ := trodAll_nil r3
  obtain rfl : args = #[v0, v1, v2, v3] := by cases args; simp_all
  obtain ⟨rfl, rfl⟩ := trodVars_none hV
  obtain ⟨picks, pickssl, picksok, picksml⟩ := Sl.of_read intC In64 (by decide) (open_row (g := 9) (l := intShape) Try.underlying22 (by kernel_rfl) (hval 0 22 v0 rfl rfl) h0) (fun vs h => int_of_read h)
  obtain ⟨who, whosl, whook, whoml⟩ := Sl.of_read intC In64 (by decide) (open_row (g := 9) (l := intShape) Try.underlying22 (by kernel_rfl) (hval 1 22 v1 rfl rfl) h1) (fun vs h => int_of_read h)
  obtain ⟨window, rfl, rfl, rfl, wf2⟩ := open_int Try.underlying3 (hval 2 3 v2 rfl rfl) h2
  obtain ⟨more, rfl, rfl, rfl, wf3⟩ := open_int Try.underlying5 (hval 3 5 v3 rfl rfl) h3
  clear hA0 hval0
  refine (turnFair_walk picks v0 picksok picksml who v1 whook whoml window (in64_of_wf wf2) more (bounds_u8 wf3) W pickssl whosl).mono fun e W' ⟨he, hg⟩ => ?_
  subst he
  exact ⟨_, rfl, law_post laid hW' rfl (by kernel_rfl) rfl Try.underlying4 rfl hg⟩

/-- The statement, whole. -/
theorem turnFair_holds : Rows.TurnFairSaid :=
  OpenClaim.holds_of_wide 4 Try.f4 rfl rfl rfl rfl rfl rfl rfl ⟨rfl, rfl, rfl, rfl, rfl⟩ rfl rfl rfl rfl rfl (by kernel_rfl) Try.func4 (by kernel_rfl)
    (of_decide_eq_true (by kernel_rfl)) (by unfold Func.isWrapper; rw [if_neg (of_decide_eq_false (by kernel_rfl))]; exact ⟨rfl, rfl⟩)
    (fun os started H enc _ => turnFair_lifted os started H enc)
end Go.Proofs.Ytlmiedgpibollaa
