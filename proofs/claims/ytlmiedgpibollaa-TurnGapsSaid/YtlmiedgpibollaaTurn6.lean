/- TurnParts holds for every input: no conditions. -/
import Derived.Test.YtlmiedgpibollaaTurn3
namespace Go.Proofs.Ytlmiedgpibollaa
set_option linter.unusedVariables false
set_option linter.unusedSimpArgs false
open Go.ChangeShapes Go.WideShapes Go.ChangeAt Go.RowKit

theorem empty_row (w0 w : World) (hB : Below w0.heap.size w0 w) : Ow (w.alloc (.cells #[] 3)) w0.heap.size 3 1 intC [] (.slice (some ⟨w.heap.size, 0, none⟩) 0 0) :=
  Ow.made (W := w) (base := w0.heap.size) (e := 3) intEnc [] #[] rfl hB.size (by decide) rfl rfl
theorem parts_fair {l : List Int} {x : Int} {m : Nat} (hm : 1 ≤ m) (h : fairB l [x] m = true) : l.length / m ≤ ctO l x := by
  have h1 : gapO l x < m := by have := (fair_iff.1 h).2 x (by simp); omega
  have h2 := gap_count x l 0 h1
  rw [Nat.zero_add] at h2
  have := (Nat.div_lt_iff_lt_mul (show 0 < m by omega)).2 h2
  omega

set_option maxRecDepth 100000 in
set_option maxHeartbeats 1000000 in
theorem turnParts_walk (a : List Int) (av : Value) (ha : ∀ x ∈ a, In64 x) (ham : a.length ≤ maxLen) (b : List Int) (bv : Value) (hb : ∀ x ∈ b, In64 x) (hbm : b.length ≤ maxLen) (who : Int) (hwho : In64 who) (window : Int) (hwindow : In64 window) (w : World) (has : Sl w 1 intC a av) (hbs : Sl w 1 intC b bv) :
    Calls Try.prog 8 #[av, bv, .int .i64 who, .int .i64 window] w fun e w' => e = .returned (.bool true) ∧ Kept w w' := by
  obtain ⟨p, k, rfl, -⟩ := has.is
  obtain ⟨q, kb, rfl, -⟩ := hbs.is
  have H : Hid (Sl w 1 intC a (.slice p a.length k)) := Lib.hid has
  have HB : Hid (Sl w 1 intC b (.slice q b.length kb)) := Lib.hid hbs
  obtain ⟨N, hN⟩ : ∃ N, a.length = N := ⟨_, rfl⟩
  obtain ⟨M, hM⟩ : ∃ M, b.length = M := ⟨_, rfl⟩
  have HN := Lib.hid (And.intro hN hM)
  have HA : Hid (Sl w 1 intC a (.slice p N k)) := Lib.hid (by rw [← hN]; exact has)
  have HC : Hid (Sl w 1 intC b (.slice q M kb)) := Lib.hid (by rw [← hM]; exact hbs)
  rw [hN, hM]
  rw [hN] at ham
  rw [hM] at hbm
  clear has hbs ha hb hN hM
  rcases Nat.lt_or_ge 100 N with h1 | h1
  · ((have hlen' : (100 : Int) < (N : Int) := by omega); clear h1; go_enter Try.func8, Try.ntmps8; go_wp2_with fail; refine (turnawake_any _).mono ?_; rintro e w1 ⟨rfl, hg1⟩; go_wp2; all_goals (go_ret; exact ⟨rfl, by repeat' (first | (with_reducible exact Below.refl _ _) | (with_reducible assumption) | (with_reducible refine kept_alloc ?_ _) | (with_reducible refine kept_drewN ?_ _) | (with_reducible refine Below.drew ?_) | (with_reducible refine Below.setCell ?_ (by first | omega | (simp; omega) | (simp; done)) _) | (refine kept_trans ?_ (by with_reducible assumption)))⟩))
  rcases Nat.lt_or_ge 100 M with h2 | h2
  · ((have hlen' : (100 : Int) < (M : Int) := by omega); (have g1 : ¬ (100 : Int) < (N : Int) := by omega); clear h2; go_enter Try.func8, Try.ntmps8; go_wp2_with fail; refine (turnawake_any _).mono ?_; rintro e w1 ⟨rfl, hg1⟩; go_wp2; all_goals (go_ret; exact ⟨rfl, by repeat' (first | (with_reducible exact Below.refl _ _) | (with_reducible assumption) | (with_reducible refine kept_alloc ?_ _) | (with_reducible refine kept_drewN ?_ _) | (with_reducible refine Below.drew ?_) | (with_reducible refine Below.setCell ?_ (by first | omega | (simp; omega) | (simp; done)) _) | (refine kept_trans ?_ (by with_reducible assumption)))⟩))
  have g1 : ¬ (100 : Int) < (N : Int) := by omega
  have g2 : ¬ (100 : Int) < (M : Int) := by omega
  obtain ⟨T, hT⟩ : ∃ T, (a ++ b).length = T := ⟨_, rfl⟩
  have hTb : T = N + M := by rw [← hT, List.length_append, HN.out.1, HN.out.2]
  obtain ⟨x, hx⟩ : ∃ x, ctO a who = x := ⟨_, rfl⟩
  obtain ⟨y, hy⟩ : ∃ y, ctO b who = y := ⟨_, rfl⟩
  obtain ⟨z, hz⟩ : ∃ z, ctO (a ++ b) who = z := ⟨_, rfl⟩
  have hzz : z = x + y := by rw [← hz, ct_app, hx, hy]
  have hxb := ct_le a who
  have hyb := ct_le b who
  rw [HN.out.1, hx] at hxb
  rw [HN.out.2, hy] at hyb
  obtain ⟨F, hF⟩ : ∃ F, fairB (a ++ b) [who] window = F := ⟨_, rfl⟩
  have HL := Lib.hid (And.intro hT (And.intro hx (And.intro hy (And.intro hz (And.intro hF (show a.length + b.length = T by rw [HN.out.1, HN.out.2, hTb]))))))
  have hw1 : IntKind.i64.wrap ((x : Int) + (y : Int)) = (z : Int) := by rw [show (x : Int) + (y : Int) = (z : Int) by omega]; exact IntWalk.i64_in _ (by omega)
  have b1 : ((z : Int) == (z : Int)) = true := by simp
  have la : a.length ≤ 100 := by rw [HN.out.1]; exact h1
  have lb : b.length ≤ 100 := by rw [HN.out.2]; exact h2
  have HTB := Lib.hid hTb
  have hT200 : T ≤ 200 := by omega
  clear hx hy hz hF hT hzz hTb
  cases F
  · go_enter Try.func8, Try.ntmps8; go_wp2_with fail; refine (turnawake_any _).mono ?_; rintro e w1 ⟨rfl, hg1⟩
    go_wp2_with (first | ((at_builtin; refine wpList_app' (wb := w) rfl _ _ 22 rfl (.int .i64 0) 8 Try.underlying22 int_info rfl (by decide) intEnc rfl rfl (xs := ([] : List Int)) (ys := a) (empty_row w w1 (by assumption)) (HA.out.kept (by repeat' (first | (with_reducible exact Below.refl _ _) | (with_reducible assumption) | (with_reducible refine kept_alloc ?_ _) | (with_reducible refine kept_drewN ?_ _) | (with_reducible refine Below.drew ?_) | (with_reducible refine Below.setCell ?_ (by first | omega | (simp; omega) | (simp; done)) _) | (refine kept_trans ?_ (by with_reducible assumption))))) (by repeat' (first | (with_reducible exact Below.refl _ _) | (with_reducible assumption) | (with_reducible refine kept_alloc ?_ _) | (with_reducible refine kept_drewN ?_ _) | (with_reducible refine Below.drew ?_) | (with_reducible refine Below.setCell ?_ (by first | omega | (simp; omega) | (simp; done)) _) | (refine kept_trans ?_ (by with_reducible assumption)))) (by (try simp only [List.length_append, List.length_nil, List.length_cons]); unfold maxLen; omega) (by (try simp only [List.length_append, List.length_nil, List.length_cons]); omega) ?_); intro v6 w6 h6 hB6; have H6 := Lib.hid (And.intro h6 hB6); clear h6 hB6) | ((at_builtin; refine wpList_app' (wb := w) rfl _ _ 22 rfl (.int .i64 0) 8 Try.underlying22 int_info rfl (by decide) intEnc rfl rfl (xs := a) (ys := b) H6.out.1 (HC.out.kept H6.out.2) H6.out.2 (by (try simp only [List.length_append, List.length_nil, List.length_cons]); unfold maxLen; omega) (by (try simp only [List.length_append, List.length_nil, List.length_cons]); omega) ?_); intro v7 w7 h7 hB7; obtain ⟨p7, k7, rfl⟩ := ow_slice h7; have H7 := Lib.hid (And.intro (Ow.sl intEnc h7) hB7); clear h7 hB7))
    go_wp2_with fail
    rw [HL.out.2.2.2.2.2]
    refine (tcount_val HL.out.1 HL.out.2.2.2.1 p7 k7 _ (H7.out.1.kept (by repeat' (first | (with_reducible exact Below.refl _ _) | (with_reducible assumption) | (with_reducible refine kept_alloc ?_ _) | (with_reducible refine kept_drewN ?_ _) | (with_reducible refine Below.drew ?_) | (with_reducible refine Below.setCell ?_ (by first | omega | (simp; omega) | (simp; done)) _) | (refine kept_trans ?_ (by with_reducible assumption)))))).mono ?_
    rintro e w8 ⟨rfl, hg8⟩
    have hB8 : Below w.heap.size w w8 := kept_trans H7.out.2 hg8
    go_wp2_with fail
    refine (tfair_val HL.out.1 (rfl : [who].length = 1) HL.out.2.2.2.2.1 hwindow p7 _ k7 1 _ (H7.out.1.kept (by repeat' (first | (with_reducible exact Below.refl _ _) | (with_reducible assumption) | (with_reducible refine kept_alloc ?_ _) | (with_reducible refine kept_drewN ?_ _) | (with_reducible refine Below.drew ?_) | (with_reducible refine Below.setCell ?_ (by first | omega | (simp; omega) | (simp; done)) _) | (refine kept_trans ?_ (by with_reducible assumption))))) (sl_one _ who (by first | rfl | simp))).mono ?_
    rintro e w9 ⟨rfl, hg9⟩
    have hB9 : Below w.heap.size w w9 := by repeat' (first | (with_reducible exact Below.refl _ _) | (with_reducible assumption) | (with_reducible refine kept_alloc ?_ _) | (with_reducible refine kept_drewN ?_ _) | (with_reducible refine Below.drew ?_) | (with_reducible refine Below.setCell ?_ (by first | omega | (simp; omega) | (simp; done)) _) | (refine kept_trans ?_ (by with_reducible assumption)))
    go_wp2_with fail
    refine (tcount_val HN.out.1 HL.out.2.1 p k _ (H.out.kept (by repeat' (first | (with_reducible exact Below.refl _ _) | (with_reducible assumption) | (with_reducible refine kept_alloc ?_ _) | (with_reducible refine kept_drewN ?_ _) | (with_reducible refine Below.drew ?_) | (with_reducible refine Below.setCell ?_ (by first | omega | (simp; omega) | (simp; done)) _) | (refine kept_trans ?_ (by with_reducible assumption)))))).mono ?_
    rintro e w10 ⟨rfl, hg10⟩
    go_wp2_with fail
    refine (tcount_val HN.out.2 HL.out.2.2.1 q kb _ (HB.out.kept (by repeat' (first | (with_reducible exact Below.refl _ _) | (with_reducible assumption) | (with_reducible refine kept_alloc ?_ _) | (with_reducible refine kept_drewN ?_ _) | (with_reducible refine Below.drew ?_) | (with_reducible refine Below.setCell ?_ (by first | omega | (simp; omega) | (simp; done)) _) | (refine kept_trans ?_ (by with_reducible assumption)))))).mono ?_
    rintro e w11 ⟨rfl, hg11⟩
    go_wp2
    all_goals (go_ret; exact ⟨rfl, by repeat' (first | (with_reducible exact Below.refl _ _) | (with_reducible assumption) | (with_reducible refine kept_alloc ?_ _) | (with_reducible refine kept_drewN ?_ _) | (with_reducible refine Below.drew ?_) | (with_reducible refine Below.setCell ?_ (by first | omega | (simp; omega) | (simp; done)) _) | (refine kept_trans ?_ (by with_reducible assumption)))⟩)
  · have hfx := HL.out.2.2.2.2.1
    have hwin := (fair_iff.1 hfx).1
    obtain ⟨m, rfl⟩ : ∃ m : Nat, window = m := ⟨window.toNat, by omega⟩
    have hq := parts_fair (show 1 ≤ m by omega) hfx
    rw [HL.out.1, HL.out.2.2.2.1] at hq
    have nz : ¬ (m : Int) = 0 := by omega
    have b2 : wrap64 ((T : Int) / (m : Int)) ≤ (z : Int) := by
      have e1 : (T : Int) / (m : Int) = ((T / m : Nat) : Int) := by simp
      have e2 : T / m ≤ T := Nat.div_le_self T m
      generalize T / m = D at *
      rw [e1]; unfold wrap64; omega
    clear hfx hq
    go_enter Try.func8, Try.ntmps8; go_wp2_with fail; refine (turnawake_any _).mono ?_; rintro e w1 ⟨rfl, hg1⟩
    go_wp2_with (first | ((at_builtin; refine wpList_app' (wb := w) rfl _ _ 22 rfl (.int .i64 0) 8 Try.underlying22 int_info rfl (by decide) intEnc rfl rfl (xs := ([] : List Int)) (ys := a) (empty_row w w1 (by assumption)) (HA.out.kept (by repeat' (first | (with_reducible exact Below.refl _ _) | (with_reducible assumption) | (with_reducible refine kept_alloc ?_ _) | (with_reducible refine kept_drewN ?_ _) | (with_reducible refine Below.drew ?_) | (with_reducible refine Below.setCell ?_ (by first | omega | (simp; omega) | (simp; done)) _) | (refine kept_trans ?_ (by with_reducible assumption))))) (by repeat' (first | (with_reducible exact Below.refl _ _) | (with_reducible assumption) | (with_reducible refine kept_alloc ?_ _) | (with_reducible refine kept_drewN ?_ _) | (with_reducible refine Below.drew ?_) | (with_reducible refine Below.setCell ?_ (by first | omega | (simp; omega) | (simp; done)) _) | (refine kept_trans ?_ (by with_reducible assumption)))) (by (try simp only [List.length_append, List.length_nil, List.length_cons]); unfold maxLen; omega) (by (try simp only [List.length_append, List.length_nil, List.length_cons]); omega) ?_); intro v6 w6 h6 hB6; have H6 := Lib.hid (And.intro h6 hB6); clear h6 hB6) | ((at_builtin; refine wpList_app' (wb := w) rfl _ _ 22 rfl (.int .i64 0) 8 Try.underlying22 int_info rfl (by decide) intEnc rfl rfl (xs := a) (ys := b) H6.out.1 (HC.out.kept H6.out.2) H6.out.2 (by (try simp only [List.length_append, List.length_nil, List.length_cons]); unfold maxLen; omega) (by (try simp only [List.length_append, List.length_nil, List.length_cons]); omega) ?_); intro v7 w7 h7 hB7; obtain ⟨p7, k7, rfl⟩ := ow_slice h7; have H7 := Lib.hid (And.intro (Ow.sl intEnc h7) hB7); clear h7 hB7))
    go_wp2_with fail
    rw [HL.out.2.2.2.2.2]
    refine (tcount_val HL.out.1 HL.out.2.2.2.1 p7 k7 _ (H7.out.1.kept (by repeat' (first | (with_reducible exact Below.refl _ _) | (with_reducible assumption) | (with_reducible refine kept_alloc ?_ _) | (with_reducible refine kept_drewN ?_ _) | (with_reducible refine Below.drew ?_) | (with_reducible refine Below.setCell ?_ (by first | omega | (simp; omega) | (simp; done)) _) | (refine kept_trans ?_ (by with_reducible assumption)))))).mono ?_
    rintro e w8 ⟨rfl, hg8⟩
    have hB8 : Below w.heap.size w w8 := kept_trans H7.out.2 hg8
    go_wp2_with fail
    refine (tfair_val HL.out.1 (rfl : [who].length = 1) HL.out.2.2.2.2.1 hwindow p7 _ k7 1 _ (H7.out.1.kept (by repeat' (first | (with_reducible exact Below.refl _ _) | (with_reducible assumption) | (with_reducible refine kept_alloc ?_ _) | (with_reducible refine kept_drewN ?_ _) | (with_reducible refine Below.drew ?_) | (with_reducible refine Below.setCell ?_ (by first | omega | (simp; omega) | (simp; done)) _) | (refine kept_trans ?_ (by with_reducible assumption))))) (sl_one _ who (by first | rfl | simp))).mono ?_
    rintro e w9 ⟨rfl, hg9⟩
    have hB9 : Below w.heap.size w w9 := by repeat' (first | (with_reducible exact Below.refl _ _) | (with_reducible assumption) | (with_reducible refine kept_alloc ?_ _) | (with_reducible refine kept_drewN ?_ _) | (with_reducible refine Below.drew ?_) | (with_reducible refine Below.setCell ?_ (by first | omega | (simp; omega) | (simp; done)) _) | (refine kept_trans ?_ (by with_reducible assumption)))
    go_wp2_with fail
    refine (tcount_val HN.out.1 HL.out.2.1 p k _ (H.out.kept (by repeat' (first | (with_reducible exact Below.refl _ _) | (with_reducible assumption) | (with_reducible refine kept_alloc ?_ _) | (with_reducible refine kept_drewN ?_ _) | (with_reducible refine Below.drew ?_) | (with_reducible refine Below.setCell ?_ (by first | omega | (simp; omega) | (simp; done)) _) | (refine kept_trans ?_ (by with_reducible assumption)))))).mono ?_
    rintro e w10 ⟨rfl, hg10⟩
    go_wp2_with fail
    refine (tcount_val HN.out.2 HL.out.2.2.1 q kb _ (HB.out.kept (by repeat' (first | (with_reducible exact Below.refl _ _) | (with_reducible assumption) | (with_reducible refine kept_alloc ?_ _) | (with_reducible refine kept_drewN ?_ _) | (with_reducible refine Below.drew ?_) | (with_reducible refine Below.setCell ?_ (by first | omega | (simp; omega) | (simp; done)) _) | (refine kept_trans ?_ (by with_reducible assumption)))))).mono ?_
    rintro e w11 ⟨rfl, hg11⟩
    go_wp2
    all_goals (go_ret; exact ⟨rfl, by repeat' (first | (with_reducible exact Below.refl _ _) | (with_reducible assumption) | (with_reducible refine kept_alloc ?_ _) | (with_reducible refine kept_drewN ?_ _) | (with_reducible refine Below.drew ?_) | (with_reducible refine Below.setCell ?_ (by first | omega | (simp; omega) | (simp; done)) _) | (refine kept_trans ?_ (by with_reducible assumption)))⟩)
set_option maxRecDepth 100000 in
theorem turnParts_lifted (os : Os) (started : os.Started) (H : Type) (enc : TypeId × Value → H) :
    ReturnsInHanded {} Try.checked os 8 .any (Rows.turnPartsSpec.pre6 enc Try.prog Try.f8 Rows.turnPartsRow.domain false) (Rows.turnPartsSpec.post enc Try.prog Try.f8 false true false false) := by
  refine returnsInHanded_of_change (C := Try.checked) own started (by kernel_rfl) Try.func8
    (ChangeSpec.witness6 (enc := enc) (C := Try.checked) false ⟨#[], #[.slice none 0 0, .slice none 0 0, .int .i64 0, .int .i64 0], []⟩ 8 (by kernel_rfl) (by kernel_rfl) (by kernel_rfl) (by kernel_rfl)) ?_
  intro W base args ds gs before hval0 hW hcnd _
  have hval : ∀ (j : Nat) t v, Try.f8.params[j]? = some t → args[j]? = some v → Value.okWide Try.prog W .any base t v := hval0
  have hW' := hW
  obtain ⟨p, q, hA0, hV, rfl, hfz, hnd⟩ := hW
  have hA : DataW.TrodAll enc Try.prog W 0 (fun _ => true) true Try.f8.params.toList args.toList ds p := hA0
  rw [Try.params8] at hA hval
  obtain ⟨v0, vs0, d0, ds0, p0, q0, hargs, rfl, rfl, h0, r0⟩ := trodAll_cons hA
  obtain ⟨v1, vs1, d1, ds1, p1, q1, rfl, rfl, rfl, h1, r1⟩ := trodAll_cons r0
  obtain ⟨v2, vs2, d2, ds2, p2, q2, rfl, rfl, rfl, h2, r2⟩ := trodAll_cons r1
  obtain ⟨v3, vs3, d3, ds3, p3, q3, rfl, rfl, rfl, h3, r3⟩ := trodAll_cons r2
  obtain ⟨rfl, rfl, rfl⟩ := trodAll_nil r3
  obtain rfl : args = #[v0, v1, v2, v3] := by cases args; simp_all
  obtain ⟨rfl, rfl⟩ := trodVars_none hV
  obtain ⟨a, asl, aok, aml⟩ := Sl.of_read intC In64 (by decide) (open_row (g := 9) (l := intShape) Try.underlying22 (by kernel_rfl) (hval 0 22 v0 rfl rfl) h0) (fun vs h => int_of_read h)
  obtain ⟨b, bsl, bok, bml⟩ := Sl.of_read intC In64 (by decide) (open_row (g := 9) (l := intShape) Try.underlying22 (by kernel_rfl) (hval 1 22 v1 rfl rfl) h1) (fun vs h => int_of_read h)
  obtain ⟨who, rfl, rfl, rfl, wf2⟩ := open_int Try.underlying3 (hval 2 3 v2 rfl rfl) h2
  obtain ⟨window, rfl, rfl, rfl, wf3⟩ := open_int Try.underlying3 (hval 3 3 v3 rfl rfl) h3
  clear hA0 hval0
  refine (turnParts_walk a v0 aok aml b v1 bok bml who (in64_of_wf wf2) window (in64_of_wf wf3) W asl bsl).mono fun e W' ⟨he, hg⟩ => ?_
  subst he
  exact ⟨_, rfl, law_post laid hW' rfl (by kernel_rfl) rfl Try.underlying4 rfl hg⟩

/-- The statement, whole. -/
theorem turnParts_holds : Rows.TurnPartsSaid :=
  OpenClaim.holds_of_wide 8 Try.f8 rfl rfl rfl rfl rfl rfl rfl ⟨rfl, rfl, rfl, rfl, rfl⟩ rfl rfl rfl rfl rfl (by kernel_rfl) Try.func8 (by kernel_rfl)
    (of_decide_eq_true (by kernel_rfl)) (by unfold Func.isWrapper; rw [if_neg (of_decide_eq_false (by kernel_rfl))]; exact ⟨rfl, rfl⟩)
    (fun os started H enc _ => turnParts_lifted os started H enc)
end Go.Proofs.Ytlmiedgpibollaa
