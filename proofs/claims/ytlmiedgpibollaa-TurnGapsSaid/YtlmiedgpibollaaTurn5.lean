/- TurnGaps holds for every input: no conditions. -/
import Derived.Test.YtlmiedgpibollaaTurn6
namespace Go.Proofs.Ytlmiedgpibollaa
set_option linter.unusedVariables false
set_option linter.unusedSimpArgs false
open Go.ChangeShapes Go.WideShapes Go.ChangeAt Go.RowKit

theorem gaps_cut (a b : List Int) (x : Int) : gapO ((a ++ [x]) ++ b) x = max (gapO a x) (gapO b x) := by
  rw [List.append_assoc]; exact gap_cut x a b 0

set_option maxRecDepth 100000 in
set_option maxHeartbeats 1000000 in
theorem turnGaps_walk (a : List Int) (av : Value) (ha : ∀ x ∈ a, In64 x) (ham : a.length ≤ maxLen) (b : List Int) (bv : Value) (hb : ∀ x ∈ b, In64 x) (hbm : b.length ≤ maxLen) (who : Int) (hwho : In64 who) (w : World) (has : Sl w 1 intC a av) (hbs : Sl w 1 intC b bv) :
    Calls Try.prog 7 #[av, bv, .int .i64 who] w fun e w' => e = .returned (.bool true) ∧ Kept w w' := by
  obtain ⟨p, k, rfl, -⟩ := has.is
  obtain ⟨q, kb, rfl, -⟩ := hbs.is
  have H : Hid (Sl w 1 intC a (.slice p a.length k)) := Lib.hid has
  have HB : Hid (Sl w 1 intC b (.slice q b.length kb)) := Lib.hid hbs
  obtain ⟨N, hN⟩ : ∃ N, a.length = N := ⟨_, rfl⟩
  obtain ⟨M, hM⟩ : ∃ M, b.length = M := ⟨_, rfl⟩
  have HN := Lib.hid (And.intro hN hM)
  have HA : Hid (Sl w 1 intC a (.slice p N k)) := Lib.hid (by rw [← hN]; exact has)
  have HC : Hid (Sl w 1 intC b (.slice q M kb)) := Lib.hid (by rw [← hM]; exact hbs)
  rw [hN, hM]
  rw [hN] at ham
  rw [hM] at hbm
  clear has hbs ha hb hN hM
  rcases Nat.lt_or_ge 100 N with h1 | h1
  · ((have hlen' : (100 : Int) < (N : Int) := by omega); clear h1; go_enter Try.func7, Try.ntmps7; go_wp2_with fail; refine (turnawake_any _).mono ?_; rintro e w1 ⟨rfl, hg1⟩; go_wp2; all_goals (go_ret; exact ⟨rfl, by repeat' (first | (with_reducible exact Below.refl _ _) | (with_reducible assumption) | (with_reducible refine kept_alloc ?_ _) | (with_reducible refine kept_drewN ?_ _) | (with_reducible refine Below.drew ?_) | (with_reducible refine Below.setCell ?_ (by first | omega | (simp; omega) | (simp; done)) _) | (refine kept_trans ?_ (by with_reducible assumption)))⟩))
  rcases Nat.lt_or_ge 100 M with h2 | h2
  · ((have hlen' : (100 : Int) < (M : Int) := by omega); (have g1 : ¬ (100 : Int) < (N : Int) := by omega); clear h2; go_enter Try.func7, Try.ntmps7; go_wp2_with fail; refine (turnawake_any _).mono ?_; rintro e w1 ⟨rfl, hg1⟩; go_wp2; all_goals (go_ret; exact ⟨rfl, by repeat' (first | (with_reducible exact Below.refl _ _) | (with_reducible assumption) | (with_reducible refine kept_alloc ?_ _) | (with_reducible refine kept_drewN ?_ _) | (with_reducible refine Below.drew ?_) | (with_reducible refine Below.setCell ?_ (by first | omega | (simp; omega) | (simp; done)) _) | (refine kept_trans ?_ (by with_reducible assumption)))⟩))
  have g1 : ¬ (100 : Int) < (N : Int) := by omega
  have g2 : ¬ (100 : Int) < (M : Int) := by omega
  obtain ⟨T, hT⟩ : ∃ T, (a ++ b).length = T := ⟨_, rfl⟩
  obtain ⟨U, hU⟩ : ∃ U, ((a ++ [who]) ++ b).length = U := ⟨_, rfl⟩
  obtain ⟨x, hx⟩ : ∃ x, gapO a who = x := ⟨_, rfl⟩
  obtain ⟨y, hy⟩ : ∃ y, gapO b who = y := ⟨_, rfl⟩
  obtain ⟨g, hg⟩ : ∃ g, gapO (a ++ b) who = g := ⟨_, rfl⟩
  obtain ⟨n, hn⟩ : ∃ n, ctO a who = n := ⟨_, rfl⟩
  have hcut := gaps_cut a b who
  rw [hx, hy] at hcut
  have e1 : x ≤ g := by rw [← hx, ← hg]; exact gap_left who a b 0
  have e2 : y ≤ g := by rw [← hy, ← hg]; exact gap_right who a b 0
  have e3 : g ≤ x + y := by rw [← hx, ← hy, ← hg]; exact gap_both who a b 0
  have e4 : n = 0 → x = N := fun h => by rw [← hx, ← HN.out.1]; have := gap_none who a 0 (ct_zero.1 (hn.trans h)); unfold gapO; omega
  have e5 : x ≤ N := by rw [← hx, ← HN.out.1]; exact gap_len a who
  have e6 : y ≤ M := by rw [← hy, ← HN.out.2]; exact gap_len b who
  have lT : a.length + b.length = T := by rw [← hT, List.length_append]
  have lU : a.length + (b.length + 1) = U := by rw [← hU]; simp
  have la : a.length ≤ 100 := by rw [HN.out.1]; exact h1
  have lb : b.length ≤ 100 := by rw [HN.out.2]; exact h2
  have d3 : (g : Int) ≤ (x : Int) + (y : Int) := by omega
  have hw1 : IntKind.i64.wrap ((x : Int) + (y : Int)) = (x : Int) + (y : Int) := IntWalk.i64_in _ (by omega)
  have HL := Lib.hid (And.intro hT (And.intro hU (And.intro hx (And.intro hy (And.intro hg (And.intro hn (And.intro lT lU)))))))
  have f1 : (y : Int) ≤ (g : Int) := by omega
  have f2 : (x : Int) ≤ (g : Int) := by omega
  have hc : ∃ C : Nat, gapO ((a ++ [who]) ++ b) who = C ∧ (((y : Int) ≤ (x : Int) ∧ C = x) ∨ (¬ (y : Int) ≤ (x : Int) ∧ C = y)) := ⟨_, rfl, by rw [hcut]; omega⟩
  have hnn : (0 : Int) < (n : Int) ∨ (¬ (0 : Int) < (n : Int) ∧ ((x : Int) == (N : Int)) = true) := by
    rcases Nat.eq_zero_or_pos n with h | h
    · right; exact ⟨by omega, by rw [e4 h]; simp⟩
    · left; omega
  clear hT hU hx hy hg hn lT lU hcut e1 e2 e3 e4 e5 e6
  obtain ⟨C, hC, hcc⟩ := hc
  have HCC := Lib.hid hC
  clear hC
  rcases hcc with ⟨d1, rfl⟩ | ⟨d1, rfl⟩
  all_goals rcases hnn with c0 | ⟨c0, c1⟩
  all_goals
    go_enter Try.func7, Try.ntmps7; go_wp2_with fail; refine (turnawake_any _).mono ?_; rintro e w1 ⟨rfl, hg1⟩
    go_wp2_with (first | ((at_builtin; refine wpList_app' (wb := w) rfl _ _ 22 rfl (.int .i64 0) 8 Try.underlying22 int_info rfl (by decide) intEnc rfl rfl (xs := ([] : List Int)) (ys := a) (empty_row w w1 (by assumption)) (HA.out.kept (by repeat' (first | (with_reducible exact Below.refl _ _) | (with_reducible assumption) | (with_reducible refine kept_alloc ?_ _) | (with_reducible refine kept_drewN ?_ _) | (with_reducible refine Below.drew ?_) | (with_reducible refine Below.setCell ?_ (by first | omega | (simp; omega) | (simp; done)) _) | (refine kept_trans ?_ (by with_reducible assumption))))) (by repeat' (first | (with_reducible exact Below.refl _ _) | (with_reducible assumption) | (with_reducible refine kept_alloc ?_ _) | (with_reducible refine kept_drewN ?_ _) | (with_reducible refine Below.drew ?_) | (with_reducible refine Below.setCell ?_ (by first | omega | (simp; omega) | (simp; done)) _) | (refine kept_trans ?_ (by with_reducible assumption)))) (by (try simp only [List.length_append, List.length_nil, List.length_cons]); unfold maxLen; omega) (by (try simp only [List.length_append, List.length_nil, List.length_cons]); omega) ?_); intro v6 w6 h6 hB6; have H6 := Lib.hid (And.intro h6 hB6); clear h6 hB6) | ((at_builtin; refine wpList_app' (wb := w) rfl _ _ 22 rfl (.int .i64 0) 8 Try.underlying22 int_info rfl (by decide) intEnc rfl rfl (xs := a) (ys := b) H6.out.1 (HC.out.kept H6.out.2) H6.out.2 (by (try simp only [List.length_append, List.length_nil, List.length_cons]); unfold maxLen; omega) (by (try simp only [List.length_append, List.length_nil, List.length_cons]); omega) ?_); intro v7 w7 h7 hB7; obtain ⟨p7, k7, rfl⟩ := ow_slice h7; have H7 := Lib.hid (And.intro (Ow.sl intEnc h7) hB7); clear h7 hB7))
    go_wp2_with fail
    rw [HL.out.2.2.2.2.2.2.1]
    refine (tgap_val HL.out.1 HL.out.2.2.2.2.1 p7 k7 _ (H7.out.1.kept (by repeat' (first | (with_reducible exact Below.refl _ _) | (with_reducible assumption) | (with_reducible refine kept_alloc ?_ _) | (with_reducible refine kept_drewN ?_ _) | (with_reducible refine Below.drew ?_) | (with_reducible refine Below.setCell ?_ (by first | omega | (simp; omega) | (simp; done)) _) | (refine kept_trans ?_ (by with_reducible assumption)))))).mono ?_
    rintro e w8 ⟨rfl, hg8⟩
    have HB8 : Hid (Below w.heap.size w w8) := Lib.hid (kept_trans H7.out.2 hg8)
    clear hg8
    go_wp2_with (first | ((at_builtin; refine wpList_app' (wb := w) rfl _ _ 22 rfl (.int .i64 0) 8 Try.underlying22 int_info rfl (by decide) intEnc rfl rfl (xs := ([] : List Int)) (ys := a) (empty_row w w8 HB8.out) (HA.out.kept (HB8.out.alloc HB8.out.size _)) (HB8.out.alloc HB8.out.size _) (by (try simp only [List.length_append, List.length_nil, List.length_cons]); unfold maxLen; omega) (by (try simp only [List.length_append, List.length_nil, List.length_cons]); omega) ?_); intro v9 w9 h9 hB9; have H9 := Lib.hid (And.intro h9 hB9); clear h9 hB9) | ((at_builtin; refine wpList_app' (wb := w) rfl _ _ 22 rfl (.int .i64 0) 8 Try.underlying22 int_info rfl (by decide) intEnc rfl rfl (xs := a) (ys := [who]) (H9.out.1.kept ((Below.refl _ _).alloc (Nat.le_refl _) _)) (sl_one w9 who rfl) (H9.out.2.alloc H9.out.2.size _) (by (try simp only [List.length_append, List.length_nil, List.length_cons]); unfold maxLen; omega) (by (try simp only [List.length_append, List.length_nil, List.length_cons]); omega) ?_); intro v10 w10 h10 hB10; have H10 := Lib.hid (And.intro h10 hB10); clear h10 hB10) | ((at_builtin; refine wpList_app' (wb := w) rfl _ _ 22 rfl (.int .i64 0) 8 Try.underlying22 int_info rfl (by decide) intEnc rfl rfl (xs := (a ++ [who])) (ys := b) H10.out.1 (HC.out.kept H10.out.2) H10.out.2 (by (try simp only [List.length_append, List.length_nil, List.length_cons]); unfold maxLen; omega) (by (try simp only [List.length_append, List.length_nil, List.length_cons]); omega) ?_); intro v11 w11 h11 hB11; obtain ⟨p11, k11, rfl⟩ := ow_slice h11; have H11 := Lib.hid (And.intro (Ow.sl intEnc h11) hB11); clear h11 hB11))
    go_wp2_with fail
    rw [HL.out.2.2.2.2.2.2.2]
    refine (tgap_val HL.out.2.1 HCC.out p11 k11 _ (H11.out.1.kept (by repeat' (first | (with_reducible exact Below.refl _ _) | (with_reducible assumption) | (with_reducible refine kept_alloc ?_ _) | (with_reducible refine kept_drewN ?_ _) | (with_reducible refine Below.drew ?_) | (with_reducible refine Below.setCell ?_ (by first | omega | (simp; omega) | (simp; done)) _) | (refine kept_trans ?_ (by with_reducible assumption)))))).mono ?_
    rintro e w12 ⟨rfl, hg12⟩
    have hB12 : Below w.heap.size w w12 := kept_trans H11.out.2 hg12
    clear hg12 hg1
    go_wp2_with fail
    refine (tgap_val HN.out.1 HL.out.2.2.1 p k _ (H.out.kept (by repeat' (first | (with_reducible exact Below.refl _ _) | (with_reducible assumption) | (with_reducible refine kept_alloc ?_ _) | (with_reducible refine kept_drewN ?_ _) | (with_reducible refine Below.drew ?_) | (with_reducible refine Below.setCell ?_ (by first | omega | (simp; omega) | (simp; done)) _) | (refine kept_trans ?_ (by with_reducible assumption)))))).mono ?_
    rintro e w13 ⟨rfl, hg13⟩
    go_wp2_with fail
    refine (tgap_val HN.out.2 HL.out.2.2.2.1 q kb _ (HB.out.kept (by repeat' (first | (with_reducible exact Below.refl _ _) | (with_reducible assumption) | (with_reducible refine kept_alloc ?_ _) | (with_reducible refine kept_drewN ?_ _) | (with_reducible refine Below.drew ?_) | (with_reducible refine Below.setCell ?_ (by first | omega | (simp; omega) | (simp; done)) _) | (refine kept_trans ?_ (by with_reducible assumption)))))).mono ?_
    rintro e w14 ⟨rfl, hg14⟩
    go_wp2_with fail
    refine (tcount_val HN.out.1 HL.out.2.2.2.2.2.1 p k _ (H.out.kept (by repeat' (first | (with_reducible exact Below.refl _ _) | (with_reducible assumption) | (with_reducible refine kept_alloc ?_ _) | (with_reducible refine kept_drewN ?_ _) | (with_reducible refine Below.drew ?_) | (with_reducible refine Below.setCell ?_ (by first | omega | (simp; omega) | (simp; done)) _) | (refine kept_trans ?_ (by with_reducible assumption)))))).mono ?_
    rintro e w15 ⟨rfl, hg15⟩
    go_wp2
    all_goals (go_ret; exact ⟨rfl, by repeat' (first | (with_reducible exact Below.refl _ _) | (with_reducible assumption) | (with_reducible refine kept_alloc ?_ _) | (with_reducible refine kept_drewN ?_ _) | (with_reducible refine Below.drew ?_) | (with_reducible refine Below.setCell ?_ (by first | omega | (simp; omega) | (simp; done)) _) | (refine kept_trans ?_ (by with_reducible assumption)))⟩)
set_option maxRecDepth 100000 in
theorem turnGaps_lifted (os : Os) (started : os.Started) (H : Type) (enc : TypeId × Value → H) :
    ReturnsInHanded {} Try.checked os 7 .any (Rows.turnGapsSpec.pre6 enc Try.prog Try.f7 Rows.turnGapsRow.domain false) (Rows.turnGapsSpec.post enc Try.prog Try.f7 false true false false) := by
  refine returnsInHanded_of_change (C := Try.checked) own started (by kernel_rfl) Try.func7
    (ChangeSpec.witness6 (enc := enc) (C := Try.checked) false ⟨#[], #[.slice none 0 0, .slice none 0 0, .int .i64 0], []⟩ 8 (by kernel_rfl) (by kernel_rfl) (by kernel_rfl) (by kernel_rfl)) ?_
  intro W base args ds gs before hval0 hW hcnd _
  have hval : ∀ (j : Nat) t v, Try.f7.params[j]? = some t → args[j]? = some v → Value.okWide Try.prog W .any base t v := hval0
  have hW' := hW
  obtain ⟨p, q, hA0, hV, rfl, hfz, hnd⟩ := hW
  have hA : DataW.TrodAll enc Try.prog W 0 (fun _ => true) true Try.f7.params.toList args.toList ds p := hA0
  rw [Try.params7] at hA hval
  obtain ⟨v0, vs0, d0, ds0, p0, q0, hargs, rfl, rfl, h0, r0⟩ := trodAll_cons hA
  obtain ⟨v1, vs1, d1, ds1, p1, q1, rfl, rfl, rfl, h1, r1⟩ := trodAll_cons r0
  obtain ⟨v2, vs2, d2, ds2, p2, q2, rfl, rfl, rfl, h2, r2⟩ := trodAll_cons r1
  obtain ⟨rfl, rfl, rfl⟩ := trodAll_nil r2
  obtain rfl : args = #[v0, v1, v2] := by cases args; simp_all
  obtain ⟨rfl, rfl⟩ := trodVars_none hV
  obtain ⟨a, asl, aok, aml⟩ := Sl.of_read intC In64 (by decide) (open_row (g := 9) (l := intShape) Try.underlying22 (by kernel_rfl) (hval 0 22 v0 rfl rfl) h0) (fun vs h => int_of_read h)
  obtain ⟨b, bsl, bok, bml⟩ := Sl.of_read intC In64 (by decide) (open_row (g := 9) (l := intShape) Try.underlying22 (by kernel_rfl) (hval 1 22 v1 rfl rfl) h1) (fun vs h => int_of_read h)
  obtain ⟨who, rfl, rfl, rfl, wf2⟩ := open_int Try.underlying3 (hval 2 3 v2 rfl rfl) h2
  clear hA0 hval0
  refine (turnGaps_walk a v0 aok aml b v1 bok bml who (in64_of_wf wf2) W asl bsl).mono fun e W' ⟨he, hg⟩ => ?_
  subst he
  exact ⟨_, rfl, law_post laid hW' rfl (by kernel_rfl) rfl Try.underlying4 rfl hg⟩

/-- The statement, whole. -/
theorem turnGaps_holds : Rows.TurnGapsSaid :=
  OpenClaim.holds_of_wide 7 Try.f7 rfl rfl rfl rfl rfl rfl rfl ⟨rfl, rfl, rfl, rfl, rfl⟩ rfl rfl rfl rfl rfl (by kernel_rfl) Try.func7 (by kernel_rfl)
    (of_decide_eq_true (by kernel_rfl)) (by unfold Func.isWrapper; rw [if_neg (of_decide_eq_false (by kernel_rfl))]; exact ⟨rfl, rfl⟩)
    (fun os started H enc _ => turnGaps_lifted os started H enc)
end Go.Proofs.Ytlmiedgpibollaa
