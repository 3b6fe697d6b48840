/- SlotApart holds for every input: no conditions. -/
import Derived.Test.YtbfmnlniabldbaaSlotM
namespace Go.Proofs.Ytbfmnlniabldbaa
set_option linter.unusedVariables false
set_option linter.unusedSimpArgs false
open Go.ChangeShapes Go.WideShapes Go.ChangeAt Go.RowKit
set_option maxHeartbeats 4000000 in
set_option maxRecDepth 100000 in
theorem slotApart_walk (l : List Slo) (lv : Value) (hl : ∀ x ∈ l, x.ok) (hlm : l.length ≤ maxLen) (p : Int) (hp : In64 p) (q : Int) (hq : In64 q) (a : Int) (ha : In64 a) (b : Int) (hb : In64 b) (w : World) (hls : Sl w Slo.size Slo.cells l lv) :
    Calls Try.prog 7 #[lv, .int .i64 p, .int .i64 q, .int .i64 a, .int .i64 b] w fun e w' => e = .returned (.bool true) ∧ Kept w w' := by
  obtain ⟨ad, k, rfl, -⟩ := hls.is
  have H : Hid (Sl w 2 Slo.cells l (.slice ad l.length k)) := Lib.hid hls
  clear hls hl
  by_cases hlen : l.length ≤ 100
  · have hm : l.length ≤ 1000 := by omega
    by_cases hpq : p = q
    · subst hpq
      have hb : (p == p) = true := by simp
      go_enter Try.func7, Try.ntmps7; go_wp2_with fail; refine (slotawake_any _).mono ?_; rintro e w1 ⟨rfl, hg1⟩
      go_wp2
      all_goals (go_ret; exact ⟨rfl, by repeat' (first | (with_reducible exact Below.refl _ _) | (with_reducible assumption) | (with_reducible refine kept_alloc ?_ _) | (with_reducible refine kept_drewN ?_ _) | (with_reducible refine Below.drew ?_) | (with_reducible refine Below.setCell ?_ (by first | omega | (simp; omega) | (simp; done)) _) | (refine kept_trans ?_ (by with_reducible assumption)))⟩)
    · have hb : (p == q) = false := by simpa using hpq
      have hc := wr_comm l a b hpq
      have e1 := wrE_sts (wr_sts l p a) q
      have e2 := wrE_sts (wr_sts l q b) p
      have l1 := wr_len l p a
      have l2 := wr_len l q b
      have l3 := wr_len (wrL l p a) q b
      obtain ⟨A, hA⟩ : ∃ A, wrL l p a = A := ⟨_, rfl⟩
      obtain ⟨B, hB⟩ : ∃ B, wrL l q b = B := ⟨_, rfl⟩
      rw [hA] at hc e1 l1 l3
      rw [hB] at hc e2 l2
      obtain ⟨X, hX⟩ : ∃ X, wrL A q b = X := ⟨_, rfl⟩
      rw [hX] at hc l3
      obtain ⟨E, hE⟩ : ∃ v, wrE l p = v := ⟨_, rfl⟩
      obtain ⟨F, hF⟩ : ∃ v, wrE l q = v := ⟨_, rfl⟩
      rw [hF] at e1
      rw [hE] at e2
      have HV := Lib.hid (And.intro hA (And.intro hE (And.intro hX (And.intro e1 (And.intro hB (And.intro hF (And.intro hc.symm e2)))))))
      have HL : Hid (A.length ≤ 1000 ∧ B.length ≤ 1000 ∧ X.length ≤ 1000) := Lib.hid (by omega)
      clear hc e1 e2 l1 l2 l3 hA hB hX hE hF
      go_enter Try.func7, Try.ntmps7; go_wp2_with fail; refine (slotawake_any _).mono ?_; rintro e w1 ⟨rfl, hg1⟩
      go_wp2_with fail; refine (swrite_val HV.out.1 HV.out.2.1 _ _ _ (H.out.kept (by repeat' (first | (with_reducible exact Below.refl _ _) | (with_reducible assumption) | (with_reducible refine kept_alloc ?_ _) | (with_reducible refine kept_drewN ?_ _) | (with_reducible refine Below.drew ?_) | (with_reducible refine Below.setCell ?_ (by first | omega | (simp; omega) | (simp; done)) _) | (refine kept_trans ?_ (by with_reducible assumption))))) hm hp).mono ?_; rintro e w2 ⟨gw2, rfl, sw2, hw2⟩; have Sw2 := Ow.sl Slo.enc sw2; clear sw2
      go_wp2_with fail; refine (swrite_val HV.out.2.2.1 HV.out.2.2.2.1 _ _ _ (Sw2.kept (by repeat' (first | (with_reducible exact Below.refl _ _) | (with_reducible assumption) | (with_reducible refine kept_alloc ?_ _) | (with_reducible refine kept_drewN ?_ _) | (with_reducible refine Below.drew ?_) | (with_reducible refine Below.setCell ?_ (by first | omega | (simp; omega) | (simp; done)) _) | (refine kept_trans ?_ (by with_reducible assumption))))) HL.out.1 hq).mono ?_; rintro e w3 ⟨gw3, rfl, sw3, hw3⟩; have Sw3 := Ow.sl Slo.enc sw3; clear sw3
      go_wp2_with fail; refine (swrite_val HV.out.2.2.2.2.1 HV.out.2.2.2.2.2.1 _ _ _ (H.out.kept (by repeat' (first | (with_reducible exact Below.refl _ _) | (with_reducible assumption) | (with_reducible refine kept_alloc ?_ _) | (with_reducible refine kept_drewN ?_ _) | (with_reducible refine Below.drew ?_) | (with_reducible refine Below.setCell ?_ (by first | omega | (simp; omega) | (simp; done)) _) | (refine kept_trans ?_ (by with_reducible assumption))))) hm hq).mono ?_; rintro e w4 ⟨gw4, rfl, sw4, hw4⟩; have Sw4 := Ow.sl Slo.enc sw4; clear sw4
      go_wp2_with fail; refine (swrite_val HV.out.2.2.2.2.2.2.1 HV.out.2.2.2.2.2.2.2 _ _ _ (Sw4.kept (by repeat' (first | (with_reducible exact Below.refl _ _) | (with_reducible assumption) | (with_reducible refine kept_alloc ?_ _) | (with_reducible refine kept_drewN ?_ _) | (with_reducible refine Below.drew ?_) | (with_reducible refine Below.setCell ?_ (by first | omega | (simp; omega) | (simp; done)) _) | (refine kept_trans ?_ (by with_reducible assumption))))) HL.out.2.1 hp).mono ?_; rintro e w5 ⟨gw5, rfl, sw5, hw5⟩; have Sw5 := Ow.sl Slo.enc sw5; clear sw5
      go_wp2_with fail
      refine (rssame_val (b := true) (by simp) _ _ _ _ _ (Sw3.kept (by repeat' (first | (with_reducible exact Below.refl _ _) | (with_reducible assumption) | (with_reducible refine kept_alloc ?_ _) | (with_reducible refine kept_drewN ?_ _) | (with_reducible refine Below.drew ?_) | (with_reducible refine Below.setCell ?_ (by first | omega | (simp; omega) | (simp; done)) _) | (refine kept_trans ?_ (by with_reducible assumption))))) (Sw5.kept (by repeat' (first | (with_reducible exact Below.refl _ _) | (with_reducible assumption) | (with_reducible refine kept_alloc ?_ _) | (with_reducible refine kept_drewN ?_ _) | (with_reducible refine Below.drew ?_) | (with_reducible refine Below.setCell ?_ (by first | omega | (simp; omega) | (simp; done)) _) | (refine kept_trans ?_ (by with_reducible assumption))))) HL.out.2.2).mono ?_
      rintro e w6 ⟨rfl, hw6⟩
      go_wp2
      all_goals (go_ret; exact ⟨rfl, by repeat' (first | (with_reducible exact Below.refl _ _) | (with_reducible assumption) | (with_reducible refine kept_alloc ?_ _) | (with_reducible refine kept_drewN ?_ _) | (with_reducible refine Below.drew ?_) | (with_reducible refine Below.setCell ?_ (by first | omega | (simp; omega) | (simp; done)) _) | (refine kept_trans ?_ (by with_reducible assumption)))⟩)
  · have hlen' : (100 : Int) < (l.length : Int) := (by omega); clear hlen; go_enter Try.func7, Try.ntmps7; go_wp2_with fail; refine (slotawake_any _).mono ?_; rintro e w1 ⟨rfl, hg1⟩; go_wp2; all_goals (go_ret; exact ⟨rfl, by repeat' (first | (with_reducible exact Below.refl _ _) | (with_reducible assumption) | (with_reducible refine kept_alloc ?_ _) | (with_reducible refine kept_drewN ?_ _) | (with_reducible refine Below.drew ?_) | (with_reducible refine Below.setCell ?_ (by first | omega | (simp; omega) | (simp; done)) _) | (refine kept_trans ?_ (by with_reducible assumption)))⟩)

set_option maxRecDepth 100000 in
set_option maxRecDepth 100000 in
theorem slotApart_lifted (os : Os) (started : os.Started) (H : Type) (enc : TypeId × Value → H) :
    ReturnsInHanded {} Try.checked os 7 .any (Rows.slotApartSpec.pre6 enc Try.prog Try.f7 Rows.slotApartRow.domain false) (Rows.slotApartSpec.post enc Try.prog Try.f7 false true false false) := by
  refine returnsInHanded_of_change (C := Try.checked) own started (by kernel_rfl) Try.func7
    (ChangeSpec.witness6 (enc := enc) (C := Try.checked) false ⟨#[], #[.slice none 0 0, .int .i64 0, .int .i64 0, .int .i64 0, .int .i64 0], []⟩ 8 (by kernel_rfl) (by kernel_rfl) (by kernel_rfl) (by kernel_rfl)) ?_
  intro W base args ds gs before hval0 hW hcnd _
  have hval : ∀ (j : Nat) t v, Try.f7.params[j]? = some t → args[j]? = some v → Value.okWide Try.prog W .any base t v := hval0
  have hW' := hW
  obtain ⟨p, q, hA0, hV, rfl, hfz, hnd⟩ := hW
  have hA : DataW.TrodAll enc Try.prog W 0 (fun _ => true) true Try.f7.params.toList args.toList ds p := hA0
  rw [Try.params7] at hA hval
  obtain ⟨v0, vs0, d0, ds0, p0, q0, hargs, rfl, rfl, h0, r0⟩ := trodAll_cons hA
  obtain ⟨v1, vs1, d1, ds1, p1, q1, rfl, rfl, rfl, h1, r1⟩ := trodAll_cons r0
  obtain ⟨v2, vs2, d2, ds2, p2, q2, rfl, rfl, rfl, h2, r2⟩ := trodAll_cons r1
  obtain ⟨v3, vs3, d3, ds3, p3, q3, rfl, rfl, rfl, h3, r3⟩ := trodAll_cons r2
  obtain ⟨v4, vs4, d4, ds4, p4, q4, rfl, rfl, rfl, h4, r4⟩ := trodAll_cons r3
  obtain ⟨rfl, rfl, rfl⟩ := trodAll_nil r4
  obtain rfl : args = #[v0, v1, v2, v3, v4] := by cases args; simp_all
  obtain ⟨rfl, rfl⟩ := trodVars_none hV
  obtain ⟨l, lsl, lok, lml⟩ := Sl.of_read Slo.cells Slo.ok (by decide) (open_row (g := 9) (l := Slo.shape) Try.underlying22 (by kernel_rfl) (hval 0 22 v0 rfl rfl) h0) (fun vs h => Slo.of_read h)
  obtain ⟨p, rfl, rfl, rfl, wf1⟩ := open_int Try.underlying3 (hval 1 3 v1 rfl rfl) h1
  obtain ⟨q, rfl, rfl, rfl, wf2⟩ := open_int Try.underlying3 (hval 2 3 v2 rfl rfl) h2
  obtain ⟨a, rfl, rfl, rfl, wf3⟩ := open_int Try.underlying3 (hval 3 3 v3 rfl rfl) h3
  obtain ⟨b, rfl, rfl, rfl, wf4⟩ := open_int Try.underlying3 (hval 4 3 v4 rfl rfl) h4
  clear hA0 hval0
  refine (slotApart_walk l v0 lok lml p (in64_of_wf wf1) q (in64_of_wf wf2) a (in64_of_wf wf3) b (in64_of_wf wf4) W lsl).mono fun e W' ⟨he, hg⟩ => ?_
  subst he
  exact ⟨_, rfl, law_post laid hW' rfl (by kernel_rfl) rfl Try.underlying4 rfl hg⟩

/-- The statement, whole. -/
theorem slotApart_holds : Rows.SlotApartSaid :=
  OpenClaim.holds_of_wide 7 Try.f7 rfl rfl rfl rfl rfl rfl rfl ⟨rfl, rfl, rfl, rfl, rfl⟩ rfl rfl rfl rfl rfl (by kernel_rfl) Try.func7 (by kernel_rfl)
    (of_decide_eq_true (by kernel_rfl)) (by unfold Func.isWrapper; rw [if_neg (of_decide_eq_false (by kernel_rfl))]; exact ⟨rfl, rfl⟩)
    (fun os started H enc _ => slotApart_lifted os started H enc)
end Go.Proofs.Ytbfmnlniabldbaa
