/- SlotTells holds for every input: no conditions. -/
import Derived.Test.YtbfmnlniabldbaaSlotM
namespace Go.Proofs.Ytbfmnlniabldbaa
set_option linter.unusedVariables false
set_option linter.unusedSimpArgs false
open Go.ChangeShapes Go.WideShapes Go.ChangeAt Go.RowKit
set_option maxHeartbeats 4000000 in
set_option maxRecDepth 100000 in
theorem slotTells_walk (l : List Slo) (lv : Value) (hl : ∀ x ∈ l, x.ok) (hlm : l.length ≤ maxLen) (p : Int) (hp : In64 p) (val : Int) (hval : In64 val) (room : Int) (hroom : In64 room) (w : World) (hls : Sl w Slo.size Slo.cells l lv) :
    Calls Try.prog 3 #[lv, .int .i64 p, .int .i64 val, .int .i64 room] w fun e w' => e = .returned (.bool true) ∧ Kept w w' := by
  obtain ⟨a, k, rfl, -⟩ := hls.is
  have H : Hid (Sl w 2 Slo.cells l (.slice a l.length k)) := Lib.hid hls
  clear hls hl
  by_cases hlen : l.length ≤ 100
  · obtain ⟨A, hA⟩ : ∃ A, wrL l p val = A := ⟨_, rfl⟩
    obtain ⟨C, hC⟩ : ∃ C, rlL l p = C := ⟨_, rfl⟩
    obtain ⟨R, hR⟩ : ∃ R, newL room = R := ⟨_, rfl⟩
    obtain ⟨E, hE⟩ : ∃ v, wrE l p = v := ⟨_, rfl⟩
    obtain ⟨V, hV⟩ : ∃ v, rdV l p = v := ⟨_, rfl⟩
    obtain ⟨F, hF⟩ : ∃ v, rdE l p = v := ⟨_, rfl⟩
    obtain ⟨G, hG⟩ : ∃ v, rlE l p = v := ⟨_, rfl⟩
    obtain ⟨K, hK⟩ : ∃ v, okSl l = v := ⟨_, rfl⟩
    obtain ⟨Y, hY⟩ : ∃ v, rdyB l p = v := ⟨_, rfl⟩
    have hAl : A.length ≤ 1000 := by rw [← hA, wr_len]; omega
    have hCl : C.length ≤ 1000 := by rw [← hC, rl_len]; omega
    have hRl : R.length ≤ 1000 := by have := newL_le room; rw [hR] at this; omega
    have HL := Lib.hid (And.intro hAl (And.intro hCl hRl))
    have HV := Lib.hid (And.intro hA (And.intro hE (And.intro hV (And.intro hF (And.intro hC (And.intro hG (And.intro hR (And.intro hK hY))))))))
    clear hA hC hR hE hV hF hG hK hY hAl hCl hRl
    have hm : l.length ≤ 1000 := by omega
    go_enter Try.func3, Try.ntmps3; go_wp2_with fail; refine (slotawake_any _).mono ?_; rintro e w1 ⟨rfl, hg1⟩
    go_wp2_with fail; refine (swrite_val HV.out.1 HV.out.2.1 _ _ _ (H.out.kept (by repeat' (first | (with_reducible exact Below.refl _ _) | (with_reducible assumption) | (with_reducible refine kept_alloc ?_ _) | (with_reducible refine kept_drewN ?_ _) | (with_reducible refine Below.drew ?_) | (with_reducible refine Below.setCell ?_ (by first | omega | (simp; omega) | (simp; done)) _) | (refine kept_trans ?_ (by with_reducible assumption))))) hm hp).mono ?_; rintro e w2 ⟨gw2, rfl, sw2, hw2⟩; have Sw2 := Ow.sl Slo.enc sw2; clear sw2
    go_wp2_with fail; refine (rswrite_val HV.out.1 HV.out.2.1 _ _ _ (H.out.kept (by repeat' (first | (with_reducible exact Below.refl _ _) | (with_reducible assumption) | (with_reducible refine kept_alloc ?_ _) | (with_reducible refine kept_drewN ?_ _) | (with_reducible refine Below.drew ?_) | (with_reducible refine Below.setCell ?_ (by first | omega | (simp; omega) | (simp; done)) _) | (refine kept_trans ?_ (by with_reducible assumption))))) hm hp).mono ?_; rintro e w3 ⟨pw3, kw3, rfl, Sw3, hw3⟩
    go_wp2_with fail; refine (sread_val HV.out.2.2.1 HV.out.2.2.2.1 _ _ _ (H.out.kept (by repeat' (first | (with_reducible exact Below.refl _ _) | (with_reducible assumption) | (with_reducible refine kept_alloc ?_ _) | (with_reducible refine kept_drewN ?_ _) | (with_reducible refine Below.drew ?_) | (with_reducible refine Below.setCell ?_ (by first | omega | (simp; omega) | (simp; done)) _) | (refine kept_trans ?_ (by with_reducible assumption))))) hm hp).mono ?_; rintro e w4 ⟨rfl, hw4⟩
    go_wp2_with fail; refine (rsread_val HV.out.2.2.1 HV.out.2.2.2.1 _ _ _ (H.out.kept (by repeat' (first | (with_reducible exact Below.refl _ _) | (with_reducible assumption) | (with_reducible refine kept_alloc ?_ _) | (with_reducible refine kept_drewN ?_ _) | (with_reducible refine Below.drew ?_) | (with_reducible refine Below.setCell ?_ (by first | omega | (simp; omega) | (simp; done)) _) | (refine kept_trans ?_ (by with_reducible assumption))))) hm hp).mono ?_; rintro e w5 ⟨rfl, hw5⟩
    go_wp2_with fail; refine (srelease_val HV.out.2.2.2.2.1 HV.out.2.2.2.2.2.1 _ _ _ (H.out.kept (by repeat' (first | (with_reducible exact Below.refl _ _) | (with_reducible assumption) | (with_reducible refine kept_alloc ?_ _) | (with_reducible refine kept_drewN ?_ _) | (with_reducible refine Below.drew ?_) | (with_reducible refine Below.setCell ?_ (by first | omega | (simp; omega) | (simp; done)) _) | (refine kept_trans ?_ (by with_reducible assumption))))) hm hp).mono ?_; rintro e w6 ⟨gw6, rfl, sw6, hw6⟩; have Sw6 := Ow.sl Slo.enc sw6; clear sw6
    go_wp2_with fail; refine (rsrelease_val HV.out.2.2.2.2.1 HV.out.2.2.2.2.2.1 _ _ _ (H.out.kept (by repeat' (first | (with_reducible exact Below.refl _ _) | (with_reducible assumption) | (with_reducible refine kept_alloc ?_ _) | (with_reducible refine kept_drewN ?_ _) | (with_reducible refine Below.drew ?_) | (with_reducible refine Below.setCell ?_ (by first | omega | (simp; omega) | (simp; done)) _) | (refine kept_trans ?_ (by with_reducible assumption))))) hm hp).mono ?_; rintro e w7 ⟨pw7, kw7, rfl, Sw7, hw7⟩
    have T2 := Lib.hid (Sw2.kept (show Below w2.heap.size w2 w7 by repeat' (first | (with_reducible exact Below.refl _ _) | (with_reducible assumption) | (with_reducible refine kept_alloc ?_ _) | (with_reducible refine kept_drewN ?_ _) | (with_reducible refine Below.drew ?_) | (with_reducible refine Below.setCell ?_ (by first | omega | (simp; omega) | (simp; done)) _) | (refine kept_trans ?_ (by with_reducible assumption)))))
    have T3 := Lib.hid (Sw3.kept (show Below w3.heap.size w3 w7 by repeat' (first | (with_reducible exact Below.refl _ _) | (with_reducible assumption) | (with_reducible refine kept_alloc ?_ _) | (with_reducible refine kept_drewN ?_ _) | (with_reducible refine Below.drew ?_) | (with_reducible refine Below.setCell ?_ (by first | omega | (simp; omega) | (simp; done)) _) | (refine kept_trans ?_ (by with_reducible assumption)))))
    have T6 := Lib.hid (Sw6.kept (show Below w6.heap.size w6 w7 by repeat' (first | (with_reducible exact Below.refl _ _) | (with_reducible assumption) | (with_reducible refine kept_alloc ?_ _) | (with_reducible refine kept_drewN ?_ _) | (with_reducible refine Below.drew ?_) | (with_reducible refine Below.setCell ?_ (by first | omega | (simp; omega) | (simp; done)) _) | (refine kept_trans ?_ (by with_reducible assumption)))))
    have T7 := Lib.hid Sw7
    have hB : Below w.heap.size w w7 := by repeat' (first | (with_reducible exact Below.refl _ _) | (with_reducible assumption) | (with_reducible refine kept_alloc ?_ _) | (with_reducible refine kept_drewN ?_ _) | (with_reducible refine Below.drew ?_) | (with_reducible refine Below.setCell ?_ (by first | omega | (simp; omega) | (simp; done)) _) | (refine kept_trans ?_ (by with_reducible assumption)))
    clear Sw2 Sw3 Sw6 Sw7 hg1 hw2 hw3 hw4 hw5 hw6 hw7
    go_wp2_with fail
    refine (snew_val HV.out.2.2.2.2.2.2.1 hroom _).mono ?_
    rintro e w8 ⟨p8, k8, rfl, s8, hw8⟩
    have S8 := Ow.sl Slo.enc s8
    clear s8
    go_wp2_with fail
    refine (rsnew_val HV.out.2.2.2.2.2.2.1 hroom _).mono ?_
    rintro e w9 ⟨p9, k9, rfl, s9, hw9⟩
    have S9 := Ow.sl Slo.enc s9
    clear s9
    go_wp2_with fail
    refine (rssame_val (b := true) (by simp) _ _ _ _ _ (S8.kept (by repeat' (first | (with_reducible exact Below.refl _ _) | (with_reducible assumption) | (with_reducible refine kept_alloc ?_ _) | (with_reducible refine kept_drewN ?_ _) | (with_reducible refine Below.drew ?_) | (with_reducible refine Below.setCell ?_ (by first | omega | (simp; omega) | (simp; done)) _) | (refine kept_trans ?_ (by with_reducible assumption))))) (S9.kept (by repeat' (first | (with_reducible exact Below.refl _ _) | (with_reducible assumption) | (with_reducible refine kept_alloc ?_ _) | (with_reducible refine kept_drewN ?_ _) | (with_reducible refine Below.drew ?_) | (with_reducible refine Below.setCell ?_ (by first | omega | (simp; omega) | (simp; done)) _) | (refine kept_trans ?_ (by with_reducible assumption))))) HL.out.2.2).mono ?_
    rintro e w10 ⟨rfl, hw10⟩
    go_wp2_with fail; refine (scheck_val HV.out.2.2.2.2.2.2.2.1 _ _ _ (H.out.kept (by repeat' (first | (with_reducible exact Below.refl _ _) | (with_reducible assumption) | (with_reducible refine kept_alloc ?_ _) | (with_reducible refine kept_drewN ?_ _) | (with_reducible refine Below.drew ?_) | (with_reducible refine Below.setCell ?_ (by first | omega | (simp; omega) | (simp; done)) _) | (refine kept_trans ?_ (by with_reducible assumption))))) hm).mono ?_; rintro e w11 ⟨rfl, hw11⟩
    go_wp2_with fail; refine (rscheck_val HV.out.2.2.2.2.2.2.2.1 _ _ _ (H.out.kept (by repeat' (first | (with_reducible exact Below.refl _ _) | (with_reducible assumption) | (with_reducible refine kept_alloc ?_ _) | (with_reducible refine kept_drewN ?_ _) | (with_reducible refine Below.drew ?_) | (with_reducible refine Below.setCell ?_ (by first | omega | (simp; omega) | (simp; done)) _) | (refine kept_trans ?_ (by with_reducible assumption))))) hm).mono ?_; rintro e w12 ⟨rfl, hw12⟩
    go_wp2_with fail; refine (sready_val HV.out.2.2.2.2.2.2.2.2 _ _ _ (H.out.kept (by repeat' (first | (with_reducible exact Below.refl _ _) | (with_reducible assumption) | (with_reducible refine kept_alloc ?_ _) | (with_reducible refine kept_drewN ?_ _) | (with_reducible refine Below.drew ?_) | (with_reducible refine Below.setCell ?_ (by first | omega | (simp; omega) | (simp; done)) _) | (refine kept_trans ?_ (by with_reducible assumption))))) hm hp).mono ?_; rintro e w13 ⟨rfl, hw13⟩
    go_wp2_with fail; refine (rsready_val HV.out.2.2.2.2.2.2.2.2 _ _ _ (H.out.kept (by repeat' (first | (with_reducible exact Below.refl _ _) | (with_reducible assumption) | (with_reducible refine kept_alloc ?_ _) | (with_reducible refine kept_drewN ?_ _) | (with_reducible refine Below.drew ?_) | (with_reducible refine Below.setCell ?_ (by first | omega | (simp; omega) | (simp; done)) _) | (refine kept_trans ?_ (by with_reducible assumption))))) hm hp).mono ?_; rintro e w14 ⟨rfl, hw14⟩
    go_wp2_with fail
    refine (rssame_val (b := true) (by simp) _ _ _ _ _ (T2.out.kept (by repeat' (first | (with_reducible exact Below.refl _ _) | (with_reducible assumption) | (with_reducible refine kept_alloc ?_ _) | (with_reducible refine kept_drewN ?_ _) | (with_reducible refine Below.drew ?_) | (with_reducible refine Below.setCell ?_ (by first | omega | (simp; omega) | (simp; done)) _) | (refine kept_trans ?_ (by with_reducible assumption))))) (T3.out.kept (by repeat' (first | (with_reducible exact Below.refl _ _) | (with_reducible assumption) | (with_reducible refine kept_alloc ?_ _) | (with_reducible refine kept_drewN ?_ _) | (with_reducible refine Below.drew ?_) | (with_reducible refine Below.setCell ?_ (by first | omega | (simp; omega) | (simp; done)) _) | (refine kept_trans ?_ (by with_reducible assumption))))) HL.out.1).mono ?_
    rintro e w15 ⟨rfl, hw15⟩
    go_wp2_with fail
    refine (rssame_val (b := true) (by simp) _ _ _ _ _ (T6.out.kept (by repeat' (first | (with_reducible exact Below.refl _ _) | (with_reducible assumption) | (with_reducible refine kept_alloc ?_ _) | (with_reducible refine kept_drewN ?_ _) | (with_reducible refine Below.drew ?_) | (with_reducible refine Below.setCell ?_ (by first | omega | (simp; omega) | (simp; done)) _) | (refine kept_trans ?_ (by with_reducible assumption))))) (T7.out.kept (by repeat' (first | (with_reducible exact Below.refl _ _) | (with_reducible assumption) | (with_reducible refine kept_alloc ?_ _) | (with_reducible refine kept_drewN ?_ _) | (with_reducible refine Below.drew ?_) | (with_reducible refine Below.setCell ?_ (by first | omega | (simp; omega) | (simp; done)) _) | (refine kept_trans ?_ (by with_reducible assumption))))) HL.out.2.1).mono ?_
    rintro e w16 ⟨rfl, hw16⟩
    go_wp2
    all_goals (go_ret; exact ⟨rfl, by repeat' (first | (with_reducible exact Below.refl _ _) | (with_reducible assumption) | (with_reducible refine kept_alloc ?_ _) | (with_reducible refine kept_drewN ?_ _) | (with_reducible refine Below.drew ?_) | (with_reducible refine Below.setCell ?_ (by first | omega | (simp; omega) | (simp; done)) _) | (refine kept_trans ?_ (by with_reducible assumption)))⟩)
  · have hlen' : (100 : Int) < (l.length : Int) := (by omega); clear hlen; go_enter Try.func3, Try.ntmps3; go_wp2_with fail; refine (slotawake_any _).mono ?_; rintro e w1 ⟨rfl, hg1⟩; go_wp2; all_goals (go_ret; exact ⟨rfl, by repeat' (first | (with_reducible exact Below.refl _ _) | (with_reducible assumption) | (with_reducible refine kept_alloc ?_ _) | (with_reducible refine kept_drewN ?_ _) | (with_reducible refine Below.drew ?_) | (with_reducible refine Below.setCell ?_ (by first | omega | (simp; omega) | (simp; done)) _) | (refine kept_trans ?_ (by with_reducible assumption)))⟩)

set_option maxRecDepth 100000 in
set_option maxRecDepth 100000 in
theorem slotTells_lifted (os : Os) (started : os.Started) (H : Type) (enc : TypeId × Value → H) :
    ReturnsInHanded {} Try.checked os 3 .any (Rows.slotTellsSpec.pre6 enc Try.prog Try.f3 Rows.slotTellsRow.domain false) (Rows.slotTellsSpec.post enc Try.prog Try.f3 false true false false) := by
  refine returnsInHanded_of_change (C := Try.checked) own started (by kernel_rfl) Try.func3
    (ChangeSpec.witness6 (enc := enc) (C := Try.checked) false ⟨#[], #[.slice none 0 0, .int .i64 0, .int .i64 0, .int .i64 0], []⟩ 8 (by kernel_rfl) (by kernel_rfl) (by kernel_rfl) (by kernel_rfl)) ?_
  intro W base args ds gs before hval0 hW hcnd _
  have hval : ∀ (j : Nat) t v, Try.f3.params[j]? = some t → args[j]? = some v → Value.okWide Try.prog W .any base t v := hval0
  have hW' := hW
  obtain ⟨p, q, hA0, hV, rfl, hfz, hnd⟩ := hW
  have hA : DataW.TrodAll enc Try.prog W 0 (fun _ => true) true Try.f3.params.toList args.toList ds p := hA0
  rw [Try.params3] at hA hval
  obtain ⟨v0, vs0, d0, ds0, p0, q0, hargs, rfl, rfl, h0, r0⟩ := trodAll_cons hA
  obtain ⟨v1, vs1, d1, ds1, p1, q1, rfl, rfl, rfl, h1, r1⟩ := trodAll_cons r0
  obtain ⟨v2, vs2, d2, ds2, p2, q2, rfl, rfl, rfl, h2, r2⟩ := trodAll_cons r1
  obtain ⟨v3, vs3, d3, ds3, p3, q3, rfl, rfl, rfl, h3, r3⟩ := trodAll_cons r2
  obtain ⟨rfl, rfl, rfl⟩ := trodAll_nil r3
  obtain rfl : args = #[v0, v1, v2, v3] := by cases args; simp_all
  obtain ⟨rfl, rfl⟩ := trodVars_none hV
  obtain ⟨l, lsl, lok, lml⟩ := Sl.of_read Slo.cells Slo.ok (by decide) (open_row (g := 9) (l := Slo.shape) Try.underlying22 (by kernel_rfl) (hval 0 22 v0 rfl rfl) h0) (fun vs h => Slo.of_read h)
  obtain ⟨p, rfl, rfl, rfl, wf1⟩ := open_int Try.underlying3 (hval 1 3 v1 rfl rfl) h1
  obtain ⟨val, rfl, rfl, rfl, wf2⟩ := open_int Try.underlying3 (hval 2 3 v2 rfl rfl) h2
  obtain ⟨room, rfl, rfl, rfl, wf3⟩ := open_int Try.underlying3 (hval 3 3 v3 rfl rfl) h3
  clear hA0 hval0
  refine (slotTells_walk l v0 lok lml p (in64_of_wf wf1) val (in64_of_wf wf2) room (in64_of_wf wf3) W lsl).mono fun e W' ⟨he, hg⟩ => ?_
  subst he
  exact ⟨_, rfl, law_post laid hW' rfl (by kernel_rfl) rfl Try.underlying4 rfl hg⟩

/-- The statement, whole. -/
theorem slotTells_holds : Rows.SlotTellsSaid :=
  OpenClaim.holds_of_wide 3 Try.f3 rfl rfl rfl rfl rfl rfl rfl ⟨rfl, rfl, rfl, rfl, rfl⟩ rfl rfl rfl rfl rfl (by kernel_rfl) Try.func3 (by kernel_rfl)
    (of_decide_eq_true (by kernel_rfl)) (by unfold Func.isWrapper; rw [if_neg (of_decide_eq_false (by kernel_rfl))]; exact ⟨rfl, rfl⟩)
    (fun os started H enc _ => slotTells_lifted os started H enc)
end Go.Proofs.Ytbfmnlniabldbaa
