/- SlotBack holds for every input: no conditions. -/
import Derived.Test.YtbfmnlniabldbaaSlotM
namespace Go.Proofs.Ytbfmnlniabldbaa
set_option linter.unusedVariables false
set_option linter.unusedSimpArgs false
open Go.ChangeShapes Go.WideShapes Go.ChangeAt Go.RowKit
theorem back_other {l : List Slo} {p q v : Int} (h : rdyB l p = true) : (q != p) = false ∨ (q != p) = true ∧ rdV (wrL l p v) q = rdV l q := by
  by_cases e : q = p
  · left; simp [e]
  · right; exact ⟨by simp [e], wr_other h e⟩
set_option maxHeartbeats 4000000 in
set_option maxRecDepth 100000 in
theorem slotBack_walk (l : List Slo) (lv : Value) (hl : ∀ x ∈ l, x.ok) (hlm : l.length ≤ maxLen) (p : Int) (hp : In64 p) (val : Int) (hval : In64 val) (other : Int) (hother : In64 other) (w : World) (hls : Sl w Slo.size Slo.cells l lv) :
    Calls Try.prog 4 #[lv, .int .i64 p, .int .i64 val, .int .i64 other] w fun e w' => e = .returned (.bool true) ∧ Kept w w' := by
  obtain ⟨a, k, rfl, -⟩ := hls.is
  have H : Hid (Sl w 2 Slo.cells l (.slice a l.length k)) := Lib.hid hls
  clear hls hl
  by_cases hlen : l.length ≤ 100
  · have hm : l.length ≤ 1000 := by omega
    rcases wr_or l p val with ⟨hE, hr, hli⟩ | ⟨hE, hA, hli⟩ | ⟨hE, hA, hli⟩
    · -- written
      have hs := wr_sts l p val
      have hlA := wr_len l p val
      have hra : rdyB (wrL l p val) p = true := by rw [rdy_sts hs]; exact hr
      obtain ⟨hV, hF⟩ := wr_read (v := val) hr
      have ho := back_other (q := other) (v := val) hr
      have hFo := rdE_sts hs other
      have hp0 : 0 ≤ p := (lies_iff.1 hli).1
      obtain ⟨A, hA⟩ : ∃ A, wrL l p val = A := ⟨_, rfl⟩
      rw [hA] at hs hlA hra hV hF ho hFo
      obtain ⟨x, hx⟩ : ∃ v, rdV l other = v := ⟨_, rfl⟩
      obtain ⟨y, hy⟩ : ∃ v, rdV A other = v := ⟨_, rfl⟩
      obtain ⟨g, hg⟩ : ∃ v, rdE l other = v := ⟨_, rfl⟩
      rw [hx, hy] at ho
      rw [hg] at hFo
      have HV := Lib.hid (And.intro hA (And.intro hE (And.intro hV (And.intro hF (And.intro hx (And.intro hg (And.intro hy hFo)))))))
      have hAl : Hid (A.length ≤ 1000) := Lib.hid (by omega)
      have hgg : (g != g) = false := by simp
      have hvv : (val != val) = false := by simp
      by_cases hpb : p ≤ 1099511627776
      · obtain ⟨h1, h2, h3, h4, h5⟩ := rl_laid hra hpb
        obtain ⟨B, hB⟩ : ∃ B, rlL A p = B := ⟨_, rfl⟩
        have hBl : Hid (B.length ≤ 1000) := Lib.hid (by rw [← hB, rl_len, hlA]; omega)
        rw [hB, hlA] at h4
        rw [hB] at h3
        have hw : IntKind.i64.wrap (p + (l.length : Int)) = p + l.length := IntWalk.i64_in _ (by omega)
        have HR := Lib.hid (And.intro hB (And.intro h2 (And.intro h3 h4)))
        clear hs hlA hra hV hF hFo hA hx hy hg h1 h2 h3 h4 h5 hB hE hr hli
        rcases ho with ho | ⟨ho, rfl⟩
        all_goals
          go_enter Try.func4, Try.ntmps4; go_wp2_with fail; refine (slotawake_any _).mono ?_; rintro e w1 ⟨rfl, hg1⟩
          go_wp2_with fail; refine (swrite_val HV.out.1 HV.out.2.1 _ _ _ (H.out.kept (by repeat' (first | (with_reducible exact Below.refl _ _) | (with_reducible assumption) | (with_reducible refine kept_alloc ?_ _) | (with_reducible refine kept_drewN ?_ _) | (with_reducible refine Below.drew ?_) | (with_reducible refine Below.setCell ?_ (by first | omega | (simp; omega) | (simp; done)) _) | (refine kept_trans ?_ (by with_reducible assumption))))) hm hp).mono ?_; rintro e w2 ⟨gw2, rfl, sw2, hw2⟩; have Sw2 := Ow.sl Slo.enc sw2; clear sw2
          go_wp2_with fail; refine (sread_val HV.out.2.2.1 HV.out.2.2.2.1 _ _ _ (Sw2.kept (by repeat' (first | (with_reducible exact Below.refl _ _) | (with_reducible assumption) | (with_reducible refine kept_alloc ?_ _) | (with_reducible refine kept_drewN ?_ _) | (with_reducible refine Below.drew ?_) | (with_reducible refine Below.setCell ?_ (by first | omega | (simp; omega) | (simp; done)) _) | (refine kept_trans ?_ (by with_reducible assumption))))) hAl.out hp).mono ?_; rintro e w3 ⟨rfl, hw3⟩
          go_wp2_with fail; refine (sread_val HV.out.2.2.2.2.1 HV.out.2.2.2.2.2.1 _ _ _ (H.out.kept (by repeat' (first | (with_reducible exact Below.refl _ _) | (with_reducible assumption) | (with_reducible refine kept_alloc ?_ _) | (with_reducible refine kept_drewN ?_ _) | (with_reducible refine Below.drew ?_) | (with_reducible refine Below.setCell ?_ (by first | omega | (simp; omega) | (simp; done)) _) | (refine kept_trans ?_ (by with_reducible assumption))))) hm hother).mono ?_; rintro e w4 ⟨rfl, hw4⟩
          go_wp2_with fail; refine (sread_val HV.out.2.2.2.2.2.2.1 HV.out.2.2.2.2.2.2.2 _ _ _ (Sw2.kept (by repeat' (first | (with_reducible exact Below.refl _ _) | (with_reducible assumption) | (with_reducible refine kept_alloc ?_ _) | (with_reducible refine kept_drewN ?_ _) | (with_reducible refine Below.drew ?_) | (with_reducible refine Below.setCell ?_ (by first | omega | (simp; omega) | (simp; done)) _) | (refine kept_trans ?_ (by with_reducible assumption))))) hAl.out hother).mono ?_; rintro e w5 ⟨rfl, hw5⟩
          go_wp2_with fail; refine (srelease_val HR.out.1 HR.out.2.1 _ _ _ (Sw2.kept (by repeat' (first | (with_reducible exact Below.refl _ _) | (with_reducible assumption) | (with_reducible refine kept_alloc ?_ _) | (with_reducible refine kept_drewN ?_ _) | (with_reducible refine Below.drew ?_) | (with_reducible refine Below.setCell ?_ (by first | omega | (simp; omega) | (simp; done)) _) | (refine kept_trans ?_ (by with_reducible assumption))))) hAl.out hp).mono ?_; rintro e w6 ⟨gw6, rfl, sw6, hw6⟩; have Sw6 := Ow.sl Slo.enc sw6; clear sw6
          go_wp2_with fail; refine (sready_val HR.out.2.2.1 _ _ _ (Sw6.kept (by repeat' (first | (with_reducible exact Below.refl _ _) | (with_reducible assumption) | (with_reducible refine kept_alloc ?_ _) | (with_reducible refine kept_drewN ?_ _) | (with_reducible refine Below.drew ?_) | (with_reducible refine Below.setCell ?_ (by first | omega | (simp; omega) | (simp; done)) _) | (refine kept_trans ?_ (by with_reducible assumption))))) hBl.out hp).mono ?_; rintro e w7 ⟨rfl, hw7⟩
          go_wp2_with fail; refine (sready_val HR.out.2.2.2 _ _ _ (Sw6.kept (by repeat' (first | (with_reducible exact Below.refl _ _) | (with_reducible assumption) | (with_reducible refine kept_alloc ?_ _) | (with_reducible refine kept_drewN ?_ _) | (with_reducible refine Below.drew ?_) | (with_reducible refine Below.setCell ?_ (by first | omega | (simp; omega) | (simp; done)) _) | (refine kept_trans ?_ (by with_reducible assumption))))) hBl.out (by omega)).mono ?_; rintro e w8 ⟨rfl, hw8⟩
          go_wp2
          all_goals (go_ret; exact ⟨rfl, by repeat' (first | (with_reducible exact Below.refl _ _) | (with_reducible assumption) | (with_reducible refine kept_alloc ?_ _) | (with_reducible refine kept_drewN ?_ _) | (with_reducible refine Below.drew ?_) | (with_reducible refine Below.setCell ?_ (by first | omega | (simp; omega) | (simp; done)) _) | (refine kept_trans ?_ (by with_reducible assumption)))⟩)
      · have h2 := rl_far (a := A) (p := p) (by omega)
        have hpc : 1099511627776 < p := by omega
        have HR := Lib.hid h2
        clear hs hlA hra hV hF hFo hA hx hy hg h2 hE hr hli hpb
        rcases ho with ho | ⟨ho, rfl⟩
        all_goals
          go_enter Try.func4, Try.ntmps4; go_wp2_with fail; refine (slotawake_any _).mono ?_; rintro e w1 ⟨rfl, hg1⟩
          go_wp2_with fail; refine (swrite_val HV.out.1 HV.out.2.1 _ _ _ (H.out.kept (by repeat' (first | (with_reducible exact Below.refl _ _) | (with_reducible assumption) | (with_reducible refine kept_alloc ?_ _) | (with_reducible refine kept_drewN ?_ _) | (with_reducible refine Below.drew ?_) | (with_reducible refine Below.setCell ?_ (by first | omega | (simp; omega) | (simp; done)) _) | (refine kept_trans ?_ (by with_reducible assumption))))) hm hp).mono ?_; rintro e w2 ⟨gw2, rfl, sw2, hw2⟩; have Sw2 := Ow.sl Slo.enc sw2; clear sw2
          go_wp2_with fail; refine (sread_val HV.out.2.2.1 HV.out.2.2.2.1 _ _ _ (Sw2.kept (by repeat' (first | (with_reducible exact Below.refl _ _) | (with_reducible assumption) | (with_reducible refine kept_alloc ?_ _) | (with_reducible refine kept_drewN ?_ _) | (with_reducible refine Below.drew ?_) | (with_reducible refine Below.setCell ?_ (by first | omega | (simp; omega) | (simp; done)) _) | (refine kept_trans ?_ (by with_reducible assumption))))) hAl.out hp).mono ?_; rintro e w3 ⟨rfl, hw3⟩
          go_wp2_with fail; refine (sread_val HV.out.2.2.2.2.1 HV.out.2.2.2.2.2.1 _ _ _ (H.out.kept (by repeat' (first | (with_reducible exact Below.refl _ _) | (with_reducible assumption) | (with_reducible refine kept_alloc ?_ _) | (with_reducible refine kept_drewN ?_ _) | (with_reducible refine Below.drew ?_) | (with_reducible refine Below.setCell ?_ (by first | omega | (simp; omega) | (simp; done)) _) | (refine kept_trans ?_ (by with_reducible assumption))))) hm hother).mono ?_; rintro e w4 ⟨rfl, hw4⟩
          go_wp2_with fail; refine (sread_val HV.out.2.2.2.2.2.2.1 HV.out.2.2.2.2.2.2.2 _ _ _ (Sw2.kept (by repeat' (first | (with_reducible exact Below.refl _ _) | (with_reducible assumption) | (with_reducible refine kept_alloc ?_ _) | (with_reducible refine kept_drewN ?_ _) | (with_reducible refine Below.drew ?_) | (with_reducible refine Below.setCell ?_ (by first | omega | (simp; omega) | (simp; done)) _) | (refine kept_trans ?_ (by with_reducible assumption))))) hAl.out hother).mono ?_; rintro e w5 ⟨rfl, hw5⟩
          go_wp2_with fail; refine (srelease_val rfl HR.out _ _ _ (Sw2.kept (by repeat' (first | (with_reducible exact Below.refl _ _) | (with_reducible assumption) | (with_reducible refine kept_alloc ?_ _) | (with_reducible refine kept_drewN ?_ _) | (with_reducible refine Below.drew ?_) | (with_reducible refine Below.setCell ?_ (by first | omega | (simp; omega) | (simp; done)) _) | (refine kept_trans ?_ (by with_reducible assumption))))) hAl.out hp).mono ?_; rintro e w6 ⟨gw6, rfl, sw6, hw6⟩; have Sw6 := Ow.sl Slo.enc sw6; clear sw6
          go_wp2
          all_goals (go_ret; exact ⟨rfl, by repeat' (first | (with_reducible exact Below.refl _ _) | (with_reducible assumption) | (with_reducible refine kept_alloc ?_ _) | (with_reducible refine kept_drewN ?_ _) | (with_reducible refine Below.drew ?_) | (with_reducible refine Below.setCell ?_ (by first | omega | (simp; omega) | (simp; done)) _) | (refine kept_trans ?_ (by with_reducible assumption)))⟩)
    · -- not its turn
      obtain ⟨h0, h1⟩ := lies_iff.1 hli
      have HV := Lib.hid (And.intro hA (And.intro hE h1))
      have h2 : decide (p < 0) = false := by simp; omega
      clear hA hE h1 hli h0
      go_enter Try.func4, Try.ntmps4; go_wp2_with fail; refine (slotawake_any _).mono ?_; rintro e w1 ⟨rfl, hg1⟩
      go_wp2_with fail; refine (swrite_val HV.out.1 HV.out.2.1 _ _ _ (H.out.kept (by repeat' (first | (with_reducible exact Below.refl _ _) | (with_reducible assumption) | (with_reducible refine kept_alloc ?_ _) | (with_reducible refine kept_drewN ?_ _) | (with_reducible refine Below.drew ?_) | (with_reducible refine Below.setCell ?_ (by first | omega | (simp; omega) | (simp; done)) _) | (refine kept_trans ?_ (by with_reducible assumption))))) hm hp).mono ?_; rintro e w2 ⟨gw2, rfl, sw2, hw2⟩; have Sw2 := Ow.sl Slo.enc sw2; clear sw2
      go_wp2_with fail
      refine (rssame_val (b := true) (by simp) _ _ _ _ _ (Sw2.kept (by repeat' (first | (with_reducible exact Below.refl _ _) | (with_reducible assumption) | (with_reducible refine kept_alloc ?_ _) | (with_reducible refine kept_drewN ?_ _) | (with_reducible refine Below.drew ?_) | (with_reducible refine Below.setCell ?_ (by first | omega | (simp; omega) | (simp; done)) _) | (refine kept_trans ?_ (by with_reducible assumption))))) (H.out.kept (by repeat' (first | (with_reducible exact Below.refl _ _) | (with_reducible assumption) | (with_reducible refine kept_alloc ?_ _) | (with_reducible refine kept_drewN ?_ _) | (with_reducible refine Below.drew ?_) | (with_reducible refine Below.setCell ?_ (by first | omega | (simp; omega) | (simp; done)) _) | (refine kept_trans ?_ (by with_reducible assumption))))) hm).mono ?_
      rintro e w3 ⟨rfl, hw3⟩
      go_wp2_with fail; refine (scheck_val HV.out.2.2 _ _ _ (H.out.kept (by repeat' (first | (with_reducible exact Below.refl _ _) | (with_reducible assumption) | (with_reducible refine kept_alloc ?_ _) | (with_reducible refine kept_drewN ?_ _) | (with_reducible refine Below.drew ?_) | (with_reducible refine Below.setCell ?_ (by first | omega | (simp; omega) | (simp; done)) _) | (refine kept_trans ?_ (by with_reducible assumption))))) hm).mono ?_; rintro e w4 ⟨rfl, hw4⟩
      go_wp2
      all_goals (go_ret; exact ⟨rfl, by repeat' (first | (with_reducible exact Below.refl _ _) | (with_reducible assumption) | (with_reducible refine kept_alloc ?_ _) | (with_reducible refine kept_drewN ?_ _) | (with_reducible refine Below.drew ?_) | (with_reducible refine Below.setCell ?_ (by first | omega | (simp; omega) | (simp; done)) _) | (refine kept_trans ?_ (by with_reducible assumption)))⟩)
    · -- not a position, or no slots that may be
      have HV := Lib.hid (And.intro hA hE)
      cases h2 : decide (p < 0)
      · have h1 : okSl l = false := by
          cases hk : okSl l
          · rfl
          · rw [lies_iff.2 ⟨by simpa using h2, hk⟩] at hli; cases hli
        have HK := Lib.hid h1
        clear hA hE h1 hli
        go_enter Try.func4, Try.ntmps4; go_wp2_with fail; refine (slotawake_any _).mono ?_; rintro e w1 ⟨rfl, hg1⟩
        go_wp2_with fail; refine (swrite_val HV.out.1 HV.out.2 _ _ _ (H.out.kept (by repeat' (first | (with_reducible exact Below.refl _ _) | (with_reducible assumption) | (with_reducible refine kept_alloc ?_ _) | (with_reducible refine kept_drewN ?_ _) | (with_reducible refine Below.drew ?_) | (with_reducible refine Below.setCell ?_ (by first | omega | (simp; omega) | (simp; done)) _) | (refine kept_trans ?_ (by with_reducible assumption))))) hm hp).mono ?_; rintro e w2 ⟨gw2, rfl, sw2, hw2⟩; have Sw2 := Ow.sl Slo.enc sw2; clear sw2
        go_wp2_with fail
        refine (rssame_val (b := true) (by simp) _ _ _ _ _ (Sw2.kept (by repeat' (first | (with_reducible exact Below.refl _ _) | (with_reducible assumption) | (with_reducible refine kept_alloc ?_ _) | (with_reducible refine kept_drewN ?_ _) | (with_reducible refine Below.drew ?_) | (with_reducible refine Below.setCell ?_ (by first | omega | (simp; omega) | (simp; done)) _) | (refine kept_trans ?_ (by with_reducible assumption))))) (H.out.kept (by repeat' (first | (with_reducible exact Below.refl _ _) | (with_reducible assumption) | (with_reducible refine kept_alloc ?_ _) | (with_reducible refine kept_drewN ?_ _) | (with_reducible refine Below.drew ?_) | (with_reducible refine Below.setCell ?_ (by first | omega | (simp; omega) | (simp; done)) _) | (refine kept_trans ?_ (by with_reducible assumption))))) hm).mono ?_
        rintro e w3 ⟨rfl, hw3⟩
        go_wp2_with fail; refine (scheck_val HK.out _ _ _ (H.out.kept (by repeat' (first | (with_reducible exact Below.refl _ _) | (with_reducible assumption) | (with_reducible refine kept_alloc ?_ _) | (with_reducible refine kept_drewN ?_ _) | (with_reducible refine Below.drew ?_) | (with_reducible refine Below.setCell ?_ (by first | omega | (simp; omega) | (simp; done)) _) | (refine kept_trans ?_ (by with_reducible assumption))))) hm).mono ?_; rintro e w4 ⟨rfl, hw4⟩
        go_wp2
        all_goals (go_ret; exact ⟨rfl, by repeat' (first | (with_reducible exact Below.refl _ _) | (with_reducible assumption) | (with_reducible refine kept_alloc ?_ _) | (with_reducible refine kept_drewN ?_ _) | (with_reducible refine Below.drew ?_) | (with_reducible refine Below.setCell ?_ (by first | omega | (simp; omega) | (simp; done)) _) | (refine kept_trans ?_ (by with_reducible assumption)))⟩)
      · clear hA hE hli
        go_enter Try.func4, Try.ntmps4; go_wp2_with fail; refine (slotawake_any _).mono ?_; rintro e w1 ⟨rfl, hg1⟩
        go_wp2_with fail; refine (swrite_val HV.out.1 HV.out.2 _ _ _ (H.out.kept (by repeat' (first | (with_reducible exact Below.refl _ _) | (with_reducible assumption) | (with_reducible refine kept_alloc ?_ _) | (with_reducible refine kept_drewN ?_ _) | (with_reducible refine Below.drew ?_) | (with_reducible refine Below.setCell ?_ (by first | omega | (simp; omega) | (simp; done)) _) | (refine kept_trans ?_ (by with_reducible assumption))))) hm hp).mono ?_; rintro e w2 ⟨gw2, rfl, sw2, hw2⟩; have Sw2 := Ow.sl Slo.enc sw2; clear sw2
        go_wp2_with fail
        refine (rssame_val (b := true) (by simp) _ _ _ _ _ (Sw2.kept (by repeat' (first | (with_reducible exact Below.refl _ _) | (with_reducible assumption) | (with_reducible refine kept_alloc ?_ _) | (with_reducible refine kept_drewN ?_ _) | (with_reducible refine Below.drew ?_) | (with_reducible refine Below.setCell ?_ (by first | omega | (simp; omega) | (simp; done)) _) | (refine kept_trans ?_ (by with_reducible assumption))))) (H.out.kept (by repeat' (first | (with_reducible exact Below.refl _ _) | (with_reducible assumption) | (with_reducible refine kept_alloc ?_ _) | (with_reducible refine kept_drewN ?_ _) | (with_reducible refine Below.drew ?_) | (with_reducible refine Below.setCell ?_ (by first | omega | (simp; omega) | (simp; done)) _) | (refine kept_trans ?_ (by with_reducible assumption))))) hm).mono ?_
        rintro e w3 ⟨rfl, hw3⟩
        go_wp2
        all_goals (go_ret; exact ⟨rfl, by repeat' (first | (with_reducible exact Below.refl _ _) | (with_reducible assumption) | (with_reducible refine kept_alloc ?_ _) | (with_reducible refine kept_drewN ?_ _) | (with_reducible refine Below.drew ?_) | (with_reducible refine Below.setCell ?_ (by first | omega | (simp; omega) | (simp; done)) _) | (refine kept_trans ?_ (by with_reducible assumption)))⟩)
  · have hlen' : (100 : Int) < (l.length : Int) := (by omega); clear hlen; go_enter Try.func4, Try.ntmps4; go_wp2_with fail; refine (slotawake_any _).mono ?_; rintro e w1 ⟨rfl, hg1⟩; go_wp2; all_goals (go_ret; exact ⟨rfl, by repeat' (first | (with_reducible exact Below.refl _ _) | (with_reducible assumption) | (with_reducible refine kept_alloc ?_ _) | (with_reducible refine kept_drewN ?_ _) | (with_reducible refine Below.drew ?_) | (with_reducible refine Below.setCell ?_ (by first | omega | (simp; omega) | (simp; done)) _) | (refine kept_trans ?_ (by with_reducible assumption)))⟩)

set_option maxRecDepth 100000 in
set_option maxRecDepth 100000 in
theorem slotBack_lifted (os : Os) (started : os.Started) (H : Type) (enc : TypeId × Value → H) :
    ReturnsInHanded {} Try.checked os 4 .any (Rows.slotBackSpec.pre6 enc Try.prog Try.f4 Rows.slotBackRow.domain false) (Rows.slotBackSpec.post enc Try.prog Try.f4 false true false false) := by
  refine returnsInHanded_of_change (C := Try.checked) own started (by kernel_rfl) Try.func4
    (ChangeSpec.witness6 (enc := enc) (C := Try.checked) false ⟨#[], #[.slice none 0 0, .int .i64 0, .int .i64 0, .int .i64 0], []⟩ 8 (by kernel_rfl) (by kernel_rfl) (by kernel_rfl) (by kernel_rfl)) ?_
  intro W base args ds gs before hval0 hW hcnd _
  have hval : ∀ (j : Nat) t v, Try.f4.params[j]? = some t → args[j]? = some v → Value.okWide Try.prog W .any base t v := hval0
  have hW' := hW
  obtain ⟨p, q, hA0, hV, rfl, hfz, hnd⟩ := hW
  have hA : DataW.TrodAll enc Try.prog W 0 (fun _ => true) true Try.f4.params.toList args.toList ds p := hA0
  rw [Try.params4] at hA hval
  obtain ⟨v0, vs0, d0, ds0, p0, q0, hargs, rfl, rfl, h0, r0⟩ := trodAll_cons hA
  obtain ⟨v1, vs1, d1, ds1, p1, q1, rfl, rfl, rfl, h1, r1⟩ := trodAll_cons r0
  obtain ⟨v2, vs2, d2, ds2, p2, q2, rfl, rfl, rfl, h2, r2⟩ := trodAll_cons r1
  obtain ⟨v3, vs3, d3, ds3, p3, q3, rfl, rfl, rfl, h3, r3⟩ := trodAll_cons r2
  obtain ⟨rfl, rfl, rfl⟩ := trodAll_nil r3
  obtain rfl : args = #[v0, v1, v2, v3] := by cases args; simp_all
  obtain ⟨rfl, rfl⟩ := trodVars_none hV
  obtain ⟨l, lsl, lok, lml⟩ := Sl.of_read Slo.cells Slo.ok (by decide) (open_row (g := 9) (l := Slo.shape) Try.underlying22 (by kernel_rfl) (hval 0 22 v0 rfl rfl) h0) (fun vs h => Slo.of_read h)
  obtain ⟨p, rfl, rfl, rfl, wf1⟩ := open_int Try.underlying3 (hval 1 3 v1 rfl rfl) h1
  obtain ⟨val, rfl, rfl, rfl, wf2⟩ := open_int Try.underlying3 (hval 2 3 v2 rfl rfl) h2
  obtain ⟨other, rfl, rfl, rfl, wf3⟩ := open_int Try.underlying3 (hval 3 3 v3 rfl rfl) h3
  clear hA0 hval0
  refine (slotBack_walk l v0 lok lml p (in64_of_wf wf1) val (in64_of_wf wf2) other (in64_of_wf wf3) W lsl).mono fun e W' ⟨he, hg⟩ => ?_
  subst he
  exact ⟨_, rfl, law_post laid hW' rfl (by kernel_rfl) rfl Try.underlying4 rfl hg⟩

/-- The statement, whole. -/
theorem slotBack_holds : Rows.SlotBackSaid :=
  OpenClaim.holds_of_wide 4 Try.f4 rfl rfl rfl rfl rfl rfl rfl ⟨rfl, rfl, rfl, rfl, rfl⟩ rfl rfl rfl rfl rfl (by kernel_rfl) Try.func4 (by kernel_rfl)
    (of_decide_eq_true (by kernel_rfl)) (by unfold Func.isWrapper; rw [if_neg (of_decide_eq_false (by kernel_rfl))]; exact ⟨rfl, rfl⟩)
    (fun os started H enc _ => slotBack_lifted os started H enc)
end Go.Proofs.Ytbfmnlniabldbaa
