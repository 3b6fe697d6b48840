/- LineLeaves holds for every input: no conditions. -/
import Derived.Test.YtkidhmpabdaccaaLineM
namespace Go.Proofs.Ytkidhmpabdaccaa
set_option linter.unusedVariables false
set_option linter.unusedSimpArgs false
open Go.ChangeShapes Go.WideShapes Go.ChangeAt Go.RowKit

set_option maxRecDepth 100000 in
set_option maxHeartbeats 4000000 in
theorem lineLeaves_walk (l : List Int) (lv : Value) (hl : ∀ x ∈ l, In64 x) (hlm : l.length ≤ maxLen) (id : Int) (hid : In64 id) (other : Int) (hother : In64 other) (w : World) (hls : Sl w 1 intC l lv) :
    Calls Try.prog 5 #[lv, .int .i64 id, .int .i64 other] w fun e w' => e = .returned (.bool true) ∧ Kept w w' := by
  obtain ⟨p, k, rfl, -⟩ := hls.is
  have H : Hid (Sl w 1 intC l (.slice p l.length k)) := Lib.hid hls
  clear hls hl
  by_cases hlen : l.length ≤ 100
  · obtain ⟨A, hA⟩ : ∃ A, lvL l id = A := ⟨_, rfl⟩
    obtain ⟨C, hC⟩ : ∃ C, lvE l id = C := ⟨_, rfl⟩
    obtain ⟨at1, hat⟩ : ∃ x, plI l id = x := ⟨_, rfl⟩
    obtain ⟨k1, hk1⟩ : ∃ x, plI l other = x := ⟨_, rfl⟩
    obtain ⟨n1, hn1⟩ : ∃ x, plI A other = x := ⟨_, rfl⟩
    have hAl : A.length ≤ l.length := by rw [← hA]; exact lvL_len l id
    have HB := Lib.hid (And.intro hA (And.intro hC (And.intro hat (And.intro hk1 hn1))))
    have hyes : C = 0 → 0 ≤ at1 ∧ (other = id → n1 = -1) ∧ (other ≠ id → (k1 < at1 ∧ n1 = k1) ∨ (at1 < k1 ∧ n1 = k1 - 1)) := fun h => by
      have := line_leaves (l := l) (i := id) (o := other) (hC.trans h)
      rw [hA, hat, hk1, hn1] at this
      exact this
    have hno : C ≠ 0 → at1 = -1 ∧ n1 = k1 := fun h => by
      obtain ⟨e1, e2⟩ := lv_no (l := l) (i := id) (by rw [hC]; exact h)
      refine ⟨hat ▸ e1, ?_⟩
      rw [← hn1, ← hA, e2, hk1]
    have hk1b := pl_ge (l := l) (i := other)
    rw [hk1] at hk1b
    clear hA hC hat hk1 hn1
    have hw : IntKind.i64.wrap (k1 - 1) = k1 - 1 := IntWalk.i64_in _ (by omega)
    by_cases hC0 : C = 0
    · subst hC0
      obtain ⟨h0, h1, h2⟩ := hyes rfl
      clear hyes hno
      by_cases ho : other = id
      · subst ho
        have hn := h1 rfl
        subst hn
        clear h1 h2
        go_enter Try.func5, Try.ntmps5; go_wp2_with fail; refine (lineawake_any _).mono ?_; rintro e w1 ⟨rfl, hg1⟩; go_wp2_with fail; refine (lplace_val HB.out.2.2.1 p k _ (H.out.kept (by repeat' (first | (with_reducible exact Below.refl _ _) | (with_reducible assumption) | (with_reducible refine kept_alloc ?_ _) | (with_reducible refine kept_drewN ?_ _) | (with_reducible refine Below.drew ?_) | (with_reducible refine Below.setCell ?_ (by first | omega | (simp; omega) | (simp; done)) _) | (refine kept_trans ?_ (by with_reducible assumption)))))).mono ?_; rintro e w2 ⟨rfl, hg2⟩; go_wp2_with fail; refine (lleave_val HB.out.1 HB.out.2.1 p k _ (H.out.kept (by repeat' (first | (with_reducible exact Below.refl _ _) | (with_reducible assumption) | (with_reducible refine kept_alloc ?_ _) | (with_reducible refine kept_drewN ?_ _) | (with_reducible refine Below.drew ?_) | (with_reducible refine Below.setCell ?_ (by first | omega | (simp; omega) | (simp; done)) _) | (refine kept_trans ?_ (by with_reducible assumption))))) (by omega)).mono ?_; rintro e w3 ⟨p3, k3, rfl, hS3, hg3⟩; go_wp2_with fail; refine (lplace_val HB.out.2.2.2.1 p k _ (H.out.kept (by repeat' (first | (with_reducible exact Below.refl _ _) | (with_reducible assumption) | (with_reducible refine kept_alloc ?_ _) | (with_reducible refine kept_drewN ?_ _) | (with_reducible refine Below.drew ?_) | (with_reducible refine Below.setCell ?_ (by first | omega | (simp; omega) | (simp; done)) _) | (refine kept_trans ?_ (by with_reducible assumption)))))).mono ?_; rintro e w4 ⟨rfl, hg4⟩; go_wp2_with fail; refine (lplace_val HB.out.2.2.2.2 p3 k3 _ (hS3.kept (by repeat' (first | (with_reducible exact Below.refl _ _) | (with_reducible assumption) | (with_reducible refine kept_alloc ?_ _) | (with_reducible refine kept_drewN ?_ _) | (with_reducible refine Below.drew ?_) | (with_reducible refine Below.setCell ?_ (by first | omega | (simp; omega) | (simp; done)) _) | (refine kept_trans ?_ (by with_reducible assumption)))))).mono ?_; rintro e w5 ⟨rfl, hg5⟩; go_wp2
        all_goals (go_ret; exact ⟨rfl, by repeat' (first | (with_reducible exact Below.refl _ _) | (with_reducible assumption) | (with_reducible refine kept_alloc ?_ _) | (with_reducible refine kept_drewN ?_ _) | (with_reducible refine Below.drew ?_) | (with_reducible refine Below.setCell ?_ (by first | omega | (simp; omega) | (simp; done)) _) | (refine kept_trans ?_ (by with_reducible assumption)))⟩)
      · have b1 : (other == id) = false := by simpa using ho
        have b2 : (other != id) = true := by simpa using ho
        rcases h2 ho with ⟨h3, h4⟩ | ⟨h3, h4⟩
        · subst h4
          clear h1 h2
          go_enter Try.func5, Try.ntmps5; go_wp2_with fail; refine (lineawake_any _).mono ?_; rintro e w1 ⟨rfl, hg1⟩; go_wp2_with fail; refine (lplace_val HB.out.2.2.1 p k _ (H.out.kept (by repeat' (first | (with_reducible exact Below.refl _ _) | (with_reducible assumption) | (with_reducible refine kept_alloc ?_ _) | (with_reducible refine kept_drewN ?_ _) | (with_reducible refine Below.drew ?_) | (with_reducible refine Below.setCell ?_ (by first | omega | (simp; omega) | (simp; done)) _) | (refine kept_trans ?_ (by with_reducible assumption)))))).mono ?_; rintro e w2 ⟨rfl, hg2⟩; go_wp2_with fail; refine (lleave_val HB.out.1 HB.out.2.1 p k _ (H.out.kept (by repeat' (first | (with_reducible exact Below.refl _ _) | (with_reducible assumption) | (with_reducible refine kept_alloc ?_ _) | (with_reducible refine kept_drewN ?_ _) | (with_reducible refine Below.drew ?_) | (with_reducible refine Below.setCell ?_ (by first | omega | (simp; omega) | (simp; done)) _) | (refine kept_trans ?_ (by with_reducible assumption))))) (by omega)).mono ?_; rintro e w3 ⟨p3, k3, rfl, hS3, hg3⟩; go_wp2_with fail; refine (lplace_val HB.out.2.2.2.1 p k _ (H.out.kept (by repeat' (first | (with_reducible exact Below.refl _ _) | (with_reducible assumption) | (with_reducible refine kept_alloc ?_ _) | (with_reducible refine kept_drewN ?_ _) | (with_reducible refine Below.drew ?_) | (with_reducible refine Below.setCell ?_ (by first | omega | (simp; omega) | (simp; done)) _) | (refine kept_trans ?_ (by with_reducible assumption)))))).mono ?_; rintro e w4 ⟨rfl, hg4⟩; go_wp2_with fail; refine (lplace_val HB.out.2.2.2.2 p3 k3 _ (hS3.kept (by repeat' (first | (with_reducible exact Below.refl _ _) | (with_reducible assumption) | (with_reducible refine kept_alloc ?_ _) | (with_reducible refine kept_drewN ?_ _) | (with_reducible refine Below.drew ?_) | (with_reducible refine Below.setCell ?_ (by first | omega | (simp; omega) | (simp; done)) _) | (refine kept_trans ?_ (by with_reducible assumption)))))).mono ?_; rintro e w5 ⟨rfl, hg5⟩; go_wp2
          all_goals (go_ret; exact ⟨rfl, by repeat' (first | (with_reducible exact Below.refl _ _) | (with_reducible assumption) | (with_reducible refine kept_alloc ?_ _) | (with_reducible refine kept_drewN ?_ _) | (with_reducible refine Below.drew ?_) | (with_reducible refine Below.setCell ?_ (by first | omega | (simp; omega) | (simp; done)) _) | (refine kept_trans ?_ (by with_reducible assumption)))⟩)
        · subst h4
          have h5 : ¬ k1 < at1 := by omega
          clear h1 h2
          go_enter Try.func5, Try.ntmps5; go_wp2_with fail; refine (lineawake_any _).mono ?_; rintro e w1 ⟨rfl, hg1⟩; go_wp2_with fail; refine (lplace_val HB.out.2.2.1 p k _ (H.out.kept (by repeat' (first | (with_reducible exact Below.refl _ _) | (with_reducible assumption) | (with_reducible refine kept_alloc ?_ _) | (with_reducible refine kept_drewN ?_ _) | (with_reducible refine Below.drew ?_) | (with_reducible refine Below.setCell ?_ (by first | omega | (simp; omega) | (simp; done)) _) | (refine kept_trans ?_ (by with_reducible assumption)))))).mono ?_; rintro e w2 ⟨rfl, hg2⟩; go_wp2_with fail; refine (lleave_val HB.out.1 HB.out.2.1 p k _ (H.out.kept (by repeat' (first | (with_reducible exact Below.refl _ _) | (with_reducible assumption) | (with_reducible refine kept_alloc ?_ _) | (with_reducible refine kept_drewN ?_ _) | (with_reducible refine Below.drew ?_) | (with_reducible refine Below.setCell ?_ (by first | omega | (simp; omega) | (simp; done)) _) | (refine kept_trans ?_ (by with_reducible assumption))))) (by omega)).mono ?_; rintro e w3 ⟨p3, k3, rfl, hS3, hg3⟩; go_wp2_with fail; refine (lplace_val HB.out.2.2.2.1 p k _ (H.out.kept (by repeat' (first | (with_reducible exact Below.refl _ _) | (with_reducible assumption) | (with_reducible refine kept_alloc ?_ _) | (with_reducible refine kept_drewN ?_ _) | (with_reducible refine Below.drew ?_) | (with_reducible refine Below.setCell ?_ (by first | omega | (simp; omega) | (simp; done)) _) | (refine kept_trans ?_ (by with_reducible assumption)))))).mono ?_; rintro e w4 ⟨rfl, hg4⟩; go_wp2_with fail; refine (lplace_val HB.out.2.2.2.2 p3 k3 _ (hS3.kept (by repeat' (first | (with_reducible exact Below.refl _ _) | (with_reducible assumption) | (with_reducible refine kept_alloc ?_ _) | (with_reducible refine kept_drewN ?_ _) | (with_reducible refine Below.drew ?_) | (with_reducible refine Below.setCell ?_ (by first | omega | (simp; omega) | (simp; done)) _) | (refine kept_trans ?_ (by with_reducible assumption)))))).mono ?_; rintro e w5 ⟨rfl, hg5⟩; go_wp2
          all_goals (go_ret; exact ⟨rfl, by repeat' (first | (with_reducible exact Below.refl _ _) | (with_reducible assumption) | (with_reducible refine kept_alloc ?_ _) | (with_reducible refine kept_drewN ?_ _) | (with_reducible refine Below.drew ?_) | (with_reducible refine Below.setCell ?_ (by first | omega | (simp; omega) | (simp; done)) _) | (refine kept_trans ?_ (by with_reducible assumption)))⟩)
    · obtain ⟨h1, h2⟩ := hno hC0
      subst h1 h2
      have b1 : (C != 0) = true := by simpa using hC0
      clear hyes hno
      go_enter Try.func5, Try.ntmps5; go_wp2_with fail; refine (lineawake_any _).mono ?_; rintro e w1 ⟨rfl, hg1⟩; go_wp2_with fail; refine (lplace_val HB.out.2.2.1 p k _ (H.out.kept (by repeat' (first | (with_reducible exact Below.refl _ _) | (with_reducible assumption) | (with_reducible refine kept_alloc ?_ _) | (with_reducible refine kept_drewN ?_ _) | (with_reducible refine Below.drew ?_) | (with_reducible refine Below.setCell ?_ (by first | omega | (simp; omega) | (simp; done)) _) | (refine kept_trans ?_ (by with_reducible assumption)))))).mono ?_; rintro e w2 ⟨rfl, hg2⟩; go_wp2_with fail; refine (lleave_val HB.out.1 HB.out.2.1 p k _ (H.out.kept (by repeat' (first | (with_reducible exact Below.refl _ _) | (with_reducible assumption) | (with_reducible refine kept_alloc ?_ _) | (with_reducible refine kept_drewN ?_ _) | (with_reducible refine Below.drew ?_) | (with_reducible refine Below.setCell ?_ (by first | omega | (simp; omega) | (simp; done)) _) | (refine kept_trans ?_ (by with_reducible assumption))))) (by omega)).mono ?_; rintro e w3 ⟨p3, k3, rfl, hS3, hg3⟩; go_wp2_with fail; refine (lplace_val HB.out.2.2.2.1 p k _ (H.out.kept (by repeat' (first | (with_reducible exact Below.refl _ _) | (with_reducible assumption) | (with_reducible refine kept_alloc ?_ _) | (with_reducible refine kept_drewN ?_ _) | (with_reducible refine Below.drew ?_) | (with_reducible refine Below.setCell ?_ (by first | omega | (simp; omega) | (simp; done)) _) | (refine kept_trans ?_ (by with_reducible assumption)))))).mono ?_; rintro e w4 ⟨rfl, hg4⟩; go_wp2_with fail; refine (lplace_val HB.out.2.2.2.2 p3 k3 _ (hS3.kept (by repeat' (first | (with_reducible exact Below.refl _ _) | (with_reducible assumption) | (with_reducible refine kept_alloc ?_ _) | (with_reducible refine kept_drewN ?_ _) | (with_reducible refine Below.drew ?_) | (with_reducible refine Below.setCell ?_ (by first | omega | (simp; omega) | (simp; done)) _) | (refine kept_trans ?_ (by with_reducible assumption)))))).mono ?_; rintro e w5 ⟨rfl, hg5⟩; go_wp2
      all_goals (go_ret; exact ⟨rfl, by repeat' (first | (with_reducible exact Below.refl _ _) | (with_reducible assumption) | (with_reducible refine kept_alloc ?_ _) | (with_reducible refine kept_drewN ?_ _) | (with_reducible refine Below.drew ?_) | (with_reducible refine Below.setCell ?_ (by first | omega | (simp; omega) | (simp; done)) _) | (refine kept_trans ?_ (by with_reducible assumption)))⟩)
  · have hlen' : (100 : Int) < (l.length : Int) := (by omega); clear hlen; go_enter Try.func5, Try.ntmps5; go_wp2_with fail; refine (lineawake_any _).mono ?_; rintro e w1 ⟨rfl, hg1⟩; go_wp2; all_goals (go_ret; exact ⟨rfl, by repeat' (first | (with_reducible exact Below.refl _ _) | (with_reducible assumption) | (with_reducible refine kept_alloc ?_ _) | (with_reducible refine kept_drewN ?_ _) | (with_reducible refine Below.drew ?_) | (with_reducible refine Below.setCell ?_ (by first | omega | (simp; omega) | (simp; done)) _) | (refine kept_trans ?_ (by with_reducible assumption)))⟩)
set_option maxRecDepth 100000 in
theorem lineLeaves_lifted (os : Os) (started : os.Started) (H : Type) (enc : TypeId × Value → H) :
    ReturnsInHanded {} Try.checked os 5 .any (Rows.lineLeavesSpec.pre6 enc Try.prog Try.f5 Rows.lineLeavesRow.domain false) (Rows.lineLeavesSpec.post enc Try.prog Try.f5 false true false false) := by
  refine returnsInHanded_of_change (C := Try.checked) own started (by kernel_rfl) Try.func5
    (ChangeSpec.witness6 (enc := enc) (C := Try.checked) false ⟨#[], #[.slice none 0 0, .int .i64 0, .int .i64 0], []⟩ 8 (by kernel_rfl) (by kernel_rfl) (by kernel_rfl) (by kernel_rfl)) ?_
  intro W base args ds gs before hval0 hW hcnd _
  have hval : ∀ (j : Nat) t v, Try.f5.params[j]? = some t → args[j]? = some v → Value.okWide Try.prog W .any base t v := hval0
  have hW' := hW
  obtain ⟨p, q, hA0, hV, rfl, hfz, hnd⟩ := hW
  have hA : DataW.TrodAll enc Try.prog W 0 (fun _ => true) true Try.f5.params.toList args.toList ds p := hA0
  rw [Try.params5] at hA hval
  obtain ⟨v0, vs0, d0, ds0, p0, q0, hargs, rfl, rfl, h0, r0⟩ := trodAll_cons hA
  obtain ⟨v1, vs1, d1, ds1, p1, q1, rfl, rfl, rfl, h1, r1⟩ := trodAll_cons r0
  obtain ⟨v2, vs2, d2, ds2, p2, q2, rfl, rfl, rfl, h2, r2⟩ := trodAll_cons r1
  obtain ⟨rfl, rfl, rfl⟩ := trodAll_nil r2
  obtain rfl : args = #[v0, v1, v2] := by cases args; simp_all
  obtain ⟨rfl, rfl⟩ := trodVars_none hV
  obtain ⟨l, lsl, lok, lml⟩ := Sl.of_read intC In64 (by decide) (open_row (g := 9) (l := intShape) Try.underlying22 (by kernel_rfl) (hval 0 22 v0 rfl rfl) h0) (fun vs h => int_of_read h)
  obtain ⟨id, rfl, rfl, rfl, wf1⟩ := open_int Try.underlying3 (hval 1 3 v1 rfl rfl) h1
  obtain ⟨other, rfl, rfl, rfl, wf2⟩ := open_int Try.underlying3 (hval 2 3 v2 rfl rfl) h2
  clear hA0 hval0
  refine (lineLeaves_walk l v0 lok lml id (in64_of_wf wf1) other (in64_of_wf wf2) W lsl).mono fun e W' ⟨he, hg⟩ => ?_
  subst he
  exact ⟨_, rfl, law_post laid hW' rfl (by kernel_rfl) rfl Try.underlying4 rfl hg⟩

/-- The statement, whole. -/
theorem lineLeaves_holds : Rows.LineLeavesSaid :=
  OpenClaim.holds_of_wide 5 Try.f5 rfl rfl rfl rfl rfl rfl rfl ⟨rfl, rfl, rfl, rfl, rfl⟩ rfl rfl rfl rfl rfl (by kernel_rfl) Try.func5 (by kernel_rfl)
    (of_decide_eq_true (by kernel_rfl)) (by unfold Func.isWrapper; rw [if_neg (of_decide_eq_false (by kernel_rfl))]; exact ⟨rfl, rfl⟩)
    (fun os started H enc _ => lineLeaves_lifted os started H enc)
end Go.Proofs.Ytkidhmpabdaccaa
