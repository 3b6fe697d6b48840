/- LineTells holds for every input: no conditions. -/
import Derived.Test.YtkidhmpabdaccaaLineM
namespace Go.Proofs.Ytkidhmpabdaccaa
set_option linter.unusedVariables false
set_option linter.unusedSimpArgs false
open Go.ChangeShapes Go.WideShapes Go.ChangeAt Go.RowKit

theorem rlenter_val {l r : List Int} {i c : Int} (hr : entL l i = r) (hc : entE l i = c) (p : Option Addr) (k : Nat) (w : World) (hl : Sl w 1 intC l (.slice p l.length k)) (hm : l.length ≤ 999999) :
    Calls Try.prog 11 #[.slice p l.length k, .int .i64 i] w (RetLE w r c) := hr ▸ hc ▸ rlenter_any l i p k w hl hm
theorem rlleave_val {l r : List Int} {i c : Int} (hr : lvL l i = r) (hc : lvE l i = c) (p : Option Addr) (k : Nat) (w : World) (hl : Sl w 1 intC l (.slice p l.length k)) (hm : l.length ≤ 999999) :
    Calls Try.prog 13 #[.slice p l.length k, .int .i64 i] w (RetLE w r c) := hr ▸ hc ▸ rlleave_any l i p k w hl hm
theorem rlnext_val {l r : List Int} {x : Int} {b : Bool} (hx : nxI l = x) (hr : nxL l = r) (hb : nxB l = b) (p : Option Addr) (k : Nat) (w : World) (hl : Sl w 1 intC l (.slice p l.length k)) (hm : l.length ≤ 999999) :
    Calls Try.prog 15 #[.slice p l.length k] w (RetN w x r b) := hx ▸ hr ▸ hb ▸ rlnext_any l p k w hl hm
theorem rlcheck_val {l : List Int} {b : Bool} (hb : okLn l = b) (p : Option Addr) (k : Nat) (w : World) (hl : Sl w 1 intC l (.slice p l.length k)) :
    Calls Try.prog 18 #[.slice p l.length k] w fun e w' => e = .returned (.bool b) ∧ Kept w w' := hb ▸ rlcheck_any l p k w hl
theorem rlplace_val {l : List Int} {i c : Int} (hc : plI l i = c) (p : Option Addr) (k : Nat) (w : World) (hl : Sl w 1 intC l (.slice p l.length k)) :
    Calls Try.prog 20 #[.slice p l.length k, .int .i64 i] w fun e w' => e = .returned (.int .i64 c) ∧ Kept w w' := hc ▸ rlplace_any l i p k w hl
theorem nxL_len (l : List Int) : (nxL l).length ≤ l.length := by unfold nxL; split <;> simp

set_option maxRecDepth 100000 in
set_option maxHeartbeats 8000000 in
theorem lineTells_walk (l : List Int) (lv : Value) (hl : ∀ x ∈ l, In64 x) (hlm : l.length ≤ maxLen) (id : Int) (hid : In64 id) (w : World) (hls : Sl w 1 intC l lv) :
    Calls Try.prog 3 #[lv, .int .i64 id] w fun e w' => e = .returned (.bool true) ∧ Kept w w' := by
  obtain ⟨p, k, rfl, -⟩ := hls.is
  have H : Hid (Sl w 1 intC l (.slice p l.length k)) := Lib.hid hls
  clear hls hl
  by_cases hlen : l.length ≤ 100
  · have hl1 := entL_len l id
    have hl2 := lvL_len l id
    have hl3 := nxL_len l
    obtain ⟨X, hX⟩ : ∃ X, entL l id = X := ⟨_, rfl⟩
    obtain ⟨E, hE⟩ : ∃ E, entE l id = E := ⟨_, rfl⟩
    obtain ⟨Y, hY⟩ : ∃ Y, lvL l id = Y := ⟨_, rfl⟩
    obtain ⟨F, hF⟩ : ∃ F, lvE l id = F := ⟨_, rfl⟩
    obtain ⟨Z, hZ⟩ : ∃ Z, nxL l = Z := ⟨_, rfl⟩
    obtain ⟨x, hx⟩ : ∃ x, nxI l = x := ⟨_, rfl⟩
    obtain ⟨b, hb⟩ : ∃ b, nxB l = b := ⟨_, rfl⟩
    obtain ⟨c, hc⟩ : ∃ c, okLn l = c := ⟨_, rfl⟩
    obtain ⟨A, hA⟩ : ∃ A, plI l id = A := ⟨_, rfl⟩
    rw [hX] at hl1
    rw [hY] at hl2
    rw [hZ] at hl3
    have HB := Lib.hid (And.intro hX (And.intro hE (And.intro hY (And.intro hF (And.intro hx (And.intro hZ (And.intro hb (And.intro hc hA))))))))
    have hXm : X.length ≤ 101 := by omega
    have hYm : Y.length ≤ 100 := by omega
    have hZm : Z.length ≤ 100 := by omega
    have d1 : (E == E) = true := by simp
    have d2 : (F == F) = true := by simp
    have d3 : (x == x) = true := by simp
    have d4 : (b == b) = true := by simp
    have d5 : (c == c) = true := by simp
    have d6 : (A == A) = true := by simp
    obtain ⟨f, hf⟩ : ∃ f, (A == 0) = f := ⟨_, rfl⟩
    have d7 : (f == f) = true := by simp
    have HF := Lib.hid hf
    clear hX hE hY hF hZ hx hb hc hA hl1 hl2 hl3
    go_enter Try.func3, Try.ntmps3; go_wp2_with fail; refine (lineawake_any _).mono ?_; rintro e w1 ⟨rfl, hg1⟩
    go_wp2_with fail
    refine (lenter_val HB.out.1 HB.out.2.1 p k _ (H.out.kept (by repeat' (first | (with_reducible exact Below.refl _ _) | (with_reducible assumption) | (with_reducible refine kept_alloc ?_ _) | (with_reducible refine kept_drewN ?_ _) | (with_reducible refine Below.drew ?_) | (with_reducible refine Below.setCell ?_ (by first | omega | (simp; omega) | (simp; done)) _) | (refine kept_trans ?_ (by with_reducible assumption))))) (by omega)).mono ?_
    rintro e w2 ⟨p2, k2, rfl, hS2, hg2⟩
    go_wp2_with fail
    refine (rlenter_val HB.out.1 HB.out.2.1 p k _ (H.out.kept (by repeat' (first | (with_reducible exact Below.refl _ _) | (with_reducible assumption) | (with_reducible refine kept_alloc ?_ _) | (with_reducible refine kept_drewN ?_ _) | (with_reducible refine Below.drew ?_) | (with_reducible refine Below.setCell ?_ (by first | omega | (simp; omega) | (simp; done)) _) | (refine kept_trans ?_ (by with_reducible assumption))))) (by omega)).mono ?_
    rintro e w3 ⟨p3, k3, rfl, hS3, hg3⟩
    go_wp2_with fail
    refine (lleave_val HB.out.2.2.1 HB.out.2.2.2.1 p k _ (H.out.kept (by repeat' (first | (with_reducible exact Below.refl _ _) | (with_reducible assumption) | (with_reducible refine kept_alloc ?_ _) | (with_reducible refine kept_drewN ?_ _) | (with_reducible refine Below.drew ?_) | (with_reducible refine Below.setCell ?_ (by first | omega | (simp; omega) | (simp; done)) _) | (refine kept_trans ?_ (by with_reducible assumption))))) (by omega)).mono ?_
    rintro e w4 ⟨p4, k4, rfl, hS4, hg4⟩
    go_wp2_with fail
    refine (rlleave_val HB.out.2.2.1 HB.out.2.2.2.1 p k _ (H.out.kept (by repeat' (first | (with_reducible exact Below.refl _ _) | (with_reducible assumption) | (with_reducible refine kept_alloc ?_ _) | (with_reducible refine kept_drewN ?_ _) | (with_reducible refine Below.drew ?_) | (with_reducible refine Below.setCell ?_ (by first | omega | (simp; omega) | (simp; done)) _) | (refine kept_trans ?_ (by with_reducible assumption))))) (by omega)).mono ?_
    rintro e w5 ⟨p5, k5, rfl, hS5, hg5⟩
    go_wp2_with fail
    refine (lnext_val HB.out.2.2.2.2.1 HB.out.2.2.2.2.2.1 HB.out.2.2.2.2.2.2.1 p k _ (H.out.kept (by repeat' (first | (with_reducible exact Below.refl _ _) | (with_reducible assumption) | (with_reducible refine kept_alloc ?_ _) | (with_reducible refine kept_drewN ?_ _) | (with_reducible refine Below.drew ?_) | (with_reducible refine Below.setCell ?_ (by first | omega | (simp; omega) | (simp; done)) _) | (refine kept_trans ?_ (by with_reducible assumption))))) (by omega)).mono ?_
    rintro e w6 ⟨p6, k6, rfl, hS6, hg6⟩
    go_wp2_with fail
    refine (rlnext_val HB.out.2.2.2.2.1 HB.out.2.2.2.2.2.1 HB.out.2.2.2.2.2.2.1 p k _ (H.out.kept (by repeat' (first | (with_reducible exact Below.refl _ _) | (with_reducible assumption) | (with_reducible refine kept_alloc ?_ _) | (with_reducible refine kept_drewN ?_ _) | (with_reducible refine Below.drew ?_) | (with_reducible refine Below.setCell ?_ (by first | omega | (simp; omega) | (simp; done)) _) | (refine kept_trans ?_ (by with_reducible assumption))))) (by omega)).mono ?_
    rintro e w7 ⟨p7, k7, rfl, hS7, hg7⟩
    go_wp2_with fail
    refine (rints_any X X p2 p3 k2 k3 _ (hS2.kept (by repeat' (first | (with_reducible exact Below.refl _ _) | (with_reducible assumption) | (with_reducible refine kept_alloc ?_ _) | (with_reducible refine kept_drewN ?_ _) | (with_reducible refine Below.drew ?_) | (with_reducible refine Below.setCell ?_ (by first | omega | (simp; omega) | (simp; done)) _) | (refine kept_trans ?_ (by with_reducible assumption))))) (hS3.kept (by repeat' (first | (with_reducible exact Below.refl _ _) | (with_reducible assumption) | (with_reducible refine kept_alloc ?_ _) | (with_reducible refine kept_drewN ?_ _) | (with_reducible refine Below.drew ?_) | (with_reducible refine Below.setCell ?_ (by first | omega | (simp; omega) | (simp; done)) _) | (refine kept_trans ?_ (by with_reducible assumption))))) (by omega)).mono ?_
    rintro e w8 ⟨rfl, hg8⟩
    rw [show decide (X = X) = true by simp]
    go_wp2_with fail
    refine (rints_any Y Y p4 p5 k4 k5 _ (hS4.kept (by repeat' (first | (with_reducible exact Below.refl _ _) | (with_reducible assumption) | (with_reducible refine kept_alloc ?_ _) | (with_reducible refine kept_drewN ?_ _) | (with_reducible refine Below.drew ?_) | (with_reducible refine Below.setCell ?_ (by first | omega | (simp; omega) | (simp; done)) _) | (refine kept_trans ?_ (by with_reducible assumption))))) (hS5.kept (by repeat' (first | (with_reducible exact Below.refl _ _) | (with_reducible assumption) | (with_reducible refine kept_alloc ?_ _) | (with_reducible refine kept_drewN ?_ _) | (with_reducible refine Below.drew ?_) | (with_reducible refine Below.setCell ?_ (by first | omega | (simp; omega) | (simp; done)) _) | (refine kept_trans ?_ (by with_reducible assumption))))) (by omega)).mono ?_
    rintro e w9 ⟨rfl, hg9⟩
    rw [show decide (Y = Y) = true by simp]
    go_wp2_with fail
    refine (rints_any Z Z p6 p7 k6 k7 _ (hS6.kept (by repeat' (first | (with_reducible exact Below.refl _ _) | (with_reducible assumption) | (with_reducible refine kept_alloc ?_ _) | (with_reducible refine kept_drewN ?_ _) | (with_reducible refine Below.drew ?_) | (with_reducible refine Below.setCell ?_ (by first | omega | (simp; omega) | (simp; done)) _) | (refine kept_trans ?_ (by with_reducible assumption))))) (hS7.kept (by repeat' (first | (with_reducible exact Below.refl _ _) | (with_reducible assumption) | (with_reducible refine kept_alloc ?_ _) | (with_reducible refine kept_drewN ?_ _) | (with_reducible refine Below.drew ?_) | (with_reducible refine Below.setCell ?_ (by first | omega | (simp; omega) | (simp; done)) _) | (refine kept_trans ?_ (by with_reducible assumption))))) (by omega)).mono ?_
    rintro e w10 ⟨rfl, hg10⟩
    rw [show decide (Z = Z) = true by simp]
    go_wp2_with fail
    refine (lcheck_val HB.out.2.2.2.2.2.2.2.1 p k _ (H.out.kept (by repeat' (first | (with_reducible exact Below.refl _ _) | (with_reducible assumption) | (with_reducible refine kept_alloc ?_ _) | (with_reducible refine kept_drewN ?_ _) | (with_reducible refine Below.drew ?_) | (with_reducible refine Below.setCell ?_ (by first | omega | (simp; omega) | (simp; done)) _) | (refine kept_trans ?_ (by with_reducible assumption)))))).mono ?_
    rintro e w11 ⟨rfl, hg11⟩
    go_wp2_with fail
    refine (rlcheck_val HB.out.2.2.2.2.2.2.2.1 p k _ (H.out.kept (by repeat' (first | (with_reducible exact Below.refl _ _) | (with_reducible assumption) | (with_reducible refine kept_alloc ?_ _) | (with_reducible refine kept_drewN ?_ _) | (with_reducible refine Below.drew ?_) | (with_reducible refine Below.setCell ?_ (by first | omega | (simp; omega) | (simp; done)) _) | (refine kept_trans ?_ (by with_reducible assumption)))))).mono ?_
    rintro e w12 ⟨rfl, hg12⟩
    go_wp2_with fail
    refine (lplace_val HB.out.2.2.2.2.2.2.2.2 p k _ (H.out.kept (by repeat' (first | (with_reducible exact Below.refl _ _) | (with_reducible assumption) | (with_reducible refine kept_alloc ?_ _) | (with_reducible refine kept_drewN ?_ _) | (with_reducible refine Below.drew ?_) | (with_reducible refine Below.setCell ?_ (by first | omega | (simp; omega) | (simp; done)) _) | (refine kept_trans ?_ (by with_reducible assumption)))))).mono ?_
    rintro e w13 ⟨rfl, hg13⟩
    go_wp2_with fail
    refine (rlplace_val HB.out.2.2.2.2.2.2.2.2 p k _ (H.out.kept (by repeat' (first | (with_reducible exact Below.refl _ _) | (with_reducible assumption) | (with_reducible refine kept_alloc ?_ _) | (with_reducible refine kept_drewN ?_ _) | (with_reducible refine Below.drew ?_) | (with_reducible refine Below.setCell ?_ (by first | omega | (simp; omega) | (simp; done)) _) | (refine kept_trans ?_ (by with_reducible assumption)))))).mono ?_
    rintro e w14 ⟨rfl, hg14⟩
    go_wp2_with fail
    refine (lfirst_val HB.out.2.2.2.2.2.2.2.2 HF.out p k _ (H.out.kept (by repeat' (first | (with_reducible exact Below.refl _ _) | (with_reducible assumption) | (with_reducible refine kept_alloc ?_ _) | (with_reducible refine kept_drewN ?_ _) | (with_reducible refine Below.drew ?_) | (with_reducible refine Below.setCell ?_ (by first | omega | (simp; omega) | (simp; done)) _) | (refine kept_trans ?_ (by with_reducible assumption)))))).mono ?_
    rintro e w15 ⟨rfl, hg15⟩
    go_wp2_with fail
    refine (rlplace_val HB.out.2.2.2.2.2.2.2.2 p k _ (H.out.kept (by repeat' (first | (with_reducible exact Below.refl _ _) | (with_reducible assumption) | (with_reducible refine kept_alloc ?_ _) | (with_reducible refine kept_drewN ?_ _) | (with_reducible refine Below.drew ?_) | (with_reducible refine Below.setCell ?_ (by first | omega | (simp; omega) | (simp; done)) _) | (refine kept_trans ?_ (by with_reducible assumption)))))).mono ?_
    rintro e w16 ⟨rfl, hg16⟩
    go_wp2
    all_goals (go_ret; exact ⟨rfl, by repeat' (first | (with_reducible exact Below.refl _ _) | (with_reducible assumption) | (with_reducible refine kept_alloc ?_ _) | (with_reducible refine kept_drewN ?_ _) | (with_reducible refine Below.drew ?_) | (with_reducible refine Below.setCell ?_ (by first | omega | (simp; omega) | (simp; done)) _) | (refine kept_trans ?_ (by with_reducible assumption)))⟩)
  · have hlen' : (100 : Int) < (l.length : Int) := (by omega); clear hlen; go_enter Try.func3, Try.ntmps3; go_wp2_with fail; refine (lineawake_any _).mono ?_; rintro e w1 ⟨rfl, hg1⟩; go_wp2; all_goals (go_ret; exact ⟨rfl, by repeat' (first | (with_reducible exact Below.refl _ _) | (with_reducible assumption) | (with_reducible refine kept_alloc ?_ _) | (with_reducible refine kept_drewN ?_ _) | (with_reducible refine Below.drew ?_) | (with_reducible refine Below.setCell ?_ (by first | omega | (simp; omega) | (simp; done)) _) | (refine kept_trans ?_ (by with_reducible assumption)))⟩)
set_option maxRecDepth 100000 in
theorem lineTells_lifted (os : Os) (started : os.Started) (H : Type) (enc : TypeId × Value → H) :
    ReturnsInHanded {} Try.checked os 3 .any (Rows.lineTellsSpec.pre6 enc Try.prog Try.f3 Rows.lineTellsRow.domain false) (Rows.lineTellsSpec.post enc Try.prog Try.f3 false true false false) := by
  refine returnsInHanded_of_change (C := Try.checked) own started (by kernel_rfl) Try.func3
    (ChangeSpec.witness6 (enc := enc) (C := Try.checked) false ⟨#[], #[.slice none 0 0, .int .i64 0], []⟩ 8 (by kernel_rfl) (by kernel_rfl) (by kernel_rfl) (by kernel_rfl)) ?_
  intro W base args ds gs before hval0 hW hcnd _
  have hval : ∀ (j : Nat) t v, Try.f3.params[j]? = some t → args[j]? = some v → Value.okWide Try.prog W .any base t v := hval0
  have hW' := hW
  obtain ⟨p, q, hA0, hV, rfl, hfz, hnd⟩ := hW
  have hA : DataW.TrodAll enc Try.prog W 0 (fun _ => true) true Try.f3.params.toList args.toList ds p := hA0
  rw [Try.params3] at hA hval
  obtain ⟨v0, vs0, d0, ds0, p0, q0, hargs, rfl, rfl, h0, r0⟩ := trodAll_cons hA
  obtain ⟨v1, vs1, d1, ds1, p1, q1, rfl, rfl, rfl, h1, r1⟩ := trodAll_cons r0
  obtain ⟨rfl, rfl, rfl⟩ := trodAll_nil r1
  obtain rfl : args = #[v0, v1] := by cases args; simp_all
  obtain ⟨rfl, rfl⟩ := trodVars_none hV
  obtain ⟨l, lsl, lok, lml⟩ := Sl.of_read intC In64 (by decide) (open_row (g := 9) (l := intShape) Try.underlying22 (by kernel_rfl) (hval 0 22 v0 rfl rfl) h0) (fun vs h => int_of_read h)
  obtain ⟨id, rfl, rfl, rfl, wf1⟩ := open_int Try.underlying3 (hval 1 3 v1 rfl rfl) h1
  clear hA0 hval0
  refine (lineTells_walk l v0 lok lml id (in64_of_wf wf1) W lsl).mono fun e W' ⟨he, hg⟩ => ?_
  subst he
  exact ⟨_, rfl, law_post laid hW' rfl (by kernel_rfl) rfl Try.underlying4 rfl hg⟩

/-- The statement, whole. -/
theorem lineTells_holds : Rows.LineTellsSaid :=
  OpenClaim.holds_of_wide 3 Try.f3 rfl rfl rfl rfl rfl rfl rfl ⟨rfl, rfl, rfl, rfl, rfl⟩ rfl rfl rfl rfl rfl (by kernel_rfl) Try.func3 (by kernel_rfl)
    (of_decide_eq_true (by kernel_rfl)) (by unfold Func.isWrapper; rw [if_neg (of_decide_eq_false (by kernel_rfl))]; exact ⟨rfl, rfl⟩)
    (fun os started H enc _ => lineTells_lifted os started H enc)
end Go.Proofs.Ytkidhmpabdaccaa
