/- TurnTells holds for every input: no conditions. -/
import Derived.Test.YtlmiedgpibollaaTurn3
namespace Go.Proofs.Ytlmiedgpibollaa
set_option linter.unusedVariables false
set_option linter.unusedSimpArgs false
open Go.ChangeShapes Go.WideShapes Go.ChangeAt Go.RowKit

theorem rb_len (t r : Int) : (rbL t r).length ≤ 16000 := by
  unfold rbL
  split
  · rename_i h
    rw [rob_len]
    have h1 : t * r ≤ 16 * 1000 := Int.mul_le_mul (by omega) (by omega) (by omega) (by omega)
    omega
  · simp
theorem rrobin_val {t r : Int} {R : List Int} (hR : rbL t r = R) (ht : In64 t) (hr : In64 r) (w : World) : Calls Try.prog 14 #[.int .i64 t, .int .i64 r] w (RetR R w) := by subst hR; exact rrobin_any t r ht hr w
theorem rcount_val {l : List Int} {N r : Nat} {who : Int} (hN : l.length = N) (hr : ctO l who = r) (p : Option Addr) (k : Nat) (w : World) (hl : Sl w 1 intC l (.slice p l.length k)) :
    Calls Try.prog 16 #[.slice p N k, .int .i64 who] w fun e w' => e = .returned (.int .i64 r) ∧ Kept w w' := by subst hr; exact rcount_n hN who p k w hl
theorem rgap_val {l : List Int} {N r : Nat} {who : Int} (hN : l.length = N) (hr : gapO l who = r) (p : Option Addr) (k : Nat) (w : World) (hl : Sl w 1 intC l (.slice p l.length k)) :
    Calls Try.prog 18 #[.slice p N k, .int .i64 who] w fun e w' => e = .returned (.int .i64 r) ∧ Kept w w' := by subst hr; exact rgap_n hN who p k w hl
theorem rfair_val {l who : List Int} {N M : Nat} {win : Int} {b : Bool} (hN : l.length = N) (hM : who.length = M) (hb : fairB l who win = b) (p q : Option Addr) (k kw : Nat) (w : World) (hl : Sl w 1 intC l (.slice p l.length k)) (hw : Sl w 1 intC who (.slice q who.length kw)) :
    Calls Try.prog 20 #[.slice p N k, .slice q M kw, .int .i64 win] w fun e w' => e = .returned (.bool b) ∧ Kept w w' := by subst hb; exact rfair_n hN hM win p q k kw w hl hw
theorem rleast_val {l who : List Int} {N M : Nat} {i : Int} {b : Bool} (hN : l.length = N) (hM : who.length = M) (hm : N ≤ 1000000) (hi : lstI l who = i) (hb : lstB l who = b) (p q : Option Addr) (k kw : Nat) (w : World) (hl : Sl w 1 intC l (.slice p l.length k)) (hw : Sl w 1 intC who (.slice q who.length kw)) :
    Calls Try.prog 11 #[.slice p N k, .slice q M kw] w fun e w' => e = .returned (.tuple #[.int .i64 i, .bool b]) ∧ Kept w w' := by subst hi hb; exact rleast_n hN hM hm p q k kw w hl hw

set_option maxRecDepth 100000 in
set_option maxHeartbeats 2000000 in
theorem turnTells_walk (picks : List Int) (picksv : Value) (hpicks : ∀ x ∈ picks, In64 x) (hpicksm : picks.length ≤ maxLen) (who : List Int) (whov : Value) (hwho : ∀ x ∈ who, In64 x) (hwhom : who.length ≤ maxLen) (n : Int) (hn : In64 n) (threads : Int) (hthreads : In64 threads) (rounds : Int) (hrounds : In64 rounds) (window : Int) (hwindow : In64 window) (w : World) (hpickss : Sl w 1 intC picks picksv) (hwhos : Sl w 1 intC who whov) :
    Calls Try.prog 3 #[picksv, whov, .int .i64 n, .int .i64 threads, .int .i64 rounds, .int .i64 window] w fun e w' => e = .returned (.bool true) ∧ Kept w w' := by
  obtain ⟨p, k, rfl, -⟩ := hpickss.is
  obtain ⟨q, kw, rfl, -⟩ := hwhos.is
  have H : Hid (Sl w 1 intC picks (.slice p picks.length k)) := Lib.hid hpickss
  have HW : Hid (Sl w 1 intC who (.slice q who.length kw)) := Lib.hid hwhos
  obtain ⟨N, hN⟩ : ∃ N, picks.length = N := ⟨_, rfl⟩
  obtain ⟨M, hM⟩ : ∃ M, who.length = M := ⟨_, rfl⟩
  have HN := Lib.hid (And.intro hN hM)
  rw [hN, hM]
  rw [hN] at hpicksm
  rw [hM] at hwhom
  clear hpickss hwhos hpicks hwho hN hM
  rcases Nat.lt_or_ge 30 N with h1 | h1
  · have hlen' : (30 : Int) < (N : Int) := by omega
    clear h1
    go_enter Try.func3, Try.ntmps3; go_wp2_with fail; refine (turnawake_any _).mono ?_; rintro e w1 ⟨rfl, hg1⟩
    go_wp2
    all_goals (go_ret; exact ⟨rfl, by repeat' (first | (with_reducible exact Below.refl _ _) | (with_reducible assumption) | (with_reducible refine kept_alloc ?_ _) | (with_reducible refine kept_drewN ?_ _) | (with_reducible refine Below.drew ?_) | (with_reducible refine Below.setCell ?_ (by first | omega | (simp; omega) | (simp; done)) _) | (refine kept_trans ?_ (by with_reducible assumption)))⟩)
  have g1 : ¬ (30 : Int) < (N : Int) := by omega
  rcases Nat.lt_or_ge 30 M with h2 | h2
  · have hlen' : (30 : Int) < (M : Int) := by omega
    clear h2
    go_enter Try.func3, Try.ntmps3; go_wp2_with fail; refine (turnawake_any _).mono ?_; rintro e w1 ⟨rfl, hg1⟩
    go_wp2
    all_goals (go_ret; exact ⟨rfl, by repeat' (first | (with_reducible exact Below.refl _ _) | (with_reducible assumption) | (with_reducible refine kept_alloc ?_ _) | (with_reducible refine kept_drewN ?_ _) | (with_reducible refine Below.drew ?_) | (with_reducible refine Below.setCell ?_ (by first | omega | (simp; omega) | (simp; done)) _) | (refine kept_trans ?_ (by with_reducible assumption)))⟩)
  have g2 : ¬ (30 : Int) < (M : Int) := by omega
  by_cases h3 : 30 < rounds ∧ rounds ≤ 1000
  · obtain ⟨h4, h5⟩ := h3
    go_enter Try.func3, Try.ntmps3; go_wp2_with fail; refine (turnawake_any _).mono ?_; rintro e w1 ⟨rfl, hg1⟩
    go_wp2
    all_goals (go_ret; exact ⟨rfl, by repeat' (first | (with_reducible exact Below.refl _ _) | (with_reducible assumption) | (with_reducible refine kept_alloc ?_ _) | (with_reducible refine kept_drewN ?_ _) | (with_reducible refine Below.drew ?_) | (with_reducible refine Below.setCell ?_ (by first | omega | (simp; omega) | (simp; done)) _) | (refine kept_trans ?_ (by with_reducible assumption)))⟩)
  have h3' : ¬ 30 < rounds ∨ (30 < rounds ∧ ¬ rounds ≤ 1000) := by omega
  obtain ⟨I, hI⟩ : ∃ I, lstI picks who = I := ⟨_, rfl⟩
  obtain ⟨B, hB⟩ : ∃ B, lstB picks who = B := ⟨_, rfl⟩
  obtain ⟨R, hR⟩ : ∃ R, rbL threads rounds = R := ⟨_, rfl⟩
  obtain ⟨c, hc⟩ : ∃ c, ctO picks n = c := ⟨_, rfl⟩
  obtain ⟨g, hg⟩ : ∃ g, gapO picks n = g := ⟨_, rfl⟩
  obtain ⟨F, hF⟩ : ∃ F, fairB picks who window = F := ⟨_, rfl⟩
  have hRl : R.length ≤ 16000 := by rw [← hR]; exact rb_len threads rounds
  have HL := Lib.hid (And.intro hI (And.intro hB (And.intro hR (And.intro hc (And.intro hg (And.intro hF hRl))))))
  have b1 : (I == I) = true := by simp
  have b2 : (B == B) = true := by simp
  have b3 : ((c : Int) == (c : Int)) = true := by simp
  have b4 : ((g : Int) == (g : Int)) = true := by simp
  have b5 : (F == F) = true := by simp
  have hN6 : N ≤ 1000000 := by omega
  clear hI hB hR hc hg hF hRl h3
  rcases h3' with h3 | ⟨h3, h4⟩
  all_goals
    go_enter Try.func3, Try.ntmps3; go_wp2_with fail; refine (turnawake_any _).mono ?_; rintro e w1 ⟨rfl, hg1⟩
    go_wp2_with fail
    refine (tleast_val HN.out.1 HN.out.2 HL.out.1 HL.out.2.1 p q k kw _ (H.out.kept (by repeat' (first | (with_reducible exact Below.refl _ _) | (with_reducible assumption) | (with_reducible refine kept_alloc ?_ _) | (with_reducible refine kept_drewN ?_ _) | (with_reducible refine Below.drew ?_) | (with_reducible refine Below.setCell ?_ (by first | omega | (simp; omega) | (simp; done)) _) | (refine kept_trans ?_ (by with_reducible assumption))))) (HW.out.kept (by repeat' (first | (with_reducible exact Below.refl _ _) | (with_reducible assumption) | (with_reducible refine kept_alloc ?_ _) | (with_reducible refine kept_drewN ?_ _) | (with_reducible refine Below.drew ?_) | (with_reducible refine Below.setCell ?_ (by first | omega | (simp; omega) | (simp; done)) _) | (refine kept_trans ?_ (by with_reducible assumption)))))).mono ?_
    rintro e w2 ⟨rfl, hg2⟩
    go_wp2_with fail
    refine (rleast_val HN.out.1 HN.out.2 hN6 HL.out.1 HL.out.2.1 p q k kw _ (H.out.kept (by repeat' (first | (with_reducible exact Below.refl _ _) | (with_reducible assumption) | (with_reducible refine kept_alloc ?_ _) | (with_reducible refine kept_drewN ?_ _) | (with_reducible refine Below.drew ?_) | (with_reducible refine Below.setCell ?_ (by first | omega | (simp; omega) | (simp; done)) _) | (refine kept_trans ?_ (by with_reducible assumption))))) (HW.out.kept (by repeat' (first | (with_reducible exact Below.refl _ _) | (with_reducible assumption) | (with_reducible refine kept_alloc ?_ _) | (with_reducible refine kept_drewN ?_ _) | (with_reducible refine Below.drew ?_) | (with_reducible refine Below.setCell ?_ (by first | omega | (simp; omega) | (simp; done)) _) | (refine kept_trans ?_ (by with_reducible assumption)))))).mono ?_
    rintro e w3 ⟨rfl, hg3⟩
    go_wp2_with fail
    refine (trobin_val HL.out.2.2.1 hthreads hrounds _).mono ?_
    rintro e w4 ⟨p4, k4, rfl, hO4, hg4⟩
    have HO4 := Lib.hid (Ow.sl intEnc hO4)
    clear hO4
    go_wp2_with fail
    refine (rrobin_val HL.out.2.2.1 hthreads hrounds _).mono ?_
    rintro e w5 ⟨p5, k5, rfl, hO5, hg5⟩
    have HO5 := Lib.hid (Ow.sl intEnc hO5)
    clear hO5
    go_wp2_with fail
    refine (rints_any R R p4 p5 k4 k5 _ (HO4.out.kept (by repeat' (first | (with_reducible exact Below.refl _ _) | (with_reducible assumption) | (with_reducible refine kept_alloc ?_ _) | (with_reducible refine kept_drewN ?_ _) | (with_reducible refine Below.drew ?_) | (with_reducible refine Below.setCell ?_ (by first | omega | (simp; omega) | (simp; done)) _) | (refine kept_trans ?_ (by with_reducible assumption))))) (HO5.out.kept (by repeat' (first | (with_reducible exact Below.refl _ _) | (with_reducible assumption) | (with_reducible refine kept_alloc ?_ _) | (with_reducible refine kept_drewN ?_ _) | (with_reducible refine Below.drew ?_) | (with_reducible refine Below.setCell ?_ (by first | omega | (simp; omega) | (simp; done)) _) | (refine kept_trans ?_ (by with_reducible assumption))))) (by have := HL.out.2.2.2.2.2.2; omega)).mono ?_
    rintro e w6 ⟨rfl, hg6⟩
    rw [show decide (R = R) = true by simp]
    go_wp2_with fail
    refine (tcount_val HN.out.1 HL.out.2.2.2.1 p k _ (H.out.kept (by repeat' (first | (with_reducible exact Below.refl _ _) | (with_reducible assumption) | (with_reducible refine kept_alloc ?_ _) | (with_reducible refine kept_drewN ?_ _) | (with_reducible refine Below.drew ?_) | (with_reducible refine Below.setCell ?_ (by first | omega | (simp; omega) | (simp; done)) _) | (refine kept_trans ?_ (by with_reducible assumption)))))).mono ?_
    rintro e w7 ⟨rfl, hg7⟩
    go_wp2_with fail
    refine (rcount_val HN.out.1 HL.out.2.2.2.1 p k _ (H.out.kept (by repeat' (first | (with_reducible exact Below.refl _ _) | (with_reducible assumption) | (with_reducible refine kept_alloc ?_ _) | (with_reducible refine kept_drewN ?_ _) | (with_reducible refine Below.drew ?_) | (with_reducible refine Below.setCell ?_ (by first | omega | (simp; omega) | (simp; done)) _) | (refine kept_trans ?_ (by with_reducible assumption)))))).mono ?_
    rintro e w8 ⟨rfl, hg8⟩
    go_wp2_with fail
    refine (tgap_val HN.out.1 HL.out.2.2.2.2.1 p k _ (H.out.kept (by repeat' (first | (with_reducible exact Below.refl _ _) | (with_reducible assumption) | (with_reducible refine kept_alloc ?_ _) | (with_reducible refine kept_drewN ?_ _) | (with_reducible refine Below.drew ?_) | (with_reducible refine Below.setCell ?_ (by first | omega | (simp; omega) | (simp; done)) _) | (refine kept_trans ?_ (by with_reducible assumption)))))).mono ?_
    rintro e w9 ⟨rfl, hg9⟩
    go_wp2_with fail
    refine (rgap_val HN.out.1 HL.out.2.2.2.2.1 p k _ (H.out.kept (by repeat' (first | (with_reducible exact Below.refl _ _) | (with_reducible assumption) | (with_reducible refine kept_alloc ?_ _) | (with_reducible refine kept_drewN ?_ _) | (with_reducible refine Below.drew ?_) | (with_reducible refine Below.setCell ?_ (by first | omega | (simp; omega) | (simp; done)) _) | (refine kept_trans ?_ (by with_reducible assumption)))))).mono ?_
    rintro e w10 ⟨rfl, hg10⟩
    go_wp2_with fail
    refine (tfair_val HN.out.1 HN.out.2 HL.out.2.2.2.2.2.1 hwindow p q k kw _ (H.out.kept (by repeat' (first | (with_reducible exact Below.refl _ _) | (with_reducible assumption) | (with_reducible refine kept_alloc ?_ _) | (with_reducible refine kept_drewN ?_ _) | (with_reducible refine Below.drew ?_) | (with_reducible refine Below.setCell ?_ (by first | omega | (simp; omega) | (simp; done)) _) | (refine kept_trans ?_ (by with_reducible assumption))))) (HW.out.kept (by repeat' (first | (with_reducible exact Below.refl _ _) | (with_reducible assumption) | (with_reducible refine kept_alloc ?_ _) | (with_reducible refine kept_drewN ?_ _) | (with_reducible refine Below.drew ?_) | (with_reducible refine Below.setCell ?_ (by first | omega | (simp; omega) | (simp; done)) _) | (refine kept_trans ?_ (by with_reducible assumption)))))).mono ?_
    rintro e w11 ⟨rfl, hg11⟩
    go_wp2_with fail
    refine (rfair_val HN.out.1 HN.out.2 HL.out.2.2.2.2.2.1 p q k kw _ (H.out.kept (by repeat' (first | (with_reducible exact Below.refl _ _) | (with_reducible assumption) | (with_reducible refine kept_alloc ?_ _) | (with_reducible refine kept_drewN ?_ _) | (with_reducible refine Below.drew ?_) | (with_reducible refine Below.setCell ?_ (by first | omega | (simp; omega) | (simp; done)) _) | (refine kept_trans ?_ (by with_reducible assumption))))) (HW.out.kept (by repeat' (first | (with_reducible exact Below.refl _ _) | (with_reducible assumption) | (with_reducible refine kept_alloc ?_ _) | (with_reducible refine kept_drewN ?_ _) | (with_reducible refine Below.drew ?_) | (with_reducible refine Below.setCell ?_ (by first | omega | (simp; omega) | (simp; done)) _) | (refine kept_trans ?_ (by with_reducible assumption)))))).mono ?_
    rintro e w12 ⟨rfl, hg12⟩
    go_wp2
    all_goals (go_ret; exact ⟨rfl, by repeat' (first | (with_reducible exact Below.refl _ _) | (with_reducible assumption) | (with_reducible refine kept_alloc ?_ _) | (with_reducible refine kept_drewN ?_ _) | (with_reducible refine Below.drew ?_) | (with_reducible refine Below.setCell ?_ (by first | omega | (simp; omega) | (simp; done)) _) | (refine kept_trans ?_ (by with_reducible assumption)))⟩)
set_option maxRecDepth 100000 in
theorem turnTells_lifted (os : Os) (started : os.Started) (H : Type) (enc : TypeId × Value → H) :
    ReturnsInHanded {} Try.checked os 3 .any (Rows.turnTellsSpec.pre6 enc Try.prog Try.f3 Rows.turnTellsRow.domain false) (Rows.turnTellsSpec.post enc Try.prog Try.f3 false true false false) := by
  refine returnsInHanded_of_change (C := Try.checked) own started (by kernel_rfl) Try.func3
    (ChangeSpec.witness6 (enc := enc) (C := Try.checked) false ⟨#[], #[.slice none 0 0, .slice none 0 0, .int .i64 0, .int .i64 0, .int .i64 0, .int .i64 0], []⟩ 8 (by kernel_rfl) (by kernel_rfl) (by kernel_rfl) (by kernel_rfl)) ?_
  intro W base args ds gs before hval0 hW hcnd _
  have hval : ∀ (j : Nat) t v, Try.f3.params[j]? = some t → args[j]? = some v → Value.okWide Try.prog W .any base t v := hval0
  have hW' := hW
  obtain ⟨p, q, hA0, hV, rfl, hfz, hnd⟩ := hW
  have hA : DataW.TrodAll enc Try.prog W 0 (fun _ => true) true Try.f3.params.toList args.toList ds p := hA0
  rw [Try.params3] at hA hval
  obtain ⟨v0, vs0, d0, ds0, p0, q0, hargs, rfl, rfl, h0, r0⟩ := trodAll_cons hA
  obtain ⟨v1, vs1, d1, ds1, p1, q1, rfl, rfl, rfl, h1, r1⟩ := trodAll_cons r0
  obtain ⟨v2, vs2, d2, ds2, p2, q2, rfl, rfl, rfl, h2, r2⟩ := trodAll_cons r1
  obtain ⟨v3, vs3, d3, ds3, p3, q3, rfl, rfl, rfl, h3, r3⟩ := trodAll_cons r2
  obtain ⟨v4, vs4, d4, ds4, p4, q4, rfl, rfl, rfl, h4, r4⟩ := trodAll_cons r3
  obtain ⟨v5, vs5, d5, ds5, p5, q5, rfl, rfl, rfl, h5, r5⟩ := trodAll_cons r4
  obtain ⟨rfl, rfl, rfl⟩ := trodAll_nil r5
  obtain rfl : args = #[v0, v1, v2, v3, v4, v5] := by cases args; simp_all
  obtain ⟨rfl, rfl⟩ := trodVars_none hV
  obtain ⟨picks, pickssl, picksok, picksml⟩ := Sl.of_read intC In64 (by decide) (open_row (g := 9) (l := intShape) Try.underlying22 (by kernel_rfl) (hval 0 22 v0 rfl rfl) h0) (fun vs h => int_of_read h)
  obtain ⟨who, whosl, whook, whoml⟩ := Sl.of_read intC In64 (by decide) (open_row (g := 9) (l := intShape) Try.underlying22 (by kernel_rfl) (hval 1 22 v1 rfl rfl) h1) (fun vs h => int_of_read h)
  obtain ⟨n, rfl, rfl, rfl, wf2⟩ := open_int Try.underlying3 (hval 2 3 v2 rfl rfl) h2
  obtain ⟨threads, rfl, rfl, rfl, wf3⟩ := open_int Try.underlying3 (hval 3 3 v3 rfl rfl) h3
  obtain ⟨rounds, rfl, rfl, rfl, wf4⟩ := open_int Try.underlying3 (hval 4 3 v4 rfl rfl) h4
  obtain ⟨window, rfl, rfl, rfl, wf5⟩ := open_int Try.underlying3 (hval 5 3 v5 rfl rfl) h5
  clear hA0 hval0
  refine (turnTells_walk picks v0 picksok picksml who v1 whook whoml n (in64_of_wf wf2) threads (in64_of_wf wf3) rounds (in64_of_wf wf4) window (in64_of_wf wf5) W pickssl whosl).mono fun e W' ⟨he, hg⟩ => ?_
  subst he
  exact ⟨_, rfl, law_post laid hW' rfl (by kernel_rfl) rfl Try.underlying4 rfl hg⟩

/-- The statement, whole. -/
theorem turnTells_holds : Rows.TurnTellsSaid :=
  OpenClaim.holds_of_wide 3 Try.f3 rfl rfl rfl rfl rfl rfl rfl ⟨rfl, rfl, rfl, rfl, rfl⟩ rfl rfl rfl rfl rfl (by kernel_rfl) Try.func3 (by kernel_rfl)
    (of_decide_eq_true (by kernel_rfl)) (by unfold Func.isWrapper; rw [if_neg (of_decide_eq_false (by kernel_rfl))]; exact ⟨rfl, rfl⟩)
    (fun os started H enc _ => turnTells_lifted os started H enc)
end Go.Proofs.Ytlmiedgpibollaa
