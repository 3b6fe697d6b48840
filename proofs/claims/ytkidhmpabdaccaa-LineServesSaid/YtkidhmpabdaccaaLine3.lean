/- LineServes holds for every input: no conditions. -/
import Derived.Test.YtkidhmpabdaccaaLineM
namespace Go.Proofs.Ytkidhmpabdaccaa
set_option linter.unusedVariables false
set_option linter.unusedSimpArgs false
open Go.ChangeShapes Go.WideShapes Go.ChangeAt Go.RowKit

theorem lnext_n {l r : List Int} {x : Int} {b : Bool} {N : Nat} (hN : l.length = N) (hx : nxI l = x) (hr : nxL l = r) (hb : nxB l = b) (p : Option Addr) (k : Nat) (w : World) (hl : Sl w 1 intC l (.slice p N k)) (hm : N ≤ 999999) :
    Calls Try.prog 14 #[.slice p N k] w (RetN w x r b) := by subst hN; exact lnext_val hx hr hb p k w hl hm
set_option maxRecDepth 100000 in
set_option maxHeartbeats 4000000 in
theorem lineServes_walk (l : List Int) (lv : Value) (hl : ∀ x ∈ l, In64 x) (hlm : l.length ≤ maxLen) (w : World) (hls : Sl w 1 intC l lv) :
    Calls Try.prog 6 #[lv] w fun e w' => e = .returned (.bool true) ∧ Kept w w' := by
  obtain ⟨p, k, rfl, hlk, hkm, _, hne⟩ := hls.is
  have H : Hid (Sl w 1 intC l (.slice p l.length k)) := Lib.hid hls
  have HNE := Lib.hid hne
  clear hls hl hne
  by_cases hlen : l.length ≤ 100
  · cases hok : okLn l
    · have HO := Lib.hid hok
      clear hok
      go_enter Try.func6, Try.ntmps6; go_wp2_with fail; refine (lineawake_any _).mono ?_; rintro e w1 ⟨rfl, hg1⟩
      go_wp2_with fail
      refine (lcheck_val HO.out p k _ (H.out.kept (by repeat' (first | (with_reducible exact Below.refl _ _) | (with_reducible assumption) | (with_reducible refine kept_alloc ?_ _) | (with_reducible refine kept_drewN ?_ _) | (with_reducible refine Below.drew ?_) | (with_reducible refine Below.setCell ?_ (by first | omega | (simp; omega) | (simp; done)) _) | (refine kept_trans ?_ (by with_reducible assumption)))))).mono ?_
      rintro e w2 ⟨rfl, hg2⟩
      go_wp2
      all_goals (go_ret; exact ⟨rfl, by repeat' (first | (with_reducible exact Below.refl _ _) | (with_reducible assumption) | (with_reducible refine kept_alloc ?_ _) | (with_reducible refine kept_drewN ?_ _) | (with_reducible refine Below.drew ?_) | (with_reducible refine Below.setCell ?_ (by first | omega | (simp; omega) | (simp; done)) _) | (refine kept_trans ?_ (by with_reducible assumption)))⟩)
    · have HO := Lib.hid hok
      have hB0 : ∀ w1 w2, Below w.heap.size w w1 → Kept w1 w2 → Below w.heap.size w w2 := fun _ _ h1 h2 => kept_trans h1 h2
      clear hok
      go_enter Try.func6, Try.ntmps6; go_wp2_with fail; refine (lineawake_any _).mono ?_; rintro e w1 ⟨rfl, hg1⟩
      go_wp2_with fail
      refine (lcheck_val HO.out p k _ (H.out.kept (by repeat' (first | (with_reducible exact Below.refl _ _) | (with_reducible assumption) | (with_reducible refine kept_alloc ?_ _) | (with_reducible refine kept_drewN ?_ _) | (with_reducible refine Below.drew ?_) | (with_reducible refine Below.setCell ?_ (by first | omega | (simp; omega) | (simp; done)) _) | (refine kept_trans ?_ (by with_reducible assumption)))))).mono ?_
      rintro e w2 ⟨rfl, hg2⟩
      have hB2 : Below w.heap.size w w2 := by repeat' (first | (with_reducible exact Below.refl _ _) | (with_reducible assumption) | (with_reducible refine kept_alloc ?_ _) | (with_reducible refine kept_drewN ?_ _) | (with_reducible refine Below.drew ?_) | (with_reducible refine Below.setCell ?_ (by first | omega | (simp; omega) | (simp; done)) _) | (refine kept_trans ?_ (by with_reducible assumption)))
      have HS2 := Lib.hid (H.out.kept hB2)
      clear hg1 hg2 hB0
      obtain ⟨N, hN⟩ : ∃ N, l.length = N := ⟨_, rfl⟩
      have HN := Lib.hid hN
      rw [hN] at hlen hlk hlm ⊢
      go_wp2
      go_loopw [4, 5, 6, 7, 8, 9] (fun s4 s5 _ _ _ _ wr => ∃ (j : Nat) (R : List Int) (pr : Option Addr) (kr : Nat), s5 = .int .i64 j ∧ j ≤ N ∧ s4 = .slice pr R.length kr ∧ Hid (R = l.drop j) ∧ Sl wr 1 intC R (.slice pr R.length kr) ∧ Below w.heap.size w wr) (fun _ s5 _ _ _ _ _ => N - (intOf s5).toNat)
      case atStart => exact ⟨0, l, p, k, rfl, by omega, by rw [HN.out], Lib.hid (by simp), HS2.out, hB2⟩
      case round =>
        clear HS2 hB2
        obtain ⟨j, R, pr, kr, rfl, hj, rfl, HR, hS, hB⟩ := hrel
        have HS := Lib.hid hS
        clear hS
        by_cases hlt : j < N
        · have hlt' : j < l.length := by rw [HN.out]; exact hlt
          obtain ⟨b, o, rfl, hb, -⟩ := HNE.out (by intro h; subst h; simp at hlt')
          have c1 := (hB.cell (p := ⟨b, o + j, none⟩) hb).trans (sli_at H.out hlt')
          have hbw : b < wr.heap.size := Nat.lt_of_lt_of_le hb hB.size
          have i1 : (0 : Int) ≤ (j : Int) := by omega
          have i2 : (j : Int) < (N : Int) := by omega
          obtain ⟨s1, s2, s3, s4⟩ := serve HO.out hlt'
          rw [← HR.out] at s1 s2 s3 s4
          have hRl : R.length ≤ 999999 := by rw [HR.out]; simp; omega
          generalize l[j] = y at *
          have HV := Lib.hid (And.intro s1 (And.intro s2 (And.intro s3 s4)))
          have HD : Hid ((l.drop (j + 1)).length ≤ 999999) := Lib.hid (by simp; omega)
          have hyy : (y != y) = false := by simp
          clear s1 s2 s3 s4
          go_wp2_with fail
          refine (lfirst_val (b := true) HV.out.1 (by decide) pr kr _ (HS.out.kept (by repeat' (first | (with_reducible exact Below.refl _ _) | (with_reducible assumption) | (with_reducible refine kept_alloc ?_ _) | (with_reducible refine kept_drewN ?_ _) | (with_reducible refine Below.drew ?_) | (with_reducible refine Below.setCell ?_ (by first | omega | (simp; omega) | (simp; done)) _) | (refine kept_trans ?_ (by with_reducible assumption)))))).mono ?_
          rintro e w3 ⟨rfl, hg3⟩
          go_wp2_with fail
          refine (lnext_val HV.out.2.2.1 HV.out.2.2.2 HV.out.2.1 pr kr _ (HS.out.kept (by repeat' (first | (with_reducible exact Below.refl _ _) | (with_reducible assumption) | (with_reducible refine kept_alloc ?_ _) | (with_reducible refine kept_drewN ?_ _) | (with_reducible refine Below.drew ?_) | (with_reducible refine Below.setCell ?_ (by first | omega | (simp; omega) | (simp; done)) _) | (refine kept_trans ?_ (by with_reducible assumption))))) hRl).mono ?_
          rintro e w4 ⟨p4, k4, rfl, hS4, hg4⟩
          have hg34 : Kept wr w4 := by repeat' (first | (with_reducible exact Below.refl _ _) | (with_reducible assumption) | (with_reducible refine kept_alloc ?_ _) | (with_reducible refine kept_drewN ?_ _) | (with_reducible refine Below.drew ?_) | (with_reducible refine Below.setCell ?_ (by first | omega | (simp; omega) | (simp; done)) _) | (refine kept_trans ?_ (by with_reducible assumption)))
          have c2 := ((bcell hg34).1 b (o + j) hbw).trans c1
          have hB4 : Below w.heap.size w w4 := kept_trans hB hg34
          have HS4 := Lib.hid hS4
          clear c1 hS4 hg3 hg4
          go_wp2
          exact ⟨⟨j + 1, _, p4, k4, by go_num, by omega, by rw [List.length_drop, HN.out], Lib.hid rfl, HS4.out, hB4⟩, by simp [intOf]; omega⟩
        · have : j = N := by omega
          subst this
          obtain ⟨e1, e2⟩ := serve_end l
          have hR : R = [] := by rw [HR.out, ← HN.out]; simp
          subst hR
          have HE : Hid (nxB [] = false ∧ nxI [] = 0 ∧ nxL [] = []) := Lib.hid (by decide)
          clear e1 e2
          go_wp2_with fail
          refine (lnext_val HE.out.2.1 HE.out.2.2 HE.out.1 pr kr _ (HS.out.kept (by repeat' (first | (with_reducible exact Below.refl _ _) | (with_reducible assumption) | (with_reducible refine kept_alloc ?_ _) | (with_reducible refine kept_drewN ?_ _) | (with_reducible refine Below.drew ?_) | (with_reducible refine Below.setCell ?_ (by first | omega | (simp; omega) | (simp; done)) _) | (refine kept_trans ?_ (by with_reducible assumption))))) (by simp)).mono ?_
          rintro e w4 ⟨p4, k4, rfl, -, hg4⟩
          go_wp2
          all_goals (go_ret; exact ⟨rfl, by repeat' (first | (with_reducible exact Below.refl _ _) | (with_reducible assumption) | (with_reducible refine kept_alloc ?_ _) | (with_reducible refine kept_drewN ?_ _) | (with_reducible refine Below.drew ?_) | (with_reducible refine Below.setCell ?_ (by first | omega | (simp; omega) | (simp; done)) _) | (refine kept_trans ?_ (by with_reducible assumption)))⟩)
  · have hlen' : (100 : Int) < (l.length : Int) := (by omega); clear hlen; go_enter Try.func6, Try.ntmps6; go_wp2_with fail; refine (lineawake_any _).mono ?_; rintro e w1 ⟨rfl, hg1⟩; go_wp2; all_goals (go_ret; exact ⟨rfl, by repeat' (first | (with_reducible exact Below.refl _ _) | (with_reducible assumption) | (with_reducible refine kept_alloc ?_ _) | (with_reducible refine kept_drewN ?_ _) | (with_reducible refine Below.drew ?_) | (with_reducible refine Below.setCell ?_ (by first | omega | (simp; omega) | (simp; done)) _) | (refine kept_trans ?_ (by with_reducible assumption)))⟩)
set_option maxRecDepth 100000 in
theorem lineServes_lifted (os : Os) (started : os.Started) (H : Type) (enc : TypeId × Value → H) :
    ReturnsInHanded {} Try.checked os 6 .any (Rows.lineServesSpec.pre6 enc Try.prog Try.f6 Rows.lineServesRow.domain false) (Rows.lineServesSpec.post enc Try.prog Try.f6 false true false false) := by
  refine returnsInHanded_of_change (C := Try.checked) own started (by kernel_rfl) Try.func6
    (ChangeSpec.witness6 (enc := enc) (C := Try.checked) false ⟨#[], #[.slice none 0 0], []⟩ 8 (by kernel_rfl) (by kernel_rfl) (by kernel_rfl) (by kernel_rfl)) ?_
  intro W base args ds gs before hval0 hW hcnd _
  have hval : ∀ (j : Nat) t v, Try.f6.params[j]? = some t → args[j]? = some v → Value.okWide Try.prog W .any base t v := hval0
  have hW' := hW
  obtain ⟨p, q, hA0, hV, rfl, hfz, hnd⟩ := hW
  have hA : DataW.TrodAll enc Try.prog W 0 (fun _ => true) true Try.f6.params.toList args.toList ds p := hA0
  rw [Try.params6] at hA hval
  obtain ⟨v0, vs0, d0, ds0, p0, q0, hargs, rfl, rfl, h0, r0⟩ := trodAll_cons hA
  obtain ⟨rfl, rfl, rfl⟩ := trodAll_nil r0
  obtain rfl : args = #[v0] := by cases args; simp_all
  obtain ⟨rfl, rfl⟩ := trodVars_none hV
  obtain ⟨l, lsl, lok, lml⟩ := Sl.of_read intC In64 (by decide) (open_row (g := 9) (l := intShape) Try.underlying22 (by kernel_rfl) (hval 0 22 v0 rfl rfl) h0) (fun vs h => int_of_read h)
  clear hA0 hval0
  refine (lineServes_walk l v0 lok lml W lsl).mono fun e W' ⟨he, hg⟩ => ?_
  subst he
  exact ⟨_, rfl, law_post laid hW' rfl (by kernel_rfl) rfl Try.underlying4 rfl hg⟩

/-- The statement, whole. -/
theorem lineServes_holds : Rows.LineServesSaid :=
  OpenClaim.holds_of_wide 6 Try.f6 rfl rfl rfl rfl rfl rfl rfl ⟨rfl, rfl, rfl, rfl, rfl⟩ rfl rfl rfl rfl rfl (by kernel_rfl) Try.func6 (by kernel_rfl)
    (of_decide_eq_true (by kernel_rfl)) (by unfold Func.isWrapper; rw [if_neg (of_decide_eq_false (by kernel_rfl))]; exact ⟨rfl, rfl⟩)
    (fun os started H enc _ => lineServes_lifted os started H enc)
end Go.Proofs.Ytkidhmpabdaccaa
