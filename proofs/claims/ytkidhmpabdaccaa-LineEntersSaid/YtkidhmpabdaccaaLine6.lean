/- LineEnters holds for every input: no conditions. -/
import Derived.Test.YtkidhmpabdaccaaLineM
namespace Go.Proofs.Ytkidhmpabdaccaa
set_option linter.unusedVariables false
set_option linter.unusedSimpArgs false
open Go.ChangeShapes Go.WideShapes Go.ChangeAt Go.RowKit

theorem lt_irr {α β : Type} {W W2 : World} {base k k' : Nat} {e e' : TypeId} {enc : α → List Value} {enc' : β → List Value} {xs : List α} {ys : List β} {u v : Value} (h1 : Ow W base e k enc xs v) (h2 : Ow W2 W.heap.size e' k' enc' ys u) {g : Nat} (hg1 : u.ownBlock = some g) : v.ownBlock ≠ some g := by
  intro hg2
  have := (h1.lt g hg2).2
  have := (h2.lt g hg1).1
  omega
theorem lenter_oval {l r : List Int} {i c : Int} (hr : entL l i = r) (hc : entE l i = c) (p : Option Addr) (k : Nat) (w : World) (hl : Sl w 1 intC l (.slice p l.length k)) (hm : l.length ≤ 999999) :
    Calls Try.prog 10 #[.slice p l.length k, .int .i64 i] w (RetLO w r c) := hr ▸ hc ▸ lenter_own l i p k w hl hm

set_option maxRecDepth 100000 in
set_option maxHeartbeats 8000000 in
theorem lineEnters_walk (l : List Int) (lv : Value) (hl : ∀ x ∈ l, In64 x) (hlm : l.length ≤ maxLen) (w : World) (hls : Sl w 1 intC l lv) :
    Calls Try.prog 8 #[lv] w fun e w' => e = .returned (.bool true) ∧ Kept w w' := by
  obtain ⟨p, k, rfl, hlk, hkm, _, hne⟩ := hls.is
  have H : Hid (Sl w 1 intC l (.slice p l.length k)) := Lib.hid hls
  have HNE := Lib.hid hne
  clear hls hl hne
  by_cases hlen : l.length ≤ 100
  · go_enter Try.func8, Try.ntmps8; go_wp2_with fail; refine (lineawake_any _).mono ?_; rintro e w1 ⟨rfl, hg1⟩
    have hB1 : Below w.heap.size w w1 := by repeat' (first | (with_reducible exact Below.refl _ _) | (with_reducible assumption) | (with_reducible refine kept_alloc ?_ _) | (with_reducible refine kept_drewN ?_ _) | (with_reducible refine Below.drew ?_) | (with_reducible refine Below.setCell ?_ (by first | omega | (simp; omega) | (simp; done)) _) | (refine kept_trans ?_ (by with_reducible assumption)))
    obtain ⟨N, hN⟩ : ∃ N, l.length = N := ⟨_, rfl⟩
    have HN := Lib.hid hN
    rw [hN] at hlen hlk hlm ⊢
    clear hg1
    go_wp2
    go_loopw [4, 5, 6, 7, 8] (fun s4 s5 s6 _ _ wr => ∃ (j : Nat) (L : List Int) (pl pw : Option Addr) (kl kw : Nat), s6 = .int .i64 j ∧ j ≤ N ∧ s4 = .slice pl L.length kl ∧ s5 = .slice pw L.length kw ∧ L.length ≤ j ∧ Hid (okLn L = true) ∧ Sl wr 1 intC L (.slice pl L.length kl) ∧ Ow wr w.heap.size 3 1 intC L (.slice pw L.length kw) ∧ Below w.heap.size w wr) (fun _ _ s6 _ _ _ => N - (intOf s6).toNat)
    case atStart => exact ⟨0, [], none, none, 0, 0, rfl, by omega, rfl, rfl, by simp, Lib.hid (by decide), sli_nil _, owi_nil, hB1⟩
    case round =>
      clear hB1
      obtain ⟨j, L, pl, pw, kl, kw, rfl, hj, rfl, rfl, hLj, HO, hS, hW, hB⟩ := hrel
      have HS := Lib.hid hS
      have HW := Lib.hid hW
      clear hS hW
      by_cases hlt : j < N
      · have hlt' : j < l.length := by rw [HN.out]; exact hlt
        obtain ⟨b, o, rfl, hb, -⟩ := HNE.out (by intro h; subst h; simp at hlt')
        have c0 := sli_at H.out hlt'
        have c1 := (hB.cell (p := ⟨b, o + j, none⟩) hb).trans c0
        have hbw : b < wr.heap.size := Nat.lt_of_lt_of_le hb hB.size
        have i1 : (0 : Int) ≤ (j : Int) := by omega
        have i2 : (j : Int) < (N : Int) := by omega
        generalize l[j] = y at *
        obtain ⟨E, hE⟩ : ∃ E, entE L y = E := ⟨_, rfl⟩
        have hnone := ent_none (i := y) HO.out
        have hkeep := ent_ok_keep (i := y) HO.out
        have HE := Lib.hid (And.intro hE (And.intro hnone hkeep))
        rw [hE] at hnone
        by_cases hE0 : E = 0
        · subst hE0
          have hr := ent_yes hE
          have HR := Lib.hid hr
          have y0 : ¬ y < 0 := by omega
          have y1 : ¬ 15 < y := by omega
          clear hE hnone hkeep hr
          go_wp2_with fail
          refine (lenter_oval HR.out HE.out.1 pl kl _ (HS.out.kept (by repeat' (first | (with_reducible exact Below.refl _ _) | (with_reducible assumption) | (with_reducible refine kept_alloc ?_ _) | (with_reducible refine kept_drewN ?_ _) | (with_reducible refine Below.drew ?_) | (with_reducible refine Below.setCell ?_ (by first | omega | (simp; omega) | (simp; done)) _) | (refine kept_trans ?_ (by with_reducible assumption))))) (by omega)).mono ?_
          rintro e w2 ⟨p2, k2, rfl, hO2, hg2⟩
          have c2 := ((bcell hg2).1 b (o + j) hbw).trans c1
          have hbw2 : b < w2.heap.size := Nat.lt_of_lt_of_le hbw hg2.size
          have HO2 := Lib.hid hO2
          have hB2 : Below w.heap.size w w2 := kept_trans hB hg2
          have HW2 := Lib.hid (Ow.kept HW.out hg2)
          clear hO2 c1
          go_wp2_with ((at_builtin; refine wpList_appb (wb := w) rfl _ _ 22 rfl (.int .i64 0) 8 Try.underlying22 int_info rfl (by decide) intEnc rfl rfl (xs := L) (ys := [y]) (HW2.out.kept ((Below.refl _ _).alloc (Nat.le_refl _) _)) (sli_one w2 y rfl) (kept_alloc hB2 _) (by simp only [List.length_append, List.length_nil, List.length_cons]; unfold maxLen; omega) (by simp only [List.length_append, List.length_nil, List.length_cons]; omega) ?_); intro v6 w6 h6 hb6 hgr6 hob6; obtain ⟨p6, k6, rfl, -⟩ := (Ow.sl intEnc h6).is; have c6 := (hb6.cell (p := ⟨b, o + j, none⟩) hb).trans c0; have hbw6 : b < w6.heap.size := Nat.lt_of_lt_of_le hb hb6.size; have hsl6 := Lib.hid (Ow.sl intEnc (Ow.grown (HO2.out.kept ((Below.refl _ _).alloc (Nat.le_refl _) _)) hgr6 (fun g hg1 => lt_irr HW.out HO2.out hg1))); have hw6 := Lib.hid h6; clear h6 hgr6 hob6)
          exact ⟨⟨j + 1, L ++ [y], p2, p6, k2, k6, by go_num, by omega, by simp, by simp, by simp; omega, Lib.hid (HR.out ▸ HE.out.2.2), hsl6.out, hw6.out, hb6⟩, by simp [intOf]; omega⟩
        · have hr := ent_no (l := L) (i := y) (by rw [hE]; exact hE0)
          have b1 : (E == 0) = false := by simpa using hE0
          obtain ⟨D, hD⟩ : ∃ D, (E == 40) = D := ⟨_, rfl⟩
          have hno := hnone
          have HR := Lib.hid hr
          clear hE hnone hkeep hr
          by_cases y0 : y < 0
          · have b2 : (E == 40) = true := by simpa using hno.2 (.inl y0)
            clear hno hD
            go_wp2_with fail; refine (lenter_oval HR.out HE.out.1 pl kl _ (HS.out.kept (by repeat' (first | (with_reducible exact Below.refl _ _) | (with_reducible assumption) | (with_reducible refine kept_alloc ?_ _) | (with_reducible refine kept_drewN ?_ _) | (with_reducible refine Below.drew ?_) | (with_reducible refine Below.setCell ?_ (by first | omega | (simp; omega) | (simp; done)) _) | (refine kept_trans ?_ (by with_reducible assumption))))) (by omega)).mono ?_; rintro e w2 ⟨p2, k2, rfl, hO2, hg2⟩; have c2 := ((bcell hg2).1 b (o + j) hbw).trans c1; have hbw2 : b < w2.heap.size := Nat.lt_of_lt_of_le hbw hg2.size; have HS2 := Lib.hid (Ow.sl intEnc hO2); have hB2 : Below w.heap.size w w2 := kept_trans hB hg2; have HW2 := Lib.hid (Ow.kept HW.out hg2); clear hO2 c1; go_wp2; exact ⟨⟨j + 1, _, p2, pw, k2, kw, (by go_num), (by omega), rfl, rfl, (by omega), HO, HS2.out, HW2.out, hB2⟩, (by simp [intOf]; omega)⟩
          · by_cases y1 : 15 < y
            · have b2 : (E == 40) = true := by simpa using hno.2 (.inr y1)
              clear hno hD
              go_wp2_with fail; refine (lenter_oval HR.out HE.out.1 pl kl _ (HS.out.kept (by repeat' (first | (with_reducible exact Below.refl _ _) | (with_reducible assumption) | (with_reducible refine kept_alloc ?_ _) | (with_reducible refine kept_drewN ?_ _) | (with_reducible refine Below.drew ?_) | (with_reducible refine Below.setCell ?_ (by first | omega | (simp; omega) | (simp; done)) _) | (refine kept_trans ?_ (by with_reducible assumption))))) (by omega)).mono ?_; rintro e w2 ⟨p2, k2, rfl, hO2, hg2⟩; have c2 := ((bcell hg2).1 b (o + j) hbw).trans c1; have hbw2 : b < w2.heap.size := Nat.lt_of_lt_of_le hbw hg2.size; have HS2 := Lib.hid (Ow.sl intEnc hO2); have hB2 : Below w.heap.size w w2 := kept_trans hB hg2; have HW2 := Lib.hid (Ow.kept HW.out hg2); clear hO2 c1; go_wp2; exact ⟨⟨j + 1, _, p2, pw, k2, kw, (by go_num), (by omega), rfl, rfl, (by omega), HO, HS2.out, HW2.out, hB2⟩, (by simp [intOf]; omega)⟩
            · have b2 : (E == 40) = false := by
                cases h : (E == 40)
                · rfl
                · exact absurd (hno.1 (by simpa using h)) (by omega)
              clear hno hD
              go_wp2_with fail; refine (lenter_oval HR.out HE.out.1 pl kl _ (HS.out.kept (by repeat' (first | (with_reducible exact Below.refl _ _) | (with_reducible assumption) | (with_reducible refine kept_alloc ?_ _) | (with_reducible refine kept_drewN ?_ _) | (with_reducible refine Below.drew ?_) | (with_reducible refine Below.setCell ?_ (by first | omega | (simp; omega) | (simp; done)) _) | (refine kept_trans ?_ (by with_reducible assumption))))) (by omega)).mono ?_; rintro e w2 ⟨p2, k2, rfl, hO2, hg2⟩; have c2 := ((bcell hg2).1 b (o + j) hbw).trans c1; have hbw2 : b < w2.heap.size := Nat.lt_of_lt_of_le hbw hg2.size; have HS2 := Lib.hid (Ow.sl intEnc hO2); have hB2 : Below w.heap.size w w2 := kept_trans hB hg2; have HW2 := Lib.hid (Ow.kept HW.out hg2); clear hO2 c1; go_wp2; exact ⟨⟨j + 1, _, p2, pw, k2, kw, (by go_num), (by omega), rfl, rfl, (by omega), HO, HS2.out, HW2.out, hB2⟩, (by simp [intOf]; omega)⟩
      · have : j = N := by omega
        subst this
        have hl16 := ok_len HO.out
        have hl16' : (L.length : Int) ≤ 16 := by omega
        go_wp2_with fail
        refine (rints_any L L pl pw kl kw _ (HS.out.kept (by repeat' (first | (with_reducible exact Below.refl _ _) | (with_reducible assumption) | (with_reducible refine kept_alloc ?_ _) | (with_reducible refine kept_drewN ?_ _) | (with_reducible refine Below.drew ?_) | (with_reducible refine Below.setCell ?_ (by first | omega | (simp; omega) | (simp; done)) _) | (refine kept_trans ?_ (by with_reducible assumption))))) ((Ow.sl intEnc HW.out).kept (by repeat' (first | (with_reducible exact Below.refl _ _) | (with_reducible assumption) | (with_reducible refine kept_alloc ?_ _) | (with_reducible refine kept_drewN ?_ _) | (with_reducible refine Below.drew ?_) | (with_reducible refine Below.setCell ?_ (by first | omega | (simp; omega) | (simp; done)) _) | (refine kept_trans ?_ (by with_reducible assumption))))) (by omega)).mono ?_
        rintro e w3 ⟨rfl, hg3⟩
        rw [show decide (L = L) = true by simp]
        go_wp2_with fail
        refine (lcheck_val HO.out pl kl _ (HS.out.kept (by repeat' (first | (with_reducible exact Below.refl _ _) | (with_reducible assumption) | (with_reducible refine kept_alloc ?_ _) | (with_reducible refine kept_drewN ?_ _) | (with_reducible refine Below.drew ?_) | (with_reducible refine Below.setCell ?_ (by first | omega | (simp; omega) | (simp; done)) _) | (refine kept_trans ?_ (by with_reducible assumption)))))).mono ?_
        rintro e w4 ⟨rfl, hg4⟩
        go_wp2
        all_goals (go_ret; exact ⟨rfl, by repeat' (first | (with_reducible exact Below.refl _ _) | (with_reducible assumption) | (with_reducible refine kept_alloc ?_ _) | (with_reducible refine kept_drewN ?_ _) | (with_reducible refine Below.drew ?_) | (with_reducible refine Below.setCell ?_ (by first | omega | (simp; omega) | (simp; done)) _) | (refine kept_trans ?_ (by with_reducible assumption)))⟩)
  · have hlen' : (100 : Int) < (l.length : Int) := (by omega); clear hlen; go_enter Try.func8, Try.ntmps8; go_wp2_with fail; refine (lineawake_any _).mono ?_; rintro e w1 ⟨rfl, hg1⟩; go_wp2; all_goals (go_ret; exact ⟨rfl, by repeat' (first | (with_reducible exact Below.refl _ _) | (with_reducible assumption) | (with_reducible refine kept_alloc ?_ _) | (with_reducible refine kept_drewN ?_ _) | (with_reducible refine Below.drew ?_) | (with_reducible refine Below.setCell ?_ (by first | omega | (simp; omega) | (simp; done)) _) | (refine kept_trans ?_ (by with_reducible assumption)))⟩)
set_option maxRecDepth 100000 in
theorem lineEnters_lifted (os : Os) (started : os.Started) (H : Type) (enc : TypeId × Value → H) :
    ReturnsInHanded {} Try.checked os 8 .any (Rows.lineEntersSpec.pre6 enc Try.prog Try.f8 Rows.lineEntersRow.domain false) (Rows.lineEntersSpec.post enc Try.prog Try.f8 false true false false) := by
  refine returnsInHanded_of_change (C := Try.checked) own started (by kernel_rfl) Try.func8
    (ChangeSpec.witness6 (enc := enc) (C := Try.checked) false ⟨#[], #[.slice none 0 0], []⟩ 8 (by kernel_rfl) (by kernel_rfl) (by kernel_rfl) (by kernel_rfl)) ?_
  intro W base args ds gs before hval0 hW hcnd _
  have hval : ∀ (j : Nat) t v, Try.f8.params[j]? = some t → args[j]? = some v → Value.okWide Try.prog W .any base t v := hval0
  have hW' := hW
  obtain ⟨p, q, hA0, hV, rfl, hfz, hnd⟩ := hW
  have hA : DataW.TrodAll enc Try.prog W 0 (fun _ => true) true Try.f8.params.toList args.toList ds p := hA0
  rw [Try.params8] at hA hval
  obtain ⟨v0, vs0, d0, ds0, p0, q0, hargs, rfl, rfl, h0, r0⟩ := trodAll_cons hA
  obtain ⟨rfl, rfl, rfl⟩ := trodAll_nil r0
  obtain rfl : args = #[v0] := by cases args; simp_all
  obtain ⟨rfl, rfl⟩ := trodVars_none hV
  obtain ⟨l, lsl, lok, lml⟩ := Sl.of_read intC In64 (by decide) (open_row (g := 9) (l := intShape) Try.underlying22 (by kernel_rfl) (hval 0 22 v0 rfl rfl) h0) (fun vs h => int_of_read h)
  clear hA0 hval0
  refine (lineEnters_walk l v0 lok lml W lsl).mono fun e W' ⟨he, hg⟩ => ?_
  subst he
  exact ⟨_, rfl, law_post laid hW' rfl (by kernel_rfl) rfl Try.underlying4 rfl hg⟩

/-- The statement, whole. -/
theorem lineEnters_holds : Rows.LineEntersSaid :=
  OpenClaim.holds_of_wide 8 Try.f8 rfl rfl rfl rfl rfl rfl rfl ⟨rfl, rfl, rfl, rfl, rfl⟩ rfl rfl rfl rfl rfl (by kernel_rfl) Try.func8 (by kernel_rfl)
    (of_decide_eq_true (by kernel_rfl)) (by unfold Func.isWrapper; rw [if_neg (of_decide_eq_false (by kernel_rfl))]; exact ⟨rfl, rfl⟩)
    (fun os started H enc _ => lineEnters_lifted os started H enc)
end Go.Proofs.Ytkidhmpabdaccaa
