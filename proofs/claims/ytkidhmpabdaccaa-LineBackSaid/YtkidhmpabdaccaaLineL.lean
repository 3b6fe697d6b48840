/- Layer 5: the document's own answers: Enter, Leave, Next. -/
import Derived.Test.YtkidhmpabdaccaaLineK
namespace Go.Proofs.Ytkidhmpabdaccaa
set_option linter.unusedVariables false
set_option linter.unusedSimpArgs false
open Go.ChangeShapes Go.WideShapes Go.ChangeAt Go.RowKit

theorem app_len (A D : List Int) : (A ++ D).length = A.length + D.length := List.length_append
theorem owi_new {W : World} {g : Nat} (hg : W.heap.size = g) : Ow (W.alloc (.cells #[] 3)) W.heap.size 3 1 intC [] (.slice (some ⟨g, 0, none⟩) 0 0) := Ow.made intEnc [] #[] rfl (Nat.le_refl _) (by decide) hg rfl

set_option maxHeartbeats 2000000 in
theorem rlenter_any (l : List Int) (i : Int) (p : Option Addr) (k : Nat) (w : World) (hl : Sl w 1 intC l (.slice p l.length k)) (hm : l.length ≤ 999999) :
    Calls Try.prog 11 #[.slice p l.length k, .int .i64 i] w (RetLE w (entL l i) (entE l i)) := by
  have H := Lib.hid hl
  clear hl
  cases hok : okLn l
  · have e1 : entE l i = 40 := by simp [entE, hok]
    have e2 : entL l i = l := ent_no (by rw [e1]; decide)
    rw [e1, e2]
    have HO := Lib.hid hok
    clear hok e1 e2
    go_enter Try.func11, Try.ntmps11
    go_wp2_with fail
    refine (rlcheck_any l p k _ (H.out.kept (by repeat' (first | (with_reducible exact Below.refl _ _) | (with_reducible assumption) | (with_reducible refine kept_alloc ?_ _) | (with_reducible refine kept_drewN ?_ _) | (with_reducible refine Below.drew ?_) | (with_reducible refine Below.setCell ?_ (by first | omega | (simp; omega) | (simp; done)) _) | (refine kept_trans ?_ (by with_reducible assumption)))))).mono ?_
    rintro e w2 ⟨rfl, hg2⟩
    rw [HO.out]
    go_wp2
    go_ret2
    exact ⟨p, k, rfl, H.out.kept (by repeat' (first | (with_reducible exact Below.refl _ _) | (with_reducible assumption) | (with_reducible refine kept_alloc ?_ _) | (with_reducible refine kept_drewN ?_ _) | (with_reducible refine Below.drew ?_) | (with_reducible refine Below.setCell ?_ (by first | omega | (simp; omega) | (simp; done)) _) | (refine kept_trans ?_ (by with_reducible assumption)))), by repeat' (first | (with_reducible exact Below.refl _ _) | (with_reducible assumption) | (with_reducible refine kept_alloc ?_ _) | (with_reducible refine kept_drewN ?_ _) | (with_reducible refine Below.drew ?_) | (with_reducible refine Below.setCell ?_ (by first | omega | (simp; omega) | (simp; done)) _) | (refine kept_trans ?_ (by with_reducible assumption)))⟩
  · have HO := Lib.hid hok
    by_cases h0 : i < 0
    · have e1 : entE l i = 40 := by simp [entE, noneB, h0]
      have e2 : entL l i = l := ent_no (by rw [e1]; decide)
      rw [e1, e2]
      clear hok e1 e2
      go_enter Try.func11, Try.ntmps11
      go_wp2_with fail
      refine (rlcheck_any l p k _ (H.out.kept (by repeat' (first | (with_reducible exact Below.refl _ _) | (with_reducible assumption) | (with_reducible refine kept_alloc ?_ _) | (with_reducible refine kept_drewN ?_ _) | (with_reducible refine Below.drew ?_) | (with_reducible refine Below.setCell ?_ (by first | omega | (simp; omega) | (simp; done)) _) | (refine kept_trans ?_ (by with_reducible assumption)))))).mono ?_
      rintro e w2 ⟨rfl, hg2⟩
      rw [HO.out]
      go_wp2
      go_ret2
      exact ⟨p, k, rfl, H.out.kept (by repeat' (first | (with_reducible exact Below.refl _ _) | (with_reducible assumption) | (with_reducible refine kept_alloc ?_ _) | (with_reducible refine kept_drewN ?_ _) | (with_reducible refine Below.drew ?_) | (with_reducible refine Below.setCell ?_ (by first | omega | (simp; omega) | (simp; done)) _) | (refine kept_trans ?_ (by with_reducible assumption)))), by repeat' (first | (with_reducible exact Below.refl _ _) | (with_reducible assumption) | (with_reducible refine kept_alloc ?_ _) | (with_reducible refine kept_drewN ?_ _) | (with_reducible refine Below.drew ?_) | (with_reducible refine Below.setCell ?_ (by first | omega | (simp; omega) | (simp; done)) _) | (refine kept_trans ?_ (by with_reducible assumption)))⟩
    by_cases h15 : 15 < i
    · have e1 : entE l i = 40 := by have h : noneB 16 i = true := by simp [noneB]; omega
                                    simp [entE, h]
      have e2 : entL l i = l := ent_no (by rw [e1]; decide)
      rw [e1, e2]
      clear hok e1 e2
      go_enter Try.func11, Try.ntmps11
      go_wp2_with fail
      refine (rlcheck_any l p k _ (H.out.kept (by repeat' (first | (with_reducible exact Below.refl _ _) | (with_reducible assumption) | (with_reducible refine kept_alloc ?_ _) | (with_reducible refine kept_drewN ?_ _) | (with_reducible refine Below.drew ?_) | (with_reducible refine Below.setCell ?_ (by first | omega | (simp; omega) | (simp; done)) _) | (refine kept_trans ?_ (by with_reducible assumption)))))).mono ?_
      rintro e w2 ⟨rfl, hg2⟩
      rw [HO.out]
      go_wp2
      go_ret2
      exact ⟨p, k, rfl, H.out.kept (by repeat' (first | (with_reducible exact Below.refl _ _) | (with_reducible assumption) | (with_reducible refine kept_alloc ?_ _) | (with_reducible refine kept_drewN ?_ _) | (with_reducible refine Below.drew ?_) | (with_reducible refine Below.setCell ?_ (by first | omega | (simp; omega) | (simp; done)) _) | (refine kept_trans ?_ (by with_reducible assumption)))), by repeat' (first | (with_reducible exact Below.refl _ _) | (with_reducible assumption) | (with_reducible refine kept_alloc ?_ _) | (with_reducible refine kept_drewN ?_ _) | (with_reducible refine Below.drew ?_) | (with_reducible refine Below.setCell ?_ (by first | omega | (simp; omega) | (simp; done)) _) | (refine kept_trans ?_ (by with_reducible assumption)))⟩
    have hI : noneB 16 i = false := none_iff.2 (by omega)
    obtain ⟨I, hi⟩ : ∃ I, ixI l i = I := ⟨_, rfl⟩
    have HI := Lib.hid hi
    by_cases h1 : 0 ≤ I
    · have hm1 : i ∈ l := ix_nonneg.1 (by rw [hi]; exact h1)
      have e1 : entE l i = 60 := by simp [entE, hok, hI, hm1]
      have e2 : entL l i = l := ent_no (by rw [e1]; decide)
      rw [e1, e2]
      clear hok e1 e2 hi hm1 hI
      go_enter Try.func11, Try.ntmps11
      go_wp2_with fail
      refine (rlcheck_any l p k _ (H.out.kept (by repeat' (first | (with_reducible exact Below.refl _ _) | (with_reducible assumption) | (with_reducible refine kept_alloc ?_ _) | (with_reducible refine kept_drewN ?_ _) | (with_reducible refine Below.drew ?_) | (with_reducible refine Below.setCell ?_ (by first | omega | (simp; omega) | (simp; done)) _) | (refine kept_trans ?_ (by with_reducible assumption)))))).mono ?_
      rintro e w2 ⟨rfl, hg2⟩
      rw [HO.out]
      go_wp2_with fail
      refine (rat_any l i p k _ (H.out.kept (by repeat' (first | (with_reducible exact Below.refl _ _) | (with_reducible assumption) | (with_reducible refine kept_alloc ?_ _) | (with_reducible refine kept_drewN ?_ _) | (with_reducible refine Below.drew ?_) | (with_reducible refine Below.setCell ?_ (by first | omega | (simp; omega) | (simp; done)) _) | (refine kept_trans ?_ (by with_reducible assumption)))))).mono ?_
      rintro e w3 ⟨rfl, hg3⟩
      rw [HI.out]
      go_wp2
      go_ret2
      exact ⟨p, k, rfl, H.out.kept (by repeat' (first | (with_reducible exact Below.refl _ _) | (with_reducible assumption) | (with_reducible refine kept_alloc ?_ _) | (with_reducible refine kept_drewN ?_ _) | (with_reducible refine Below.drew ?_) | (with_reducible refine Below.setCell ?_ (by first | omega | (simp; omega) | (simp; done)) _) | (refine kept_trans ?_ (by with_reducible assumption)))), by repeat' (first | (with_reducible exact Below.refl _ _) | (with_reducible assumption) | (with_reducible refine kept_alloc ?_ _) | (with_reducible refine kept_drewN ?_ _) | (with_reducible refine Below.drew ?_) | (with_reducible refine Below.setCell ?_ (by first | omega | (simp; omega) | (simp; done)) _) | (refine kept_trans ?_ (by with_reducible assumption)))⟩
    · have hm1 : i ∉ l := fun h => h1 (by rw [← hi]; exact ix_nonneg.2 h)
      have e1 : entE l i = 0 := by simp [entE, hok, hI, hm1]
      have e2 : entL l i = l ++ [i] := ent_yes e1
      rw [e1, e2]
      clear hok e1 e2 hi hm1 hI
      go_enter Try.func11, Try.ntmps11
      go_wp2_with fail
      refine (rlcheck_any l p k _ (H.out.kept (by repeat' (first | (with_reducible exact Below.refl _ _) | (with_reducible assumption) | (with_reducible refine kept_alloc ?_ _) | (with_reducible refine kept_drewN ?_ _) | (with_reducible refine Below.drew ?_) | (with_reducible refine Below.setCell ?_ (by first | omega | (simp; omega) | (simp; done)) _) | (refine kept_trans ?_ (by with_reducible assumption)))))).mono ?_
      rintro e w2 ⟨rfl, hg2⟩
      rw [HO.out]
      go_wp2_with fail
      refine (rat_any l i p k _ (H.out.kept (by repeat' (first | (with_reducible exact Below.refl _ _) | (with_reducible assumption) | (with_reducible refine kept_alloc ?_ _) | (with_reducible refine kept_drewN ?_ _) | (with_reducible refine Below.drew ?_) | (with_reducible refine Below.setCell ?_ (by first | omega | (simp; omega) | (simp; done)) _) | (refine kept_trans ?_ (by with_reducible assumption)))))).mono ?_
      rintro e w3 ⟨rfl, hg3⟩
      rw [HI.out]
      have hB3 : Below w.heap.size w w3 := by repeat' (first | (with_reducible exact Below.refl _ _) | (with_reducible assumption) | (with_reducible refine kept_alloc ?_ _) | (with_reducible refine kept_drewN ?_ _) | (with_reducible refine Below.drew ?_) | (with_reducible refine Below.setCell ?_ (by first | omega | (simp; omega) | (simp; done)) _) | (refine kept_trans ?_ (by with_reducible assumption)))
      have hs3 := hB3.size
      go_wp2_with (first
        | ((at_builtin; refine wpList_app' (wb := w) rfl _ _ 22 rfl (.int .i64 0) 8 Try.underlying22 int_info rfl (by decide) intEnc rfl rfl (xs := []) (ys := l) (Ow.mono (owi_new rfl) hs3) (H.out.kept (kept_alloc hB3 _)) (kept_alloc hB3 _) (by simp only [List.length_append, List.length_nil, List.length_cons]; unfold maxLen; omega) (by simp only [List.length_append, List.length_nil, List.length_cons]; omega) ?_); intro v6 w6 h6 hb6)
        | ((at_builtin; refine wpList_app' (wb := w) rfl _ _ 22 rfl (.int .i64 0) 8 Try.underlying22 int_info rfl (by decide) intEnc rfl rfl (xs := ([] ++ l)) (ys := [i]) (h6.kept ((Below.refl _ _).alloc (Nat.le_refl _) _)) (sli_one w6 i rfl) (kept_alloc hb6 _) (by simp only [List.length_append, List.length_nil, List.length_cons]; unfold maxLen; omega) (by simp only [List.length_append, List.length_nil, List.length_cons]; omega) ?_); intro v7 w7 h7 hb7))
      obtain ⟨p7, k7, rfl, -⟩ := (Ow.sl intEnc h7).is
      have hS7 := Ow.sl intEnc h7
      rw [List.nil_append] at hS7 ⊢
      clear h7
      go_ret2
      exact ⟨p7, k7, rfl, hS7, hb7⟩

theorem rl_none (l : List Int) (i : Int) (p : Option Addr) (k : Nat) (w : World) (hl : Sl w 1 intC l (.slice p l.length k)) (hn : plI l i < 0) :
    Calls Try.prog 13 #[.slice p l.length k, .int .i64 i] w (RetLE w l 40) := by
  have H := Lib.hid hl
  clear hl
  go_enter Try.func13, Try.ntmps13
  go_wp2_with fail
  refine (rlplace_any l i p k _ (H.out.kept (by repeat' (first | (with_reducible exact Below.refl _ _) | (with_reducible assumption) | (with_reducible refine kept_alloc ?_ _) | (with_reducible refine kept_drewN ?_ _) | (with_reducible refine Below.drew ?_) | (with_reducible refine Below.setCell ?_ (by first | omega | (simp; omega) | (simp; done)) _) | (refine kept_trans ?_ (by with_reducible assumption)))))).mono ?_
  rintro e w1 ⟨rfl, hg1⟩
  go_wp2
  go_ret2
  exact ⟨p, k, rfl, H.out.kept (by repeat' (first | (with_reducible exact Below.refl _ _) | (with_reducible assumption) | (with_reducible refine kept_alloc ?_ _) | (with_reducible refine kept_drewN ?_ _) | (with_reducible refine Below.drew ?_) | (with_reducible refine Below.setCell ?_ (by first | omega | (simp; omega) | (simp; done)) _) | (refine kept_trans ?_ (by with_reducible assumption)))), by repeat' (first | (with_reducible exact Below.refl _ _) | (with_reducible assumption) | (with_reducible refine kept_alloc ?_ _) | (with_reducible refine kept_drewN ?_ _) | (with_reducible refine Below.drew ?_) | (with_reducible refine Below.setCell ?_ (by first | omega | (simp; omega) | (simp; done)) _) | (refine kept_trans ?_ (by with_reducible assumption)))⟩

set_option maxHeartbeats 4000000 in
theorem rlleave_any (l : List Int) (i : Int) (p : Option Addr) (k : Nat) (w : World) (hl : Sl w 1 intC l (.slice p l.length k)) (hm : l.length ≤ 999999) :
    Calls Try.prog 13 #[.slice p l.length k, .int .i64 i] w (RetLE w (lvL l i) (lvE l i)) := by
  by_cases hn : plI l i < 0
  · obtain ⟨e1, e2⟩ := lv_neg hn
    rw [e1, e2]
    exact rl_none l i p k w hl hn
  · obtain ⟨n, h1, h2, e1, e2⟩ := lv_pos hn
    have H := Lib.hid hl
    rw [e1, e2, List.eraseIdx_eq_take_drop_succ]
    have HP := Lib.hid h1
    obtain ⟨p', k', e3, hk1, hk2, _, hne⟩ := hl.is
    cases e3
    obtain ⟨b, o, rfl, hb, -⟩ := hne (by intro h; subst h; simp at h2)
    obtain ⟨y, hc⟩ : ∃ y, w.cell? ⟨b, o, none⟩ = some (.int .i64 y) := ⟨_, sli_at hl (j := 0) (by omega)⟩
    obtain ⟨a, ha, hTa⟩ : ∃ a, (if k = n + 1 then (some ⟨b, o, none⟩ : Option Addr) else some ⟨b, o + (n + 1), none⟩) = some a ∧ Sl w 1 intC (l.drop (n + 1)) (.slice (some a) (l.length - (n + 1)) (k - (n + 1))) := by
      by_cases hk : k = n + 1
      · exact ⟨⟨b, o, none⟩, by simp [hk], Sl.drop (n + 1) hl (by omega) (by omega) rfl rfl⟩
      · exact ⟨⟨b, o + (n + 1), none⟩, by simp [hk], Sl.drop (n + 1) hl (by omega) (fun _ => by rw [Nat.mul_one]) rfl rfl⟩
    have HD := Lib.hid hTa
    have HA : Hid (Sl w 1 intC (l.take n) (.slice (some ⟨b, o, none⟩) n k)) := Lib.hid (Sl.take hl (by omega))
    obtain ⟨N, hN⟩ : ∃ N, l.length = N := ⟨_, rfl⟩
    have hAl : (l.take n).length = n := by simp; omega
    have hDl : (l.drop (n + 1)).length = N - (n + 1) := by simp [hN]
    have hpl : ∀ W : World, Kept w W → Calls Try.prog 20 #[.slice (some ⟨b, o, none⟩) N k, .int .i64 i] W fun e w' => e = .returned (.int .i64 n) ∧ Kept W w' := fun W hW => by
      have := rlplace_any l i (some ⟨b, o, none⟩) k W (H.out.kept hW)
      rw [HP.out, hN] at this
      exact this
    have HPL := Lib.hid hpl
    rw [hN] at hm hk1 h2 HD ⊢
    generalize l.take n = A at *
    generalize l.drop (n + 1) = D at *
    clear hl hne hTa hN e1 e2 hn h1 HP H hpl
    have i1 : ¬ (n : Int) < 0 := by omega
    have i2 : IntKind.i64.wrap ((n : Int) + 1) = (n : Int) + 1 := IntWalk.i64_in _ (by omega)
    have i3 : (n : Int) + 1 ≤ (N : Int) := by omega
    have hAm : A.length ≤ 999999 := by omega
    have hDm : A.length + D.length ≤ 999999 := by omega
    have j0 : (n : Int) ≤ (k : Int) := by omega
    have j1 : (n : Int) + 1 ≤ (k : Int) := by omega
    have j2 : (0 : Int) ≤ (n : Int) + 1 := by omega
    clear hAl hDl
    by_cases hk : k = n + 1
    · have ha' : a = ⟨b, o, none⟩ := by simpa [hk] using ha.symm
      subst ha'
      subst hk
      have hN1 : N = n + 1 := by omega
      subst hN1
      clear ha
      have HD' : Hid (Sl w 1 intC D (.slice (some ⟨b, o, none⟩) 0 0)) := by have := HD; rw [Nat.sub_self] at this; exact this
      go_enter Try.func13, Try.ntmps13
      go_wp2_with fail
      refine (HPL.out _ (by repeat' (first | (with_reducible exact Below.refl _ _) | (with_reducible assumption) | (with_reducible refine kept_alloc ?_ _) | (with_reducible refine kept_drewN ?_ _) | (with_reducible refine Below.drew ?_) | (with_reducible refine Below.setCell ?_ (by first | omega | (simp; omega) | (simp; done)) _) | (refine kept_trans ?_ (by with_reducible assumption))))).mono ?_
      rintro e w1 ⟨rfl, hg1⟩
      have j3 : (n : Int) ≤ (n : Int) + 1 := by omega
      have hcV := ((bcell hg1).1 b o hb).trans hc; have hbV : b < w1.heap.size := Nat.lt_of_lt_of_le hb hg1.size; have HA1 := Lib.hid (HA.out.kept hg1); have HD1 := Lib.hid (HD'.out.kept hg1); have hBw : Below w.heap.size w w1 := hg1; clear hc; go_wp2_with fail; go_region_held3 (fun w' => w'.cell? ⟨b, o, none⟩ = some (.int .i64 y)) (first | (refine (hb2.cell (p := ⟨_, _, none⟩) hbV).trans ?_; assumption) | (refine (hb1.cell (p := ⟨_, _, none⟩) hbV).trans ?_; assumption) | go_keep) ((first | (refine step_app (wb := w1) (by rfl) _ _ 22 (by rfl) (.int .i64 0) 8 Try.underlying22 int_info (by rfl) (by decide) intEnc (by rfl) (by rfl) (xs := []) (ys := A) ((owi_new rfl).kept (by repeat' (first | (with_reducible exact Below.refl _ _) | (with_reducible assumption) | (with_reducible refine kept_alloc ?_ _) | (with_reducible refine kept_drewN ?_ _) | (with_reducible refine Below.drew ?_) | (with_reducible refine Below.setCell ?_ (by first | omega | (simp; omega) | (simp; done)) _) | (refine kept_trans ?_ (by with_reducible assumption))))) (HA1.out.kept (by repeat' (first | (with_reducible exact Below.refl _ _) | (with_reducible assumption) | (with_reducible refine kept_alloc ?_ _) | (with_reducible refine kept_drewN ?_ _) | (with_reducible refine Below.drew ?_) | (with_reducible refine Below.setCell ?_ (by first | omega | (simp; omega) | (simp; done)) _) | (refine kept_trans ?_ (by with_reducible assumption))))) (by repeat' (first | (with_reducible exact Below.refl _ _) | (with_reducible assumption) | (with_reducible refine kept_alloc ?_ _) | (with_reducible refine kept_drewN ?_ _) | (with_reducible refine Below.drew ?_) | (with_reducible refine Below.setCell ?_ (by first | omega | (simp; omega) | (simp; done)) _) | (refine kept_trans ?_ (by with_reducible assumption)))) (by (try simp only [List.length_append, List.length_nil, List.nil_append]); unfold maxLen; omega) (by (try simp only [List.length_append, List.length_nil, List.nil_append]); omega) ?_; intro v1 x1 how1 hb1 hg1; obtain ⟨p1, k1, rfl, hs1, hs2, hs3, hs4⟩ := (Ow.sl intEnc how1).is; clear hs1 hs2 hs3 hs4) | (refine step_app (wb := w1) (by rfl) _ _ 22 (by rfl) (.int .i64 0) 8 Try.underlying22 int_info (by rfl) (by decide) intEnc (by rfl) (by rfl) (xs := ([] ++ A)) (ys := D) (how1.kept (by repeat' (first | (with_reducible exact Below.refl _ _) | (with_reducible assumption) | (with_reducible refine kept_alloc ?_ _) | (with_reducible refine kept_drewN ?_ _) | (with_reducible refine Below.drew ?_) | (with_reducible refine Below.setCell ?_ (by first | omega | (simp; omega) | (simp; done)) _) | (refine kept_trans ?_ (by with_reducible assumption))))) (HD1.out.kept (by repeat' (first | (with_reducible exact Below.refl _ _) | (with_reducible assumption) | (with_reducible refine kept_alloc ?_ _) | (with_reducible refine kept_drewN ?_ _) | (with_reducible refine Below.drew ?_) | (with_reducible refine Below.setCell ?_ (by first | omega | (simp; omega) | (simp; done)) _) | (refine kept_trans ?_ (by with_reducible assumption))))) (by repeat' (first | (with_reducible exact Below.refl _ _) | (with_reducible assumption) | (with_reducible refine kept_alloc ?_ _) | (with_reducible refine kept_drewN ?_ _) | (with_reducible refine Below.drew ?_) | (with_reducible refine Below.setCell ?_ (by first | omega | (simp; omega) | (simp; done)) _) | (refine kept_trans ?_ (by with_reducible assumption)))) (by (try simp only [List.length_append, List.length_nil, List.nil_append]); unfold maxLen; omega) (by (try simp only [List.length_append, List.length_nil, List.nil_append]); omega) ?_; intro v2 x2 how2 hb2 hg2; obtain ⟨p2, k2, rfl, hs1, hs2, hs3, hs4⟩ := (Ow.sl intEnc how2).is; clear hs1 hs2 hs3 hs4)))
      all_goals
        have hS2 := Ow.sl intEnc how2
        rw [List.nil_append] at hS2
        have hB : Below w.heap.size w x2 := hBw.trans (hb2.mono hBw.size)
        go_wp2
        go_ret2
        exact ⟨p2, k2, by rw [app_len A D]; rfl, hS2, hB⟩
    · have ha' : a = ⟨b, o + (n + 1), none⟩ := by simpa [hk] using ha.symm
      subst ha'
      clear ha
      go_enter Try.func13, Try.ntmps13
      go_wp2_with fail
      refine (HPL.out _ (by repeat' (first | (with_reducible exact Below.refl _ _) | (with_reducible assumption) | (with_reducible refine kept_alloc ?_ _) | (with_reducible refine kept_drewN ?_ _) | (with_reducible refine Below.drew ?_) | (with_reducible refine Below.setCell ?_ (by first | omega | (simp; omega) | (simp; done)) _) | (refine kept_trans ?_ (by with_reducible assumption))))).mono ?_
      rintro e w1 ⟨rfl, hg1⟩
      have hcV := ((bcell hg1).1 b o hb).trans hc; have hbV : b < w1.heap.size := Nat.lt_of_lt_of_le hb hg1.size; have HA1 := Lib.hid (HA.out.kept hg1); have HD1 := Lib.hid (HD.out.kept hg1); have hBw : Below w.heap.size w w1 := hg1; clear hc; go_wp2_with fail; go_region_held3 (fun w' => w'.cell? ⟨b, o, none⟩ = some (.int .i64 y)) (first | (refine (hb2.cell (p := ⟨_, _, none⟩) hbV).trans ?_; assumption) | (refine (hb1.cell (p := ⟨_, _, none⟩) hbV).trans ?_; assumption) | go_keep) ((first | (refine step_app (wb := w1) (by rfl) _ _ 22 (by rfl) (.int .i64 0) 8 Try.underlying22 int_info (by rfl) (by decide) intEnc (by rfl) (by rfl) (xs := []) (ys := A) ((owi_new rfl).kept (by repeat' (first | (with_reducible exact Below.refl _ _) | (with_reducible assumption) | (with_reducible refine kept_alloc ?_ _) | (with_reducible refine kept_drewN ?_ _) | (with_reducible refine Below.drew ?_) | (with_reducible refine Below.setCell ?_ (by first | omega | (simp; omega) | (simp; done)) _) | (refine kept_trans ?_ (by with_reducible assumption))))) (HA1.out.kept (by repeat' (first | (with_reducible exact Below.refl _ _) | (with_reducible assumption) | (with_reducible refine kept_alloc ?_ _) | (with_reducible refine kept_drewN ?_ _) | (with_reducible refine Below.drew ?_) | (with_reducible refine Below.setCell ?_ (by first | omega | (simp; omega) | (simp; done)) _) | (refine kept_trans ?_ (by with_reducible assumption))))) (by repeat' (first | (with_reducible exact Below.refl _ _) | (with_reducible assumption) | (with_reducible refine kept_alloc ?_ _) | (with_reducible refine kept_drewN ?_ _) | (with_reducible refine Below.drew ?_) | (with_reducible refine Below.setCell ?_ (by first | omega | (simp; omega) | (simp; done)) _) | (refine kept_trans ?_ (by with_reducible assumption)))) (by (try simp only [List.length_append, List.length_nil, List.nil_append]); unfold maxLen; omega) (by (try simp only [List.length_append, List.length_nil, List.nil_append]); omega) ?_; intro v1 x1 how1 hb1 hg1; obtain ⟨p1, k1, rfl, hs1, hs2, hs3, hs4⟩ := (Ow.sl intEnc how1).is; clear hs1 hs2 hs3 hs4) | (refine step_app (wb := w1) (by rfl) _ _ 22 (by rfl) (.int .i64 0) 8 Try.underlying22 int_info (by rfl) (by decide) intEnc (by rfl) (by rfl) (xs := ([] ++ A)) (ys := D) (how1.kept (by repeat' (first | (with_reducible exact Below.refl _ _) | (with_reducible assumption) | (with_reducible refine kept_alloc ?_ _) | (with_reducible refine kept_drewN ?_ _) | (with_reducible refine Below.drew ?_) | (with_reducible refine Below.setCell ?_ (by first | omega | (simp; omega) | (simp; done)) _) | (refine kept_trans ?_ (by with_reducible assumption))))) (HD1.out.kept (by repeat' (first | (with_reducible exact Below.refl _ _) | (with_reducible assumption) | (with_reducible refine kept_alloc ?_ _) | (with_reducible refine kept_drewN ?_ _) | (with_reducible refine Below.drew ?_) | (with_reducible refine Below.setCell ?_ (by first | omega | (simp; omega) | (simp; done)) _) | (refine kept_trans ?_ (by with_reducible assumption))))) (by repeat' (first | (with_reducible exact Below.refl _ _) | (with_reducible assumption) | (with_reducible refine kept_alloc ?_ _) | (with_reducible refine kept_drewN ?_ _) | (with_reducible refine Below.drew ?_) | (with_reducible refine Below.setCell ?_ (by first | omega | (simp; omega) | (simp; done)) _) | (refine kept_trans ?_ (by with_reducible assumption)))) (by (try simp only [List.length_append, List.length_nil, List.nil_append]); unfold maxLen; omega) (by (try simp only [List.length_append, List.length_nil, List.nil_append]); omega) ?_; intro v2 x2 how2 hb2 hg2; obtain ⟨p2, k2, rfl, hs1, hs2, hs3, hs4⟩ := (Ow.sl intEnc how2).is; clear hs1 hs2 hs3 hs4)))
      all_goals
        have hS2 := Ow.sl intEnc how2
        rw [List.nil_append] at hS2
        have hB : Below w.heap.size w x2 := hBw.trans (hb2.mono hBw.size)
        go_wp2
        go_ret2
        exact ⟨p2, k2, by rw [app_len A D]; rfl, hS2, hB⟩

theorem rlcheck_n {l : List Int} {N : Nat} (hN : l.length = N) (p : Option Addr) (k : Nat) (w : World) (hl : Sl w 1 intC l (.slice p N k)) : Calls Try.prog 18 #[.slice p N k] w fun e w' => e = .returned (.bool (okLn l)) ∧ Kept w w' := by
  subst hN; exact rlcheck_any l p k w hl
set_option maxHeartbeats 4000000 in
theorem rlnext_any (l : List Int) (p : Option Addr) (k : Nat) (w : World) (hl : Sl w 1 intC l (.slice p l.length k)) (hm : l.length ≤ 999999) :
    Calls Try.prog 15 #[.slice p l.length k] w (RetN w (nxI l) (nxL l) (nxB l)) := by
  have H := Lib.hid hl
  cases hb : nxB l
  · obtain ⟨e1, e2⟩ := nx_no hb
    rw [e1, e2]
    cases l with
    | nil =>
      have HO : Hid (okLn [] = true) := Lib.hid (by decide)
      go_enter Try.func15, Try.ntmps15
      go_wp2_with fail
      refine (rlcheck_any [] p k _ (H.out.kept (by repeat' (first | (with_reducible exact Below.refl _ _) | (with_reducible assumption) | (with_reducible refine kept_alloc ?_ _) | (with_reducible refine kept_drewN ?_ _) | (with_reducible refine Below.drew ?_) | (with_reducible refine Below.setCell ?_ (by first | omega | (simp; omega) | (simp; done)) _) | (refine kept_trans ?_ (by with_reducible assumption)))))).mono ?_
      rintro e w1 ⟨rfl, hg1⟩
      rw [HO.out]
      go_wp2
      go_ret3
      exact ⟨p, k, rfl, H.out.kept (by repeat' (first | (with_reducible exact Below.refl _ _) | (with_reducible assumption) | (with_reducible refine kept_alloc ?_ _) | (with_reducible refine kept_drewN ?_ _) | (with_reducible refine Below.drew ?_) | (with_reducible refine Below.setCell ?_ (by first | omega | (simp; omega) | (simp; done)) _) | (refine kept_trans ?_ (by with_reducible assumption)))), by repeat' (first | (with_reducible exact Below.refl _ _) | (with_reducible assumption) | (with_reducible refine kept_alloc ?_ _) | (with_reducible refine kept_drewN ?_ _) | (with_reducible refine Below.drew ?_) | (with_reducible refine Below.setCell ?_ (by first | omega | (simp; omega) | (simp; done)) _) | (refine kept_trans ?_ (by with_reducible assumption)))⟩
    | cons x r =>
      have hok : okLn (x :: r) = false := by simpa [nxB] using hb
      have HO := Lib.hid hok
      obtain ⟨N, hN⟩ : ∃ N, (x :: r).length = N := ⟨_, rfl⟩
      have HN := Lib.hid hN
      generalize x :: r = l at *
      clear hl hb e1 e2 hok
      rw [hN] at hm ⊢
      have HS : Hid (Sl w 1 intC l (.slice p N k)) := HN.out ▸ H
      clear H hN
      go_enter Try.func15, Try.ntmps15
      go_wp2_with fail
      refine (rlcheck_n HN.out p k _ (HS.out.kept (by repeat' (first | (with_reducible exact Below.refl _ _) | (with_reducible assumption) | (with_reducible refine kept_alloc ?_ _) | (with_reducible refine kept_drewN ?_ _) | (with_reducible refine Below.drew ?_) | (with_reducible refine Below.setCell ?_ (by first | omega | (simp; omega) | (simp; done)) _) | (refine kept_trans ?_ (by with_reducible assumption)))))).mono ?_
      rintro e w1 ⟨rfl, hg1⟩
      rw [HO.out]
      go_wp2
      go_ret3
      exact ⟨p, k, by rw [HN.out]; rfl, HN.out.symm ▸ HS.out.kept (by repeat' (first | (with_reducible exact Below.refl _ _) | (with_reducible assumption) | (with_reducible refine kept_alloc ?_ _) | (with_reducible refine kept_drewN ?_ _) | (with_reducible refine Below.drew ?_) | (with_reducible refine Below.setCell ?_ (by first | omega | (simp; omega) | (simp; done)) _) | (refine kept_trans ?_ (by with_reducible assumption)))), by repeat' (first | (with_reducible exact Below.refl _ _) | (with_reducible assumption) | (with_reducible refine kept_alloc ?_ _) | (with_reducible refine kept_drewN ?_ _) | (with_reducible refine Below.drew ?_) | (with_reducible refine Below.setCell ?_ (by first | omega | (simp; omega) | (simp; done)) _) | (refine kept_trans ?_ (by with_reducible assumption)))⟩
  · obtain ⟨h0, e1, e2, hok⟩ := nx_yes hb
    rw [e1, e2]
    have HO := Lib.hid hok
    obtain ⟨N, hN⟩ : ∃ N, l.length = N := ⟨_, rfl⟩
    have HN := Lib.hid hN
    obtain ⟨p', k', e3, hk1, hk2, _, hne⟩ := hl.is
    cases e3
    obtain ⟨b, o, rfl, hb, -⟩ := hne (by intro h; subst h; simp at h0)
    have hc := sli_at hl h0
    rw [Nat.add_zero] at hc
    have hdl : (l.drop 1).length = N - 1 := by simp [hN]
    rw [hN] at hl hm hk1 h0 ⊢
    obtain ⟨a, ha, hTa⟩ : ∃ a, (if k = 1 then (some ⟨b, o, none⟩ : Option Addr) else some ⟨b, o + 1, none⟩) = some a ∧ Sl w 1 intC (l.drop 1) (.slice (some a) (N - 1) (k - 1)) := by
      by_cases hk : k = 1
      · exact ⟨⟨b, o, none⟩, by simp [hk], Sl.drop 1 hl (by omega) (by omega) rfl rfl⟩
      · exact ⟨⟨b, o + 1, none⟩, by simp [hk], Sl.drop 1 hl (by omega) (fun _ => rfl) rfl rfl⟩
    have HT := Lib.hid hTa
    have HS := Lib.hid hl
    have hDm : (l.drop 1).length ≤ 999999 := by omega
    generalize hy : l[0] = y at *
    generalize hD : l.drop 1 = D at *
    clear hl hne hok e1 e2 hy hdl hTa hN hD
    have i1 : ((N : Int) == 0) = false := by simp; omega
    have i2 : (1 : Int) ≤ (N : Int) := by omega
    have i3 : (1 : Int) ≤ (k : Int) := by omega
    by_cases hk : k = 1
    · have ha' : a = ⟨b, o, none⟩ := by simpa [hk] using ha.symm
      subst ha'
      subst hk
      have hN1 : N = 1 := by omega
      subst hN1
      clear ha
      have HT' : Hid (Sl w 1 intC D (.slice (some ⟨b, o, none⟩) 0 0)) := HT
      go_enter Try.func15, Try.ntmps15
      go_wp2_with fail
      refine (rlcheck_n HN.out (some ⟨b, o, none⟩) 1 _ (HS.out.kept (by repeat' (first | (with_reducible exact Below.refl _ _) | (with_reducible assumption) | (with_reducible refine kept_alloc ?_ _) | (with_reducible refine kept_drewN ?_ _) | (with_reducible refine Below.drew ?_) | (with_reducible refine Below.setCell ?_ (by first | omega | (simp; omega) | (simp; done)) _) | (refine kept_trans ?_ (by with_reducible assumption)))))).mono ?_
      rintro e w1 ⟨rfl, hg1⟩
      rw [HO.out]
      have hcV := ((bcell hg1).1 b o hb).trans hc; have hbV : b < w1.heap.size := Nat.lt_of_lt_of_le hb hg1.size; have HD1 := Lib.hid (HT'.out.kept hg1); have hBw : Below w.heap.size w w1 := hg1; clear hc; go_wp2_with fail; go_region_held3 (fun w' => w'.cell? ⟨b, o, none⟩ = some (.int .i64 y)) (first | (refine (hb1.cell (p := ⟨_, _, none⟩) hbV).trans ?_; assumption) | go_keep) ((first | (refine step_app (wb := w1) (by rfl) _ _ 22 (by rfl) (.int .i64 0) 8 Try.underlying22 int_info (by rfl) (by decide) intEnc (by rfl) (by rfl) (xs := []) (ys := D) ((owi_new rfl).kept (by repeat' (first | (with_reducible exact Below.refl _ _) | (with_reducible assumption) | (with_reducible refine kept_alloc ?_ _) | (with_reducible refine kept_drewN ?_ _) | (with_reducible refine Below.drew ?_) | (with_reducible refine Below.setCell ?_ (by first | omega | (simp; omega) | (simp; done)) _) | (refine kept_trans ?_ (by with_reducible assumption))))) (HD1.out.kept (by repeat' (first | (with_reducible exact Below.refl _ _) | (with_reducible assumption) | (with_reducible refine kept_alloc ?_ _) | (with_reducible refine kept_drewN ?_ _) | (with_reducible refine Below.drew ?_) | (with_reducible refine Below.setCell ?_ (by first | omega | (simp; omega) | (simp; done)) _) | (refine kept_trans ?_ (by with_reducible assumption))))) (by repeat' (first | (with_reducible exact Below.refl _ _) | (with_reducible assumption) | (with_reducible refine kept_alloc ?_ _) | (with_reducible refine kept_drewN ?_ _) | (with_reducible refine Below.drew ?_) | (with_reducible refine Below.setCell ?_ (by first | omega | (simp; omega) | (simp; done)) _) | (refine kept_trans ?_ (by with_reducible assumption)))) (by (try simp only [List.length_append, List.length_nil, List.nil_append]); unfold maxLen; omega) (by (try simp only [List.length_append, List.length_nil, List.nil_append]); omega) ?_; intro v1 x1 how1 hb1 hg1; obtain ⟨p1, k1, rfl, hs1, hs2, hs3, hs4⟩ := (Ow.sl intEnc how1).is; clear hs1 hs2 hs3 hs4)))
      all_goals
        have hS2 := Ow.sl intEnc how1
        rw [List.nil_append] at hS2
        have hB : Below w.heap.size w x1 := hBw.trans (hb1.mono hBw.size)
        go_wp2
        go_ret3
        exact ⟨p1, k1, rfl, hS2, hB⟩
    · have ha' : a = ⟨b, o + 1, none⟩ := by simpa [hk] using ha.symm
      subst ha'
      clear ha
      go_enter Try.func15, Try.ntmps15
      go_wp2_with fail
      refine (rlcheck_n HN.out (some ⟨b, o, none⟩) k _ (HS.out.kept (by repeat' (first | (with_reducible exact Below.refl _ _) | (with_reducible assumption) | (with_reducible refine kept_alloc ?_ _) | (with_reducible refine kept_drewN ?_ _) | (with_reducible refine Below.drew ?_) | (with_reducible refine Below.setCell ?_ (by first | omega | (simp; omega) | (simp; done)) _) | (refine kept_trans ?_ (by with_reducible assumption)))))).mono ?_
      rintro e w1 ⟨rfl, hg1⟩
      rw [HO.out]
      have hcV := ((bcell hg1).1 b o hb).trans hc; have hbV : b < w1.heap.size := Nat.lt_of_lt_of_le hb hg1.size; have HD1 := Lib.hid (HT.out.kept hg1); have hBw : Below w.heap.size w w1 := hg1; clear hc; go_wp2_with fail; go_region_held3 (fun w' => w'.cell? ⟨b, o, none⟩ = some (.int .i64 y)) (first | (refine (hb1.cell (p := ⟨_, _, none⟩) hbV).trans ?_; assumption) | go_keep) ((first | (refine step_app (wb := w1) (by rfl) _ _ 22 (by rfl) (.int .i64 0) 8 Try.underlying22 int_info (by rfl) (by decide) intEnc (by rfl) (by rfl) (xs := []) (ys := D) ((owi_new rfl).kept (by repeat' (first | (with_reducible exact Below.refl _ _) | (with_reducible assumption) | (with_reducible refine kept_alloc ?_ _) | (with_reducible refine kept_drewN ?_ _) | (with_reducible refine Below.drew ?_) | (with_reducible refine Below.setCell ?_ (by first | omega | (simp; omega) | (simp; done)) _) | (refine kept_trans ?_ (by with_reducible assumption))))) (HD1.out.kept (by repeat' (first | (with_reducible exact Below.refl _ _) | (with_reducible assumption) | (with_reducible refine kept_alloc ?_ _) | (with_reducible refine kept_drewN ?_ _) | (with_reducible refine Below.drew ?_) | (with_reducible refine Below.setCell ?_ (by first | omega | (simp; omega) | (simp; done)) _) | (refine kept_trans ?_ (by with_reducible assumption))))) (by repeat' (first | (with_reducible exact Below.refl _ _) | (with_reducible assumption) | (with_reducible refine kept_alloc ?_ _) | (with_reducible refine kept_drewN ?_ _) | (with_reducible refine Below.drew ?_) | (with_reducible refine Below.setCell ?_ (by first | omega | (simp; omega) | (simp; done)) _) | (refine kept_trans ?_ (by with_reducible assumption)))) (by (try simp only [List.length_append, List.length_nil, List.nil_append]); unfold maxLen; omega) (by (try simp only [List.length_append, List.length_nil, List.nil_append]); omega) ?_; intro v1 x1 how1 hb1 hg1; obtain ⟨p1, k1, rfl, hs1, hs2, hs3, hs4⟩ := (Ow.sl intEnc how1).is; clear hs1 hs2 hs3 hs4)))
      all_goals
        have hS2 := Ow.sl intEnc how1
        rw [List.nil_append] at hS2
        have hB : Below w.heap.size w x1 := hBw.trans (hb1.mono hBw.size)
        go_wp2
        go_ret3
        exact ⟨p1, k1, rfl, hS2, hB⟩
end Go.Proofs.Ytkidhmpabdaccaa
