/- Layer 10: Gap, Fair, Least. -/
import Derived.Test.YtlmiedgpibollaaTurnE
namespace Go.Proofs.Ytlmiedgpibollaa
set_option linter.unusedVariables false
set_option linter.unusedSimpArgs false
open Go.ChangeShapes Go.WideShapes Go.ChangeAt Go.RowKit

theorem sl_one (w : World) (x : Int) {g : Nat} (hg : w.heap.size = g) : Sl (w.alloc (.cells #[.int .i64 x] 3)) 1 intC [x] (.slice (some ⟨g, 0, none⟩) 1 1) :=
  Ow.sl intEnc (Ow.made (base := 0) (e := 3) (W := w) intEnc [x] #[.int .i64 x] rfl (Nat.zero_le _) (by show 1 ≤ maxLen; decide) hg rfl)
theorem twidest_n {l who : List Int} {N M : Nat} (hN : l.length = N) (hM : who.length = M) {E : Int} {r : Nat} (hE : 0 ≤ E ∧ E ≤ 9223372036854775807) (hr : min (widO l who) E.toNat = r) (p q : Option Addr) (k kw : Nat) (w : World) (hl : Sl w 1 intC l (.slice p l.length k)) (hw : Sl w 1 intC who (.slice q who.length kw)) :
    Calls Try.prog 21 #[.slice p N k, .slice q M kw, .int .i64 E] w fun e w' => e = .returned (.int .i64 r) ∧ Kept w w' := by
  subst hN hM hr
  obtain ⟨E, rfl⟩ : ∃ F : Nat, E = F := ⟨E.toNat, by omega⟩
  exact twidest_any l who E (by omega) p q k kw w hl hw

theorem tgap_n {l : List Int} {N : Nat} (hN : l.length = N) (who : Int) (p : Option Addr) (k : Nat) (w : World) (hl : Sl w 1 intC l (.slice p l.length k)) :
    Calls Try.prog 17 #[.slice p N k, .int .i64 who] w fun e w' => e = .returned (.int .i64 (gapO l who : Nat)) ∧ Kept w w' := by
  have H := Lib.hid hl
  obtain ⟨_, _, e1, hlk, hkm, _, _⟩ := hl.is
  cases e1
  have hbig : N ≤ 9223372036854775807 := by unfold maxLen at hkm; omega
  have hr : min (widO l [who]) ((N : Int).toNat) = gapO l who := by
    have := gap_len l who
    rw [wid_one]
    simp only [Int.toNat_natCast]
    omega
  have HN := Lib.hid hN
  have HR := Lib.hid hr
  clear hl hkm hlk hr hN
  go_enter Try.func17, Try.ntmps17
  go_wp2_with fail
  refine (twidest_n HN.out (rfl : [who].length = 1) ⟨by omega, by omega⟩ HR.out p _ k 1 _ (H.out.kept (by repeat' (first | (with_reducible exact Below.refl _ _) | (with_reducible assumption) | (with_reducible refine kept_alloc ?_ _) | (with_reducible refine kept_drewN ?_ _) | (with_reducible refine Below.drew ?_) | (with_reducible refine Below.setCell ?_ (by first | omega | (simp; omega) | (simp; done)) _) | (refine kept_trans ?_ (by with_reducible assumption))))) (sl_one w who rfl)).mono ?_
  rintro e w1 ⟨rfl, hg1⟩
  go_wp2
  go_ret
  exact ⟨rfl, by repeat' (first | (with_reducible exact Below.refl _ _) | (with_reducible assumption) | (with_reducible refine kept_alloc ?_ _) | (with_reducible refine kept_drewN ?_ _) | (with_reducible refine Below.drew ?_) | (with_reducible refine Below.setCell ?_ (by first | omega | (simp; omega) | (simp; done)) _) | (refine kept_trans ?_ (by with_reducible assumption)))⟩

theorem tfair_n {l who : List Int} {N M : Nat} (hN : l.length = N) (hM : who.length = M) (win : Int) (hw64 : In64 win) (p q : Option Addr) (k kw : Nat) (w : World) (hl : Sl w 1 intC l (.slice p l.length k)) (hw : Sl w 1 intC who (.slice q who.length kw)) :
    Calls Try.prog 19 #[.slice p N k, .slice q M kw, .int .i64 win] w fun e w' => e = .returned (.bool (fairB l who win)) ∧ Kept w w' := by
  have H := Lib.hid hl
  have HW := Lib.hid hw
  have HN := Lib.hid (And.intro hN hM)
  clear hl hw hN hM
  by_cases h1 : 1 ≤ win
  · obtain ⟨r, hr⟩ : ∃ r, min (widO l who) win.toNat = r := ⟨_, rfl⟩
    have hv : decide ((r : Int) < win) = fairB l who win := by
      unfold fairB
      rw [decide_eq_true h1, Bool.true_and, ← hr]
      by_cases h2 : (widO l who : Int) < win
      · rw [decide_eq_true h2]; exact decide_eq_true (by omega)
      · rw [decide_eq_false h2]; exact decide_eq_false (by omega)
    have HV := Lib.hid (And.intro hv hr)
    have hE : 0 ≤ win ∧ win ≤ 9223372036854775807 := ⟨by omega, hw64.2⟩
    clear hv hr
    go_enter Try.func19, Try.ntmps19
    go_wp2_with fail
    refine (twidest_n HN.out.1 HN.out.2 hE HV.out.2 p q k kw _ (H.out.kept (by repeat' (first | (with_reducible exact Below.refl _ _) | (with_reducible assumption) | (with_reducible refine kept_alloc ?_ _) | (with_reducible refine kept_drewN ?_ _) | (with_reducible refine Below.drew ?_) | (with_reducible refine Below.setCell ?_ (by first | omega | (simp; omega) | (simp; done)) _) | (refine kept_trans ?_ (by with_reducible assumption))))) (HW.out.kept (by repeat' (first | (with_reducible exact Below.refl _ _) | (with_reducible assumption) | (with_reducible refine kept_alloc ?_ _) | (with_reducible refine kept_drewN ?_ _) | (with_reducible refine Below.drew ?_) | (with_reducible refine Below.setCell ?_ (by first | omega | (simp; omega) | (simp; done)) _) | (refine kept_trans ?_ (by with_reducible assumption)))))).mono ?_
    rintro e w1 ⟨rfl, hg1⟩
    go_wp2
    go_ret
    exact ⟨ret_bool HV.out.1, by repeat' (first | (with_reducible exact Below.refl _ _) | (with_reducible assumption) | (with_reducible refine kept_alloc ?_ _) | (with_reducible refine kept_drewN ?_ _) | (with_reducible refine Below.drew ?_) | (with_reducible refine Below.setCell ?_ (by first | omega | (simp; omega) | (simp; done)) _) | (refine kept_trans ?_ (by with_reducible assumption)))⟩
  · have hv : fairB l who win = false := by simp [fairB, h1]
    rw [hv]
    clear hv
    go_enter Try.func19, Try.ntmps19
    go_wp2
    go_ret
    exact ⟨rfl, by repeat' (first | (with_reducible exact Below.refl _ _) | (with_reducible assumption) | (with_reducible refine kept_alloc ?_ _) | (with_reducible refine kept_drewN ?_ _) | (with_reducible refine Below.drew ?_) | (with_reducible refine Below.setCell ?_ (by first | omega | (simp; omega) | (simp; done)) _) | (refine kept_trans ?_ (by with_reducible assumption)))⟩

theorem tleast_n {l who : List Int} {N M : Nat} (hN : l.length = N) (hM : who.length = M) (p q : Option Addr) (k kw : Nat) (w : World) (hl : Sl w 1 intC l (.slice p l.length k)) (hw : Sl w 1 intC who (.slice q who.length kw)) :
    Calls Try.prog 10 #[.slice p N k, .slice q M kw] w fun e w' => e = .returned (.tuple #[.int .i64 (lstI l who), .bool (lstB l who)]) ∧ Kept w w' := by
  have H := Lib.hid hl
  have HW := Lib.hid hw
  obtain ⟨_, _, e1, hlk, hkm, _, _⟩ := hl.is
  cases e1
  have hbig : N ≤ 9223372036854775807 := by unfold maxLen at hkm; omega
  obtain ⟨r, hr⟩ : ∃ r, widO l who = r := ⟨_, rfl⟩
  have hle := wid_len l who
  have hm : min (widO l who) ((N : Int).toNat) = r := by
    simp only [Int.toNat_natCast]
    omega
  have HM := Lib.hid hm
  rw [hr, hN] at hle
  unfold lstI lstB
  rw [hr, hN]
  have HN := Lib.hid (And.intro hN hM)
  clear hl hw hN hM hkm hlk hm hr
  by_cases h1 : r = N
  · subst h1
    simp only [if_true, ne_eq, not_true_eq_false, decide_false]
    have b1 : ((r : Int) == (r : Int)) = true := by simp
    go_enter Try.func10, Try.ntmps10
    go_wp2_with fail
    refine (twidest_n HN.out.1 HN.out.2 ⟨by omega, by omega⟩ HM.out p q k kw _ (H.out.kept (by repeat' (first | (with_reducible exact Below.refl _ _) | (with_reducible assumption) | (with_reducible refine kept_alloc ?_ _) | (with_reducible refine kept_drewN ?_ _) | (with_reducible refine Below.drew ?_) | (with_reducible refine Below.setCell ?_ (by first | omega | (simp; omega) | (simp; done)) _) | (refine kept_trans ?_ (by with_reducible assumption))))) (HW.out.kept (by repeat' (first | (with_reducible exact Below.refl _ _) | (with_reducible assumption) | (with_reducible refine kept_alloc ?_ _) | (with_reducible refine kept_drewN ?_ _) | (with_reducible refine Below.drew ?_) | (with_reducible refine Below.setCell ?_ (by first | omega | (simp; omega) | (simp; done)) _) | (refine kept_trans ?_ (by with_reducible assumption)))))).mono ?_
    rintro e w1 ⟨rfl, hg1⟩
    go_wp2
    go_ret2
    exact ⟨rfl, by repeat' (first | (with_reducible exact Below.refl _ _) | (with_reducible assumption) | (with_reducible refine kept_alloc ?_ _) | (with_reducible refine kept_drewN ?_ _) | (with_reducible refine Below.drew ?_) | (with_reducible refine Below.setCell ?_ (by first | omega | (simp; omega) | (simp; done)) _) | (refine kept_trans ?_ (by with_reducible assumption)))⟩
  · have b1 : ((r : Int) == (N : Int)) = false := by simp; omega
    have hw : IntKind.i64.wrap ((r : Int) + 1) = (r : Int) + 1 := IntWalk.i64_in _ (by omega)
    rw [if_neg h1, decide_eq_true h1]
    go_enter Try.func10, Try.ntmps10
    go_wp2_with fail
    refine (twidest_n HN.out.1 HN.out.2 ⟨by omega, by omega⟩ HM.out p q k kw _ (H.out.kept (by repeat' (first | (with_reducible exact Below.refl _ _) | (with_reducible assumption) | (with_reducible refine kept_alloc ?_ _) | (with_reducible refine kept_drewN ?_ _) | (with_reducible refine Below.drew ?_) | (with_reducible refine Below.setCell ?_ (by first | omega | (simp; omega) | (simp; done)) _) | (refine kept_trans ?_ (by with_reducible assumption))))) (HW.out.kept (by repeat' (first | (with_reducible exact Below.refl _ _) | (with_reducible assumption) | (with_reducible refine kept_alloc ?_ _) | (with_reducible refine kept_drewN ?_ _) | (with_reducible refine Below.drew ?_) | (with_reducible refine Below.setCell ?_ (by first | omega | (simp; omega) | (simp; done)) _) | (refine kept_trans ?_ (by with_reducible assumption)))))).mono ?_
    rintro e w1 ⟨rfl, hg1⟩
    go_wp2
    go_ret2
    exact ⟨rfl, by repeat' (first | (with_reducible exact Below.refl _ _) | (with_reducible assumption) | (with_reducible refine kept_alloc ?_ _) | (with_reducible refine kept_drewN ?_ _) | (with_reducible refine Below.drew ?_) | (with_reducible refine Below.setCell ?_ (by first | omega | (simp; omega) | (simp; done)) _) | (refine kept_trans ?_ (by with_reducible assumption)))⟩
end Go.Proofs.Ytlmiedgpibollaa
