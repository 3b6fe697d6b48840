/- Layer 5: who is none (a closure), who is unlike, a line copied; Check, Place, First. -/
import Derived.Test.YtlgldniepcjfoaaLineG
namespace Go.Proofs.Ytlgldniepcjfoaa
set_option linter.unusedVariables false
set_option linter.unusedSimpArgs false
open Go.ChangeShapes Go.WideShapes Go.ChangeAt Go.RowKit

theorem none_enters : ∀ args w, (callFunc 34 args).run Try.prog w = .ok (.enter 34 args) w := enters_of Try.func34 (by kernel_rfl) rfl
theorem none1_tells (th : Int) (b : Nat) (w : World) (hb : b < w.heap.size) (hc : w.cell? ⟨b, 0, none⟩ = some (.int .i64 th)) : Tells 34 #[.pointer (some ⟨b, 0, none⟩)] (noneB th) w := by
  intro W x hW
  have c1 := (hW.cell (p := ⟨b, 0, none⟩) hb).trans hc
  show Calls Try.prog 34 #[.int .i64 x, .pointer (some ⟨b, 0, none⟩)] W _
  go_enter Try.func34, Try.ntmps34
  go_wp2
  all_goals (go_ret; exact ⟨ret_bool (by simp [noneB, *]), by repeat' (first | (with_reducible exact Below.refl _ _) | (with_reducible assumption) | (with_reducible refine kept_alloc ?_ _) | (with_reducible refine kept_drewN ?_ _) | (with_reducible refine Below.drew ?_) | (with_reducible refine Below.setCell ?_ (by first | omega | (simp; omega) | (simp; done)) _) | (refine kept_trans ?_ (by with_reducible assumption)))⟩)
def RetNone (th : Int) (w : World) (e : Ending) (w' : World) : Prop := ∃ lb, e = .returned (.func (.func 34) #[] lb) ∧ Tells 34 lb (noneB th) w' ∧ Kept w w'
theorem lnone_any (th : Int) (w : World) : Calls Try.prog 25 #[.int .i64 th] w (RetNone th w) := by
  go_enter Try.func25, Try.ntmps25
  go_wp2
  go_ret
  exact ⟨_, rfl, none1_tells th w.heap.size _ (by simp) (by simp), by repeat' (first | (with_reducible exact Below.refl _ _) | (with_reducible assumption) | (with_reducible refine kept_alloc ?_ _) | (with_reducible refine kept_drewN ?_ _) | (with_reducible refine Below.drew ?_) | (with_reducible refine Below.setCell ?_ (by first | omega | (simp; omega) | (simp; done)) _) | (refine kept_trans ?_ (by with_reducible assumption)))⟩

theorem Sl.take {α : Type} {W : World} {k : Nat} {enc : α → List Value} {xs : List α} {p : Option Addr} {n c i : Nat} (h : Sl W k enc xs (.slice p n c)) (hi : i ≤ xs.length) : Sl W k enc (xs.take i) (.slice p i c) := by
  obtain ⟨q, cap, hv, h1, h2, h3, h4⟩ := h.is
  cases hv
  refine ⟨p, c, by simp; omega, by simp; omega, h2, h3, fun hne => ?_⟩
  obtain ⟨b, o, hp, hb, hc⟩ := h4 (by intro h; subst h; simp at hne)
  refine ⟨b, o, hp, hb, fun j x hx m hm => hc j x ?_ m hm⟩
  rw [List.getElem?_take] at hx
  split at hx
  · exact hx
  · cases hx

set_option maxHeartbeats 1000000 in
theorem unlike_any (l : List Int) (p : Option Addr) (k : Nat) (w : World) (hl : Sl w 1 intC l (.slice p l.length k)) :
    Calls Try.prog 26 #[.slice p l.length k] w fun e w' => e = .returned (.bool (decide l.Nodup)) ∧ Kept w w' := by
  have H := Lib.hid hl
  obtain ⟨_, _, e1, hlk, hkm, _, hne⟩ := hl.is
  cases e1
  have hbig : l.length ≤ 9223372036854775807 := by unfold maxLen at hkm; omega
  clear hl hkm
  obtain ⟨N, hN⟩ : ∃ N, l.length = N := ⟨_, rfl⟩
  rw [hN] at hbig hlk ⊢
  have HN := Lib.hid hN
  have HNE := Lib.hid hne
  clear hN hne
  go_enter Try.func26, Try.ntmps26
  go_wp2
  go_loopw [3, 4, 7] (fun _ _ s7 wr => ∃ j : Nat, j ≤ N ∧ s7 = .int .i64 j ∧ Hid ((l.take j).Nodup) ∧ Below w.heap.size w wr) (fun _ _ s7 _ => N - (intOf s7).toNat)
  case atStart => exact ⟨0, by omega, rfl, Lib.hid (by simp), Below.refl _ _⟩
  case round =>
    obtain ⟨j, hj, rfl, T, hB⟩ := hrel
    by_cases hlt : j < N
    · have hlt' : j < l.length := by rw [HN.out]; exact hlt
      obtain ⟨b, o, rfl, hb, -⟩ := HNE.out (by intro h; subst h; simp at hlt')
      have c1 := (hB.cell (p := ⟨b, o + j, none⟩) hb).trans (sli_at H.out hlt')
      have hbw : b < wr.heap.size := Nat.lt_of_lt_of_le hb hB.size
      have i1 : (0 : Int) ≤ (j : Int) := by omega
      have i2 : (j : Int) < (N : Int) := by omega
      have i3 : j ≤ k := by omega
      have Hh : Hid (decide (l[j] ∈ l.take j) = true → decide l.Nodup = false) := fun h => decide_eq_false (not_nodup_of_take hlt' (of_decide_eq_true h))
      have Hn : Hid (decide (l[j] ∈ l.take j) = false → (l.take (j + 1)).Nodup) := fun h => (nodup_take_succ hlt').2 ⟨T.out, of_decide_eq_false h⟩
      have HT : Hid (Sl wr 1 intC (l.take j) (.slice (some ⟨b, o, none⟩) j k)) := Lib.hid (Sl.take (H.out.kept hB) (by omega))
      have HL : Hid ((l.take j).length = j) := Lib.hid (by simp; omega)
      generalize l[j] = y at *
      generalize l.take j = t at *
      obtain ⟨D, hD⟩ : ∃ D, decide (y ∈ t) = D := ⟨_, rfl⟩
      have HD := Lib.hid hD
      rw [hD] at Hh Hn
      clear hD
      go_wp2_with fail
      refine ((HL.out ▸ contains_any t y (some ⟨b, o, none⟩) k _ (HL.out.symm ▸ HT.out.kept (by repeat' (first | (with_reducible exact Below.refl _ _) | (with_reducible assumption) | (with_reducible refine kept_alloc ?_ _) | (with_reducible refine kept_drewN ?_ _) | (with_reducible refine Below.drew ?_) | (with_reducible refine Below.setCell ?_ (by first | omega | (simp; omega) | (simp; done)) _) | (refine kept_trans ?_ (by with_reducible assumption))))) : Calls Try.prog 28 #[.slice (some ⟨b, o, none⟩) j k, .int .i64 y] _ _)).mono ?_
      rintro e w1 ⟨rfl, hg1⟩
      rw [HD.out]
      cases D
      · have hn := Lib.hid (Hn.out rfl)
        clear Hh Hn
        go_wp2
        exact ⟨⟨j + 1, by omega, by go_num, hn.out, by repeat' (first | (with_reducible exact Below.refl _ _) | (with_reducible assumption) | (with_reducible refine kept_alloc ?_ _) | (with_reducible refine kept_drewN ?_ _) | (with_reducible refine Below.drew ?_) | (with_reducible refine Below.setCell ?_ (by first | omega | (simp; omega) | (simp; done)) _) | (refine kept_trans ?_ (by with_reducible assumption)))⟩, by simp [intOf]; omega⟩
      · have hn := Lib.hid (Hh.out rfl)
        clear Hh Hn
        go_wp2
        go_ret
        exact ⟨ret_bool hn.out.symm, by repeat' (first | (with_reducible exact Below.refl _ _) | (with_reducible assumption) | (with_reducible refine kept_alloc ?_ _) | (with_reducible refine kept_drewN ?_ _) | (with_reducible refine Below.drew ?_) | (with_reducible refine Below.setCell ?_ (by first | omega | (simp; omega) | (simp; done)) _) | (refine kept_trans ?_ (by with_reducible assumption)))⟩
    · have : j = N := by omega
      subst this
      have hn : Hid (l.Nodup) := Lib.hid (by have := T.out; rw [← HN.out, List.take_length] at this; exact this)
      clear T
      go_wp2
      go_ret
      exact ⟨ret_bool (by simp [hn.out]), by repeat' (first | (with_reducible exact Below.refl _ _) | (with_reducible assumption) | (with_reducible refine kept_alloc ?_ _) | (with_reducible refine kept_drewN ?_ _) | (with_reducible refine Below.drew ?_) | (with_reducible refine Below.setCell ?_ (by first | omega | (simp; omega) | (simp; done)) _) | (refine kept_trans ?_ (by with_reducible assumption)))⟩

theorem ok_any {l : List Int} (h : l.any (noneB 16) = true) : okLn l = false := by simp [okLn, h]
theorem ok_all {l : List Int} (h : l.any (noneB 16) = false) : okLn l = decide l.Nodup := by simp [okLn, h]
theorem lcheck_any (l : List Int) (p : Option Addr) (k : Nat) (w : World) (hl : Sl w 1 intC l (.slice p l.length k)) :
    Calls Try.prog 17 #[.slice p l.length k] w fun e w' => e = .returned (.bool (okLn l)) ∧ Kept w w' := by
  have H := Lib.hid hl
  clear hl
  obtain ⟨A, hA⟩ : ∃ A, l.any (noneB 16) = A := ⟨_, rfl⟩
  have HA := Lib.hid hA
  cases A
  · rw [ok_all hA]
    clear hA
    go_enter Try.func17, Try.ntmps17
    go_wp2_with fail
    refine (lnone_any 16 _).mono ?_
    rintro e w1 ⟨lb, rfl, hT, hg1⟩
    go_wp2_with fail
    refine (containsFunc_any l _ _ lb none_enters p k _ (H.out.kept (by repeat' (first | (with_reducible exact Below.refl _ _) | (with_reducible assumption) | (with_reducible refine kept_alloc ?_ _) | (with_reducible refine kept_drewN ?_ _) | (with_reducible refine Below.drew ?_) | (with_reducible refine Below.setCell ?_ (by first | omega | (simp; omega) | (simp; done)) _) | (refine kept_trans ?_ (by with_reducible assumption))))) hT).mono ?_
    rintro e w2 ⟨rfl, hg2⟩
    rw [HA.out]
    go_wp2_with fail
    refine (unlike_any l p k _ (H.out.kept (by repeat' (first | (with_reducible exact Below.refl _ _) | (with_reducible assumption) | (with_reducible refine kept_alloc ?_ _) | (with_reducible refine kept_drewN ?_ _) | (with_reducible refine Below.drew ?_) | (with_reducible refine Below.setCell ?_ (by first | omega | (simp; omega) | (simp; done)) _) | (refine kept_trans ?_ (by with_reducible assumption)))))).mono ?_
    rintro e w3 ⟨rfl, hg3⟩
    go_wp2
    all_goals (go_ret; exact ⟨rfl, by repeat' (first | (with_reducible exact Below.refl _ _) | (with_reducible assumption) | (with_reducible refine kept_alloc ?_ _) | (with_reducible refine kept_drewN ?_ _) | (with_reducible refine Below.drew ?_) | (with_reducible refine Below.setCell ?_ (by first | omega | (simp; omega) | (simp; done)) _) | (refine kept_trans ?_ (by with_reducible assumption)))⟩)
  · rw [ok_any hA]
    clear hA
    go_enter Try.func17, Try.ntmps17
    go_wp2_with fail
    refine (lnone_any 16 _).mono ?_
    rintro e w1 ⟨lb, rfl, hT, hg1⟩
    go_wp2_with fail
    refine (containsFunc_any l _ _ lb none_enters p k _ (H.out.kept (by repeat' (first | (with_reducible exact Below.refl _ _) | (with_reducible assumption) | (with_reducible refine kept_alloc ?_ _) | (with_reducible refine kept_drewN ?_ _) | (with_reducible refine Below.drew ?_) | (with_reducible refine Below.setCell ?_ (by first | omega | (simp; omega) | (simp; done)) _) | (refine kept_trans ?_ (by with_reducible assumption))))) hT).mono ?_
    rintro e w2 ⟨rfl, hg2⟩
    rw [HA.out]
    go_wp2
    go_ret
    exact ⟨rfl, by repeat' (first | (with_reducible exact Below.refl _ _) | (with_reducible assumption) | (with_reducible refine kept_alloc ?_ _) | (with_reducible refine kept_drewN ?_ _) | (with_reducible refine Below.drew ?_) | (with_reducible refine Below.setCell ?_ (by first | omega | (simp; omega) | (simp; done)) _) | (refine kept_trans ?_ (by with_reducible assumption)))⟩

theorem lplace_any (l : List Int) (i : Int) (p : Option Addr) (k : Nat) (w : World) (hl : Sl w 1 intC l (.slice p l.length k)) :
    Calls Try.prog 13 #[.slice p l.length k, .int .i64 i] w fun e w' => e = .returned (.int .i64 (plI l i)) ∧ Kept w w' := by
  have H := Lib.hid hl
  clear hl
  unfold plI
  cases hok : okLn l
  all_goals
    have HO := Lib.hid hok
    clear hok
    go_enter Try.func13, Try.ntmps13
    go_wp2_with fail
    refine (lcheck_any l p k _ (H.out.kept (by repeat' (first | (with_reducible exact Below.refl _ _) | (with_reducible assumption) | (with_reducible refine kept_alloc ?_ _) | (with_reducible refine kept_drewN ?_ _) | (with_reducible refine Below.drew ?_) | (with_reducible refine Below.setCell ?_ (by first | omega | (simp; omega) | (simp; done)) _) | (refine kept_trans ?_ (by with_reducible assumption)))))).mono ?_
    rintro e w1 ⟨rfl, hg1⟩
    rw [HO.out]
  · go_wp2
    go_ret
    exact ⟨rfl, by repeat' (first | (with_reducible exact Below.refl _ _) | (with_reducible assumption) | (with_reducible refine kept_alloc ?_ _) | (with_reducible refine kept_drewN ?_ _) | (with_reducible refine Below.drew ?_) | (with_reducible refine Below.setCell ?_ (by first | omega | (simp; omega) | (simp; done)) _) | (refine kept_trans ?_ (by with_reducible assumption)))⟩
  · go_wp2_with fail
    refine (index_any l i p k _ (H.out.kept (by repeat' (first | (with_reducible exact Below.refl _ _) | (with_reducible assumption) | (with_reducible refine kept_alloc ?_ _) | (with_reducible refine kept_drewN ?_ _) | (with_reducible refine Below.drew ?_) | (with_reducible refine Below.setCell ?_ (by first | omega | (simp; omega) | (simp; done)) _) | (refine kept_trans ?_ (by with_reducible assumption)))))).mono ?_
    rintro e w2 ⟨rfl, hg2⟩
    go_wp2
    go_ret
    exact ⟨rfl, by repeat' (first | (with_reducible exact Below.refl _ _) | (with_reducible assumption) | (with_reducible refine kept_alloc ?_ _) | (with_reducible refine kept_drewN ?_ _) | (with_reducible refine Below.drew ?_) | (with_reducible refine Below.setCell ?_ (by first | omega | (simp; omega) | (simp; done)) _) | (refine kept_trans ?_ (by with_reducible assumption)))⟩
end Go.Proofs.Ytlgldniepcjfoaa
