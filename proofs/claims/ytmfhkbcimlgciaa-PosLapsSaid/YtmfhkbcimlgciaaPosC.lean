/- Contracts of layer 1's functions and of the document's: what each call returns, as the plain functions say; what was there is kept. -/
import Derived.Test.YtmfhkbcimlgciaaPosF
namespace Go.Proofs.Ytmfhkbcimlgciaa
set_option linter.unusedVariables false
set_option linter.unusedSimpArgs false
open Go.ChangeShapes Go.WideShapes Go.ChangeAt Go.RowKit

theorem lies_any (p r : Int) (hp : In64 p) (hr : In64 r) (w : World) :
    Calls Try.prog 23 #[.int .i64 p, .int .i64 r] w fun e w' => e = .returned (.bool (liesB p r)) ∧ Kept w w' := by
  go_enter Try.func23, Try.ntmps23
  go_wp2
  all_goals (go_ret; exact ⟨ret_bool (by first | (rw [Bool.eq_iff_iff]; simp [liesB]; omega) | (simp [liesB, *]; done) | (simp [liesB, *]; omega) | (simp [liesB, *]; intros; omega)), by repeat' (first | (with_reducible exact Below.refl _ _) | (with_reducible assumption) | (with_reducible refine kept_alloc ?_ _) | (with_reducible refine kept_drewN ?_ _) | (with_reducible refine Below.drew ?_) | (with_reducible refine Below.setCell ?_ (by first | omega | (simp; omega) | (simp; done)) _) | (refine kept_trans ?_ (by with_reducible assumption)))⟩)

theorem place_any (p r : Int) (hp : In64 p) (hr : In64 r) (w : World) :
    Calls Try.prog 15 #[.int .i64 p, .int .i64 r] w fun e w' => e = .returned (.int .i64 (placeI p r)) ∧ Kept w w' := by
  cases hl : liesB p r <;> (have hl' := hl; simp [liesB] at hl')
  all_goals
    go_enter Try.func15, Try.ntmps15
    go_wp2_with (go_at_call 23; refine (lies_any _ _ (by omega) (by omega) _).mono ?_; rintro e wx ⟨rfl, hgx⟩)
    all_goals (go_ret; exact ⟨ret_int (by first | (simp [placeI, *]; done) | (simp [placeI, *]; omega) | (simp [placeI, *]; intros; omega)), by repeat' (first | (with_reducible exact Below.refl _ _) | (with_reducible assumption) | (with_reducible refine kept_alloc ?_ _) | (with_reducible refine kept_drewN ?_ _) | (with_reducible refine Below.drew ?_) | (with_reducible refine Below.setCell ?_ (by first | omega | (simp; omega) | (simp; done)) _) | (refine kept_trans ?_ (by with_reducible assumption)))⟩)

theorem lap_any (p r : Int) (hp : In64 p) (hr : In64 r) (w : World) :
    Calls Try.prog 17 #[.int .i64 p, .int .i64 r] w fun e w' => e = .returned (.int .i64 (lapI p r)) ∧ Kept w w' := by
  cases hl : liesB p r <;> (have hl' := hl; simp [liesB] at hl')
  all_goals
    go_enter Try.func17, Try.ntmps17
    go_wp2_with (go_at_call 23; refine (lies_any _ _ (by omega) (by omega) _).mono ?_; rintro e wx ⟨rfl, hgx⟩)
    all_goals (go_ret; exact ⟨ret_int (by first | (simp [lapI, *]; done) | (simp [lapI, *]; omega) | (simp [lapI, *]; intros; omega)), by repeat' (first | (with_reducible exact Below.refl _ _) | (with_reducible assumption) | (with_reducible refine kept_alloc ?_ _) | (with_reducible refine kept_drewN ?_ _) | (with_reducible refine Below.drew ?_) | (with_reducible refine Below.setCell ?_ (by first | omega | (simp; omega) | (simp; done)) _) | (refine kept_trans ?_ (by with_reducible assumption)))⟩)

theorem ahead_any (p q r : Int) (hp : In64 p) (hq : In64 q) (hr : In64 r) (w : World) :
    Calls Try.prog 19 #[.int .i64 p, .int .i64 q, .int .i64 r] w fun e w' => e = .returned (.bool (aheadB p q r)) ∧ Kept w w' := by
  cases hl : liesB p r <;> cases hm : liesB q r
  all_goals
    go_enter Try.func19, Try.ntmps19
    go_wp2_with (first | (go_at_call 23; refine (lies_any _ _ (by omega) (by omega) _).mono ?_; rintro e wx ⟨rfl, hgx⟩) | (go_at_call 15; refine (place_any _ _ (by omega) (by omega) _).mono ?_; rintro e wx ⟨rfl, hgx⟩))
    all_goals (go_ret; exact ⟨ret_bool (by rw [Bool.eq_iff_iff]; simp [aheadB, hl, hm]; try omega), by repeat' (first | (with_reducible exact Below.refl _ _) | (with_reducible assumption) | (with_reducible refine kept_alloc ?_ _) | (with_reducible refine kept_drewN ?_ _) | (with_reducible refine Below.drew ?_) | (with_reducible refine Below.setCell ?_ (by first | omega | (simp; omega) | (simp; done)) _) | (refine kept_trans ?_ (by with_reducible assumption)))⟩)

theorem empty_any (h t m : Int) (w : World) :
    Calls Try.prog 22 #[.agg #[.int .i64 h, .int .i64 t, .int .i64 m]] w fun e w' => e = .returned (.bool (emptyB h t)) ∧ Kept w w' := by
  go_enter Try.func22, Try.ntmps22
  go_wp2
  all_goals (go_ret; exact ⟨ret_bool (by first | (rw [Bool.eq_iff_iff]; simp [emptyB]; omega) | (simp [emptyB, *]; done) | (simp [emptyB, *]; omega) | (simp [emptyB, *]; intros; omega)), by repeat' (first | (with_reducible exact Below.refl _ _) | (with_reducible assumption) | (with_reducible refine kept_alloc ?_ _) | (with_reducible refine kept_drewN ?_ _) | (with_reducible refine Below.drew ?_) | (with_reducible refine Below.setCell ?_ (by first | omega | (simp; omega) | (simp; done)) _) | (refine kept_trans ?_ (by with_reducible assumption)))⟩)

theorem len_any (h t m : Int) (hh : In64 h) (ht : In64 t) (w : World) :
    Calls Try.prog 12 #[.agg #[.int .i64 h, .int .i64 t, .int .i64 m]] w fun e w' => e = .returned (.int .i64 (lenI h t)) ∧ Kept w w' := by
  cases he : emptyB h t
  · have he' : h ≠ t := by simpa [emptyB] using he
    by_cases hlt : t < h
    · go_enter Try.func12, Try.ntmps12
      go_wp2_with (first | (go_at_call 22; refine (empty_any _ _ _ _).mono ?_; rintro e wx ⟨rfl, hgx⟩; obtain ⟨hcx, hfx⟩ := bcell hgx; have hz0 : w.heap.size < wx.heap.size := (by have := hgx.size; (try simp at this); omega)))
      all_goals (go_ret; exact ⟨ret_int (by first | (simp [lenI, *]; done) | (simp [lenI, *]; omega) | (simp [lenI, *]; intros; omega)), by repeat' (first | (with_reducible exact Below.refl _ _) | (with_reducible assumption) | (with_reducible refine kept_alloc ?_ _) | (with_reducible refine kept_drewN ?_ _) | (with_reducible refine Below.drew ?_) | (with_reducible refine Below.setCell ?_ (by first | omega | (simp; omega) | (simp; done)) _) | (refine kept_trans ?_ (by with_reducible assumption)))⟩)
    · by_cases hs : t - h ≤ 9223372036854775807
      · go_enter Try.func12, Try.ntmps12
        go_wp2_with (first | (go_at_call 22; refine (empty_any _ _ _ _).mono ?_; rintro e wx ⟨rfl, hgx⟩; obtain ⟨hcx, hfx⟩ := bcell hgx; have hz0 : w.heap.size < wx.heap.size := (by have := hgx.size; (try simp at this); omega)))
        go_ret
        exact ⟨ret_int (by rw [lenI, if_neg (by omega), if_pos hs]), by repeat' (first | (with_reducible exact Below.refl _ _) | (with_reducible assumption) | (with_reducible refine kept_alloc ?_ _) | (with_reducible refine kept_drewN ?_ _) | (with_reducible refine Below.drew ?_) | (with_reducible refine Below.setCell ?_ (by first | omega | (simp; omega) | (simp; done)) _) | (refine kept_trans ?_ (by with_reducible assumption)))⟩
      · have hw : ¬ 0 < wrap64 (t - h) := by unfold wrap64; omega
        go_enter Try.func12, Try.ntmps12
        go_wp2_with (first | (go_at_call 22; refine (empty_any _ _ _ _).mono ?_; rintro e wx ⟨rfl, hgx⟩; obtain ⟨hcx, hfx⟩ := bcell hgx; have hz0 : w.heap.size < wx.heap.size := (by have := hgx.size; (try simp at this); omega)))
        go_ret
        exact ⟨ret_int (by rw [lenI, if_neg (by omega), if_neg (by omega)]), by repeat' (first | (with_reducible exact Below.refl _ _) | (with_reducible assumption) | (with_reducible refine kept_alloc ?_ _) | (with_reducible refine kept_drewN ?_ _) | (with_reducible refine Below.drew ?_) | (with_reducible refine Below.setCell ?_ (by first | omega | (simp; omega) | (simp; done)) _) | (refine kept_trans ?_ (by with_reducible assumption)))⟩
  · go_enter Try.func12, Try.ntmps12
    go_wp2_with (first | (go_at_call 22; refine (empty_any _ _ _ _).mono ?_; rintro e wx ⟨rfl, hgx⟩; obtain ⟨hcx, hfx⟩ := bcell hgx; have hz0 : w.heap.size < wx.heap.size := (by have := hgx.size; (try simp at this); omega)))
    go_ret
    exact ⟨ret_int (by rw [lenI, if_pos (by have := empty_t he; omega)]), by repeat' (first | (with_reducible exact Below.refl _ _) | (with_reducible assumption) | (with_reducible refine kept_alloc ?_ _) | (with_reducible refine kept_drewN ?_ _) | (with_reducible refine Below.drew ?_) | (with_reducible refine Below.setCell ?_ (by first | omega | (simp; omega) | (simp; done)) _) | (refine kept_trans ?_ (by with_reducible assumption)))⟩

theorem full_any (h t m r : Int) (hh : In64 h) (ht : In64 t) (w : World) :
    Calls Try.prog 14 #[.agg #[.int .i64 h, .int .i64 t, .int .i64 m], .int .i64 r] w fun e w' => e = .returned (.bool (fullB h t r)) ∧ Kept w w' := by
  go_enter Try.func14, Try.ntmps14
  go_wp2_with (first | (go_at_call 12; refine (len_any _ _ _ (by omega) (by omega) _).mono ?_; rintro e wx ⟨rfl, hgx⟩; obtain ⟨hcx, hfx⟩ := bcell hgx; have hz0 : w.heap.size < wx.heap.size := (by have := hgx.size; (try simp at this); omega)))
  all_goals (go_ret; exact ⟨ret_bool (by first | (rw [Bool.eq_iff_iff]; simp [fullB]; omega) | (simp [fullB, *]; done) | (simp [fullB, *]; omega) | (simp [fullB, *]; intros; omega)), by repeat' (first | (with_reducible exact Below.refl _ _) | (with_reducible assumption) | (with_reducible refine kept_alloc ?_ _) | (with_reducible refine kept_drewN ?_ _) | (with_reducible refine Below.drew ?_) | (with_reducible refine Below.setCell ?_ (by first | omega | (simp; omega) | (simp; done)) _) | (refine kept_trans ?_ (by with_reducible assumption)))⟩)

theorem check_any (h t m r : Int) (hh : In64 h) (ht : In64 t) (hm : In64 m) (hr : In64 r) (w : World) :
    Calls Try.prog 10 #[.agg #[.int .i64 h, .int .i64 t, .int .i64 m], .int .i64 r] w fun e w' => e = .returned (.bool (checkB h t m r)) ∧ Kept w w' := by
  go_enter Try.func10, Try.ntmps10
  go_wp2_with (first | (go_at_call 12; refine (len_any _ _ _ (by omega) (by omega) _).mono ?_; rintro e wx ⟨rfl, hgx⟩; obtain ⟨hcx, hfx⟩ := bcell hgx; have hz0 : w.heap.size < wx.heap.size := (by have := hgx.size; (try simp at this); omega)) | go_in)
  all_goals (go_ret; exact ⟨ret_bool (by first | (rw [Bool.eq_iff_iff]; simp [checkB]; omega) | (simp [checkB, *]; done) | (simp [checkB, *]; omega) | (simp [checkB, *]; intros; omega)), by repeat' (first | (with_reducible exact Below.refl _ _) | (with_reducible assumption) | (with_reducible refine kept_alloc ?_ _) | (with_reducible refine kept_drewN ?_ _) | (with_reducible refine Below.drew ?_) | (with_reducible refine Below.setCell ?_ (by first | omega | (simp; omega) | (simp; done)) _) | (refine kept_trans ?_ (by with_reducible assumption)))⟩)

/- The document's. -/
theorem rlen_any (h t m : Int) (hh : In64 h) (ht : In64 t) (w : World) :
    Calls Try.prog 13 #[.agg #[.int .i64 h, .int .i64 t, .int .i64 m]] w fun e w' => e = .returned (.int .i64 (rLenI h t)) ∧ Kept w w' := by
  go_enter Try.func13, Try.ntmps13
  go_wp2
  all_goals (go_ret; exact ⟨ret_int (by first | (simp [rLenI, *]; done) | (simp [rLenI, *]; omega) | (simp [rLenI, *]; intros; omega)), by repeat' (first | (with_reducible exact Below.refl _ _) | (with_reducible assumption) | (with_reducible refine kept_alloc ?_ _) | (with_reducible refine kept_drewN ?_ _) | (with_reducible refine Below.drew ?_) | (with_reducible refine Below.setCell ?_ (by first | omega | (simp; omega) | (simp; done)) _) | (refine kept_trans ?_ (by with_reducible assumption)))⟩)

theorem rcheck_any (h t m r : Int) (hh : In64 h) (ht : In64 t) (hm : In64 m) (hr : In64 r) (w : World) :
    Calls Try.prog 11 #[.agg #[.int .i64 h, .int .i64 t, .int .i64 m], .int .i64 r] w fun e w' => e = .returned (.bool (rCheckB h t m r)) ∧ Kept w w' := by
  go_enter Try.func11, Try.ntmps11
  go_wp2
  all_goals (go_ret; exact ⟨ret_bool (by first | (rw [Bool.eq_iff_iff]; simp [rCheckB]; omega) | (simp [rCheckB, *]; done) | (simp [rCheckB, *]; omega) | (simp [rCheckB, *]; intros; omega)), by repeat' (first | (with_reducible exact Below.refl _ _) | (with_reducible assumption) | (with_reducible refine kept_alloc ?_ _) | (with_reducible refine kept_drewN ?_ _) | (with_reducible refine Below.drew ?_) | (with_reducible refine Below.setCell ?_ (by first | omega | (simp; omega) | (simp; done)) _) | (refine kept_trans ?_ (by with_reducible assumption)))⟩)

theorem rplace_any (p r : Int) (hp : In64 p) (hr : In64 r) (w : World) :
    Calls Try.prog 16 #[.int .i64 p, .int .i64 r] w fun e w' => e = .returned (.int .i64 (rPlaceI p r)) ∧ Kept w w' := by
  by_cases hc : p < 0 ∨ r < 1
  · go_enter Try.func16, Try.ntmps16
    go_wp2
    all_goals (go_ret; exact ⟨ret_int (by rw [rPlaceI, if_pos hc]), by repeat' (first | (with_reducible exact Below.refl _ _) | (with_reducible assumption) | (with_reducible refine kept_alloc ?_ _) | (with_reducible refine kept_drewN ?_ _) | (with_reducible refine Below.drew ?_) | (with_reducible refine Below.setCell ?_ (by first | omega | (simp; omega) | (simp; done)) _) | (refine kept_trans ?_ (by with_reducible assumption)))⟩)
  · have h1 : 0 ≤ p / r := Int.ediv_nonneg (by omega) (by omega)
    have h2 : p / r ≤ p := Int.ediv_le_self _ (by omega)
    have h3 : p / r * r ≤ p := Int.ediv_mul_le _ (by omega)
    have h4 : 0 ≤ p / r * r := Int.mul_nonneg h1 (by omega)
    have h5 : ¬ p < 0 := by omega
    have h6 : ¬ r < 1 := by omega
    go_enter Try.func16, Try.ntmps16
    go_wp2
    all_goals (go_ret; exact ⟨ret_int (by rw [rPlaceI, if_neg (by omega)]), by repeat' (first | (with_reducible exact Below.refl _ _) | (with_reducible assumption) | (with_reducible refine kept_alloc ?_ _) | (with_reducible refine kept_drewN ?_ _) | (with_reducible refine Below.drew ?_) | (with_reducible refine Below.setCell ?_ (by first | omega | (simp; omega) | (simp; done)) _) | (refine kept_trans ?_ (by with_reducible assumption)))⟩)

theorem rlap_any (p r : Int) (hp : In64 p) (hr : In64 r) (w : World) :
    Calls Try.prog 18 #[.int .i64 p, .int .i64 r] w fun e w' => e = .returned (.int .i64 (rLapI p r)) ∧ Kept w w' := by
  by_cases hc : p < 0 ∨ r < 1
  · go_enter Try.func18, Try.ntmps18
    go_wp2_with (go_at_call 16; refine (rplace_any _ _ (by omega) (by omega) _).mono ?_; rintro e wx ⟨rfl, hgx⟩)
    all_goals (go_ret; exact ⟨ret_int (by rw [rLapI, if_pos hc]), by repeat' (first | (with_reducible exact Below.refl _ _) | (with_reducible assumption) | (with_reducible refine kept_alloc ?_ _) | (with_reducible refine kept_drewN ?_ _) | (with_reducible refine Below.drew ?_) | (with_reducible refine Below.setCell ?_ (by first | omega | (simp; omega) | (simp; done)) _) | (refine kept_trans ?_ (by with_reducible assumption)))⟩)
  · have h1 : 0 ≤ rPlaceI p r ∧ rPlaceI p r ≤ p := by
      rw [← place_ref, place_of (by omega) (by omega)]
      exact ⟨Int.emod_nonneg _ (by omega), by have := Int.emod_nonneg p (show r ≠ 0 by omega); have := Int.ediv_mul_le p (show r ≠ 0 by omega); have : 0 ≤ p / r * r := Int.mul_nonneg (Int.ediv_nonneg (by omega) (by omega)) (by omega); have := Int.emod_add_mul_ediv p r; rw [Int.mul_comm r] at this; omega⟩
    have h5 : ¬ p < 0 := by omega
    have h6 : ¬ r < 1 := by omega
    have h7 : 0 ≤ p - rPlaceI p r := by omega
    go_enter Try.func18, Try.ntmps18
    go_wp2_with (go_at_call 16; refine (rplace_any _ _ (by omega) (by omega) _).mono ?_; rintro e wx ⟨rfl, hgx⟩)
    all_goals (go_ret; exact ⟨ret_int (by rw [rLapI, if_neg (by omega)]), by repeat' (first | (with_reducible exact Below.refl _ _) | (with_reducible assumption) | (with_reducible refine kept_alloc ?_ _) | (with_reducible refine kept_drewN ?_ _) | (with_reducible refine Below.drew ?_) | (with_reducible refine Below.setCell ?_ (by first | omega | (simp; omega) | (simp; done)) _) | (refine kept_trans ?_ (by with_reducible assumption)))⟩)

theorem rahead_any (p q r : Int) (hp : In64 p) (hq : In64 q) (hr : In64 r) (w : World) :
    Calls Try.prog 20 #[.int .i64 p, .int .i64 q, .int .i64 r] w fun e w' => e = .returned (.bool (rAheadB p q r)) ∧ Kept w w' := by
  go_enter Try.func20, Try.ntmps20
  go_wp2
  all_goals (go_ret; exact ⟨ret_bool (by first | (rw [Bool.eq_iff_iff]; simp [rAheadB]; omega) | (simp [rAheadB, *]; done) | (simp [rAheadB, *]; omega) | (simp [rAheadB, *]; intros; omega)), by repeat' (first | (with_reducible exact Below.refl _ _) | (with_reducible assumption) | (with_reducible refine kept_alloc ?_ _) | (with_reducible refine kept_drewN ?_ _) | (with_reducible refine Below.drew ?_) | (with_reducible refine Below.setCell ?_ (by first | omega | (simp; omega) | (simp; done)) _) | (refine kept_trans ?_ (by with_reducible assumption)))⟩)
end Go.Proofs.Ytmfhkbcimlgciaa
