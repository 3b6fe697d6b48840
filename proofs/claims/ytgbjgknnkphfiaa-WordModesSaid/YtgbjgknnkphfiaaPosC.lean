/- Contracts of layer 1's functions and of the document's: what each call returns, as the plain functions say; what was there is kept. -/
import Derived.Test.YtgbjgknnkphfiaaPosF
namespace Go.Proofs.Ytgbjgknnkphfiaa
set_option linter.unusedVariables false
set_option linter.unusedSimpArgs false
open Go.ChangeShapes Go.WideShapes Go.ChangeAt Go.RowKit

theorem empty_any (h t m : Int) (w : World) :
    Calls Try.prog 28 #[.agg #[.int .i64 h, .int .i64 t, .int .i64 m]] w fun e w' => e = .returned (.bool (emptyB h t)) ∧ Kept w w' := by
  go_enter Try.func28, Try.ntmps28
  go_wp2
  all_goals (go_ret; exact ⟨ret_bool (by first | (rw [Bool.eq_iff_iff]; simp [emptyB]; omega) | (simp [emptyB, *]; done) | (simp [emptyB, *]; omega) | (simp [emptyB, *]; intros; omega)), by repeat' (first | (with_reducible exact Below.refl _ _) | (with_reducible assumption) | (with_reducible refine kept_alloc ?_ _) | (with_reducible refine kept_drewN ?_ _) | (with_reducible refine Below.drew ?_) | (with_reducible refine Below.setCell ?_ (by first | omega | (simp; omega) | (simp; done)) _) | (refine kept_trans ?_ (by with_reducible assumption)))⟩)

theorem len_any (h t m : Int) (hh : In64 h) (ht : In64 t) (w : World) :
    Calls Try.prog 20 #[.agg #[.int .i64 h, .int .i64 t, .int .i64 m]] w fun e w' => e = .returned (.int .i64 (lenI h t)) ∧ Kept w w' := by
  cases he : emptyB h t
  · have he' : h ≠ t := by simpa [emptyB] using he
    by_cases hlt : t < h
    · go_enter Try.func20, Try.ntmps20
      go_wp2_with (first | (go_at_call 28; refine (empty_any _ _ _ _).mono ?_; rintro e wx ⟨rfl, hgx⟩; obtain ⟨hcx, hfx⟩ := bcell hgx; have hz0 : w.heap.size < wx.heap.size := (by have := hgx.size; (try simp at this); omega)))
      all_goals (go_ret; exact ⟨ret_int (by first | (simp [lenI, *]; done) | (simp [lenI, *]; omega) | (simp [lenI, *]; intros; omega)), by repeat' (first | (with_reducible exact Below.refl _ _) | (with_reducible assumption) | (with_reducible refine kept_alloc ?_ _) | (with_reducible refine kept_drewN ?_ _) | (with_reducible refine Below.drew ?_) | (with_reducible refine Below.setCell ?_ (by first | omega | (simp; omega) | (simp; done)) _) | (refine kept_trans ?_ (by with_reducible assumption)))⟩)
    · by_cases hs : t - h ≤ 9223372036854775807
      · go_enter Try.func20, Try.ntmps20
        go_wp2_with (first | (go_at_call 28; refine (empty_any _ _ _ _).mono ?_; rintro e wx ⟨rfl, hgx⟩; obtain ⟨hcx, hfx⟩ := bcell hgx; have hz0 : w.heap.size < wx.heap.size := (by have := hgx.size; (try simp at this); omega)))
        go_ret
        exact ⟨ret_int (by rw [lenI, if_neg (by omega), if_pos hs]), by repeat' (first | (with_reducible exact Below.refl _ _) | (with_reducible assumption) | (with_reducible refine kept_alloc ?_ _) | (with_reducible refine kept_drewN ?_ _) | (with_reducible refine Below.drew ?_) | (with_reducible refine Below.setCell ?_ (by first | omega | (simp; omega) | (simp; done)) _) | (refine kept_trans ?_ (by with_reducible assumption)))⟩
      · have hw : ¬ 0 < wrap64 (t - h) := by unfold wrap64; omega
        go_enter Try.func20, Try.ntmps20
        go_wp2_with (first | (go_at_call 28; refine (empty_any _ _ _ _).mono ?_; rintro e wx ⟨rfl, hgx⟩; obtain ⟨hcx, hfx⟩ := bcell hgx; have hz0 : w.heap.size < wx.heap.size := (by have := hgx.size; (try simp at this); omega)))
        go_ret
        exact ⟨ret_int (by rw [lenI, if_neg (by omega), if_neg (by omega)]), by repeat' (first | (with_reducible exact Below.refl _ _) | (with_reducible assumption) | (with_reducible refine kept_alloc ?_ _) | (with_reducible refine kept_drewN ?_ _) | (with_reducible refine Below.drew ?_) | (with_reducible refine Below.setCell ?_ (by first | omega | (simp; omega) | (simp; done)) _) | (refine kept_trans ?_ (by with_reducible assumption)))⟩
  · go_enter Try.func20, Try.ntmps20
    go_wp2_with (first | (go_at_call 28; refine (empty_any _ _ _ _).mono ?_; rintro e wx ⟨rfl, hgx⟩; obtain ⟨hcx, hfx⟩ := bcell hgx; have hz0 : w.heap.size < wx.heap.size := (by have := hgx.size; (try simp at this); omega)))
    go_ret
    exact ⟨ret_int (by rw [lenI, if_pos (by have := empty_t he; omega)]), by repeat' (first | (with_reducible exact Below.refl _ _) | (with_reducible assumption) | (with_reducible refine kept_alloc ?_ _) | (with_reducible refine kept_drewN ?_ _) | (with_reducible refine Below.drew ?_) | (with_reducible refine Below.setCell ?_ (by first | omega | (simp; omega) | (simp; done)) _) | (refine kept_trans ?_ (by with_reducible assumption)))⟩

theorem full_any (h t m r : Int) (hh : In64 h) (ht : In64 t) (w : World) :
    Calls Try.prog 23 #[.agg #[.int .i64 h, .int .i64 t, .int .i64 m], .int .i64 r] w fun e w' => e = .returned (.bool (fullB h t r)) ∧ Kept w w' := by
  go_enter Try.func23, Try.ntmps23
  go_wp2_with (first | (go_at_call 20; refine (len_any _ _ _ (by omega) (by omega) _).mono ?_; rintro e wx ⟨rfl, hgx⟩; obtain ⟨hcx, hfx⟩ := bcell hgx; have hz0 : w.heap.size < wx.heap.size := (by have := hgx.size; (try simp at this); omega)))
  all_goals (go_ret; exact ⟨ret_bool (by first | (rw [Bool.eq_iff_iff]; simp [fullB]; omega) | (simp [fullB, *]; done) | (simp [fullB, *]; omega) | (simp [fullB, *]; intros; omega)), by repeat' (first | (with_reducible exact Below.refl _ _) | (with_reducible assumption) | (with_reducible refine kept_alloc ?_ _) | (with_reducible refine kept_drewN ?_ _) | (with_reducible refine Below.drew ?_) | (with_reducible refine Below.setCell ?_ (by first | omega | (simp; omega) | (simp; done)) _) | (refine kept_trans ?_ (by with_reducible assumption)))⟩)

theorem check_any (h t m r : Int) (hh : In64 h) (ht : In64 t) (hm : In64 m) (hr : In64 r) (w : World) :
    Calls Try.prog 19 #[.agg #[.int .i64 h, .int .i64 t, .int .i64 m], .int .i64 r] w fun e w' => e = .returned (.bool (checkB h t m r)) ∧ Kept w w' := by
  go_enter Try.func19, Try.ntmps19
  go_wp2_with (first | (go_at_call 20; refine (len_any _ _ _ (by omega) (by omega) _).mono ?_; rintro e wx ⟨rfl, hgx⟩; obtain ⟨hcx, hfx⟩ := bcell hgx; have hz0 : w.heap.size < wx.heap.size := (by have := hgx.size; (try simp at this); omega)) | go_in)
  all_goals (go_ret; exact ⟨ret_bool (by first | (rw [Bool.eq_iff_iff]; simp [checkB]; omega) | (simp [checkB, *]; done) | (simp [checkB, *]; omega) | (simp [checkB, *]; intros; omega)), by repeat' (first | (with_reducible exact Below.refl _ _) | (with_reducible assumption) | (with_reducible refine kept_alloc ?_ _) | (with_reducible refine kept_drewN ?_ _) | (with_reducible refine Below.drew ?_) | (with_reducible refine Below.setCell ?_ (by first | omega | (simp; omega) | (simp; done)) _) | (refine kept_trans ?_ (by with_reducible assumption)))⟩)

/- The document's. -/
theorem rcheck_any (h t m r : Int) (hh : In64 h) (ht : In64 t) (hm : In64 m) (hr : In64 r) (w : World) :
    Calls Try.prog 24 #[.agg #[.int .i64 h, .int .i64 t, .int .i64 m], .int .i64 r] w fun e w' => e = .returned (.bool (rCheckB h t m r)) ∧ Kept w w' := by
  go_enter Try.func24, Try.ntmps24
  go_wp2
  all_goals (go_ret; exact ⟨ret_bool (by first | (rw [Bool.eq_iff_iff]; simp [rCheckB]; omega) | (simp [rCheckB, *]; done) | (simp [rCheckB, *]; omega) | (simp [rCheckB, *]; intros; omega)), by repeat' (first | (with_reducible exact Below.refl _ _) | (with_reducible assumption) | (with_reducible refine kept_alloc ?_ _) | (with_reducible refine kept_drewN ?_ _) | (with_reducible refine Below.drew ?_) | (with_reducible refine Below.setCell ?_ (by first | omega | (simp; omega) | (simp; done)) _) | (refine kept_trans ?_ (by with_reducible assumption)))⟩)

end Go.Proofs.Ytgbjgknnkphfiaa
