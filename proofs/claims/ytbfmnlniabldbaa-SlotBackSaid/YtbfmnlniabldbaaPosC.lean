/- Contracts of layer 1's functions and of the document's: what each call returns, as the plain functions say; what was there is kept. -/
import Derived.Test.YtbfmnlniabldbaaPosF
namespace Go.Proofs.Ytbfmnlniabldbaa
set_option linter.unusedVariables false
set_option linter.unusedSimpArgs false
open Go.ChangeShapes Go.WideShapes Go.ChangeAt Go.RowKit

theorem lies_any (p r : Int) (hp : In64 p) (hr : In64 r) (w : World) :
    Calls Try.prog 32 #[.int .i64 p, .int .i64 r] w fun e w' => e = .returned (.bool (liesB p r)) ∧ Kept w w' := by
  go_enter Try.func32, Try.ntmps32
  go_wp2
  all_goals (go_ret; exact ⟨ret_bool (by first | (rw [Bool.eq_iff_iff]; simp [liesB]; omega) | (simp [liesB, *]; done) | (simp [liesB, *]; omega) | (simp [liesB, *]; intros; omega)), by repeat' (first | (with_reducible exact Below.refl _ _) | (with_reducible assumption) | (with_reducible refine kept_alloc ?_ _) | (with_reducible refine kept_drewN ?_ _) | (with_reducible refine Below.drew ?_) | (with_reducible refine Below.setCell ?_ (by first | omega | (simp; omega) | (simp; done)) _) | (refine kept_trans ?_ (by with_reducible assumption)))⟩)

theorem place_any (p r : Int) (hp : In64 p) (hr : In64 r) (w : World) :
    Calls Try.prog 31 #[.int .i64 p, .int .i64 r] w fun e w' => e = .returned (.int .i64 (placeI p r)) ∧ Kept w w' := by
  cases hl : liesB p r <;> (have hl' := hl; simp [liesB] at hl')
  all_goals
    go_enter Try.func31, Try.ntmps31
    go_wp2_with (go_at_call 32; refine (lies_any _ _ (by omega) (by omega) _).mono ?_; rintro e wx ⟨rfl, hgx⟩)
    all_goals (go_ret; exact ⟨ret_int (by first | (simp [placeI, *]; done) | (simp [placeI, *]; omega) | (simp [placeI, *]; intros; omega)), by repeat' (first | (with_reducible exact Below.refl _ _) | (with_reducible assumption) | (with_reducible refine kept_alloc ?_ _) | (with_reducible refine kept_drewN ?_ _) | (with_reducible refine Below.drew ?_) | (with_reducible refine Below.setCell ?_ (by first | omega | (simp; omega) | (simp; done)) _) | (refine kept_trans ?_ (by with_reducible assumption)))⟩)

/- The document's. -/
theorem rplace_any (p r : Int) (hp : In64 p) (hr : In64 r) (w : World) :
    Calls Try.prog 28 #[.int .i64 p, .int .i64 r] w fun e w' => e = .returned (.int .i64 (rPlaceI p r)) ∧ Kept w w' := by
  by_cases hc : p < 0 ∨ r < 1
  · go_enter Try.func28, Try.ntmps28
    go_wp2
    all_goals (go_ret; exact ⟨ret_int (by rw [rPlaceI, if_pos hc]), by repeat' (first | (with_reducible exact Below.refl _ _) | (with_reducible assumption) | (with_reducible refine kept_alloc ?_ _) | (with_reducible refine kept_drewN ?_ _) | (with_reducible refine Below.drew ?_) | (with_reducible refine Below.setCell ?_ (by first | omega | (simp; omega) | (simp; done)) _) | (refine kept_trans ?_ (by with_reducible assumption)))⟩)
  · have h1 : 0 ≤ p / r := Int.ediv_nonneg (by omega) (by omega)
    have h2 : p / r ≤ p := Int.ediv_le_self _ (by omega)
    have h3 : p / r * r ≤ p := Int.ediv_mul_le _ (by omega)
    have h4 : 0 ≤ p / r * r := Int.mul_nonneg h1 (by omega)
    have h5 : ¬ p < 0 := by omega
    have h6 : ¬ r < 1 := by omega
    go_enter Try.func28, Try.ntmps28
    go_wp2
    all_goals (go_ret; exact ⟨ret_int (by rw [rPlaceI, if_neg (by omega)]), by repeat' (first | (with_reducible exact Below.refl _ _) | (with_reducible assumption) | (with_reducible refine kept_alloc ?_ _) | (with_reducible refine kept_drewN ?_ _) | (with_reducible refine Below.drew ?_) | (with_reducible refine Below.setCell ?_ (by first | omega | (simp; omega) | (simp; done)) _) | (refine kept_trans ?_ (by with_reducible assumption)))⟩)

end Go.Proofs.Ytbfmnlniabldbaa
