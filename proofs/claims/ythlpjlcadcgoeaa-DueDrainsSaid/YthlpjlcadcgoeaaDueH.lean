/- Layer 4: contracts of what only compares (ahead, inTime, ofThread), and of what copies. -/
import Derived.Test.YthlpjlcadcgoeaaDueG
import Derived.Test.YthlpjlcadcgoeaaApp
namespace Go.Proofs.Ythlpjlcadcgoeaa
set_option linter.unusedVariables false
set_option linter.unusedSimpArgs false
open Go.ChangeShapes Go.WideShapes Go.ChangeAt Go.RowKit

theorem dah_any (a b : Du) (w : World) : Calls Try.prog 23 #[.agg #[.int .i64 a.tm, .int .i64 a.id], .agg #[.int .i64 b.tm, .int .i64 b.id]] w fun e w' => e = .returned (.bool (dahB a b)) ∧ Kept w w' := by
  go_enter Try.func23, Try.ntmps23
  go_wp2
  all_goals (go_ret; exact ⟨ret_bool (by first | (rw [Bool.eq_iff_iff]; simp [dahB]; omega) | (simp [dahB, *]; done) | (simp [dahB, *]; omega) | (simp [dahB, *]; intros; omega)), by repeat' (first | (with_reducible exact Below.refl _ _) | (with_reducible assumption) | (with_reducible refine kept_alloc ?_ _) | (with_reducible refine kept_drewN ?_ _) | (with_reducible refine Below.drew ?_) | (with_reducible refine Below.setCell ?_ (by first | omega | (simp; omega) | (simp; done)) _) | (refine kept_trans ?_ (by with_reducible assumption)))⟩)
theorem inTime_any (a : Du) (w : World) : Calls Try.prog 18 #[.agg #[.int .i64 a.tm, .int .i64 a.id]] w fun e w' => e = .returned (.bool (inTB a)) ∧ Kept w w' := by
  go_enter Try.func18, Try.ntmps18
  go_wp2
  all_goals (go_ret; exact ⟨ret_bool (by first | (rw [Bool.eq_iff_iff]; simp [inTB]; omega) | (simp [inTB, *]; done) | (simp [inTB, *]; omega) | (simp [inTB, *]; intros; omega)), by repeat' (first | (with_reducible exact Below.refl _ _) | (with_reducible assumption) | (with_reducible refine kept_alloc ?_ _) | (with_reducible refine kept_drewN ?_ _) | (with_reducible refine Below.drew ?_) | (with_reducible refine Below.setCell ?_ (by first | omega | (simp; omega) | (simp; done)) _) | (refine kept_trans ?_ (by with_reducible assumption)))⟩)
theorem ofThread_any (a : Du) (w : World) : Calls Try.prog 19 #[.agg #[.int .i64 a.tm, .int .i64 a.id]] w fun e w' => e = .returned (.bool (ofTB a)) ∧ Kept w w' := by
  go_enter Try.func19, Try.ntmps19
  go_wp2
  all_goals (go_ret; exact ⟨ret_bool (by first | (rw [Bool.eq_iff_iff]; simp [ofTB]; omega) | (simp [ofTB, *]; done) | (simp [ofTB, *]; omega) | (simp [ofTB, *]; intros; omega)), by repeat' (first | (with_reducible exact Below.refl _ _) | (with_reducible assumption) | (with_reducible refine kept_alloc ?_ _) | (with_reducible refine kept_drewN ?_ _) | (with_reducible refine Below.drew ?_) | (with_reducible refine Below.setCell ?_ (by first | omega | (simp; omega) | (simp; done)) _) | (refine kept_trans ?_ (by with_reducible assumption)))⟩)
end Go.Proofs.Ythlpjlcadcgoeaa
