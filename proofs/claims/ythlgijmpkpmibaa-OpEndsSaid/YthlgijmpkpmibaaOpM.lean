/- Layer 11: what every statement asks first. -/
import Derived.Test.YthlgijmpkpmibaaOpE
namespace Go.Proofs.Ythlgijmpkpmibaa
set_option linter.unusedVariables false
set_option linter.unusedSimpArgs false
open Go.ChangeShapes Go.WideShapes Go.ChangeAt Go.RowKit
set_option maxHeartbeats 4000000 in
set_option maxRecDepth 100000 in
theorem opawake_any (w : World) : Calls Try.prog 8 #[] w fun e w' => e = .returned (.bool true) ∧ Kept w w' := by
  have a1 : opB 1 = true ∧ opB 8 = true ∧ opB 0 = false ∧ opB 9 = false := by decide
  have a2 : opSide 5 = 2 ∧ opSide 3 = 1 ∧ opSide 8 = 3 ∧ opSide 9 = 0 := by decide
  have a3 : opTimed 3 = true ∧ opTimed 1 = false ∧ opOnce 2 = true ∧ opOnce 3 = false := by decide
  have a4 : opMay 3 true 0 4 = 0 ∧ opMay 3 true 1 4 = 123 ∧ opMay 3 true 1 1 = 0 ∧ opMay 3 true 3 1 = 123 ∧ opMay 3 true 3 9 = 123 ∧ opMay 3 true 2 9 = 190 := by decide
  have a5 : opEnds 7 1 = true ∧ opEnds 7 7 = false ∧ opEnds 1 3 = true ∧ opEnds 1 2 = false ∧ opEnds 9 1 = false := by decide
  obtain ⟨b1, b2, b3, b4⟩ := a1
  obtain ⟨c1, c2, c3, c4⟩ := a2
  obtain ⟨d1, d2, d3, d4⟩ := a3
  obtain ⟨m1, m2, m3, m4, m5, m6⟩ := a4
  obtain ⟨n1, n2, n3, n4, n5⟩ := a5
  go_enter Try.func8, Try.ntmps8
  have hcs : CellsAt (w.alloc (.cells #[.int .i64 0, .int .i64 3, .int .i64 0, .int .i64 0, .int .i64 0, .int .i64 0, .bool true] 23)) [(w.heap.size, 0, .int .i64 0), (w.heap.size, 1, .int .i64 3), (w.heap.size, 2, .int .i64 0), (w.heap.size, 3, .int .i64 0), (w.heap.size, 4, .int .i64 0), (w.heap.size, 5, .int .i64 0), (w.heap.size, 6, .bool true)] := by (simp only [CellsAt]; (repeat' (first | exact trivial | (refine And.intro ?_ ?_))); all_goals (first | (focus ((try simp only [World.size_setCell, World.size_alloc]); omega)) | (repeat (first | rfl | assumption | (refine (World.cell?_alloc_past _ _ _ ?_).trans ?_; focus ((try simp only [World.size_setCell, World.size_alloc]); omega)) | (refine (World.cell?_alloc_at _ _ _ _ ?_).trans ?_; focus ((try simp only [World.size_setCell, World.size_alloc]); done)) | (refine (World.cell?_setCell_other _ _ _ _ ?_).trans ?_; focus (simp; done)) | (refine (World.cell?_setCell_other _ _ _ _ ?_).trans ?_; focus (simp; omega)) | (refine World.cell?_setCell_same' _ _ _ ?_; focus (simp; done))))))
  go_wp2_with (first | (go_at_call 9; refine (ocheck_any _ _).mono ?_; rintro e wx ⟨rfl, hgx⟩; try (have hcs := cells_keep hgx hcs; have hq0 := hcs.1.2; have hq1 := hcs.2.1.2; have hq2 := hcs.2.2.1.2; have hq3 := hcs.2.2.2.1.2; have hq4 := hcs.2.2.2.2.1.2; have hq5 := hcs.2.2.2.2.2.1.2; have hq6 := hcs.2.2.2.2.2.2.1.2; have hz0 := hcs.1.1)) | (go_at_call 11; refine (oside_any _ _).mono ?_; rintro e wx ⟨rfl, hgx⟩; try (have hcs := cells_keep hgx hcs; have hq0 := hcs.1.2; have hq1 := hcs.2.1.2; have hq2 := hcs.2.2.1.2; have hq3 := hcs.2.2.2.1.2; have hq4 := hcs.2.2.2.2.1.2; have hq5 := hcs.2.2.2.2.2.1.2; have hq6 := hcs.2.2.2.2.2.2.1.2; have hz0 := hcs.1.1)) | (go_at_call 13; refine (otimed_any _ _).mono ?_; rintro e wx ⟨rfl, hgx⟩; try (have hcs := cells_keep hgx hcs; have hq0 := hcs.1.2; have hq1 := hcs.2.1.2; have hq2 := hcs.2.2.1.2; have hq3 := hcs.2.2.2.1.2; have hq4 := hcs.2.2.2.2.1.2; have hq5 := hcs.2.2.2.2.2.1.2; have hq6 := hcs.2.2.2.2.2.2.1.2; have hz0 := hcs.1.1)) | (go_at_call 15; refine (oonce_any _ _).mono ?_; rintro e wx ⟨rfl, hgx⟩; try (have hcs := cells_keep hgx hcs; have hq0 := hcs.1.2; have hq1 := hcs.2.1.2; have hq2 := hcs.2.2.1.2; have hq3 := hcs.2.2.2.1.2; have hq4 := hcs.2.2.2.2.1.2; have hq5 := hcs.2.2.2.2.2.1.2; have hq6 := hcs.2.2.2.2.2.2.1.2; have hz0 := hcs.1.1)) | (go_at_call 17; refine (omay_any _ _ _ _ _ _ _ _ _ _).mono ?_; rintro e wx ⟨rfl, hgx⟩; try (have hcs := cells_keep hgx hcs; have hq0 := hcs.1.2; have hq1 := hcs.2.1.2; have hq2 := hcs.2.2.1.2; have hq3 := hcs.2.2.2.1.2; have hq4 := hcs.2.2.2.2.1.2; have hq5 := hcs.2.2.2.2.2.1.2; have hq6 := hcs.2.2.2.2.2.2.1.2; have hz0 := hcs.1.1)) | (go_at_call 19; refine (oends_any _ _ _).mono ?_; rintro e wx ⟨rfl, hgx⟩; try (have hcs := cells_keep hgx hcs; have hq0 := hcs.1.2; have hq1 := hcs.2.1.2; have hq2 := hcs.2.2.1.2; have hq3 := hcs.2.2.2.1.2; have hq4 := hcs.2.2.2.2.1.2; have hq5 := hcs.2.2.2.2.2.1.2; have hq6 := hcs.2.2.2.2.2.2.1.2; have hz0 := hcs.1.1)))
  all_goals (go_ret; exact ⟨rfl, by repeat' (first | (with_reducible exact Below.refl _ _) | (with_reducible assumption) | (with_reducible refine kept_alloc ?_ _) | (with_reducible refine kept_drewN ?_ _) | (with_reducible refine Below.drew ?_) | (with_reducible refine Below.setCell ?_ (by first | omega | (simp; omega) | (simp; done)) _) | (refine kept_trans ?_ (by with_reducible assumption)))⟩)
end Go.Proofs.Ythlgijmpkpmibaa
