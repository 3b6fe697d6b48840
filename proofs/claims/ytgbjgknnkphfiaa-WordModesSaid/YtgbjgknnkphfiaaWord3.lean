/- Layer 8: WordModes holds for every input. -/
import Derived.Test.YtgbjgknnkphfiaaWord1
import Derived.Test.YtgbjgknnkphfiaaWordG
namespace Go.Proofs.Ytgbjgknnkphfiaa
set_option linter.unusedVariables false
set_option linter.unusedSimpArgs false
open Go.ChangeShapes Go.WideShapes Go.ChangeAt Go.RowKit
set_option maxHeartbeats 4000000 in
set_option maxRecDepth 100000 in
theorem wordModes_walk (x0 x1 x2 : Int) (hx0 : In64 x0) (hx1 : In64 x1) (hx2 : In64 x2) (r : Int) (hr : In64 r) (y : Int) (hy : In64 y) (z : Int) (hz : In64 z) (w : World) :
    Calls Try.prog 6 #[.agg #[.int .i64 x0, .int .i64 x1, .int .i64 x2], .int .i64 r, .int .i64 y, .int .i64 z] w fun e w' => e = .returned (.bool true) ∧ Kept w w' := by
  have g1 := cl_ge x2 y
  have g2 := cl_swap x2 y z
  have g3 := ac_closed x0 x1 x2 r
  have g4 := @tk_halted x0 x1 x2 r
  have b1 := cl_in (m := x2) (d := y) (by omega) (by omega)
  have b2 := cl_in (m := x2) (d := z) (by omega) (by omega)
  have b3 := cl_in (m := x2) (d := 1) (by omega) (by decide)
  have b4 := cl_in (m := x2) (d := 2) (by omega) (by decide)
  obtain ⟨cA, hcA⟩ : ∃ v, clM x2 y = v := ⟨_, rfl⟩
  obtain ⟨cB, hcB⟩ : ∃ v, clM x2 z = v := ⟨_, rfl⟩
  obtain ⟨c1, hc1⟩ : ∃ v, clM x2 1 = v := ⟨_, rfl⟩
  obtain ⟨c2, hc2⟩ : ∃ v, clM x2 2 = v := ⟨_, rfl⟩
  rw [hcA] at g1 g2 b1
  rw [hcB] at g2 b2
  rw [hc1] at g3 b3
  rw [hc2] at g4 b4
  obtain ⟨cC, hcC⟩ : ∃ v, clM cA z = v := ⟨_, rfl⟩
  rw [hcC] at g2
  obtain ⟨aT, haT⟩ : ∃ v, acT x0 x1 c1 r = v := ⟨_, rfl⟩
  obtain ⟨aP, haP⟩ : ∃ v, acP x0 x1 c1 r = v := ⟨_, rfl⟩
  obtain ⟨aR, haR⟩ : ∃ v, acR x0 x1 c1 r = v := ⟨_, rfl⟩
  obtain ⟨tH, htH⟩ : ∃ v, tkH x0 x1 c2 r = v := ⟨_, rfl⟩
  obtain ⟨tP, htP⟩ : ∃ v, tkP x0 x1 c2 r = v := ⟨_, rfl⟩
  obtain ⟨tR, htR⟩ : ∃ v, tkR x0 x1 c2 r = v := ⟨_, rfl⟩
  rw [haR] at g3
  rw [htR] at g4
  have HV := Lib.hid (And.intro hcA (And.intro hcC (And.intro hcB (And.intro g2.symm (And.intro hc1 (And.intro hc2 (And.intro haT (And.intro haP (And.intro haR (And.intro htH (And.intro htP htR)))))))))))
  have k1 : decide (x2 ≤ cA) = true := by simpa using g1
  have k2 : (aR != 1) = true := by simpa using g3.1
  have k3 : (aR != 2) = true := by simpa using g3.2
  have k4 : ∀ b, decide (2 < x2) = b → b = false → tR = 7 := fun b h h' => g4 (by subst h'; simpa using h)
  have K4 := Lib.hid k4
  clear g1 g2 g3 g4 hcA hcB hc1 hc2 hcC haT haP haR htH htP htR k4
  go_enter Try.func6, Try.ntmps6
  go_wp2_with fail; refine (wordawake_any _).mono ?_; rintro e v0 ⟨rfl, hv0⟩
  have hcs : CellsAt v0 [(w.heap.size, 0, .int .i64 (x0)), (w.heap.size, 1, .int .i64 (x1)), (w.heap.size, 2, .int .i64 (x2))] := cells_keep hv0 (by (simp only [CellsAt]; (repeat' (first | exact trivial | (refine And.intro ?_ ?_))); all_goals (first | (focus ((try simp only [World.size_setCell, World.size_alloc]); omega)) | (repeat (first | rfl | assumption | (refine (World.cell?_alloc_past _ _ _ ?_).trans ?_; focus ((try simp only [World.size_setCell, World.size_alloc]); omega)) | (refine (World.cell?_alloc_at _ _ _ _ ?_).trans ?_; focus ((try simp only [World.size_setCell, World.size_alloc]); done)) | (refine (World.cell?_setCell_other _ _ _ _ ?_).trans ?_; focus (simp; done)) | (refine (World.cell?_setCell_other _ _ _ _ ?_).trans ?_; focus (simp; omega)) | (refine World.cell?_setCell_same' _ _ _ ?_; focus (simp; done)))))))
  ((try clear hz0); (try clear hz1); (try clear hz2); (try clear hz3); (try clear hz4); (try clear hz5); (try clear hz6); (try clear hq0 hq1 hq2); (try clear hq3 hq4 hq5); (try clear hq6 hq7 hq8); (try clear hq9 hq10 hq11); (try clear hq12 hq13 hq14); (try clear hq15 hq16 hq17); (try clear hq18 hq19 hq20))
  have hq0 := hcs.1.2; have hq1 := hcs.2.1.2; have hq2 := hcs.2.2.1.2; have hz0 := hcs.1.1
  go_wp2_with fail; refine (wclose_val HV.out.1 (by omega) (by omega) _).mono ?_; rintro e v1 ⟨rfl, hv1⟩
  have hcs : CellsAt v1 [(w.heap.size, 0, .int .i64 (x0)), (w.heap.size, 1, .int .i64 (x1)), (w.heap.size, 2, .int .i64 (x2))] := cells_keep hv1 (by (simp only [CellsAt]; (repeat' (first | exact trivial | (refine And.intro ?_ ?_))); all_goals (first | (focus ((try simp only [World.size_setCell, World.size_alloc]); omega)) | (repeat (first | rfl | assumption | (refine (World.cell?_alloc_past _ _ _ ?_).trans ?_; focus ((try simp only [World.size_setCell, World.size_alloc]); omega)) | (refine (World.cell?_alloc_at _ _ _ _ ?_).trans ?_; focus ((try simp only [World.size_setCell, World.size_alloc]); done)) | (refine (World.cell?_setCell_other _ _ _ _ ?_).trans ?_; focus (simp; done)) | (refine (World.cell?_setCell_other _ _ _ _ ?_).trans ?_; focus (simp; omega)) | (refine World.cell?_setCell_same' _ _ _ ?_; focus (simp; done)))))))
  ((try clear hz0); (try clear hz1); (try clear hz2); (try clear hz3); (try clear hz4); (try clear hz5); (try clear hz6); (try clear hq0 hq1 hq2); (try clear hq3 hq4 hq5); (try clear hq6 hq7 hq8); (try clear hq9 hq10 hq11); (try clear hq12 hq13 hq14); (try clear hq15 hq16 hq17); (try clear hq18 hq19 hq20))
  have hq0 := hcs.1.2; have hq1 := hcs.2.1.2; have hq2 := hcs.2.2.1.2; have hz0 := hcs.1.1
  go_wp2_with fail; refine (wclose_val HV.out.2.1 (by omega) (by omega) _).mono ?_; rintro e v2 ⟨rfl, hv2⟩
  have hcs : CellsAt v2 [(w.heap.size, 0, .int .i64 (x0)), (w.heap.size, 1, .int .i64 (x1)), (w.heap.size, 2, .int .i64 (x2)), (v1.heap.size, 0, .int .i64 (x0)), (v1.heap.size, 1, .int .i64 (x1)), (v1.heap.size, 2, .int .i64 (cA))] := cells_keep hv2 (by (simp only [CellsAt]; (repeat' (first | exact trivial | (refine And.intro ?_ ?_))); all_goals (first | (focus ((try simp only [World.size_setCell, World.size_alloc]); omega)) | (repeat (first | rfl | assumption | (refine (World.cell?_alloc_past _ _ _ ?_).trans ?_; focus ((try simp only [World.size_setCell, World.size_alloc]); omega)) | (refine (World.cell?_alloc_at _ _ _ _ ?_).trans ?_; focus ((try simp only [World.size_setCell, World.size_alloc]); done)) | (refine (World.cell?_setCell_other _ _ _ _ ?_).trans ?_; focus (simp; done)) | (refine (World.cell?_setCell_other _ _ _ _ ?_).trans ?_; focus (simp; omega)) | (refine World.cell?_setCell_same' _ _ _ ?_; focus (simp; done)))))))
  ((try clear hz0); (try clear hz1); (try clear hz2); (try clear hz3); (try clear hz4); (try clear hz5); (try clear hz6); (try clear hq0 hq1 hq2); (try clear hq3 hq4 hq5); (try clear hq6 hq7 hq8); (try clear hq9 hq10 hq11); (try clear hq12 hq13 hq14); (try clear hq15 hq16 hq17); (try clear hq18 hq19 hq20))
  have hq0 := hcs.1.2; have hq1 := hcs.2.1.2; have hq2 := hcs.2.2.1.2; have hq3 := hcs.2.2.2.1.2; have hq4 := hcs.2.2.2.2.1.2; have hq5 := hcs.2.2.2.2.2.1.2; have hz0 := hcs.1.1; have hz1 := hcs.2.2.2.1.1
  go_wp2_with fail; refine (wclose_val HV.out.2.2.1 (by omega) (by omega) _).mono ?_; rintro e v3 ⟨rfl, hv3⟩
  have hcs : CellsAt v3 [(w.heap.size, 0, .int .i64 (x0)), (w.heap.size, 1, .int .i64 (x1)), (w.heap.size, 2, .int .i64 (x2)), (v1.heap.size, 0, .int .i64 (x0)), (v1.heap.size, 1, .int .i64 (x1)), (v1.heap.size, 2, .int .i64 (cA)), (v2.heap.size, 0, .int .i64 (x0)), (v2.heap.size, 1, .int .i64 (x1)), (v2.heap.size, 2, .int .i64 (cC))] := cells_keep hv3 (by (simp only [CellsAt]; (repeat' (first | exact trivial | (refine And.intro ?_ ?_))); all_goals (first | (focus ((try simp only [World.size_setCell, World.size_alloc]); omega)) | (repeat (first | rfl | assumption | (refine (World.cell?_alloc_past _ _ _ ?_).trans ?_; focus ((try simp only [World.size_setCell, World.size_alloc]); omega)) | (refine (World.cell?_alloc_at _ _ _ _ ?_).trans ?_; focus ((try simp only [World.size_setCell, World.size_alloc]); done)) | (refine (World.cell?_setCell_other _ _ _ _ ?_).trans ?_; focus (simp; done)) | (refine (World.cell?_setCell_other _ _ _ _ ?_).trans ?_; focus (simp; omega)) | (refine World.cell?_setCell_same' _ _ _ ?_; focus (simp; done)))))))
  ((try clear hz0); (try clear hz1); (try clear hz2); (try clear hz3); (try clear hz4); (try clear hz5); (try clear hz6); (try clear hq0 hq1 hq2); (try clear hq3 hq4 hq5); (try clear hq6 hq7 hq8); (try clear hq9 hq10 hq11); (try clear hq12 hq13 hq14); (try clear hq15 hq16 hq17); (try clear hq18 hq19 hq20))
  have hq0 := hcs.1.2; have hq1 := hcs.2.1.2; have hq2 := hcs.2.2.1.2; have hq3 := hcs.2.2.2.1.2; have hq4 := hcs.2.2.2.2.1.2; have hq5 := hcs.2.2.2.2.2.1.2; have hq6 := hcs.2.2.2.2.2.2.1.2; have hq7 := hcs.2.2.2.2.2.2.2.1.2; have hq8 := hcs.2.2.2.2.2.2.2.2.1.2; have hz0 := hcs.1.1; have hz1 := hcs.2.2.2.1.1; have hz2 := hcs.2.2.2.2.2.2.1.1
  go_wp2_with fail; refine (wclose_val HV.out.2.2.2.1 (by omega) (by omega) _).mono ?_; rintro e v4 ⟨rfl, hv4⟩
  have hcs : CellsAt v4 [(w.heap.size, 0, .int .i64 (x0)), (w.heap.size, 1, .int .i64 (x1)), (w.heap.size, 2, .int .i64 (x2)), (v1.heap.size, 0, .int .i64 (x0)), (v1.heap.size, 1, .int .i64 (x1)), (v1.heap.size, 2, .int .i64 (cA)), (v2.heap.size, 0, .int .i64 (x0)), (v2.heap.size, 1, .int .i64 (x1)), (v2.heap.size, 2, .int .i64 (cC))] := cells_keep hv4 (by (simp only [CellsAt]; (repeat' (first | exact trivial | (refine And.intro ?_ ?_))); all_goals (first | (focus ((try simp only [World.size_setCell, World.size_alloc]); omega)) | (repeat (first | rfl | assumption | (refine (World.cell?_alloc_past _ _ _ ?_).trans ?_; focus ((try simp only [World.size_setCell, World.size_alloc]); omega)) | (refine (World.cell?_alloc_at _ _ _ _ ?_).trans ?_; focus ((try simp only [World.size_setCell, World.size_alloc]); done)) | (refine (World.cell?_setCell_other _ _ _ _ ?_).trans ?_; focus (simp; done)) | (refine (World.cell?_setCell_other _ _ _ _ ?_).trans ?_; focus (simp; omega)) | (refine World.cell?_setCell_same' _ _ _ ?_; focus (simp; done)))))))
  ((try clear hz0); (try clear hz1); (try clear hz2); (try clear hz3); (try clear hz4); (try clear hz5); (try clear hz6); (try clear hq0 hq1 hq2); (try clear hq3 hq4 hq5); (try clear hq6 hq7 hq8); (try clear hq9 hq10 hq11); (try clear hq12 hq13 hq14); (try clear hq15 hq16 hq17); (try clear hq18 hq19 hq20))
  have hq0 := hcs.1.2; have hq1 := hcs.2.1.2; have hq2 := hcs.2.2.1.2; have hq3 := hcs.2.2.2.1.2; have hq4 := hcs.2.2.2.2.1.2; have hq5 := hcs.2.2.2.2.2.1.2; have hq6 := hcs.2.2.2.2.2.2.1.2; have hq7 := hcs.2.2.2.2.2.2.2.1.2; have hq8 := hcs.2.2.2.2.2.2.2.2.1.2; have hz0 := hcs.1.1; have hz1 := hcs.2.2.2.1.1; have hz2 := hcs.2.2.2.2.2.2.1.1
  go_wp2_with fail; refine (wclose_val HV.out.2.2.2.2.1 (by omega) (by decide) _).mono ?_; rintro e v5 ⟨rfl, hv5⟩
  have hcs : CellsAt v5 [(w.heap.size, 0, .int .i64 (x0)), (w.heap.size, 1, .int .i64 (x1)), (w.heap.size, 2, .int .i64 (x2)), (v1.heap.size, 0, .int .i64 (x0)), (v1.heap.size, 1, .int .i64 (x1)), (v1.heap.size, 2, .int .i64 (cA)), (v2.heap.size, 0, .int .i64 (x0)), (v2.heap.size, 1, .int .i64 (x1)), (v2.heap.size, 2, .int .i64 (cC)), (v4.heap.size, 0, .int .i64 (x0)), (v4.heap.size, 1, .int .i64 (x1)), (v4.heap.size, 2, .int .i64 (cC))] := cells_keep hv5 (by (simp only [CellsAt]; (repeat' (first | exact trivial | (refine And.intro ?_ ?_))); all_goals (first | (focus ((try simp only [World.size_setCell, World.size_alloc]); omega)) | (repeat (first | rfl | assumption | (refine (World.cell?_alloc_past _ _ _ ?_).trans ?_; focus ((try simp only [World.size_setCell, World.size_alloc]); omega)) | (refine (World.cell?_alloc_at _ _ _ _ ?_).trans ?_; focus ((try simp only [World.size_setCell, World.size_alloc]); done)) | (refine (World.cell?_setCell_other _ _ _ _ ?_).trans ?_; focus (simp; done)) | (refine (World.cell?_setCell_other _ _ _ _ ?_).trans ?_; focus (simp; omega)) | (refine World.cell?_setCell_same' _ _ _ ?_; focus (simp; done)))))))
  ((try clear hz0); (try clear hz1); (try clear hz2); (try clear hz3); (try clear hz4); (try clear hz5); (try clear hz6); (try clear hq0 hq1 hq2); (try clear hq3 hq4 hq5); (try clear hq6 hq7 hq8); (try clear hq9 hq10 hq11); (try clear hq12 hq13 hq14); (try clear hq15 hq16 hq17); (try clear hq18 hq19 hq20))
  have hq0 := hcs.1.2; have hq1 := hcs.2.1.2; have hq2 := hcs.2.2.1.2; have hq3 := hcs.2.2.2.1.2; have hq4 := hcs.2.2.2.2.1.2; have hq5 := hcs.2.2.2.2.2.1.2; have hq6 := hcs.2.2.2.2.2.2.1.2; have hq7 := hcs.2.2.2.2.2.2.2.1.2; have hq8 := hcs.2.2.2.2.2.2.2.2.1.2; have hq9 := hcs.2.2.2.2.2.2.2.2.2.1.2; have hq10 := hcs.2.2.2.2.2.2.2.2.2.2.1.2; have hq11 := hcs.2.2.2.2.2.2.2.2.2.2.2.1.2; have hz0 := hcs.1.1; have hz1 := hcs.2.2.2.1.1; have hz2 := hcs.2.2.2.2.2.2.1.1; have hz3 := hcs.2.2.2.2.2.2.2.2.2.1.1
  go_wp2_with fail; refine (wclose_val HV.out.2.2.2.2.2.1 (by omega) (by decide) _).mono ?_; rintro e v6 ⟨rfl, hv6⟩
  have hcs : CellsAt v6 [(w.heap.size, 0, .int .i64 (x0)), (w.heap.size, 1, .int .i64 (x1)), (w.heap.size, 2, .int .i64 (x2)), (v1.heap.size, 0, .int .i64 (x0)), (v1.heap.size, 1, .int .i64 (x1)), (v1.heap.size, 2, .int .i64 (cA)), (v2.heap.size, 0, .int .i64 (x0)), (v2.heap.size, 1, .int .i64 (x1)), (v2.heap.size, 2, .int .i64 (cC)), (v4.heap.size, 0, .int .i64 (x0)), (v4.heap.size, 1, .int .i64 (x1)), (v4.heap.size, 2, .int .i64 (cC)), (v5.heap.size, 0, .int .i64 (x0)), (v5.heap.size, 1, .int .i64 (x1)), (v5.heap.size, 2, .int .i64 (c1))] := cells_keep hv6 (by (simp only [CellsAt]; (repeat' (first | exact trivial | (refine And.intro ?_ ?_))); all_goals (first | (focus ((try simp only [World.size_setCell, World.size_alloc]); omega)) | (repeat (first | rfl | assumption | (refine (World.cell?_alloc_past _ _ _ ?_).trans ?_; focus ((try simp only [World.size_setCell, World.size_alloc]); omega)) | (refine (World.cell?_alloc_at _ _ _ _ ?_).trans ?_; focus ((try simp only [World.size_setCell, World.size_alloc]); done)) | (refine (World.cell?_setCell_other _ _ _ _ ?_).trans ?_; focus (simp; done)) | (refine (World.cell?_setCell_other _ _ _ _ ?_).trans ?_; focus (simp; omega)) | (refine World.cell?_setCell_same' _ _ _ ?_; focus (simp; done)))))))
  ((try clear hz0); (try clear hz1); (try clear hz2); (try clear hz3); (try clear hz4); (try clear hz5); (try clear hz6); (try clear hq0 hq1 hq2); (try clear hq3 hq4 hq5); (try clear hq6 hq7 hq8); (try clear hq9 hq10 hq11); (try clear hq12 hq13 hq14); (try clear hq15 hq16 hq17); (try clear hq18 hq19 hq20))
  have hq0 := hcs.1.2; have hq1 := hcs.2.1.2; have hq2 := hcs.2.2.1.2; have hq3 := hcs.2.2.2.1.2; have hq4 := hcs.2.2.2.2.1.2; have hq5 := hcs.2.2.2.2.2.1.2; have hq6 := hcs.2.2.2.2.2.2.1.2; have hq7 := hcs.2.2.2.2.2.2.2.1.2; have hq8 := hcs.2.2.2.2.2.2.2.2.1.2; have hq9 := hcs.2.2.2.2.2.2.2.2.2.1.2; have hq10 := hcs.2.2.2.2.2.2.2.2.2.2.1.2; have hq11 := hcs.2.2.2.2.2.2.2.2.2.2.2.1.2; have hq12 := hcs.2.2.2.2.2.2.2.2.2.2.2.2.1.2; have hq13 := hcs.2.2.2.2.2.2.2.2.2.2.2.2.2.1.2; have hq14 := hcs.2.2.2.2.2.2.2.2.2.2.2.2.2.2.1.2; have hz0 := hcs.1.1; have hz1 := hcs.2.2.2.1.1; have hz2 := hcs.2.2.2.2.2.2.1.1; have hz3 := hcs.2.2.2.2.2.2.2.2.2.1.1; have hz4 := hcs.2.2.2.2.2.2.2.2.2.2.2.2.1.1
  go_wp2_with fail; refine (waccept_val HV.out.2.2.2.2.2.2.1 HV.out.2.2.2.2.2.2.2.1 HV.out.2.2.2.2.2.2.2.2.1 (by omega) (by omega) (by omega) (by omega) _).mono ?_; rintro e v7 ⟨rfl, hv7⟩
  have hcs : CellsAt v7 [(w.heap.size, 0, .int .i64 (x0)), (w.heap.size, 1, .int .i64 (x1)), (w.heap.size, 2, .int .i64 (x2)), (v1.heap.size, 0, .int .i64 (x0)), (v1.heap.size, 1, .int .i64 (x1)), (v1.heap.size, 2, .int .i64 (cA)), (v2.heap.size, 0, .int .i64 (x0)), (v2.heap.size, 1, .int .i64 (x1)), (v2.heap.size, 2, .int .i64 (cC)), (v4.heap.size, 0, .int .i64 (x0)), (v4.heap.size, 1, .int .i64 (x1)), (v4.heap.size, 2, .int .i64 (cC)), (v5.heap.size, 0, .int .i64 (x0)), (v5.heap.size, 1, .int .i64 (x1)), (v5.heap.size, 2, .int .i64 (c1)), (v6.heap.size, 0, .int .i64 (x0)), (v6.heap.size, 1, .int .i64 (x1)), (v6.heap.size, 2, .int .i64 (c2))] := cells_keep hv7 (by (simp only [CellsAt]; (repeat' (first | exact trivial | (refine And.intro ?_ ?_))); all_goals (first | (focus ((try simp only [World.size_setCell, World.size_alloc]); omega)) | (repeat (first | rfl | assumption | (refine (World.cell?_alloc_past _ _ _ ?_).trans ?_; focus ((try simp only [World.size_setCell, World.size_alloc]); omega)) | (refine (World.cell?_alloc_at _ _ _ _ ?_).trans ?_; focus ((try simp only [World.size_setCell, World.size_alloc]); done)) | (refine (World.cell?_setCell_other _ _ _ _ ?_).trans ?_; focus (simp; done)) | (refine (World.cell?_setCell_other _ _ _ _ ?_).trans ?_; focus (simp; omega)) | (refine World.cell?_setCell_same' _ _ _ ?_; focus (simp; done)))))))
  ((try clear hz0); (try clear hz1); (try clear hz2); (try clear hz3); (try clear hz4); (try clear hz5); (try clear hz6); (try clear hq0 hq1 hq2); (try clear hq3 hq4 hq5); (try clear hq6 hq7 hq8); (try clear hq9 hq10 hq11); (try clear hq12 hq13 hq14); (try clear hq15 hq16 hq17); (try clear hq18 hq19 hq20))
  have hq0 := hcs.1.2; have hq1 := hcs.2.1.2; have hq2 := hcs.2.2.1.2; have hq3 := hcs.2.2.2.1.2; have hq4 := hcs.2.2.2.2.1.2; have hq5 := hcs.2.2.2.2.2.1.2; have hq6 := hcs.2.2.2.2.2.2.1.2; have hq7 := hcs.2.2.2.2.2.2.2.1.2; have hq8 := hcs.2.2.2.2.2.2.2.2.1.2; have hq9 := hcs.2.2.2.2.2.2.2.2.2.1.2; have hq10 := hcs.2.2.2.2.2.2.2.2.2.2.1.2; have hq11 := hcs.2.2.2.2.2.2.2.2.2.2.2.1.2; have hq12 := hcs.2.2.2.2.2.2.2.2.2.2.2.2.1.2; have hq13 := hcs.2.2.2.2.2.2.2.2.2.2.2.2.2.1.2; have hq14 := hcs.2.2.2.2.2.2.2.2.2.2.2.2.2.2.1.2; have hq15 := hcs.2.2.2.2.2.2.2.2.2.2.2.2.2.2.2.1.2; have hq16 := hcs.2.2.2.2.2.2.2.2.2.2.2.2.2.2.2.2.1.2; have hq17 := hcs.2.2.2.2.2.2.2.2.2.2.2.2.2.2.2.2.2.1.2; have hz0 := hcs.1.1; have hz1 := hcs.2.2.2.1.1; have hz2 := hcs.2.2.2.2.2.2.1.1; have hz3 := hcs.2.2.2.2.2.2.2.2.2.1.1; have hz4 := hcs.2.2.2.2.2.2.2.2.2.2.2.2.1.1; have hz5 := hcs.2.2.2.2.2.2.2.2.2.2.2.2.2.2.2.1.1
  go_wp2_with fail; refine (wtake_val HV.out.2.2.2.2.2.2.2.2.2.1 HV.out.2.2.2.2.2.2.2.2.2.2.1 HV.out.2.2.2.2.2.2.2.2.2.2.2 (by omega) (by omega) (by omega) (by omega) _).mono ?_; rintro e v8 ⟨rfl, hv8⟩
  have hcs : CellsAt v8 [(w.heap.size, 0, .int .i64 (x0)), (w.heap.size, 1, .int .i64 (x1)), (w.heap.size, 2, .int .i64 (x2)), (v1.heap.size, 0, .int .i64 (x0)), (v1.heap.size, 1, .int .i64 (x1)), (v1.heap.size, 2, .int .i64 (cA)), (v2.heap.size, 0, .int .i64 (x0)), (v2.heap.size, 1, .int .i64 (x1)), (v2.heap.size, 2, .int .i64 (cC)), (v4.heap.size, 0, .int .i64 (x0)), (v4.heap.size, 1, .int .i64 (x1)), (v4.heap.size, 2, .int .i64 (cC)), (v5.heap.size, 0, .int .i64 (x0)), (v5.heap.size, 1, .int .i64 (x1)), (v5.heap.size, 2, .int .i64 (c1)), (v6.heap.size, 0, .int .i64 (x0)), (v6.heap.size, 1, .int .i64 (x1)), (v6.heap.size, 2, .int .i64 (c2))] := cells_keep hv8 (by (simp only [CellsAt]; (repeat' (first | exact trivial | (refine And.intro ?_ ?_))); all_goals (first | (focus ((try simp only [World.size_setCell, World.size_alloc]); omega)) | (repeat (first | rfl | assumption | (refine (World.cell?_alloc_past _ _ _ ?_).trans ?_; focus ((try simp only [World.size_setCell, World.size_alloc]); omega)) | (refine (World.cell?_alloc_at _ _ _ _ ?_).trans ?_; focus ((try simp only [World.size_setCell, World.size_alloc]); done)) | (refine (World.cell?_setCell_other _ _ _ _ ?_).trans ?_; focus (simp; done)) | (refine (World.cell?_setCell_other _ _ _ _ ?_).trans ?_; focus (simp; omega)) | (refine World.cell?_setCell_same' _ _ _ ?_; focus (simp; done)))))))
  ((try clear hz0); (try clear hz1); (try clear hz2); (try clear hz3); (try clear hz4); (try clear hz5); (try clear hz6); (try clear hq0 hq1 hq2); (try clear hq3 hq4 hq5); (try clear hq6 hq7 hq8); (try clear hq9 hq10 hq11); (try clear hq12 hq13 hq14); (try clear hq15 hq16 hq17); (try clear hq18 hq19 hq20))
  have hq0 := hcs.1.2; have hq1 := hcs.2.1.2; have hq2 := hcs.2.2.1.2; have hq3 := hcs.2.2.2.1.2; have hq4 := hcs.2.2.2.2.1.2; have hq5 := hcs.2.2.2.2.2.1.2; have hq6 := hcs.2.2.2.2.2.2.1.2; have hq7 := hcs.2.2.2.2.2.2.2.1.2; have hq8 := hcs.2.2.2.2.2.2.2.2.1.2; have hq9 := hcs.2.2.2.2.2.2.2.2.2.1.2; have hq10 := hcs.2.2.2.2.2.2.2.2.2.2.1.2; have hq11 := hcs.2.2.2.2.2.2.2.2.2.2.2.1.2; have hq12 := hcs.2.2.2.2.2.2.2.2.2.2.2.2.1.2; have hq13 := hcs.2.2.2.2.2.2.2.2.2.2.2.2.2.1.2; have hq14 := hcs.2.2.2.2.2.2.2.2.2.2.2.2.2.2.1.2; have hq15 := hcs.2.2.2.2.2.2.2.2.2.2.2.2.2.2.2.1.2; have hq16 := hcs.2.2.2.2.2.2.2.2.2.2.2.2.2.2.2.2.1.2; have hq17 := hcs.2.2.2.2.2.2.2.2.2.2.2.2.2.2.2.2.2.1.2; have hz0 := hcs.1.1; have hz1 := hcs.2.2.2.1.1; have hz2 := hcs.2.2.2.2.2.2.1.1; have hz3 := hcs.2.2.2.2.2.2.2.2.2.1.1; have hz4 := hcs.2.2.2.2.2.2.2.2.2.2.2.2.1.1; have hz5 := hcs.2.2.2.2.2.2.2.2.2.2.2.2.2.2.2.1.1
  have hB : Below w.heap.size w v8 := by repeat' (first | (with_reducible exact Below.refl _ _) | (with_reducible assumption) | (with_reducible refine kept_alloc ?_ _) | (with_reducible refine kept_drewN ?_ _) | (with_reducible refine Below.drew ?_) | (with_reducible refine Below.setCell ?_ (by first | omega | (simp; omega) | (simp; done)) _) | (refine kept_trans ?_ (by with_reducible assumption)))
  clear hv0 hv1 hv2 hv3 hv4 hv5 hv6 hv7 hv8 b1 b2 b3 b4
  cases hm : decide (2 < x2)
  · have k5 := K4.out _ hm rfl
    subst k5
    go_wp2
    all_goals (go_ret; exact ⟨rfl, by first | exact hB | repeat' (first | (with_reducible exact Below.refl _ _) | (with_reducible assumption) | (with_reducible refine kept_alloc ?_ _) | (with_reducible refine kept_drewN ?_ _) | (with_reducible refine Below.drew ?_) | (with_reducible refine Below.setCell ?_ (by first | omega | (simp; omega) | (simp; done)) _) | (refine kept_trans ?_ (by with_reducible assumption)))⟩)
  · go_wp2
    all_goals (go_ret; exact ⟨rfl, by first | exact hB | repeat' (first | (with_reducible exact Below.refl _ _) | (with_reducible assumption) | (with_reducible refine kept_alloc ?_ _) | (with_reducible refine kept_drewN ?_ _) | (with_reducible refine Below.drew ?_) | (with_reducible refine Below.setCell ?_ (by first | omega | (simp; omega) | (simp; done)) _) | (refine kept_trans ?_ (by with_reducible assumption)))⟩)
set_option maxRecDepth 100000 in
theorem wordModes_lifted (os : Os) (started : os.Started) (H : Type) (enc : TypeId × Value → H) :
    ReturnsInHanded {} Try.checked os 6 .any (Rows.wordModesSpec.pre6 enc Try.prog Try.f6 Rows.wordModesRow.domain false) (Rows.wordModesSpec.post enc Try.prog Try.f6 false true false false) := by
  refine returnsInHanded_of_change (C := Try.checked) own started (by kernel_rfl) Try.func6
    (ChangeSpec.witness6 (enc := enc) (C := Try.checked) false ⟨#[], #[.agg #[.int .i64 0, .int .i64 0, .int .i64 0], .int .i64 0, .int .i64 0, .int .i64 0], []⟩ 8 (by kernel_rfl) (by kernel_rfl) (by kernel_rfl) (by kernel_rfl)) ?_
  intro W base args ds gs before hval0 hW hcnd _
  have hval : ∀ (j : Nat) t v, Try.f6.params[j]? = some t → args[j]? = some v → Value.okWide Try.prog W .any base t v := hval0
  have hW' := hW
  obtain ⟨p, q, hA0, hV, rfl, hfz, hnd⟩ := hW
  have hA : DataW.TrodAll enc Try.prog W 0 (fun _ => true) true Try.f6.params.toList args.toList ds p := hA0
  rw [Try.params6] at hA hval
  obtain ⟨v0, vs0, d0, ds0, p0, q0, hargs, rfl, rfl, h0, r0⟩ := trodAll_cons hA
  obtain ⟨v1, vs1, d1, ds1, p1, q1, rfl, rfl, rfl, h1, r1⟩ := trodAll_cons r0
  obtain ⟨v2, vs2, d2, ds2, p2, q2, rfl, rfl, rfl, h2, r2⟩ := trodAll_cons r1
  obtain ⟨v3, vs3, d3, ds3, p3, q3, rfl, rfl, rfl, h3, r3⟩ := trodAll_cons r2
  obtain ⟨rfl, rfl, rfl⟩ := trodAll_nil r3
  obtain rfl : args = #[v0, v1, v2, v3] := by cases args; simp_all
  obtain ⟨rfl, rfl⟩ := trodVars_none hV
  obtain ⟨x0, x1, x2, rfl, wf00, wf01, wf02⟩ := open_ints3 Try.underlying23 (by kernel_rfl) (by kernel_rfl) rfl rfl rfl Try.underlying3 Try.underlying3 Try.underlying3 (hval 0 23 v0 rfl rfl) h0
  obtain ⟨r, rfl, rfl, rfl, wf1⟩ := open_int Try.underlying3 (hval 1 3 v1 rfl rfl) h1
  obtain ⟨y, rfl, rfl, rfl, wf2⟩ := open_int Try.underlying3 (hval 2 3 v2 rfl rfl) h2
  obtain ⟨z, rfl, rfl, rfl, wf3⟩ := open_int Try.underlying3 (hval 3 3 v3 rfl rfl) h3
  clear hA0 hval0
  refine (wordModes_walk x0 x1 x2 wf00 wf01 wf02 r (in64_of_wf wf1) y (in64_of_wf wf2) z (in64_of_wf wf3) W).mono fun e W' ⟨he, hg⟩ => ?_
  subst he
  exact ⟨_, rfl, law_post laid hW' rfl (by kernel_rfl) rfl Try.underlying4 rfl hg⟩

/-- The statement, whole. -/
theorem wordModes_holds : Rows.WordModesSaid :=
  OpenClaim.holds_of_wide 6 Try.f6 rfl rfl rfl rfl rfl rfl rfl ⟨rfl, rfl, rfl, rfl, rfl⟩ rfl rfl rfl rfl rfl (by kernel_rfl) Try.func6 (by kernel_rfl)
    (of_decide_eq_true (by kernel_rfl)) (by unfold Func.isWrapper; rw [if_neg (of_decide_eq_false (by kernel_rfl))]; exact ⟨rfl, rfl⟩)
    (fun os started H enc _ => wordModes_lifted os started H enc)
end Go.Proofs.Ytgbjgknnkphfiaa
