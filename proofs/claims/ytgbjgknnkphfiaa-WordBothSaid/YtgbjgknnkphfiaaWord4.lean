/- Layer 8: WordBoth holds for every input. -/
import Derived.Test.YtgbjgknnkphfiaaWord1
import Derived.Test.YtgbjgknnkphfiaaWordG
namespace Go.Proofs.Ytgbjgknnkphfiaa
set_option linter.unusedVariables false
set_option linter.unusedSimpArgs false
open Go.ChangeShapes Go.WideShapes Go.ChangeAt Go.RowKit
theorem both_facts {h t m r : Int} (c : checkB h t m r = true) (hr : 1 ≤ r) (ht : t ≠ 1099511627776) :
    (m = 2 ∧ acR h t m r = 7 ∧ tkR h t m r = 7 ∧ acR (tkH h t m r) t m r = 7 ∧ tkR (tkH h t m r) t m r = 7) ∨
    (m = 1 ∧ acR h t m r = 6 ∧ tkR h t m r = 1 ∧ acR (tkH h t m r) t m r = 6 ∧ tkR (tkH h t m r) t m r = 1 ∧ 1 < lenI h t) ∨
    (m = 1 ∧ acR h t m r = 6 ∧ tkR h t m r = 1 ∧ acR (tkH h t m r) t m r = 6 ∧ tkR (tkH h t m r) t m r = 6) ∨
    (m = 1 ∧ acR h t m r = 6 ∧ tkR h t m r = 6 ∧ acR (tkH h t m r) t m r = 6 ∧ tkR (tkH h t m r) t m r = 6) ∨
    (m = 0 ∧ acR h t m r = 1 ∧ tkR h t m r = 4 ∧ acR (tkH h t m r) t m r = 1 ∧ tkR (tkH h t m r) t m r = 4) ∨
    (m = 0 ∧ acR h t m r = 1 ∧ tkR h t m r = 1 ∧ acR (tkH h t m r) t m r = 1 ∧ tkR (tkH h t m r) t m r = 1 ∧ 1 < lenI h t) ∨
    (m = 0 ∧ acR h t m r = 2 ∧ tkR h t m r = 1 ∧ acR (tkH h t m r) t m r = 1 ∧ tkR (tkH h t m r) t m r = 1 ∧ 1 < lenI h t) ∨
    (m = 0 ∧ acR h t m r = 1 ∧ tkR h t m r = 1 ∧ acR (tkH h t m r) t m r = 1 ∧ tkR (tkH h t m r) t m r = 4) ∨
    (m = 0 ∧ acR h t m r = 2 ∧ tkR h t m r = 1 ∧ acR (tkH h t m r) t m r = 1 ∧ tkR (tkH h t m r) t m r = 4) := by
  have hl := check_len c
  have c1 := tk_check c
  rw [ac_of c1, ac_of c, tk_of c1, hl.2.2.2.2.2.1]
  obtain rfl | rfl | rfl : m = 2 ∨ m = 1 ∨ m = 0 := by omega
  · simp [tk_of c]
  · by_cases h1 : h < t
    · have e1 : tkR h t 1 r = 1 := by rw [tk_of c]; simp [h1]
      rw [(tk_y e1).1, e1]
      by_cases h2 : h + 1 < t
      · refine .inr (.inl ⟨rfl, by simp, rfl, by simp, by simp [h2], by omega⟩)
      · refine .inr (.inr (.inl ⟨rfl, by simp, rfl, by simp, by simp [h2]⟩))
    · have e1 : tkR h t 1 r = 6 := by rw [tk_of c]; simp [h1]
      rw [(tk_n (show tkR h t 1 r ≠ 1 by rw [e1]; decide)).1, e1]
      refine .inr (.inr (.inr (.inl ⟨rfl, by simp, rfl, by simp, by simp [h1]⟩)))
  · by_cases h1 : h < t
    · have e1 : tkR h t 0 r = 1 := by rw [tk_of c]; simp [h1]
      have n1 : ¬ (t - (h + 1) = r ∨ t = 1099511627776) := by omega
      rw [(tk_y e1).1, e1]
      by_cases h2 : h + 1 < t
      · by_cases h3 : t - h = r ∨ t = 1099511627776
        · refine .inr (.inr (.inr (.inr (.inr (.inr (.inl ⟨rfl, by simp [h3], rfl, by simp [n1], by simp [h2], by omega⟩))))))
        · refine .inr (.inr (.inr (.inr (.inr (.inl ⟨rfl, by simp [h3], rfl, by simp [n1], by simp [h2], by omega⟩)))))
      · by_cases h3 : t - h = r ∨ t = 1099511627776
        · refine .inr (.inr (.inr (.inr (.inr (.inr (.inr (.inr ⟨rfl, by simp [h3], rfl, by simp [n1], by simp [h2]⟩)))))))
        · refine .inr (.inr (.inr (.inr (.inr (.inr (.inr (.inl ⟨rfl, by simp [h3], rfl, by simp [n1], by simp [h2]⟩)))))))
    · have e1 : tkR h t 0 r = 4 := by rw [tk_of c]; simp [h1]
      have n1 : ¬ (t - h = r ∨ t = 1099511627776) := by omega
      rw [(tk_n (show tkR h t 0 r ≠ 1 by rw [e1]; decide)).1, e1]
      refine .inr (.inr (.inr (.inr (.inl ⟨rfl, by simp [n1], rfl, by simp [n1], by simp [h1]⟩))))
theorem wlen_val {h t m L : Int} (e1 : lenI h t = L) (hh : In64 h) (ht : In64 t) (w : World) :
    Calls Try.prog 20 #[.agg #[.int .i64 h, .int .i64 t, .int .i64 m]] w fun e w' => e = .returned (.int .i64 L) ∧ Kept w w' := by
  subst e1; exact len_any h t m hh ht w

set_option maxHeartbeats 4000000 in
set_option maxRecDepth 100000 in
theorem wordBoth_walk (x0 x1 x2 : Int) (hx0 : In64 x0) (hx1 : In64 x1) (hx2 : In64 x2) (r : Int) (hr : In64 r) (w : World) :
    Calls Try.prog 7 #[.agg #[.int .i64 x0, .int .i64 x1, .int .i64 x2], .int .i64 r] w fun e w' => e = .returned (.bool true) ∧ Kept w w' := by
  cases c : checkB x0 x1 x2 r
  · go_enter Try.func7, Try.ntmps7
    go_wp2_with fail; refine (wordawake_any _).mono ?_; rintro e v0 ⟨rfl, hv0⟩
    have hcs : CellsAt v0 [(w.heap.size, 0, .int .i64 (x0)), (w.heap.size, 1, .int .i64 (x1)), (w.heap.size, 2, .int .i64 (x2))] := cells_keep hv0 (by (simp only [CellsAt]; (repeat' (first | exact trivial | (refine And.intro ?_ ?_))); all_goals (first | (focus ((try simp only [World.size_setCell, World.size_alloc]); omega)) | (repeat (first | rfl | assumption | (refine (World.cell?_alloc_past _ _ _ ?_).trans ?_; focus ((try simp only [World.size_setCell, World.size_alloc]); omega)) | (refine (World.cell?_alloc_at _ _ _ _ ?_).trans ?_; focus ((try simp only [World.size_setCell, World.size_alloc]); done)) | (refine (World.cell?_setCell_other _ _ _ _ ?_).trans ?_; focus (simp; done)) | (refine (World.cell?_setCell_other _ _ _ _ ?_).trans ?_; focus (simp; omega)) | (refine World.cell?_setCell_same' _ _ _ ?_; focus (simp; done)))))))
    ((try clear hz0); (try clear hz1); (try clear hz2); (try clear hz3); (try clear hz4); (try clear hz5); (try clear hz6); (try clear hq0 hq1 hq2); (try clear hq3 hq4 hq5); (try clear hq6 hq7 hq8); (try clear hq9 hq10 hq11); (try clear hq12 hq13 hq14); (try clear hq15 hq16 hq17); (try clear hq18 hq19 hq20))
    have hq0 := hcs.1.2; have hq1 := hcs.2.1.2; have hq2 := hcs.2.2.1.2; have hz0 := hcs.1.1
    go_wp2_with fail; refine (wcheck_val c (by omega) (by omega) (by omega) (by omega) _).mono ?_; rintro e v1 ⟨rfl, hv1⟩
    have hcs : CellsAt v1 [(w.heap.size, 0, .int .i64 (x0)), (w.heap.size, 1, .int .i64 (x1)), (w.heap.size, 2, .int .i64 (x2))] := cells_keep hv1 (by (simp only [CellsAt]; (repeat' (first | exact trivial | (refine And.intro ?_ ?_))); all_goals (first | (focus ((try simp only [World.size_setCell, World.size_alloc]); omega)) | (repeat (first | rfl | assumption | (refine (World.cell?_alloc_past _ _ _ ?_).trans ?_; focus ((try simp only [World.size_setCell, World.size_alloc]); omega)) | (refine (World.cell?_alloc_at _ _ _ _ ?_).trans ?_; focus ((try simp only [World.size_setCell, World.size_alloc]); done)) | (refine (World.cell?_setCell_other _ _ _ _ ?_).trans ?_; focus (simp; done)) | (refine (World.cell?_setCell_other _ _ _ _ ?_).trans ?_; focus (simp; omega)) | (refine World.cell?_setCell_same' _ _ _ ?_; focus (simp; done)))))))
    ((try clear hz0); (try clear hz1); (try clear hz2); (try clear hz3); (try clear hz4); (try clear hz5); (try clear hz6); (try clear hq0 hq1 hq2); (try clear hq3 hq4 hq5); (try clear hq6 hq7 hq8); (try clear hq9 hq10 hq11); (try clear hq12 hq13 hq14); (try clear hq15 hq16 hq17); (try clear hq18 hq19 hq20))
    have hq0 := hcs.1.2; have hq1 := hcs.2.1.2; have hq2 := hcs.2.2.1.2; have hz0 := hcs.1.1
    go_wp2
    all_goals (go_ret; exact ⟨rfl, by repeat' (first | (with_reducible exact Below.refl _ _) | (with_reducible assumption) | (with_reducible refine kept_alloc ?_ _) | (with_reducible refine kept_drewN ?_ _) | (with_reducible refine Below.drew ?_) | (with_reducible refine Below.setCell ?_ (by first | omega | (simp; omega) | (simp; done)) _) | (refine kept_trans ?_ (by with_reducible assumption)))⟩)
  cases c1 : decide (r < 1)
  case true =>
    go_enter Try.func7, Try.ntmps7
    go_wp2_with fail; refine (wordawake_any _).mono ?_; rintro e v0 ⟨rfl, hv0⟩
    have hcs : CellsAt v0 [(w.heap.size, 0, .int .i64 (x0)), (w.heap.size, 1, .int .i64 (x1)), (w.heap.size, 2, .int .i64 (x2))] := cells_keep hv0 (by (simp only [CellsAt]; (repeat' (first | exact trivial | (refine And.intro ?_ ?_))); all_goals (first | (focus ((try simp only [World.size_setCell, World.size_alloc]); omega)) | (repeat (first | rfl | assumption | (refine (World.cell?_alloc_past _ _ _ ?_).trans ?_; focus ((try simp only [World.size_setCell, World.size_alloc]); omega)) | (refine (World.cell?_alloc_at _ _ _ _ ?_).trans ?_; focus ((try simp only [World.size_setCell, World.size_alloc]); done)) | (refine (World.cell?_setCell_other _ _ _ _ ?_).trans ?_; focus (simp; done)) | (refine (World.cell?_setCell_other _ _ _ _ ?_).trans ?_; focus (simp; omega)) | (refine World.cell?_setCell_same' _ _ _ ?_; focus (simp; done)))))))
    ((try clear hz0); (try clear hz1); (try clear hz2); (try clear hz3); (try clear hz4); (try clear hz5); (try clear hz6); (try clear hq0 hq1 hq2); (try clear hq3 hq4 hq5); (try clear hq6 hq7 hq8); (try clear hq9 hq10 hq11); (try clear hq12 hq13 hq14); (try clear hq15 hq16 hq17); (try clear hq18 hq19 hq20))
    have hq0 := hcs.1.2; have hq1 := hcs.2.1.2; have hq2 := hcs.2.2.1.2; have hz0 := hcs.1.1
    go_wp2_with fail; refine (wcheck_val c (by omega) (by omega) (by omega) (by omega) _).mono ?_; rintro e v1 ⟨rfl, hv1⟩
    have hcs : CellsAt v1 [(w.heap.size, 0, .int .i64 (x0)), (w.heap.size, 1, .int .i64 (x1)), (w.heap.size, 2, .int .i64 (x2))] := cells_keep hv1 (by (simp only [CellsAt]; (repeat' (first | exact trivial | (refine And.intro ?_ ?_))); all_goals (first | (focus ((try simp only [World.size_setCell, World.size_alloc]); omega)) | (repeat (first | rfl | assumption | (refine (World.cell?_alloc_past _ _ _ ?_).trans ?_; focus ((try simp only [World.size_setCell, World.size_alloc]); omega)) | (refine (World.cell?_alloc_at _ _ _ _ ?_).trans ?_; focus ((try simp only [World.size_setCell, World.size_alloc]); done)) | (refine (World.cell?_setCell_other _ _ _ _ ?_).trans ?_; focus (simp; done)) | (refine (World.cell?_setCell_other _ _ _ _ ?_).trans ?_; focus (simp; omega)) | (refine World.cell?_setCell_same' _ _ _ ?_; focus (simp; done)))))))
    ((try clear hz0); (try clear hz1); (try clear hz2); (try clear hz3); (try clear hz4); (try clear hz5); (try clear hz6); (try clear hq0 hq1 hq2); (try clear hq3 hq4 hq5); (try clear hq6 hq7 hq8); (try clear hq9 hq10 hq11); (try clear hq12 hq13 hq14); (try clear hq15 hq16 hq17); (try clear hq18 hq19 hq20))
    have hq0 := hcs.1.2; have hq1 := hcs.2.1.2; have hq2 := hcs.2.2.1.2; have hz0 := hcs.1.1
    go_wp2
    all_goals (go_ret; exact ⟨rfl, by repeat' (first | (with_reducible exact Below.refl _ _) | (with_reducible assumption) | (with_reducible refine kept_alloc ?_ _) | (with_reducible refine kept_drewN ?_ _) | (with_reducible refine Below.drew ?_) | (with_reducible refine Below.setCell ?_ (by first | omega | (simp; omega) | (simp; done)) _) | (refine kept_trans ?_ (by with_reducible assumption)))⟩)
  cases c2 : (x1 == 1099511627776)
  case true =>
    go_enter Try.func7, Try.ntmps7
    go_wp2_with fail; refine (wordawake_any _).mono ?_; rintro e v0 ⟨rfl, hv0⟩
    have hcs : CellsAt v0 [(w.heap.size, 0, .int .i64 (x0)), (w.heap.size, 1, .int .i64 (x1)), (w.heap.size, 2, .int .i64 (x2))] := cells_keep hv0 (by (simp only [CellsAt]; (repeat' (first | exact trivial | (refine And.intro ?_ ?_))); all_goals (first | (focus ((try simp only [World.size_setCell, World.size_alloc]); omega)) | (repeat (first | rfl | assumption | (refine (World.cell?_alloc_past _ _ _ ?_).trans ?_; focus ((try simp only [World.size_setCell, World.size_alloc]); omega)) | (refine (World.cell?_alloc_at _ _ _ _ ?_).trans ?_; focus ((try simp only [World.size_setCell, World.size_alloc]); done)) | (refine (World.cell?_setCell_other _ _ _ _ ?_).trans ?_; focus (simp; done)) | (refine (World.cell?_setCell_other _ _ _ _ ?_).trans ?_; focus (simp; omega)) | (refine World.cell?_setCell_same' _ _ _ ?_; focus (simp; done)))))))
    ((try clear hz0); (try clear hz1); (try clear hz2); (try clear hz3); (try clear hz4); (try clear hz5); (try clear hz6); (try clear hq0 hq1 hq2); (try clear hq3 hq4 hq5); (try clear hq6 hq7 hq8); (try clear hq9 hq10 hq11); (try clear hq12 hq13 hq14); (try clear hq15 hq16 hq17); (try clear hq18 hq19 hq20))
    have hq0 := hcs.1.2; have hq1 := hcs.2.1.2; have hq2 := hcs.2.2.1.2; have hz0 := hcs.1.1
    go_wp2_with fail; refine (wcheck_val c (by omega) (by omega) (by omega) (by omega) _).mono ?_; rintro e v1 ⟨rfl, hv1⟩
    have hcs : CellsAt v1 [(w.heap.size, 0, .int .i64 (x0)), (w.heap.size, 1, .int .i64 (x1)), (w.heap.size, 2, .int .i64 (x2))] := cells_keep hv1 (by (simp only [CellsAt]; (repeat' (first | exact trivial | (refine And.intro ?_ ?_))); all_goals (first | (focus ((try simp only [World.size_setCell, World.size_alloc]); omega)) | (repeat (first | rfl | assumption | (refine (World.cell?_alloc_past _ _ _ ?_).trans ?_; focus ((try simp only [World.size_setCell, World.size_alloc]); omega)) | (refine (World.cell?_alloc_at _ _ _ _ ?_).trans ?_; focus ((try simp only [World.size_setCell, World.size_alloc]); done)) | (refine (World.cell?_setCell_other _ _ _ _ ?_).trans ?_; focus (simp; done)) | (refine (World.cell?_setCell_other _ _ _ _ ?_).trans ?_; focus (simp; omega)) | (refine World.cell?_setCell_same' _ _ _ ?_; focus (simp; done)))))))
    ((try clear hz0); (try clear hz1); (try clear hz2); (try clear hz3); (try clear hz4); (try clear hz5); (try clear hz6); (try clear hq0 hq1 hq2); (try clear hq3 hq4 hq5); (try clear hq6 hq7 hq8); (try clear hq9 hq10 hq11); (try clear hq12 hq13 hq14); (try clear hq15 hq16 hq17); (try clear hq18 hq19 hq20))
    have hq0 := hcs.1.2; have hq1 := hcs.2.1.2; have hq2 := hcs.2.2.1.2; have hz0 := hcs.1.1
    go_wp2
    all_goals (go_ret; exact ⟨rfl, by repeat' (first | (with_reducible exact Below.refl _ _) | (with_reducible assumption) | (with_reducible refine kept_alloc ?_ _) | (with_reducible refine kept_drewN ?_ _) | (with_reducible refine Below.drew ?_) | (with_reducible refine Below.setCell ?_ (by first | omega | (simp; omega) | (simp; done)) _) | (refine kept_trans ?_ (by with_reducible assumption)))⟩)
  have r1 : 1 ≤ r := by simp at c1; omega
  have t1 : x1 ≠ 1099511627776 := by simpa using c2
  have hl := check_len c
  have F := both_facts c r1 t1
  have bT := tk_in (h := x0) (t := x1) (m := x2) (r := r) (by omega) (by omega)
  have oa := ac_in (h := x0) (t := x1) (m := x2) (r := r) (by omega) (by omega)
  obtain ⟨aR, haR⟩ : ∃ v, acR x0 x1 x2 r = v := ⟨_, rfl⟩
  obtain ⟨tH, htH⟩ : ∃ v, tkH x0 x1 x2 r = v := ⟨_, rfl⟩
  obtain ⟨tP, htP⟩ : ∃ v, tkP x0 x1 x2 r = v := ⟨_, rfl⟩
  obtain ⟨tR, htR⟩ : ∃ v, tkR x0 x1 x2 r = v := ⟨_, rfl⟩
  rw [htH, htP, htR] at bT
  rw [htH, htR, haR] at F
  obtain ⟨mR, hmR⟩ : ∃ v, acR tH x1 x2 r = v := ⟨_, rfl⟩
  obtain ⟨nR, hnR⟩ : ∃ v, tkR tH x1 x2 r = v := ⟨_, rfl⟩
  obtain ⟨L, hL⟩ : ∃ v, lenI x0 x1 = v := ⟨_, rfl⟩
  rw [hmR, hnR, hL] at F
  have HV := Lib.hid (And.intro haR (And.intro htH (And.intro htP (And.intro htR (And.intro hmR (And.intro hnR (And.intro hL F)))))))
  have hbx0 : In64 x0 := hx0
  clear haR htH htP htR hmR hnR hL F oa hl r1 t1
  go_enter Try.func7, Try.ntmps7
  go_wp2_with fail; refine (wordawake_any _).mono ?_; rintro e v0 ⟨rfl, hv0⟩
  have hcs : CellsAt v0 [(w.heap.size, 0, .int .i64 (x0)), (w.heap.size, 1, .int .i64 (x1)), (w.heap.size, 2, .int .i64 (x2))] := cells_keep hv0 (by (simp only [CellsAt]; (repeat' (first | exact trivial | (refine And.intro ?_ ?_))); all_goals (first | (focus ((try simp only [World.size_setCell, World.size_alloc]); omega)) | (repeat (first | rfl | assumption | (refine (World.cell?_alloc_past _ _ _ ?_).trans ?_; focus ((try simp only [World.size_setCell, World.size_alloc]); omega)) | (refine (World.cell?_alloc_at _ _ _ _ ?_).trans ?_; focus ((try simp only [World.size_setCell, World.size_alloc]); done)) | (refine (World.cell?_setCell_other _ _ _ _ ?_).trans ?_; focus (simp; done)) | (refine (World.cell?_setCell_other _ _ _ _ ?_).trans ?_; focus (simp; omega)) | (refine World.cell?_setCell_same' _ _ _ ?_; focus (simp; done)))))))
  ((try clear hz0); (try clear hz1); (try clear hz2); (try clear hz3); (try clear hz4); (try clear hz5); (try clear hz6); (try clear hq0 hq1 hq2); (try clear hq3 hq4 hq5); (try clear hq6 hq7 hq8); (try clear hq9 hq10 hq11); (try clear hq12 hq13 hq14); (try clear hq15 hq16 hq17); (try clear hq18 hq19 hq20))
  have hq0 := hcs.1.2; have hq1 := hcs.2.1.2; have hq2 := hcs.2.2.1.2; have hz0 := hcs.1.1
  go_wp2_with fail; refine (wcheck_val c (by omega) (by omega) (by omega) (by omega) _).mono ?_; rintro e v1 ⟨rfl, hv1⟩
  have hcs : CellsAt v1 [(w.heap.size, 0, .int .i64 (x0)), (w.heap.size, 1, .int .i64 (x1)), (w.heap.size, 2, .int .i64 (x2))] := cells_keep hv1 (by (simp only [CellsAt]; (repeat' (first | exact trivial | (refine And.intro ?_ ?_))); all_goals (first | (focus ((try simp only [World.size_setCell, World.size_alloc]); omega)) | (repeat (first | rfl | assumption | (refine (World.cell?_alloc_past _ _ _ ?_).trans ?_; focus ((try simp only [World.size_setCell, World.size_alloc]); omega)) | (refine (World.cell?_alloc_at _ _ _ _ ?_).trans ?_; focus ((try simp only [World.size_setCell, World.size_alloc]); done)) | (refine (World.cell?_setCell_other _ _ _ _ ?_).trans ?_; focus (simp; done)) | (refine (World.cell?_setCell_other _ _ _ _ ?_).trans ?_; focus (simp; omega)) | (refine World.cell?_setCell_same' _ _ _ ?_; focus (simp; done)))))))
  ((try clear hz0); (try clear hz1); (try clear hz2); (try clear hz3); (try clear hz4); (try clear hz5); (try clear hz6); (try clear hq0 hq1 hq2); (try clear hq3 hq4 hq5); (try clear hq6 hq7 hq8); (try clear hq9 hq10 hq11); (try clear hq12 hq13 hq14); (try clear hq15 hq16 hq17); (try clear hq18 hq19 hq20))
  have hq0 := hcs.1.2; have hq1 := hcs.2.1.2; have hq2 := hcs.2.2.1.2; have hz0 := hcs.1.1
  go_wp2_with fail; refine (wsees_val HV.out.1 HV.out.2.2.2.1 (by omega) (by omega) (by omega) (by omega) _).mono ?_; rintro e v2 ⟨rfl, hv2⟩
  have hcs : CellsAt v2 [(w.heap.size, 0, .int .i64 (x0)), (w.heap.size, 1, .int .i64 (x1)), (w.heap.size, 2, .int .i64 (x2))] := cells_keep hv2 (by (simp only [CellsAt]; (repeat' (first | exact trivial | (refine And.intro ?_ ?_))); all_goals (first | (focus ((try simp only [World.size_setCell, World.size_alloc]); omega)) | (repeat (first | rfl | assumption | (refine (World.cell?_alloc_past _ _ _ ?_).trans ?_; focus ((try simp only [World.size_setCell, World.size_alloc]); omega)) | (refine (World.cell?_alloc_at _ _ _ _ ?_).trans ?_; focus ((try simp only [World.size_setCell, World.size_alloc]); done)) | (refine (World.cell?_setCell_other _ _ _ _ ?_).trans ?_; focus (simp; done)) | (refine (World.cell?_setCell_other _ _ _ _ ?_).trans ?_; focus (simp; omega)) | (refine World.cell?_setCell_same' _ _ _ ?_; focus (simp; done)))))))
  ((try clear hz0); (try clear hz1); (try clear hz2); (try clear hz3); (try clear hz4); (try clear hz5); (try clear hz6); (try clear hq0 hq1 hq2); (try clear hq3 hq4 hq5); (try clear hq6 hq7 hq8); (try clear hq9 hq10 hq11); (try clear hq12 hq13 hq14); (try clear hq15 hq16 hq17); (try clear hq18 hq19 hq20))
  have hq0 := hcs.1.2; have hq1 := hcs.2.1.2; have hq2 := hcs.2.2.1.2; have hz0 := hcs.1.1
  go_wp2_with fail; refine (wtake_val HV.out.2.1 HV.out.2.2.1 HV.out.2.2.2.1 (by omega) (by omega) (by omega) (by omega) _).mono ?_; rintro e v3 ⟨rfl, hv3⟩
  have hcs : CellsAt v3 [(w.heap.size, 0, .int .i64 (x0)), (w.heap.size, 1, .int .i64 (x1)), (w.heap.size, 2, .int .i64 (x2))] := cells_keep hv3 (by (simp only [CellsAt]; (repeat' (first | exact trivial | (refine And.intro ?_ ?_))); all_goals (first | (focus ((try simp only [World.size_setCell, World.size_alloc]); omega)) | (repeat (first | rfl | assumption | (refine (World.cell?_alloc_past _ _ _ ?_).trans ?_; focus ((try simp only [World.size_setCell, World.size_alloc]); omega)) | (refine (World.cell?_alloc_at _ _ _ _ ?_).trans ?_; focus ((try simp only [World.size_setCell, World.size_alloc]); done)) | (refine (World.cell?_setCell_other _ _ _ _ ?_).trans ?_; focus (simp; done)) | (refine (World.cell?_setCell_other _ _ _ _ ?_).trans ?_; focus (simp; omega)) | (refine World.cell?_setCell_same' _ _ _ ?_; focus (simp; done)))))))
  ((try clear hz0); (try clear hz1); (try clear hz2); (try clear hz3); (try clear hz4); (try clear hz5); (try clear hz6); (try clear hq0 hq1 hq2); (try clear hq3 hq4 hq5); (try clear hq6 hq7 hq8); (try clear hq9 hq10 hq11); (try clear hq12 hq13 hq14); (try clear hq15 hq16 hq17); (try clear hq18 hq19 hq20))
  have hq0 := hcs.1.2; have hq1 := hcs.2.1.2; have hq2 := hcs.2.2.1.2; have hz0 := hcs.1.1
  go_wp2_with fail; refine (wsees_val HV.out.2.2.2.2.1 HV.out.2.2.2.2.2.1 (by omega) (by omega) (by omega) (by omega) _).mono ?_; rintro e v4 ⟨rfl, hv4⟩
  have hcs : CellsAt v4 [(w.heap.size, 0, .int .i64 (x0)), (w.heap.size, 1, .int .i64 (x1)), (w.heap.size, 2, .int .i64 (x2)), (v3.heap.size, 0, .int .i64 (tH)), (v3.heap.size, 1, .int .i64 (x1)), (v3.heap.size, 2, .int .i64 (x2))] := cells_keep hv4 (by (simp only [CellsAt]; (repeat' (first | exact trivial | (refine And.intro ?_ ?_))); all_goals (first | (focus ((try simp only [World.size_setCell, World.size_alloc]); omega)) | (repeat (first | rfl | assumption | (refine (World.cell?_alloc_past _ _ _ ?_).trans ?_; focus ((try simp only [World.size_setCell, World.size_alloc]); omega)) | (refine (World.cell?_alloc_at _ _ _ _ ?_).trans ?_; focus ((try simp only [World.size_setCell, World.size_alloc]); done)) | (refine (World.cell?_setCell_other _ _ _ _ ?_).trans ?_; focus (simp; done)) | (refine (World.cell?_setCell_other _ _ _ _ ?_).trans ?_; focus (simp; omega)) | (refine World.cell?_setCell_same' _ _ _ ?_; focus (simp; done)))))))
  ((try clear hz0); (try clear hz1); (try clear hz2); (try clear hz3); (try clear hz4); (try clear hz5); (try clear hz6); (try clear hq0 hq1 hq2); (try clear hq3 hq4 hq5); (try clear hq6 hq7 hq8); (try clear hq9 hq10 hq11); (try clear hq12 hq13 hq14); (try clear hq15 hq16 hq17); (try clear hq18 hq19 hq20))
  have hq0 := hcs.1.2; have hq1 := hcs.2.1.2; have hq2 := hcs.2.2.1.2; have hq3 := hcs.2.2.2.1.2; have hq4 := hcs.2.2.2.2.1.2; have hq5 := hcs.2.2.2.2.2.1.2; have hz0 := hcs.1.1; have hz1 := hcs.2.2.2.1.1
  have hB : Below w.heap.size w v4 := by repeat' (first | (with_reducible exact Below.refl _ _) | (with_reducible assumption) | (with_reducible refine kept_alloc ?_ _) | (with_reducible refine kept_drewN ?_ _) | (with_reducible refine Below.drew ?_) | (with_reducible refine Below.setCell ?_ (by first | omega | (simp; omega) | (simp; done)) _) | (refine kept_trans ?_ (by with_reducible assumption)))
  clear hv0 hv1 hv2 hv3 hv4
  have F := HV.out.2.2.2.2.2.2.2
  clear bT
  rcases F with ⟨rfl, rfl, rfl, rfl, rfl⟩ | ⟨rfl, rfl, rfl, rfl, rfl, k1⟩ | ⟨rfl, rfl, rfl, rfl, rfl⟩ | ⟨rfl, rfl, rfl, rfl, rfl⟩ | ⟨rfl, rfl, rfl, rfl, rfl⟩ | ⟨rfl, rfl, rfl, rfl, rfl, k1⟩ | ⟨rfl, rfl, rfl, rfl, rfl, k1⟩ | ⟨rfl, rfl, rfl, rfl, rfl⟩ | ⟨rfl, rfl, rfl, rfl, rfl⟩
  all_goals
    go_wp2_with (first | (go_at_call 20; refine (wlen_val HV.out.2.2.2.2.2.2.1 (by omega) (by omega) _).mono ?_; rintro e wx ⟨rfl, hgx⟩; obtain ⟨hcx, hfx⟩ := bcell hgx; have hz0 : w.heap.size < wx.heap.size := (by have := hgx.size; (try simp at this); omega)))
  all_goals (go_ret; exact ⟨rfl, by first | exact hB | repeat' (first | (with_reducible exact Below.refl _ _) | (with_reducible assumption) | (with_reducible refine kept_alloc ?_ _) | (with_reducible refine kept_drewN ?_ _) | (with_reducible refine Below.drew ?_) | (with_reducible refine Below.setCell ?_ (by first | omega | (simp; omega) | (simp; done)) _) | (refine kept_trans ?_ (by with_reducible assumption)))⟩)
set_option maxRecDepth 100000 in
theorem wordBoth_lifted (os : Os) (started : os.Started) (H : Type) (enc : TypeId × Value → H) :
    ReturnsInHanded {} Try.checked os 7 .any (Rows.wordBothSpec.pre6 enc Try.prog Try.f7 Rows.wordBothRow.domain false) (Rows.wordBothSpec.post enc Try.prog Try.f7 false true false false) := by
  refine returnsInHanded_of_change (C := Try.checked) own started (by kernel_rfl) Try.func7
    (ChangeSpec.witness6 (enc := enc) (C := Try.checked) false ⟨#[], #[.agg #[.int .i64 0, .int .i64 0, .int .i64 0], .int .i64 0], []⟩ 8 (by kernel_rfl) (by kernel_rfl) (by kernel_rfl) (by kernel_rfl)) ?_
  intro W base args ds gs before hval0 hW hcnd _
  have hval : ∀ (j : Nat) t v, Try.f7.params[j]? = some t → args[j]? = some v → Value.okWide Try.prog W .any base t v := hval0
  have hW' := hW
  obtain ⟨p, q, hA0, hV, rfl, hfz, hnd⟩ := hW
  have hA : DataW.TrodAll enc Try.prog W 0 (fun _ => true) true Try.f7.params.toList args.toList ds p := hA0
  rw [Try.params7] at hA hval
  obtain ⟨v0, vs0, d0, ds0, p0, q0, hargs, rfl, rfl, h0, r0⟩ := trodAll_cons hA
  obtain ⟨v1, vs1, d1, ds1, p1, q1, rfl, rfl, rfl, h1, r1⟩ := trodAll_cons r0
  obtain ⟨rfl, rfl, rfl⟩ := trodAll_nil r1
  obtain rfl : args = #[v0, v1] := by cases args; simp_all
  obtain ⟨rfl, rfl⟩ := trodVars_none hV
  obtain ⟨x0, x1, x2, rfl, wf00, wf01, wf02⟩ := open_ints3 Try.underlying23 (by kernel_rfl) (by kernel_rfl) rfl rfl rfl Try.underlying3 Try.underlying3 Try.underlying3 (hval 0 23 v0 rfl rfl) h0
  obtain ⟨r, rfl, rfl, rfl, wf1⟩ := open_int Try.underlying3 (hval 1 3 v1 rfl rfl) h1
  clear hA0 hval0
  refine (wordBoth_walk x0 x1 x2 wf00 wf01 wf02 r (in64_of_wf wf1) W).mono fun e W' ⟨he, hg⟩ => ?_
  subst he
  exact ⟨_, rfl, law_post laid hW' rfl (by kernel_rfl) rfl Try.underlying4 rfl hg⟩

/-- The statement, whole. -/
theorem wordBoth_holds : Rows.WordBothSaid :=
  OpenClaim.holds_of_wide 7 Try.f7 rfl rfl rfl rfl rfl rfl rfl ⟨rfl, rfl, rfl, rfl, rfl⟩ rfl rfl rfl rfl rfl (by kernel_rfl) Try.func7 (by kernel_rfl)
    (of_decide_eq_true (by kernel_rfl)) (by unfold Func.isWrapper; rw [if_neg (of_decide_eq_false (by kernel_rfl))]; exact ⟨rfl, rfl⟩)
    (fun os started H enc _ => wordBoth_lifted os started H enc)
end Go.Proofs.Ytgbjgknnkphfiaa
