/- Layer 8: WordLater holds for every input. -/
import Derived.Test.YtgbjgknnkphfiaaWord1
import Derived.Test.YtgbjgknnkphfiaaWordG
namespace Go.Proofs.Ytgbjgknnkphfiaa
set_option linter.unusedVariables false
set_option linter.unusedSimpArgs false
open Go.ChangeShapes Go.WideShapes Go.ChangeAt Go.RowKit
theorem later_check {h t m r d : Int} (c : checkB h t m r = true) (hd : 0 ≤ d) (hb : t + d < 1099511627776) : checkB (h + d) (t + d) m r = true := by
  rw [check_iff] at c ⊢; omega
theorem later_ac {h t m r d : Int} (c : checkB h t m r = true) (hd : 0 ≤ d) (hb : t + d < 1099511627776) :
    acR (h + d) (t + d) m r = acR h t m r ∧ acT (h + d) (t + d) m r = acT h t m r + d ∧ (acR h t m r ≠ 1 ∨ acR h t m r = 1 ∧ acP (h + d) (t + d) m r = acP h t m r + d) ∧ 0 ≤ acT h t m r ∧ acT h t m r ≤ 1099511627777 ∧ 0 ≤ acP h t m r ∧ acP h t m r ≤ 1099511627776 := by
  have hl := check_len c
  have c1 := later_check c hd hb
  have e1 : acR (h + d) (t + d) m r = acR h t m r := by
    rw [ac_of c, ac_of c1, show t + d - (h + d) = t - h by omega]
    have n1 : ¬ t + d = 1099511627776 := by omega
    have n2 : ¬ t = 1099511627776 := by omega
    simp [n1, n2]
  refine ⟨e1, ?_⟩
  rcases ac_or h t m r with ⟨a1, a2, a3, -⟩ | ⟨a1, a2, a3⟩
  · have := ac_y (e1.trans a1)
    rw [this.1, this.2, a2, a3]
    exact ⟨by omega, .inr ⟨a1, rfl⟩, by omega, by omega, by omega, by omega⟩
  · have := ac_n (show acR (h + d) (t + d) m r ≠ 1 by rw [e1]; exact a1)
    rw [this.1, this.2, a2, a3]
    exact ⟨rfl, .inl a1, by omega, by omega, by omega, by omega⟩
theorem later_tk {h t m r d : Int} (c : checkB h t m r = true) (hd : 0 ≤ d) (hb : t + d < 1099511627776) :
    tkR (h + d) (t + d) m r = tkR h t m r ∧ tkH (h + d) (t + d) m r = tkH h t m r + d ∧ (tkR h t m r ≠ 1 ∨ tkR h t m r = 1 ∧ tkP (h + d) (t + d) m r = tkP h t m r + d) ∧ 0 ≤ tkH h t m r ∧ tkH h t m r ≤ 1099511627777 ∧ 0 ≤ tkP h t m r ∧ tkP h t m r ≤ 1099511627776 := by
  have hl := check_len c
  have c1 := later_check c hd hb
  have e1 : tkR (h + d) (t + d) m r = tkR h t m r := by
    rw [tk_of c, tk_of c1]
    have n1 : (h + d < t + d) = (h < t) := by rw [eq_iff_iff]; omega
    simp [n1]
  refine ⟨e1, ?_⟩
  rcases tk_or h t m r with ⟨a1, a2, a3, -⟩ | ⟨a1, a2, a3⟩
  · have := tk_y (e1.trans a1)
    rw [this.1, this.2, a2, a3]
    exact ⟨by omega, .inr ⟨a1, rfl⟩, by omega, by omega, by omega, by omega⟩
  · have := tk_n (show tkR (h + d) (t + d) m r ≠ 1 by rw [e1]; exact a1)
    rw [this.1, this.2, a2, a3]
    exact ⟨rfl, .inl a1, by omega, by omega, by omega, by omega⟩
theorem later_ev {h t m r d : Int} (c : checkB h t m r = true) (hd : 0 ≤ d) (hb : t + d < 1099511627776) :
    evB (h + d) (t + d) m r (h + d) = evB h t m r h ∧ evH (h + d) (t + d) m r (h + d) = evH h t m r h + d ∧ 0 ≤ evH h t m r h ∧ evH h t m r h ≤ 1099511627777 := by
  have hl := check_len c
  have c1 := later_check c hd hb
  have e1 : evB (h + d) (t + d) m r (h + d) = evB h t m r h := by
    rw [Bool.eq_iff_iff, ev_iff, ev_iff]; simp only [c, c1, true_and]; omega
  refine ⟨e1, ?_⟩
  unfold evH
  rw [e1]
  split <;> omega
set_option maxHeartbeats 4000000 in
set_option maxRecDepth 100000 in
theorem wordLater_walk (x : Int) (hx : 0 ≤ x ∧ x ≤ 4294967295) (l : Int) (hl : 0 ≤ l ∧ l ≤ 255) (m : Int) (hm : 0 ≤ m ∧ m ≤ 255) (k : Int) (hk : 0 ≤ k ∧ k ≤ 255) (d : Int) (hd : 0 ≤ d ∧ d ≤ 4294967295) (w : World) :
    Calls Try.prog 8 #[.int .u32 x, .int .u8 l, .int .u8 m, .int .u8 k, .int .u32 d] w fun e w' => e = .returned (.bool true) ∧ Kept w w' := by
  have k0 := Int.emod_nonneg k (show (64 : Int) ≠ 0 by decide)
  have k1 := Int.emod_lt_of_pos k (show (0 : Int) < 64 by decide)
  have m0 := Int.emod_nonneg m (show (3 : Int) ≠ 0 by decide)
  have m1 := Int.emod_lt_of_pos m (show (0 : Int) < 3 by decide)
  have l0 := Int.emod_nonneg l (show 1 + k % 64 + 1 ≠ 0 by omega)
  have l1 := Int.emod_lt_of_pos l (show 0 < 1 + k % 64 + 1 by omega)
  have c : checkB x (x + l % (1 + k % 64 + 1)) (m % 3) (1 + k % 64) = true := check_iff.2 (by omega)
  have fa := later_ac (d := d) c (by omega) (by omega)
  have fb := later_tk (d := d) c (by omega) (by omega)
  have fe := later_ev (d := d) c (by omega) (by omega)
  have HF := Lib.hid (And.intro fa (And.intro fb fe))
  clear fa fb fe c
  go_enter Try.func8, Try.ntmps8
  go_wp2_with fail; refine (wordawake_any _).mono ?_; rintro e v0 ⟨rfl, hv0⟩
  go_wp2_with fail
  have hT0 : 0 ≤ x + l % (1 + k % 64 + 1) ∧ x + l % (1 + k % 64 + 1) ≤ 4294967460 := by omega
  have hM0 : 0 ≤ m % 3 ∧ m % 3 < 3 := ⟨m0, m1⟩
  have hR0 : 1 ≤ 1 + k % 64 ∧ 1 + k % 64 ≤ 64 := by omega
  have HF2 := HF.out
  clear k0 k1 m0 m1 l0 l1 HF
  generalize x + l % (1 + k % 64 + 1) = T at hT0 HF2 ⊢
  generalize m % 3 = M at hM0 HF2 ⊢
  generalize 1 + k % 64 = R at hR0 HF2 ⊢

  obtain ⟨aT, haT⟩ : ∃ v, acT x T M R = v := ⟨_, rfl⟩
  obtain ⟨aP, haP⟩ : ∃ v, acP x T M R = v := ⟨_, rfl⟩
  obtain ⟨aR, haR⟩ : ∃ v, acR x T M R = v := ⟨_, rfl⟩
  obtain ⟨tH, htH⟩ : ∃ v, tkH x T M R = v := ⟨_, rfl⟩
  obtain ⟨tP, htP⟩ : ∃ v, tkP x T M R = v := ⟨_, rfl⟩
  obtain ⟨tR, htR⟩ : ∃ v, tkR x T M R = v := ⟨_, rfl⟩
  obtain ⟨eH, heH⟩ : ∃ v, evH x T M R x = v := ⟨_, rfl⟩
  obtain ⟨eB, heB⟩ : ∃ v, evB x T M R x = v := ⟨_, rfl⟩
  obtain ⟨bP, hbP⟩ : ∃ v, acP (x + d) (T + d) M R = v := ⟨_, rfl⟩
  obtain ⟨uP, huP⟩ : ∃ v, tkP (x + d) (T + d) M R = v := ⟨_, rfl⟩
  rw [haT, haP, haR, htH, htP, htR, heH, heB, hbP, huP] at HF2
  obtain ⟨⟨fa1, fa2, fa3, fa4⟩, ⟨fb1, fb2, fb3, fb4⟩, fe1, fe2, fe3⟩ := HF2
  have HV := Lib.hid (And.intro haT (And.intro haP (And.intro haR (And.intro fa2 (And.intro hbP (And.intro fa1 (And.intro htH (And.intro htP (And.intro htR (And.intro fb2 (And.intro huP (And.intro fb1 (And.intro heH (And.intro heB (And.intro fe2 fe1)))))))))))))))
  have HO := Lib.hid (And.intro fa3 fb3)
  clear fa1 fa2 fa3 fb1 fb2 fb3 fe1 fe2 haT haP haR htH htP htR heH heB hbP huP
  refine (waccept_val HV.out.1 HV.out.2.1 HV.out.2.2.1 (by omega) (by omega) (by omega) (by omega) _).mono ?_; rintro e v1 ⟨rfl, hv1⟩
  have hcs : CellsAt v1 [(v0.heap.size, 0, .int .i64 (x)), (v0.heap.size, 1, .int .i64 (T)), (v0.heap.size, 2, .int .i64 (M)), (v0.heap.size + 1, 0, .int .i64 (x + d)), (v0.heap.size + 1, 1, .int .i64 (T + d)), (v0.heap.size + 1, 2, .int .i64 (M))] := cells_keep hv1 (by (simp only [CellsAt]; (repeat' (first | exact trivial | (refine And.intro ?_ ?_))); all_goals (first | (focus ((try simp only [World.size_setCell, World.size_alloc]); omega)) | (repeat (first | rfl | assumption | (refine (World.cell?_alloc_past _ _ _ ?_).trans ?_; focus ((try simp only [World.size_setCell, World.size_alloc]); omega)) | (refine (World.cell?_alloc_at _ _ _ _ ?_).trans ?_; focus ((try simp only [World.size_setCell, World.size_alloc]); done)) | (refine (World.cell?_setCell_other _ _ _ _ ?_).trans ?_; focus (simp; done)) | (refine (World.cell?_setCell_other _ _ _ _ ?_).trans ?_; focus (simp; omega)) | (refine World.cell?_setCell_same' _ _ _ ?_; focus (simp; done)))))))
  ((try clear hz0); (try clear hz1); (try clear hz2); (try clear hz3); (try clear hz4); (try clear hz5); (try clear hz6); (try clear hq0 hq1 hq2); (try clear hq3 hq4 hq5); (try clear hq6 hq7 hq8); (try clear hq9 hq10 hq11); (try clear hq12 hq13 hq14); (try clear hq15 hq16 hq17); (try clear hq18 hq19 hq20))
  have hq0 := hcs.1.2; have hq1 := hcs.2.1.2; have hq2 := hcs.2.2.1.2; have hq3 := hcs.2.2.2.1.2; have hq4 := hcs.2.2.2.2.1.2; have hq5 := hcs.2.2.2.2.2.1.2; have hz0 := hcs.1.1; have hz1 := hcs.2.2.2.1.1
  go_wp2_with fail; refine (waccept_val HV.out.2.2.2.1 HV.out.2.2.2.2.1 HV.out.2.2.2.2.2.1 (by omega) (by omega) (by omega) (by omega) _).mono ?_; rintro e v2 ⟨rfl, hv2⟩
  have hcs : CellsAt v2 [(v0.heap.size, 0, .int .i64 (x)), (v0.heap.size, 1, .int .i64 (T)), (v0.heap.size, 2, .int .i64 (M)), (v0.heap.size + 1, 0, .int .i64 (x + d)), (v0.heap.size + 1, 1, .int .i64 (T + d)), (v0.heap.size + 1, 2, .int .i64 (M)), (v1.heap.size, 0, .int .i64 (x)), (v1.heap.size, 1, .int .i64 (aT)), (v1.heap.size, 2, .int .i64 (M))] := cells_keep hv2 (by (simp only [CellsAt]; (repeat' (first | exact trivial | (refine And.intro ?_ ?_))); all_goals (first | (focus ((try simp only [World.size_setCell, World.size_alloc]); omega)) | (repeat (first | rfl | assumption | (refine (World.cell?_alloc_past _ _ _ ?_).trans ?_; focus ((try simp only [World.size_setCell, World.size_alloc]); omega)) | (refine (World.cell?_alloc_at _ _ _ _ ?_).trans ?_; focus ((try simp only [World.size_setCell, World.size_alloc]); done)) | (refine (World.cell?_setCell_other _ _ _ _ ?_).trans ?_; focus (simp; done)) | (refine (World.cell?_setCell_other _ _ _ _ ?_).trans ?_; focus (simp; omega)) | (refine World.cell?_setCell_same' _ _ _ ?_; focus (simp; done)))))))
  ((try clear hz0); (try clear hz1); (try clear hz2); (try clear hz3); (try clear hz4); (try clear hz5); (try clear hz6); (try clear hq0 hq1 hq2); (try clear hq3 hq4 hq5); (try clear hq6 hq7 hq8); (try clear hq9 hq10 hq11); (try clear hq12 hq13 hq14); (try clear hq15 hq16 hq17); (try clear hq18 hq19 hq20))
  have hq0 := hcs.1.2; have hq1 := hcs.2.1.2; have hq2 := hcs.2.2.1.2; have hq3 := hcs.2.2.2.1.2; have hq4 := hcs.2.2.2.2.1.2; have hq5 := hcs.2.2.2.2.2.1.2; have hq6 := hcs.2.2.2.2.2.2.1.2; have hq7 := hcs.2.2.2.2.2.2.2.1.2; have hq8 := hcs.2.2.2.2.2.2.2.2.1.2; have hz0 := hcs.1.1; have hz1 := hcs.2.2.2.1.1; have hz2 := hcs.2.2.2.2.2.2.1.1
  go_wp2_with fail; refine (wtake_val HV.out.2.2.2.2.2.2.1 HV.out.2.2.2.2.2.2.2.1 HV.out.2.2.2.2.2.2.2.2.1 (by omega) (by omega) (by omega) (by omega) _).mono ?_; rintro e v3 ⟨rfl, hv3⟩
  have hcs : CellsAt v3 [(v0.heap.size, 0, .int .i64 (x)), (v0.heap.size, 1, .int .i64 (T)), (v0.heap.size, 2, .int .i64 (M)), (v0.heap.size + 1, 0, .int .i64 (x + d)), (v0.heap.size + 1, 1, .int .i64 (T + d)), (v0.heap.size + 1, 2, .int .i64 (M)), (v1.heap.size, 0, .int .i64 (x)), (v1.heap.size, 1, .int .i64 (aT)), (v1.heap.size, 2, .int .i64 (M)), (v2.heap.size, 0, .int .i64 (x + d)), (v2.heap.size, 1, .int .i64 (aT + d)), (v2.heap.size, 2, .int .i64 (M))] := cells_keep hv3 (by (simp only [CellsAt]; (repeat' (first | exact trivial | (refine And.intro ?_ ?_))); all_goals (first | (focus ((try simp only [World.size_setCell, World.size_alloc]); omega)) | (repeat (first | rfl | assumption | (refine (World.cell?_alloc_past _ _ _ ?_).trans ?_; focus ((try simp only [World.size_setCell, World.size_alloc]); omega)) | (refine (World.cell?_alloc_at _ _ _ _ ?_).trans ?_; focus ((try simp only [World.size_setCell, World.size_alloc]); done)) | (refine (World.cell?_setCell_other _ _ _ _ ?_).trans ?_; focus (simp; done)) | (refine (World.cell?_setCell_other _ _ _ _ ?_).trans ?_; focus (simp; omega)) | (refine World.cell?_setCell_same' _ _ _ ?_; focus (simp; done)))))))
  ((try clear hz0); (try clear hz1); (try clear hz2); (try clear hz3); (try clear hz4); (try clear hz5); (try clear hz6); (try clear hq0 hq1 hq2); (try clear hq3 hq4 hq5); (try clear hq6 hq7 hq8); (try clear hq9 hq10 hq11); (try clear hq12 hq13 hq14); (try clear hq15 hq16 hq17); (try clear hq18 hq19 hq20))
  have hq0 := hcs.1.2; have hq1 := hcs.2.1.2; have hq2 := hcs.2.2.1.2; have hq3 := hcs.2.2.2.1.2; have hq4 := hcs.2.2.2.2.1.2; have hq5 := hcs.2.2.2.2.2.1.2; have hq6 := hcs.2.2.2.2.2.2.1.2; have hq7 := hcs.2.2.2.2.2.2.2.1.2; have hq8 := hcs.2.2.2.2.2.2.2.2.1.2; have hq9 := hcs.2.2.2.2.2.2.2.2.2.1.2; have hq10 := hcs.2.2.2.2.2.2.2.2.2.2.1.2; have hq11 := hcs.2.2.2.2.2.2.2.2.2.2.2.1.2; have hz0 := hcs.1.1; have hz1 := hcs.2.2.2.1.1; have hz2 := hcs.2.2.2.2.2.2.1.1; have hz3 := hcs.2.2.2.2.2.2.2.2.2.1.1
  go_wp2_with fail; refine (wtake_val HV.out.2.2.2.2.2.2.2.2.2.1 HV.out.2.2.2.2.2.2.2.2.2.2.1 HV.out.2.2.2.2.2.2.2.2.2.2.2.1 (by omega) (by omega) (by omega) (by omega) _).mono ?_; rintro e v4 ⟨rfl, hv4⟩
  have hcs : CellsAt v4 [(v0.heap.size, 0, .int .i64 (x)), (v0.heap.size, 1, .int .i64 (T)), (v0.heap.size, 2, .int .i64 (M)), (v0.heap.size + 1, 0, .int .i64 (x + d)), (v0.heap.size + 1, 1, .int .i64 (T + d)), (v0.heap.size + 1, 2, .int .i64 (M)), (v1.heap.size, 0, .int .i64 (x)), (v1.heap.size, 1, .int .i64 (aT)), (v1.heap.size, 2, .int .i64 (M)), (v2.heap.size, 0, .int .i64 (x + d)), (v2.heap.size, 1, .int .i64 (aT + d)), (v2.heap.size, 2, .int .i64 (M)), (v3.heap.size, 0, .int .i64 (tH)), (v3.heap.size, 1, .int .i64 (T)), (v3.heap.size, 2, .int .i64 (M))] := cells_keep hv4 (by (simp only [CellsAt]; (repeat' (first | exact trivial | (refine And.intro ?_ ?_))); all_goals (first | (focus ((try simp only [World.size_setCell, World.size_alloc]); omega)) | (repeat (first | rfl | assumption | (refine (World.cell?_alloc_past _ _ _ ?_).trans ?_; focus ((try simp only [World.size_setCell, World.size_alloc]); omega)) | (refine (World.cell?_alloc_at _ _ _ _ ?_).trans ?_; focus ((try simp only [World.size_setCell, World.size_alloc]); done)) | (refine (World.cell?_setCell_other _ _ _ _ ?_).trans ?_; focus (simp; done)) | (refine (World.cell?_setCell_other _ _ _ _ ?_).trans ?_; focus (simp; omega)) | (refine World.cell?_setCell_same' _ _ _ ?_; focus (simp; done)))))))
  ((try clear hz0); (try clear hz1); (try clear hz2); (try clear hz3); (try clear hz4); (try clear hz5); (try clear hz6); (try clear hq0 hq1 hq2); (try clear hq3 hq4 hq5); (try clear hq6 hq7 hq8); (try clear hq9 hq10 hq11); (try clear hq12 hq13 hq14); (try clear hq15 hq16 hq17); (try clear hq18 hq19 hq20))
  have hq0 := hcs.1.2; have hq1 := hcs.2.1.2; have hq2 := hcs.2.2.1.2; have hq3 := hcs.2.2.2.1.2; have hq4 := hcs.2.2.2.2.1.2; have hq5 := hcs.2.2.2.2.2.1.2; have hq6 := hcs.2.2.2.2.2.2.1.2; have hq7 := hcs.2.2.2.2.2.2.2.1.2; have hq8 := hcs.2.2.2.2.2.2.2.2.1.2; have hq9 := hcs.2.2.2.2.2.2.2.2.2.1.2; have hq10 := hcs.2.2.2.2.2.2.2.2.2.2.1.2; have hq11 := hcs.2.2.2.2.2.2.2.2.2.2.2.1.2; have hq12 := hcs.2.2.2.2.2.2.2.2.2.2.2.2.1.2; have hq13 := hcs.2.2.2.2.2.2.2.2.2.2.2.2.2.1.2; have hq14 := hcs.2.2.2.2.2.2.2.2.2.2.2.2.2.2.1.2; have hz0 := hcs.1.1; have hz1 := hcs.2.2.2.1.1; have hz2 := hcs.2.2.2.2.2.2.1.1; have hz3 := hcs.2.2.2.2.2.2.2.2.2.1.1; have hz4 := hcs.2.2.2.2.2.2.2.2.2.2.2.2.1.1
  go_wp2_with fail; refine (wevict_val HV.out.2.2.2.2.2.2.2.2.2.2.2.2.1 HV.out.2.2.2.2.2.2.2.2.2.2.2.2.2.1 (by omega) (by omega) (by omega) (by omega) (by omega) _).mono ?_; rintro e v5 ⟨rfl, hv5⟩
  have hcs : CellsAt v5 [(v0.heap.size, 0, .int .i64 (x)), (v0.heap.size, 1, .int .i64 (T)), (v0.heap.size, 2, .int .i64 (M)), (v0.heap.size + 1, 0, .int .i64 (x + d)), (v0.heap.size + 1, 1, .int .i64 (T + d)), (v0.heap.size + 1, 2, .int .i64 (M)), (v1.heap.size, 0, .int .i64 (x)), (v1.heap.size, 1, .int .i64 (aT)), (v1.heap.size, 2, .int .i64 (M)), (v2.heap.size, 0, .int .i64 (x + d)), (v2.heap.size, 1, .int .i64 (aT + d)), (v2.heap.size, 2, .int .i64 (M)), (v3.heap.size, 0, .int .i64 (tH)), (v3.heap.size, 1, .int .i64 (T)), (v3.heap.size, 2, .int .i64 (M)), (v4.heap.size, 0, .int .i64 (tH + d)), (v4.heap.size, 1, .int .i64 (T + d)), (v4.heap.size, 2, .int .i64 (M))] := cells_keep hv5 (by (simp only [CellsAt]; (repeat' (first | exact trivial | (refine And.intro ?_ ?_))); all_goals (first | (focus ((try simp only [World.size_setCell, World.size_alloc]); omega)) | (repeat (first | rfl | assumption | (refine (World.cell?_alloc_past _ _ _ ?_).trans ?_; focus ((try simp only [World.size_setCell, World.size_alloc]); omega)) | (refine (World.cell?_alloc_at _ _ _ _ ?_).trans ?_; focus ((try simp only [World.size_setCell, World.size_alloc]); done)) | (refine (World.cell?_setCell_other _ _ _ _ ?_).trans ?_; focus (simp; done)) | (refine (World.cell?_setCell_other _ _ _ _ ?_).trans ?_; focus (simp; omega)) | (refine World.cell?_setCell_same' _ _ _ ?_; focus (simp; done)))))))
  ((try clear hz0); (try clear hz1); (try clear hz2); (try clear hz3); (try clear hz4); (try clear hz5); (try clear hz6); (try clear hq0 hq1 hq2); (try clear hq3 hq4 hq5); (try clear hq6 hq7 hq8); (try clear hq9 hq10 hq11); (try clear hq12 hq13 hq14); (try clear hq15 hq16 hq17); (try clear hq18 hq19 hq20))
  have hq0 := hcs.1.2; have hq1 := hcs.2.1.2; have hq2 := hcs.2.2.1.2; have hq3 := hcs.2.2.2.1.2; have hq4 := hcs.2.2.2.2.1.2; have hq5 := hcs.2.2.2.2.2.1.2; have hq6 := hcs.2.2.2.2.2.2.1.2; have hq7 := hcs.2.2.2.2.2.2.2.1.2; have hq8 := hcs.2.2.2.2.2.2.2.2.1.2; have hq9 := hcs.2.2.2.2.2.2.2.2.2.1.2; have hq10 := hcs.2.2.2.2.2.2.2.2.2.2.1.2; have hq11 := hcs.2.2.2.2.2.2.2.2.2.2.2.1.2; have hq12 := hcs.2.2.2.2.2.2.2.2.2.2.2.2.1.2; have hq13 := hcs.2.2.2.2.2.2.2.2.2.2.2.2.2.1.2; have hq14 := hcs.2.2.2.2.2.2.2.2.2.2.2.2.2.2.1.2; have hq15 := hcs.2.2.2.2.2.2.2.2.2.2.2.2.2.2.2.1.2; have hq16 := hcs.2.2.2.2.2.2.2.2.2.2.2.2.2.2.2.2.1.2; have hq17 := hcs.2.2.2.2.2.2.2.2.2.2.2.2.2.2.2.2.2.1.2; have hz0 := hcs.1.1; have hz1 := hcs.2.2.2.1.1; have hz2 := hcs.2.2.2.2.2.2.1.1; have hz3 := hcs.2.2.2.2.2.2.2.2.2.1.1; have hz4 := hcs.2.2.2.2.2.2.2.2.2.2.2.2.1.1; have hz5 := hcs.2.2.2.2.2.2.2.2.2.2.2.2.2.2.2.1.1
  go_wp2_with fail; refine (wevict_val HV.out.2.2.2.2.2.2.2.2.2.2.2.2.2.2.1 HV.out.2.2.2.2.2.2.2.2.2.2.2.2.2.2.2 (by omega) (by omega) (by omega) (by omega) (by omega) _).mono ?_; rintro e v6 ⟨rfl, hv6⟩
  have hcs : CellsAt v6 [(v0.heap.size, 0, .int .i64 (x)), (v0.heap.size, 1, .int .i64 (T)), (v0.heap.size, 2, .int .i64 (M)), (v0.heap.size + 1, 0, .int .i64 (x + d)), (v0.heap.size + 1, 1, .int .i64 (T + d)), (v0.heap.size + 1, 2, .int .i64 (M)), (v1.heap.size, 0, .int .i64 (x)), (v1.heap.size, 1, .int .i64 (aT)), (v1.heap.size, 2, .int .i64 (M)), (v2.heap.size, 0, .int .i64 (x + d)), (v2.heap.size, 1, .int .i64 (aT + d)), (v2.heap.size, 2, .int .i64 (M)), (v3.heap.size, 0, .int .i64 (tH)), (v3.heap.size, 1, .int .i64 (T)), (v3.heap.size, 2, .int .i64 (M)), (v4.heap.size, 0, .int .i64 (tH + d)), (v4.heap.size, 1, .int .i64 (T + d)), (v4.heap.size, 2, .int .i64 (M)), (v5.heap.size, 0, .int .i64 (eH)), (v5.heap.size, 1, .int .i64 (T)), (v5.heap.size, 2, .int .i64 (M))] := cells_keep hv6 (by (simp only [CellsAt]; (repeat' (first | exact trivial | (refine And.intro ?_ ?_))); all_goals (first | (focus ((try simp only [World.size_setCell, World.size_alloc]); omega)) | (repeat (first | rfl | assumption | (refine (World.cell?_alloc_past _ _ _ ?_).trans ?_; focus ((try simp only [World.size_setCell, World.size_alloc]); omega)) | (refine (World.cell?_alloc_at _ _ _ _ ?_).trans ?_; focus ((try simp only [World.size_setCell, World.size_alloc]); done)) | (refine (World.cell?_setCell_other _ _ _ _ ?_).trans ?_; focus (simp; done)) | (refine (World.cell?_setCell_other _ _ _ _ ?_).trans ?_; focus (simp; omega)) | (refine World.cell?_setCell_same' _ _ _ ?_; focus (simp; done)))))))
  ((try clear hz0); (try clear hz1); (try clear hz2); (try clear hz3); (try clear hz4); (try clear hz5); (try clear hz6); (try clear hq0 hq1 hq2); (try clear hq3 hq4 hq5); (try clear hq6 hq7 hq8); (try clear hq9 hq10 hq11); (try clear hq12 hq13 hq14); (try clear hq15 hq16 hq17); (try clear hq18 hq19 hq20))
  have hq0 := hcs.1.2; have hq1 := hcs.2.1.2; have hq2 := hcs.2.2.1.2; have hq3 := hcs.2.2.2.1.2; have hq4 := hcs.2.2.2.2.1.2; have hq5 := hcs.2.2.2.2.2.1.2; have hq6 := hcs.2.2.2.2.2.2.1.2; have hq7 := hcs.2.2.2.2.2.2.2.1.2; have hq8 := hcs.2.2.2.2.2.2.2.2.1.2; have hq9 := hcs.2.2.2.2.2.2.2.2.2.1.2; have hq10 := hcs.2.2.2.2.2.2.2.2.2.2.1.2; have hq11 := hcs.2.2.2.2.2.2.2.2.2.2.2.1.2; have hq12 := hcs.2.2.2.2.2.2.2.2.2.2.2.2.1.2; have hq13 := hcs.2.2.2.2.2.2.2.2.2.2.2.2.2.1.2; have hq14 := hcs.2.2.2.2.2.2.2.2.2.2.2.2.2.2.1.2; have hq15 := hcs.2.2.2.2.2.2.2.2.2.2.2.2.2.2.2.1.2; have hq16 := hcs.2.2.2.2.2.2.2.2.2.2.2.2.2.2.2.2.1.2; have hq17 := hcs.2.2.2.2.2.2.2.2.2.2.2.2.2.2.2.2.2.1.2; have hq18 := hcs.2.2.2.2.2.2.2.2.2.2.2.2.2.2.2.2.2.2.1.2; have hq19 := hcs.2.2.2.2.2.2.2.2.2.2.2.2.2.2.2.2.2.2.2.1.2; have hq20 := hcs.2.2.2.2.2.2.2.2.2.2.2.2.2.2.2.2.2.2.2.2.1.2; have hz0 := hcs.1.1; have hz1 := hcs.2.2.2.1.1; have hz2 := hcs.2.2.2.2.2.2.1.1; have hz3 := hcs.2.2.2.2.2.2.2.2.2.1.1; have hz4 := hcs.2.2.2.2.2.2.2.2.2.2.2.2.1.1; have hz5 := hcs.2.2.2.2.2.2.2.2.2.2.2.2.2.2.2.1.1; have hz6 := hcs.2.2.2.2.2.2.2.2.2.2.2.2.2.2.2.2.2.2.1.1
  have hB : Below w.heap.size w v6 := by repeat' (first | (with_reducible exact Below.refl _ _) | (with_reducible assumption) | (with_reducible refine kept_alloc ?_ _) | (with_reducible refine kept_drewN ?_ _) | (with_reducible refine Below.drew ?_) | (with_reducible refine Below.setCell ?_ (by first | omega | (simp; omega) | (simp; done)) _) | (refine kept_trans ?_ (by with_reducible assumption)))
  clear hv0 hv1 hv2 hv3 hv4 hv5 hv6
  rcases HO.out.1 with na | ⟨rfl, rfl⟩ <;> rcases HO.out.2 with nb | ⟨rfl, rfl⟩
  all_goals
    (try have na1 : (aR != 1) = true := by simpa using na)
    (try have nb1 : (tR != 1) = true := by simpa using nb)
    (try clear na)
    (try clear nb)
    go_wp2
  all_goals (go_ret; exact ⟨rfl, by first | exact hB | exact kept_alloc hB _ | repeat' (first | (with_reducible exact Below.refl _ _) | (with_reducible assumption) | (with_reducible refine kept_alloc ?_ _) | (with_reducible refine kept_drewN ?_ _) | (with_reducible refine Below.drew ?_) | (with_reducible refine Below.setCell ?_ (by first | omega | (simp; omega) | (simp; done)) _) | (refine kept_trans ?_ (by with_reducible assumption)))⟩)
set_option maxRecDepth 100000 in
theorem wordLater_lifted (os : Os) (started : os.Started) (H : Type) (enc : TypeId × Value → H) :
    ReturnsInHanded {} Try.checked os 8 .any (Rows.wordLaterSpec.pre6 enc Try.prog Try.f8 Rows.wordLaterRow.domain false) (Rows.wordLaterSpec.post enc Try.prog Try.f8 false true false false) := by
  refine returnsInHanded_of_change (C := Try.checked) own started (by kernel_rfl) Try.func8
    (ChangeSpec.witness6 (enc := enc) (C := Try.checked) false ⟨#[], #[.int .u32 0, .int .u8 0, .int .u8 0, .int .u8 0, .int .u32 0], []⟩ 8 (by kernel_rfl) (by kernel_rfl) (by kernel_rfl) (by kernel_rfl)) ?_
  intro W base args ds gs before hval0 hW hcnd _
  have hval : ∀ (j : Nat) t v, Try.f8.params[j]? = some t → args[j]? = some v → Value.okWide Try.prog W .any base t v := hval0
  have hW' := hW
  obtain ⟨p, q, hA0, hV, rfl, hfz, hnd⟩ := hW
  have hA : DataW.TrodAll enc Try.prog W 0 (fun _ => true) true Try.f8.params.toList args.toList ds p := hA0
  rw [Try.params8] at hA hval
  obtain ⟨v0, vs0, d0, ds0, p0, q0, hargs, rfl, rfl, h0, r0⟩ := trodAll_cons hA
  obtain ⟨v1, vs1, d1, ds1, p1, q1, rfl, rfl, rfl, h1, r1⟩ := trodAll_cons r0
  obtain ⟨v2, vs2, d2, ds2, p2, q2, rfl, rfl, rfl, h2, r2⟩ := trodAll_cons r1
  obtain ⟨v3, vs3, d3, ds3, p3, q3, rfl, rfl, rfl, h3, r3⟩ := trodAll_cons r2
  obtain ⟨v4, vs4, d4, ds4, p4, q4, rfl, rfl, rfl, h4, r4⟩ := trodAll_cons r3
  obtain ⟨rfl, rfl, rfl⟩ := trodAll_nil r4
  obtain rfl : args = #[v0, v1, v2, v3, v4] := by cases args; simp_all
  obtain ⟨rfl, rfl⟩ := trodVars_none hV
  obtain ⟨x, rfl, rfl, rfl, wf0⟩ := open_int Try.underlying39 (hval 0 39 v0 rfl rfl) h0
  obtain ⟨l, rfl, rfl, rfl, wf1⟩ := open_int Try.underlying5 (hval 1 5 v1 rfl rfl) h1
  obtain ⟨m, rfl, rfl, rfl, wf2⟩ := open_int Try.underlying5 (hval 2 5 v2 rfl rfl) h2
  obtain ⟨k, rfl, rfl, rfl, wf3⟩ := open_int Try.underlying5 (hval 3 5 v3 rfl rfl) h3
  obtain ⟨d, rfl, rfl, rfl, wf4⟩ := open_int Try.underlying39 (hval 4 39 v4 rfl rfl) h4
  clear hA0 hval0
  refine (wordLater_walk x (bounds_u32 wf0) l (bounds_u8 wf1) m (bounds_u8 wf2) k (bounds_u8 wf3) d (bounds_u32 wf4) W).mono fun e W' ⟨he, hg⟩ => ?_
  subst he
  exact ⟨_, rfl, law_post laid hW' rfl (by kernel_rfl) rfl Try.underlying4 rfl hg⟩

/-- The statement, whole. -/
theorem wordLater_holds : Rows.WordLaterSaid :=
  OpenClaim.holds_of_wide 8 Try.f8 rfl rfl rfl rfl rfl rfl rfl ⟨rfl, rfl, rfl, rfl, rfl⟩ rfl rfl rfl rfl rfl (by kernel_rfl) Try.func8 (by kernel_rfl)
    (of_decide_eq_true (by kernel_rfl)) (by unfold Func.isWrapper; rw [if_neg (of_decide_eq_false (by kernel_rfl))]; exact ⟨rfl, rfl⟩)
    (fun os started H enc _ => wordLater_lifted os started H enc)
end Go.Proofs.Ytgbjgknnkphfiaa
