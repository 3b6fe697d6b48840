/- Layer 7: WaitWalks holds for every input. -/
import Derived.Test.YtmdpgaihbkjjgaaWait1
namespace Go.Proofs.Ytmdpgaihbkjjgaa
set_option linter.unusedVariables false
set_option linter.unusedSimpArgs false
open Go.ChangeShapes Go.WideShapes Go.ChangeAt Go.RowKit

theorem Sl.takeInt {W : World} {l : List Int} {p : Option Addr} {n k : Nat} (h : Sl W 1 intC l (.slice p n k)) (i : Nat) (hi : i ≤ l.length) : Sl W 1 intC (l.take i) (.slice p i k) := by
  obtain ⟨p', cap, hv, h1, h2, h3, h4⟩ := h.is
  cases hv
  refine ⟨p, k, by rw [List.length_take, Nat.min_eq_left hi], by simp; omega, h2, h3, fun hne => ?_⟩
  have hl : l ≠ [] := by intro h; subst h; simp at hne
  obtain ⟨b, o, hp, hb, hc⟩ := h4 hl
  refine ⟨b, o, hp, hb, fun j x hx => ?_⟩
  refine hc j x ?_
  rw [List.getElem?_take] at hx
  split at hx
  · exact hx
  · cases hx
theorem Ow.bds {α : Type} {W : World} {base k : Nat} {e : TypeId} {enc : α → List Value} {xs : List α} {p : Option Addr} {n c : Nat} (h : Ow W base e k enc xs (.slice p n c)) : n ≤ c ∧ c ≤ maxLen := by
  obtain ⟨_, ⟨h1, h2⟩ | ⟨g, cap, cur, h1, _, _, hl, hm, _⟩⟩ := h
  · simp at h1
    obtain ⟨_, rfl, rfl⟩ := h1
    exact ⟨Nat.le_refl _, Nat.zero_le _⟩
  · simp at h1
    obtain ⟨_, rfl, rfl⟩ := h1
    exact ⟨hl, hm⟩

set_option maxRecDepth 100000 in
set_option maxHeartbeats 3000000 in
theorem waitWalks_walk (c : Cf) (hc : c.ok) (a : Int) (ha : 0 ≤ a ∧ a ≤ 255) (b : Int) (hb : 0 ≤ b ∧ b ≤ 255) (w : World) :
    Calls Try.prog 7 #[.agg c.cells.toArray, .int .u8 a, .int .u8 b] w fun e w' => e = .returned (.bool true) ∧ Kept w w' := by
  obtain ⟨lg, th, po, wt, sp, yi, si⟩ := c
  simp only [Cf.cells]
  clear hc
  obtain ⟨i, hia⟩ : ∃ i : Nat, min a b = i := ⟨(min a b).toNat, by omega⟩
  obtain ⟨j, hja⟩ : ∃ j : Nat, max a b = j := ⟨(max a b).toNat, by omega⟩
  have hij : i ≤ j := by omega
  have hj5 : j ≤ 255 := by omega
  have hI : walkL lg th po wt sp yi (manyN i) = walkL lg th po wt sp yi i := by rw [many_nat i (by omega)]
  have hJ : walkL lg th po wt sp yi (manyN j) = walkL lg th po wt sp yi j := by rw [many_nat j (by omega)]
  have HI := Lib.hid hI
  have HJ := Lib.hid hJ
  clear hI hJ
  have hw1 : IntKind.i64.wrap (i : Int) = i := IntWalk.i64_in _ (by omega)
  have hw2 : IntKind.i64.wrap (j : Int) = j := IntWalk.i64_in _ (by omega)
  by_cases hab : a ≤ b
  · obtain rfl : a = i := by omega
    obtain rfl : b = j := by omega
    clear hia hja ha hb
    by_cases hq : i = j
    · subst hq
      ((go_enter Try.func7, Try.ntmps7; go_wp2_with fail; refine (waitawake_any _).mono ?_; rintro e w1 ⟨rfl, hg1⟩; (have hcs : CellsAt w1 [(w.heap.size, 0, .int .i64 lg), (w.heap.size, 1, .int .i64 th), (w.heap.size, 2, .int .i64 po), (w.heap.size, 3, .int .i64 wt), (w.heap.size, 4, .int .i64 sp), (w.heap.size, 5, .int .i64 yi), (w.heap.size, 6, .bool si)] := cells_keep hg1 (by first | exact hcs | (simp only [CellsAt]; (repeat' (first | exact trivial | (refine And.intro ?_ ?_))); all_goals (first | (focus ((try simp only [World.size_setCell, World.size_alloc]); omega)) | (repeat (first | rfl | assumption | (refine (World.cell?_alloc_past _ _ _ ?_).trans ?_; focus ((try simp only [World.size_setCell, World.size_alloc]); omega)) | (refine (World.cell?_alloc_at _ _ _ _ ?_).trans ?_; focus ((try simp only [World.size_setCell, World.size_alloc]); done)) | (refine (World.cell?_setCell_other _ _ _ _ ?_).trans ?_; focus (simp; done)) | (refine (World.cell?_setCell_other _ _ _ _ ?_).trans ?_; focus (simp; omega)) | (refine World.cell?_setCell_same' _ _ _ ?_; focus (simp; done))))))); have hq0 := hcs.1.2; have hq1 := hcs.2.1.2; have hq2 := hcs.2.2.1.2; have hq3 := hcs.2.2.2.1.2; have hq4 := hcs.2.2.2.2.1.2; have hq5 := hcs.2.2.2.2.2.1.2; have hq6 := hcs.2.2.2.2.2.2.1.2; have hz0 := hcs.1.1)); go_wp2_with fail; refine (wwalk_val HI.out (walk_len _ _ _ _ _ _ i) _ _).mono ?_; rintro e w2 ⟨p2, k2, rfl, hO2, hg2⟩; (have hcs : CellsAt w2 [(w.heap.size, 0, .int .i64 lg), (w.heap.size, 1, .int .i64 th), (w.heap.size, 2, .int .i64 po), (w.heap.size, 3, .int .i64 wt), (w.heap.size, 4, .int .i64 sp), (w.heap.size, 5, .int .i64 yi), (w.heap.size, 6, .bool si)] := cells_keep hg2 (by first | exact hcs | (simp only [CellsAt]; (repeat' (first | exact trivial | (refine And.intro ?_ ?_))); all_goals (first | (focus ((try simp only [World.size_setCell, World.size_alloc]); omega)) | (repeat (first | rfl | assumption | (refine (World.cell?_alloc_past _ _ _ ?_).trans ?_; focus ((try simp only [World.size_setCell, World.size_alloc]); omega)) | (refine (World.cell?_alloc_at _ _ _ _ ?_).trans ?_; focus ((try simp only [World.size_setCell, World.size_alloc]); done)) | (refine (World.cell?_setCell_other _ _ _ _ ?_).trans ?_; focus (simp; done)) | (refine (World.cell?_setCell_other _ _ _ _ ?_).trans ?_; focus (simp; omega)) | (refine World.cell?_setCell_same' _ _ _ ?_; focus (simp; done))))))); have hq0 := hcs.1.2; have hq1 := hcs.2.1.2; have hq2 := hcs.2.2.1.2; have hq3 := hcs.2.2.2.1.2; have hq4 := hcs.2.2.2.2.1.2; have hq5 := hcs.2.2.2.2.2.1.2; have hq6 := hcs.2.2.2.2.2.2.1.2; have hz0 := hcs.1.1); have HO2 := Lib.hid hO2; clear hO2; go_wp2_with fail; refine (wwalk_val HJ.out (walk_len _ _ _ _ _ _ i) _ _).mono ?_; rintro e w3 ⟨p3, k3, rfl, hO3, hg3⟩; have HO3 := Lib.hid (And.intro hO3 ((Ow.sl intEnc HO2.out).kept hg3)); obtain ⟨hk1, hk2⟩ := Ow.bds hO3; clear hO3; unfold maxLen at hk2; go_wp2_with fail; refine (rints_val (l := walkL lg th po wt sp yi i) (m := (walkL lg th po wt sp yi i).take i) (b := true) (by rw [walk_take (by omega)]; simp) (walk_len _ _ _ _ _ _ i) (by rw [walk_take (by omega), walk_len]) _ _ _ _ _ HO3.out.2 (Sl.takeInt (Ow.sl intEnc HO3.out.1) i (by rw [walk_len]; omega)) (by omega)).mono ?_; rintro e w4 ⟨rfl, hg4⟩; go_wp2; all_goals (go_ret; exact ⟨rfl, by repeat' (first | (with_reducible exact Below.refl _ _) | (with_reducible assumption) | (with_reducible refine kept_alloc ?_ _) | (with_reducible refine kept_drewN ?_ _) | (with_reducible refine Below.drew ?_) | (with_reducible refine Below.setCell ?_ (by first | omega | (simp; omega) | (simp; done)) _) | (refine kept_trans ?_ (by with_reducible assumption)))⟩))
    · have hl1 : (i : Int) < j := by omega
      have hl2 : ¬ (j : Int) < i := by omega
      ((go_enter Try.func7, Try.ntmps7; go_wp2_with fail; refine (waitawake_any _).mono ?_; rintro e w1 ⟨rfl, hg1⟩; (have hcs : CellsAt w1 [(w.heap.size, 0, .int .i64 lg), (w.heap.size, 1, .int .i64 th), (w.heap.size, 2, .int .i64 po), (w.heap.size, 3, .int .i64 wt), (w.heap.size, 4, .int .i64 sp), (w.heap.size, 5, .int .i64 yi), (w.heap.size, 6, .bool si)] := cells_keep hg1 (by first | exact hcs | (simp only [CellsAt]; (repeat' (first | exact trivial | (refine And.intro ?_ ?_))); all_goals (first | (focus ((try simp only [World.size_setCell, World.size_alloc]); omega)) | (repeat (first | rfl | assumption | (refine (World.cell?_alloc_past _ _ _ ?_).trans ?_; focus ((try simp only [World.size_setCell, World.size_alloc]); omega)) | (refine (World.cell?_alloc_at _ _ _ _ ?_).trans ?_; focus ((try simp only [World.size_setCell, World.size_alloc]); done)) | (refine (World.cell?_setCell_other _ _ _ _ ?_).trans ?_; focus (simp; done)) | (refine (World.cell?_setCell_other _ _ _ _ ?_).trans ?_; focus (simp; omega)) | (refine World.cell?_setCell_same' _ _ _ ?_; focus (simp; done))))))); have hq0 := hcs.1.2; have hq1 := hcs.2.1.2; have hq2 := hcs.2.2.1.2; have hq3 := hcs.2.2.2.1.2; have hq4 := hcs.2.2.2.2.1.2; have hq5 := hcs.2.2.2.2.2.1.2; have hq6 := hcs.2.2.2.2.2.2.1.2; have hz0 := hcs.1.1)); go_wp2_with fail; refine (wwalk_val HI.out (walk_len _ _ _ _ _ _ i) _ _).mono ?_; rintro e w2 ⟨p2, k2, rfl, hO2, hg2⟩; (have hcs : CellsAt w2 [(w.heap.size, 0, .int .i64 lg), (w.heap.size, 1, .int .i64 th), (w.heap.size, 2, .int .i64 po), (w.heap.size, 3, .int .i64 wt), (w.heap.size, 4, .int .i64 sp), (w.heap.size, 5, .int .i64 yi), (w.heap.size, 6, .bool si)] := cells_keep hg2 (by first | exact hcs | (simp only [CellsAt]; (repeat' (first | exact trivial | (refine And.intro ?_ ?_))); all_goals (first | (focus ((try simp only [World.size_setCell, World.size_alloc]); omega)) | (repeat (first | rfl | assumption | (refine (World.cell?_alloc_past _ _ _ ?_).trans ?_; focus ((try simp only [World.size_setCell, World.size_alloc]); omega)) | (refine (World.cell?_alloc_at _ _ _ _ ?_).trans ?_; focus ((try simp only [World.size_setCell, World.size_alloc]); done)) | (refine (World.cell?_setCell_other _ _ _ _ ?_).trans ?_; focus (simp; done)) | (refine (World.cell?_setCell_other _ _ _ _ ?_).trans ?_; focus (simp; omega)) | (refine World.cell?_setCell_same' _ _ _ ?_; focus (simp; done))))))); have hq0 := hcs.1.2; have hq1 := hcs.2.1.2; have hq2 := hcs.2.2.1.2; have hq3 := hcs.2.2.2.1.2; have hq4 := hcs.2.2.2.2.1.2; have hq5 := hcs.2.2.2.2.2.1.2; have hq6 := hcs.2.2.2.2.2.2.1.2; have hz0 := hcs.1.1); have HO2 := Lib.hid hO2; clear hO2; go_wp2_with fail; refine (wwalk_val HJ.out (walk_len _ _ _ _ _ _ j) _ _).mono ?_; rintro e w3 ⟨p3, k3, rfl, hO3, hg3⟩; have HO3 := Lib.hid (And.intro hO3 ((Ow.sl intEnc HO2.out).kept hg3)); obtain ⟨hk1, hk2⟩ := Ow.bds hO3; clear hO3; unfold maxLen at hk2; go_wp2_with fail; refine (rints_val (l := walkL lg th po wt sp yi i) (m := (walkL lg th po wt sp yi j).take i) (b := true) (by rw [walk_take (by omega)]; simp) (walk_len _ _ _ _ _ _ i) (by rw [walk_take (by omega), walk_len]) _ _ _ _ _ HO3.out.2 (Sl.takeInt (Ow.sl intEnc HO3.out.1) i (by rw [walk_len]; omega)) (by omega)).mono ?_; rintro e w4 ⟨rfl, hg4⟩; go_wp2; all_goals (go_ret; exact ⟨rfl, by repeat' (first | (with_reducible exact Below.refl _ _) | (with_reducible assumption) | (with_reducible refine kept_alloc ?_ _) | (with_reducible refine kept_drewN ?_ _) | (with_reducible refine Below.drew ?_) | (with_reducible refine Below.setCell ?_ (by first | omega | (simp; omega) | (simp; done)) _) | (refine kept_trans ?_ (by with_reducible assumption)))⟩))
  · obtain rfl : b = i := by omega
    obtain rfl : a = j := by omega
    have hl1 : (i : Int) < j := by omega
    have hl2 : ¬ (j : Int) < i := by omega
    clear hia hja ha hb
    ((go_enter Try.func7, Try.ntmps7; go_wp2_with fail; refine (waitawake_any _).mono ?_; rintro e w1 ⟨rfl, hg1⟩; (have hcs : CellsAt w1 [(w.heap.size, 0, .int .i64 lg), (w.heap.size, 1, .int .i64 th), (w.heap.size, 2, .int .i64 po), (w.heap.size, 3, .int .i64 wt), (w.heap.size, 4, .int .i64 sp), (w.heap.size, 5, .int .i64 yi), (w.heap.size, 6, .bool si)] := cells_keep hg1 (by first | exact hcs | (simp only [CellsAt]; (repeat' (first | exact trivial | (refine And.intro ?_ ?_))); all_goals (first | (focus ((try simp only [World.size_setCell, World.size_alloc]); omega)) | (repeat (first | rfl | assumption | (refine (World.cell?_alloc_past _ _ _ ?_).trans ?_; focus ((try simp only [World.size_setCell, World.size_alloc]); omega)) | (refine (World.cell?_alloc_at _ _ _ _ ?_).trans ?_; focus ((try simp only [World.size_setCell, World.size_alloc]); done)) | (refine (World.cell?_setCell_other _ _ _ _ ?_).trans ?_; focus (simp; done)) | (refine (World.cell?_setCell_other _ _ _ _ ?_).trans ?_; focus (simp; omega)) | (refine World.cell?_setCell_same' _ _ _ ?_; focus (simp; done))))))); have hq0 := hcs.1.2; have hq1 := hcs.2.1.2; have hq2 := hcs.2.2.1.2; have hq3 := hcs.2.2.2.1.2; have hq4 := hcs.2.2.2.2.1.2; have hq5 := hcs.2.2.2.2.2.1.2; have hq6 := hcs.2.2.2.2.2.2.1.2; have hz0 := hcs.1.1)); go_wp2_with fail; refine (wwalk_val HI.out (walk_len _ _ _ _ _ _ i) _ _).mono ?_; rintro e w2 ⟨p2, k2, rfl, hO2, hg2⟩; (have hcs : CellsAt w2 [(w.heap.size, 0, .int .i64 lg), (w.heap.size, 1, .int .i64 th), (w.heap.size, 2, .int .i64 po), (w.heap.size, 3, .int .i64 wt), (w.heap.size, 4, .int .i64 sp), (w.heap.size, 5, .int .i64 yi), (w.heap.size, 6, .bool si)] := cells_keep hg2 (by first | exact hcs | (simp only [CellsAt]; (repeat' (first | exact trivial | (refine And.intro ?_ ?_))); all_goals (first | (focus ((try simp only [World.size_setCell, World.size_alloc]); omega)) | (repeat (first | rfl | assumption | (refine (World.cell?_alloc_past _ _ _ ?_).trans ?_; focus ((try simp only [World.size_setCell, World.size_alloc]); omega)) | (refine (World.cell?_alloc_at _ _ _ _ ?_).trans ?_; focus ((try simp only [World.size_setCell, World.size_alloc]); done)) | (refine (World.cell?_setCell_other _ _ _ _ ?_).trans ?_; focus (simp; done)) | (refine (World.cell?_setCell_other _ _ _ _ ?_).trans ?_; focus (simp; omega)) | (refine World.cell?_setCell_same' _ _ _ ?_; focus (simp; done))))))); have hq0 := hcs.1.2; have hq1 := hcs.2.1.2; have hq2 := hcs.2.2.1.2; have hq3 := hcs.2.2.2.1.2; have hq4 := hcs.2.2.2.2.1.2; have hq5 := hcs.2.2.2.2.2.1.2; have hq6 := hcs.2.2.2.2.2.2.1.2; have hz0 := hcs.1.1); have HO2 := Lib.hid hO2; clear hO2; go_wp2_with fail; refine (wwalk_val HJ.out (walk_len _ _ _ _ _ _ j) _ _).mono ?_; rintro e w3 ⟨p3, k3, rfl, hO3, hg3⟩; have HO3 := Lib.hid (And.intro hO3 ((Ow.sl intEnc HO2.out).kept hg3)); obtain ⟨hk1, hk2⟩ := Ow.bds hO3; clear hO3; unfold maxLen at hk2; go_wp2_with fail; refine (rints_val (l := walkL lg th po wt sp yi i) (m := (walkL lg th po wt sp yi j).take i) (b := true) (by rw [walk_take (by omega)]; simp) (walk_len _ _ _ _ _ _ i) (by rw [walk_take (by omega), walk_len]) _ _ _ _ _ HO3.out.2 (Sl.takeInt (Ow.sl intEnc HO3.out.1) i (by rw [walk_len]; omega)) (by omega)).mono ?_; rintro e w4 ⟨rfl, hg4⟩; go_wp2; all_goals (go_ret; exact ⟨rfl, by repeat' (first | (with_reducible exact Below.refl _ _) | (with_reducible assumption) | (with_reducible refine kept_alloc ?_ _) | (with_reducible refine kept_drewN ?_ _) | (with_reducible refine Below.drew ?_) | (with_reducible refine Below.setCell ?_ (by first | omega | (simp; omega) | (simp; done)) _) | (refine kept_trans ?_ (by with_reducible assumption)))⟩))
set_option maxRecDepth 100000 in
theorem waitWalks_lifted (os : Os) (started : os.Started) (H : Type) (enc : TypeId × Value → H) :
    ReturnsInHanded {} Try.checked os 7 .any (Rows.waitWalksSpec.pre6 enc Try.prog Try.f7 Rows.waitWalksRow.domain false) (Rows.waitWalksSpec.post enc Try.prog Try.f7 false true false false) := by
  refine returnsInHanded_of_change (C := Try.checked) own started (by kernel_rfl) Try.func7
    (ChangeSpec.witness6 (enc := enc) (C := Try.checked) false ⟨#[], #[.agg Cf.zero.toArray, .int .u8 0, .int .u8 0], []⟩ 8 (by kernel_rfl) (by kernel_rfl) (by kernel_rfl) (by kernel_rfl)) ?_
  intro W base args ds gs before hval0 hW hcnd _
  have hval : ∀ (j : Nat) t v, Try.f7.params[j]? = some t → args[j]? = some v → Value.okWide Try.prog W .any base t v := hval0
  have hW' := hW
  obtain ⟨p, q, hA0, hV, rfl, hfz, hnd⟩ := hW
  have hA : DataW.TrodAll enc Try.prog W 0 (fun _ => true) true Try.f7.params.toList args.toList ds p := hA0
  rw [Try.params7] at hA hval
  obtain ⟨v0, vs0, d0, ds0, p0, q0, hargs, rfl, rfl, h0, r0⟩ := trodAll_cons hA
  obtain ⟨v1, vs1, d1, ds1, p1, q1, rfl, rfl, rfl, h1, r1⟩ := trodAll_cons r0
  obtain ⟨v2, vs2, d2, ds2, p2, q2, rfl, rfl, rfl, h2, r2⟩ := trodAll_cons r1
  obtain ⟨rfl, rfl, rfl⟩ := trodAll_nil r2
  obtain rfl : args = #[v0, v1, v2] := by cases args; simp_all
  obtain ⟨rfl, rfl⟩ := trodVars_none hV
  obtain ⟨ccs, rfl, crd⟩ := open_struct (g := 9) (l := Cf.shape) Try.underlying23 (by kernel_rfl) (hval 0 23 v0 rfl rfl) h0
  obtain ⟨c, rfl, cok⟩ := Cf.of_read crd
  obtain ⟨a, rfl, rfl, rfl, wf1⟩ := open_int Try.underlying5 (hval 1 5 v1 rfl rfl) h1
  obtain ⟨b, rfl, rfl, rfl, wf2⟩ := open_int Try.underlying5 (hval 2 5 v2 rfl rfl) h2
  clear hA0 hval0
  refine (waitWalks_walk c cok a (bounds_u8 wf1) b (bounds_u8 wf2) W).mono fun e W' ⟨he, hg⟩ => ?_
  subst he
  exact ⟨_, rfl, law_post laid hW' rfl (by kernel_rfl) rfl Try.underlying4 rfl hg⟩

/-- The statement, whole. -/
theorem waitWalks_holds : Rows.WaitWalksSaid :=
  OpenClaim.holds_of_wide 7 Try.f7 rfl rfl rfl rfl rfl rfl rfl ⟨rfl, rfl, rfl, rfl, rfl⟩ rfl rfl rfl rfl rfl (by kernel_rfl) Try.func7 (by kernel_rfl)
    (of_decide_eq_true (by kernel_rfl)) (by unfold Func.isWrapper; rw [if_neg (of_decide_eq_false (by kernel_rfl))]; exact ⟨rfl, rfl⟩)
    (fun os started H enc _ => waitWalks_lifted os started H enc)
end Go.Proofs.Ytmdpgaihbkjjgaa
