/- Layer 1: PosTells, PosSplits, PosNext, PosApart, PosLen and PosLaps hold for every input. -/
import Derived.Test.YtmfhkbcimlgciaaPosC
namespace Go.Proofs.Ytmfhkbcimlgciaa
set_option linter.unusedVariables false
set_option linter.unusedSimpArgs false
open Go.ChangeShapes Go.WideShapes Go.ChangeAt Go.RowKit

set_option maxHeartbeats 4000000 in
set_option maxRecDepth 100000 in
theorem posawake_any (w : World) : Calls Try.prog 9 #[] w fun e w' => e = .returned (.bool true) ∧ Kept w w' := by
  have c1 : checkB 3 7 0 4 = true := by decide
  have c2 : checkB 3 8 0 4 = false := by decide
  have c3 : checkB 3 2 0 4 = false := by decide
  have c4 : checkB 0 0 3 4 = false := by decide
  have c5 : lenI 3 7 = 4 := by decide
  have c6 : lenI 7 3 = 0 := by decide
  have c7 : lenI (-9223372036854775808) 9223372036854775807 = 9223372036854775807 := by decide
  have c8 : fullB 3 7 4 = true := by decide
  have c9 : fullB 3 7 5 = false := by decide
  have c10 : placeI 11 4 = 3 := by decide
  have c11 : placeI (-1) 4 = 0 := by decide
  have c12 : lapI 11 4 = 2 := by decide
  have c13 : lapI 11 0 = 0 := by decide
  have c14 : aheadB 3 11 4 = true := by decide
  have c15 : aheadB 11 3 4 = false := by decide
  have c16 : aheadB 3 10 4 = false := by decide
  go_enter Try.func9, Try.ntmps9
  go_wp2_with (first | (go_at_call 10; refine (check_any _ _ _ _ (by omega) (by omega) (by omega) (by omega) _).mono ?_; rintro e wx ⟨rfl, hgx⟩) | (go_at_call 12; refine (len_any _ _ _ (by omega) (by omega) _).mono ?_; rintro e wx ⟨rfl, hgx⟩) | (go_at_call 14; refine (full_any _ _ _ _ (by omega) (by omega) _).mono ?_; rintro e wx ⟨rfl, hgx⟩) | (go_at_call 15; refine (place_any _ _ (by omega) (by omega) _).mono ?_; rintro e wx ⟨rfl, hgx⟩) | (go_at_call 17; refine (lap_any _ _ (by omega) (by omega) _).mono ?_; rintro e wx ⟨rfl, hgx⟩) | (go_at_call 19; refine (ahead_any _ _ _ (by omega) (by omega) (by omega) _).mono ?_; rintro e wx ⟨rfl, hgx⟩))
  all_goals (go_ret; exact ⟨rfl, by repeat' (first | (with_reducible exact Below.refl _ _) | (with_reducible assumption) | (with_reducible refine kept_alloc ?_ _) | (with_reducible refine kept_drewN ?_ _) | (with_reducible refine Below.drew ?_) | (with_reducible refine Below.setCell ?_ (by first | omega | (simp; omega) | (simp; done)) _) | (refine kept_trans ?_ (by with_reducible assumption)))⟩)

theorem posSplits_walk (p : Int) (hp : In64 p) (room : Int) (hroom : In64 room) (w : World) :
    Calls Try.prog 4 #[.int .i64 p, .int .i64 room] w fun e w' => e = .returned (.bool true) ∧ Kept w w' := by
  by_cases hc : p < 0 ∨ room < 1
  · have e1 : placeI p room = 0 := by rw [place_ref, rPlaceI, if_pos hc]
    have e2 : lapI p room = 0 := by rw [lap_ref, rLapI, if_pos hc]
    go_enter Try.func4, Try.ntmps4
    go_wp2_with (first | (go_at_call 9; refine (posawake_any _).mono ?_; rintro e wx ⟨rfl, hgx⟩) | (go_at_call 15; refine (place_any _ _ (by omega) (by omega) _).mono ?_; rintro e wx ⟨rfl, hgx⟩) | (go_at_call 17; refine (lap_any _ _ (by omega) (by omega) _).mono ?_; rintro e wx ⟨rfl, hgx⟩))
    all_goals (go_ret; exact ⟨rfl, by repeat' (first | (with_reducible exact Below.refl _ _) | (with_reducible assumption) | (with_reducible refine kept_alloc ?_ _) | (with_reducible refine kept_drewN ?_ _) | (with_reducible refine Below.drew ?_) | (with_reducible refine Below.setCell ?_ (by first | omega | (simp; omega) | (simp; done)) _) | (refine kept_trans ?_ (by with_reducible assumption)))⟩)
  · have h0 : 0 ≤ placeI p room := by rw [place_of (by omega) (by omega)]; exact Int.emod_nonneg _ (by omega)
    have h1 : placeI p room < room := by rw [place_of (by omega) (by omega)]; exact Int.emod_lt_of_pos _ (by omega)
    have h2 : 0 ≤ lapI p room := by rw [lap_of (by omega) (by omega)]; exact Int.ediv_nonneg (by omega) (by omega)
    have h3 : 0 ≤ lapI p room * room := Int.mul_nonneg h2 (by omega)
    have h4 : lapI p room * room + placeI p room = p := by rw [lap_of (by omega) (by omega), place_of (by omega) (by omega), Int.mul_comm]; exact Int.mul_ediv_add_emod p room
    have h5 : lapI p room * room ≤ 9223372036854775807 := by omega
    have h6 : ¬ p < 0 := by omega
    have h7 : ¬ room < 1 := by omega
    go_enter Try.func4, Try.ntmps4
    go_wp2_with (first | (go_at_call 9; refine (posawake_any _).mono ?_; rintro e wx ⟨rfl, hgx⟩) | (go_at_call 15; refine (place_any _ _ (by omega) (by omega) _).mono ?_; rintro e wx ⟨rfl, hgx⟩) | (go_at_call 17; refine (lap_any _ _ (by omega) (by omega) _).mono ?_; rintro e wx ⟨rfl, hgx⟩))
    all_goals (go_ret; exact ⟨rfl, by repeat' (first | (with_reducible exact Below.refl _ _) | (with_reducible assumption) | (with_reducible refine kept_alloc ?_ _) | (with_reducible refine kept_drewN ?_ _) | (with_reducible refine Below.drew ?_) | (with_reducible refine Below.setCell ?_ (by first | omega | (simp; omega) | (simp; done)) _) | (refine kept_trans ?_ (by with_reducible assumption)))⟩)
set_option maxRecDepth 100000 in
theorem posSplits_lifted (os : Os) (started : os.Started) (H : Type) (enc : TypeId × Value → H) :
    ReturnsInHanded {} Try.checked os 4 .any (Rows.posSplitsSpec.pre6 enc Try.prog Try.f4 Rows.posSplitsRow.domain false) (Rows.posSplitsSpec.post enc Try.prog Try.f4 false true false false) := by
  refine returnsInHanded_of_change (C := Try.checked) own started (by kernel_rfl) Try.func4
    (ChangeSpec.witness6 (enc := enc) (C := Try.checked) false ⟨#[], #[.int .i64 0, .int .i64 0], []⟩ 8 (by kernel_rfl) (by kernel_rfl) (by kernel_rfl) (by kernel_rfl)) ?_
  intro W base args ds gs before hval0 hW hcnd _
  have hval : ∀ (j : Nat) t v, Try.f4.params[j]? = some t → args[j]? = some v → Value.okWide Try.prog W .any base t v := hval0
  have hW' := hW
  obtain ⟨p, q, hA0, hV, rfl, hfz, hnd⟩ := hW
  have hA : DataW.TrodAll enc Try.prog W 0 (fun _ => true) true Try.f4.params.toList args.toList ds p := hA0
  rw [Try.params4] at hA hval
  obtain ⟨v0, vs0, d0, ds0, p0, q0, hargs, rfl, rfl, h0, r0⟩ := trodAll_cons hA
  obtain ⟨v1, vs1, d1, ds1, p1, q1, rfl, rfl, rfl, h1, r1⟩ := trodAll_cons r0
  obtain ⟨rfl, rfl, rfl⟩ := trodAll_nil r1
  obtain rfl : args = #[v0, v1] := by cases args; simp_all
  obtain ⟨rfl, rfl⟩ := trodVars_none hV
  obtain ⟨p, rfl, rfl, rfl, wf0⟩ := open_int Try.underlying3 (hval 0 3 v0 rfl rfl) h0
  obtain ⟨room, rfl, rfl, rfl, wf1⟩ := open_int Try.underlying3 (hval 1 3 v1 rfl rfl) h1
  clear hA0 hval0
  refine (posSplits_walk p (in64_of_wf wf0) room (in64_of_wf wf1) W).mono fun e W' ⟨he, hg⟩ => ?_
  subst he
  exact ⟨_, rfl, law_post laid hW' rfl (by kernel_rfl) rfl Try.underlying4 rfl hg⟩

/-- The statement, whole. -/
theorem posSplits_holds : Rows.PosSplitsSaid :=
  OpenClaim.holds_of_wide 4 Try.f4 rfl rfl rfl rfl rfl rfl rfl ⟨rfl, rfl, rfl, rfl, rfl⟩ rfl rfl rfl rfl rfl (by kernel_rfl) Try.func4 (by kernel_rfl)
    (of_decide_eq_true (by kernel_rfl)) (by unfold Func.isWrapper; rw [if_neg (of_decide_eq_false (by kernel_rfl))]; exact ⟨rfl, rfl⟩)
    (fun os started H enc _ => posSplits_lifted os started H enc)

set_option maxHeartbeats 1000000 in
theorem posTells_walk (w0 w1 w2 : Int) (hw0 : In64 w0) (hw1 : In64 w1) (hw2 : In64 w2) (p : Int) (hp : In64 p) (q : Int) (hq : In64 q) (room : Int) (hroom : In64 room) (w : World) :
    Calls Try.prog 3 #[.agg #[.int .i64 w0, .int .i64 w1, .int .i64 w2], .int .i64 p, .int .i64 q, .int .i64 room] w fun e w' => e = .returned (.bool true) ∧ Kept w w' := by
  have e1 : checkB w0 w1 w2 room = rCheckB w0 w1 w2 room := check_ref (by omega)
  have e2 : lenI w0 w1 = rLenI w0 w1 := len_ref (by omega) (by omega)
  have e3 : placeI p room = rPlaceI p room := place_ref
  have e4 : lapI p room = rLapI p room := lap_ref
  have e5 : aheadB p q room = rAheadB p q room := ahead_ref
  have e6 : fullB w0 w1 room = decide (room ≤ rLenI w0 w1) := by rw [fullB, e2]
  go_enter Try.func3, Try.ntmps3
  go_wp2_with (first | (go_at_call 9; refine (posawake_any _).mono ?_; rintro e wx ⟨rfl, hgx⟩; obtain ⟨hcx, hfx⟩ := bcell hgx; have hz0 : w.heap.size < wx.heap.size := (by have := hgx.size; (try simp at this); omega)))
  (refine wp_region_kept (w := w) [(w.heap.size, 0, .int .i64 w0), (w.heap.size, 1, .int .i64 w1), (w.heap.size, 2, .int .i64 w2)] (by kernel_rfl) (by kernel_rfl) (by repeat' (first | (with_reducible exact Below.refl _ _) | (with_reducible assumption) | (with_reducible refine kept_alloc ?_ _) | (with_reducible refine kept_drewN ?_ _) | (with_reducible refine Below.drew ?_) | (with_reducible refine Below.setCell ?_ (by first | omega | (simp; omega) | (simp; done)) _) | (refine kept_trans ?_ (by with_reducible assumption)))) (by first | (simp [CellsAt, *, World.cell?_alloc_past, World.cell?_alloc_at]; done) | (simp [CellsAt, *, World.cell?_alloc_past, World.cell?_alloc_at]; omega)) (fun hne => ?_); (have hq0 : ∀ x : Wd w [(w.heap.size, 0, .int .i64 w0), (w.heap.size, 1, .int .i64 w1), (w.heap.size, 2, .int .i64 w2)], x.at.cell? ⟨w.heap.size, 0, none⟩ = some (.int .i64 w0) := fun x => x.cells.1.2; have hq1 : ∀ x : Wd w [(w.heap.size, 0, .int .i64 w0), (w.heap.size, 1, .int .i64 w1), (w.heap.size, 2, .int .i64 w2)], x.at.cell? ⟨w.heap.size, 1, none⟩ = some (.int .i64 w1) := fun x => x.cells.2.1.2; have hq2 : ∀ x : Wd w [(w.heap.size, 0, .int .i64 w0), (w.heap.size, 1, .int .i64 w1), (w.heap.size, 2, .int .i64 w2)], x.at.cell? ⟨w.heap.size, 2, none⟩ = some (.int .i64 w2) := fun x => x.cells.2.2.1.2); (repeat (go_big_quiet_step ((first | (go_at_call 10; exact quiet_call (check_any _ _ _ _ (by omega) (by omega) (by omega) (by omega) _)) | (go_at_call 12; exact quiet_call (len_any _ _ _ (by omega) (by omega) _)) | (go_at_call 14; exact quiet_call (full_any _ _ _ _ (by omega) (by omega) _)) | (go_at_call 15; exact quiet_call (place_any _ _ (by omega) (by omega) _)) | (go_at_call 17; exact quiet_call (lap_any _ _ (by omega) (by omega) _)) | (go_at_call 19; exact quiet_call (ahead_any _ _ _ (by omega) (by omega) (by omega) _)) | (go_at_call 11; exact quiet_call (rcheck_any _ _ _ _ (by omega) (by omega) (by omega) (by omega) _)) | (go_at_call 13; exact quiet_call (rlen_any _ _ _ (by omega) (by omega) _)) | (go_at_call 16; exact quiet_call (rplace_any _ _ (by omega) (by omega) _)) | (go_at_call 18; exact quiet_call (rlap_any _ _ (by omega) (by omega) _)) | (go_at_call 20; exact quiet_call (rahead_any _ _ _ (by omega) (by omega) (by omega) _)))))); (refine wpQuiet_nil ?_); intro wq hwq; obtain ⟨x, hx⟩ := hwq; have hgx : Below w.heap.size w wq := (by rw [hx]; exact x.kept); have hcs := (show CellsAt wq [(w.heap.size, 0, .int .i64 w0), (w.heap.size, 1, .int .i64 w1), (w.heap.size, 2, .int .i64 w2)] by rw [hx]; exact x.cells); clear hx x hne)
  all_goals go_wp2
  all_goals (go_ret; exact ⟨rfl, by repeat' (first | (with_reducible exact Below.refl _ _) | (with_reducible assumption) | (with_reducible refine kept_alloc ?_ _) | (with_reducible refine kept_drewN ?_ _) | (with_reducible refine Below.drew ?_) | (with_reducible refine Below.setCell ?_ (by first | omega | (simp; omega) | (simp; done)) _) | (refine kept_trans ?_ (by with_reducible assumption)))⟩)
set_option maxRecDepth 100000 in
theorem posTells_lifted (os : Os) (started : os.Started) (H : Type) (enc : TypeId × Value → H) :
    ReturnsInHanded {} Try.checked os 3 .any (Rows.posTellsSpec.pre6 enc Try.prog Try.f3 Rows.posTellsRow.domain false) (Rows.posTellsSpec.post enc Try.prog Try.f3 false true false false) := by
  refine returnsInHanded_of_change (C := Try.checked) own started (by kernel_rfl) Try.func3
    (ChangeSpec.witness6 (enc := enc) (C := Try.checked) false ⟨#[], #[.agg #[.int .i64 0, .int .i64 0, .int .i64 0], .int .i64 0, .int .i64 0, .int .i64 0], []⟩ 8 (by kernel_rfl) (by kernel_rfl) (by kernel_rfl) (by kernel_rfl)) ?_
  intro W base args ds gs before hval0 hW hcnd _
  have hval : ∀ (j : Nat) t v, Try.f3.params[j]? = some t → args[j]? = some v → Value.okWide Try.prog W .any base t v := hval0
  have hW' := hW
  obtain ⟨p, q, hA0, hV, rfl, hfz, hnd⟩ := hW
  have hA : DataW.TrodAll enc Try.prog W 0 (fun _ => true) true Try.f3.params.toList args.toList ds p := hA0
  rw [Try.params3] at hA hval
  obtain ⟨v0, vs0, d0, ds0, p0, q0, hargs, rfl, rfl, h0, r0⟩ := trodAll_cons hA
  obtain ⟨v1, vs1, d1, ds1, p1, q1, rfl, rfl, rfl, h1, r1⟩ := trodAll_cons r0
  obtain ⟨v2, vs2, d2, ds2, p2, q2, rfl, rfl, rfl, h2, r2⟩ := trodAll_cons r1
  obtain ⟨v3, vs3, d3, ds3, p3, q3, rfl, rfl, rfl, h3, r3⟩ := trodAll_cons r2
  obtain ⟨rfl, rfl, rfl⟩ := trodAll_nil r3
  obtain rfl : args = #[v0, v1, v2, v3] := by cases args; simp_all
  obtain ⟨rfl, rfl⟩ := trodVars_none hV
  obtain ⟨w0, w1, w2, rfl, wf00, wf01, wf02⟩ := open_ints3 Try.underlying23 (by kernel_rfl) (by kernel_rfl) rfl rfl rfl Try.underlying3 Try.underlying3 Try.underlying3 (hval 0 23 v0 rfl rfl) h0
  obtain ⟨p, rfl, rfl, rfl, wf1⟩ := open_int Try.underlying3 (hval 1 3 v1 rfl rfl) h1
  obtain ⟨q, rfl, rfl, rfl, wf2⟩ := open_int Try.underlying3 (hval 2 3 v2 rfl rfl) h2
  obtain ⟨room, rfl, rfl, rfl, wf3⟩ := open_int Try.underlying3 (hval 3 3 v3 rfl rfl) h3
  clear hA0 hval0
  refine (posTells_walk w0 w1 w2 wf00 wf01 wf02 p (in64_of_wf wf1) q (in64_of_wf wf2) room (in64_of_wf wf3) W).mono fun e W' ⟨he, hg⟩ => ?_
  subst he
  exact ⟨_, rfl, law_post laid hW' rfl (by kernel_rfl) rfl Try.underlying4 rfl hg⟩

/-- The statement, whole. -/
theorem posTells_holds : Rows.PosTellsSaid :=
  OpenClaim.holds_of_wide 3 Try.f3 rfl rfl rfl rfl rfl rfl rfl ⟨rfl, rfl, rfl, rfl, rfl⟩ rfl rfl rfl rfl rfl (by kernel_rfl) Try.func3 (by kernel_rfl)
    (of_decide_eq_true (by kernel_rfl)) (by unfold Func.isWrapper; rw [if_neg (of_decide_eq_false (by kernel_rfl))]; exact ⟨rfl, rfl⟩)
    (fun os started H enc _ => posTells_lifted os started H enc)
end Go.Proofs.Ytmfhkbcimlgciaa
