/- Layer 1: PosNext, PosApart, PosLen and PosLaps hold for every input. -/
import Derived.Test.YtmfhkbcimlgciaaPosL
namespace Go.Proofs.Ytmfhkbcimlgciaa
set_option linter.unusedVariables false
set_option linter.unusedSimpArgs false
open Go.ChangeShapes Go.WideShapes Go.ChangeAt Go.RowKit

set_option maxHeartbeats 1000000 in
theorem posNext_walk (p : Int) (hp : 0 ≤ p ∧ p ≤ 4294967295) (room : Int) (hroom : 0 ≤ room ∧ room ≤ 65535) (w : World) :
    Calls Try.prog 5 #[.int .u32 p, .int .u16 room] w fun e w' => e = .returned (.bool true) ∧ Kept w w' := by
  have b := place_bd (p := p) (r := 1 + room) (by omega) (by omega)
  have c := lap_bd (p := p) (r := 1 + room) (by omega) (by omega)
  have a1 : aheadB p (p + (1 + room)) (1 + room) = true := by
    rw [ahead_is (by omega) (by omega) (by omega)]
    have := (laps_later (p := p) (r := 1 + room) (k := 1) (by omega) (by omega) (by omega)).2
    rw [Int.one_mul] at this; rw [this]; simp; omega
  have a2 : aheadB (p + (1 + room)) p (1 + room) = false := by
    rw [ahead_is (by omega) (by omega) (by omega)]; simp; omega
  by_cases hn : placeI p (1 + room) + 1 < 1 + room
  · obtain ⟨n1, n2⟩ := next_same (p := p) (r := 1 + room) (by omega) (by omega) hn
    go_enter Try.func5, Try.ntmps5
    go_wp2_with (first | (go_at_call 9; refine (posawake_any _).mono ?_; rintro e wx ⟨rfl, hgx⟩) | (go_at_call 15; refine (place_any _ _ (by omega) (by omega) _).mono ?_; rintro e wx ⟨rfl, hgx⟩) | (go_at_call 17; refine (lap_any _ _ (by omega) (by omega) _).mono ?_; rintro e wx ⟨rfl, hgx⟩) | (go_at_call 19; refine (ahead_any _ _ _ (by omega) (by omega) (by omega) _).mono ?_; rintro e wx ⟨rfl, hgx⟩))
    all_goals (go_ret; exact ⟨rfl, by repeat' (first | (with_reducible exact Below.refl _ _) | (with_reducible assumption) | (with_reducible refine kept_alloc ?_ _) | (with_reducible refine kept_drewN ?_ _) | (with_reducible refine Below.drew ?_) | (with_reducible refine Below.setCell ?_ (by first | omega | (simp; omega) | (simp; done)) _) | (refine kept_trans ?_ (by with_reducible assumption)))⟩)
  · obtain ⟨n1, n2⟩ := next_lap (p := p) (r := 1 + room) (by omega) (by omega) (by omega)
    have hn' : placeI p (1 + room) = room := by omega
    clear b hn
    go_enter Try.func5, Try.ntmps5
    go_wp2_with (first | (go_at_call 9; refine (posawake_any _).mono ?_; rintro e wx ⟨rfl, hgx⟩) | (go_at_call 15; refine (place_any _ _ (by omega) (by omega) _).mono ?_; rintro e wx ⟨rfl, hgx⟩) | (go_at_call 17; refine (lap_any _ _ (by omega) (by omega) _).mono ?_; rintro e wx ⟨rfl, hgx⟩) | (go_at_call 19; refine (ahead_any _ _ _ (by omega) (by omega) (by omega) _).mono ?_; rintro e wx ⟨rfl, hgx⟩))
    all_goals (go_ret; exact ⟨rfl, by repeat' (first | (with_reducible exact Below.refl _ _) | (with_reducible assumption) | (with_reducible refine kept_alloc ?_ _) | (with_reducible refine kept_drewN ?_ _) | (with_reducible refine Below.drew ?_) | (with_reducible refine Below.setCell ?_ (by first | omega | (simp; omega) | (simp; done)) _) | (refine kept_trans ?_ (by with_reducible assumption)))⟩)
set_option maxRecDepth 100000 in
theorem posNext_lifted (os : Os) (started : os.Started) (H : Type) (enc : TypeId × Value → H) :
    ReturnsInHanded {} Try.checked os 5 .any (Rows.posNextSpec.pre6 enc Try.prog Try.f5 Rows.posNextRow.domain false) (Rows.posNextSpec.post enc Try.prog Try.f5 false true false false) := by
  refine returnsInHanded_of_change (C := Try.checked) own started (by kernel_rfl) Try.func5
    (ChangeSpec.witness6 (enc := enc) (C := Try.checked) false ⟨#[], #[.int .u32 0, .int .u16 0], []⟩ 8 (by kernel_rfl) (by kernel_rfl) (by kernel_rfl) (by kernel_rfl)) ?_
  intro W base args ds gs before hval0 hW hcnd _
  have hval : ∀ (j : Nat) t v, Try.f5.params[j]? = some t → args[j]? = some v → Value.okWide Try.prog W .any base t v := hval0
  have hW' := hW
  obtain ⟨p, q, hA0, hV, rfl, hfz, hnd⟩ := hW
  have hA : DataW.TrodAll enc Try.prog W 0 (fun _ => true) true Try.f5.params.toList args.toList ds p := hA0
  rw [Try.params5] at hA hval
  obtain ⟨v0, vs0, d0, ds0, p0, q0, hargs, rfl, rfl, h0, r0⟩ := trodAll_cons hA
  obtain ⟨v1, vs1, d1, ds1, p1, q1, rfl, rfl, rfl, h1, r1⟩ := trodAll_cons r0
  obtain ⟨rfl, rfl, rfl⟩ := trodAll_nil r1
  obtain rfl : args = #[v0, v1] := by cases args; simp_all
  obtain ⟨rfl, rfl⟩ := trodVars_none hV
  obtain ⟨p, rfl, rfl, rfl, wf0⟩ := open_int Try.underlying31 (hval 0 31 v0 rfl rfl) h0
  obtain ⟨room, rfl, rfl, rfl, wf1⟩ := open_int Try.underlying32 (hval 1 32 v1 rfl rfl) h1
  clear hA0 hval0
  refine (posNext_walk p (bounds_u32 wf0) room (bounds_u16 wf1) W).mono fun e W' ⟨he, hg⟩ => ?_
  subst he
  exact ⟨_, rfl, law_post laid hW' rfl (by kernel_rfl) rfl Try.underlying4 rfl hg⟩

/-- The statement, whole. -/
theorem posNext_holds : Rows.PosNextSaid :=
  OpenClaim.holds_of_wide 5 Try.f5 rfl rfl rfl rfl rfl rfl rfl ⟨rfl, rfl, rfl, rfl, rfl⟩ rfl rfl rfl rfl rfl (by kernel_rfl) Try.func5 (by kernel_rfl)
    (of_decide_eq_true (by kernel_rfl)) (by unfold Func.isWrapper; rw [if_neg (of_decide_eq_false (by kernel_rfl))]; exact ⟨rfl, rfl⟩)
    (fun os started H enc _ => posNext_lifted os started H enc)

set_option maxHeartbeats 1000000 in
theorem posLaps_walk (p : Int) (hp : 0 ≤ p ∧ p ≤ 4294967295) (room : Int) (hroom : 0 ≤ room ∧ room ≤ 65535) (laps : Int) (hlaps : 0 ≤ laps ∧ laps ≤ 65535) (w : World) :
    Calls Try.prog 8 #[.int .u32 p, .int .u16 room, .int .u16 laps] w fun e w' => e = .returned (.bool true) ∧ Kept w w' := by
  have k1 : 0 ≤ laps * (1 + room) := Int.mul_nonneg (by omega) (by omega)
  have k2 : laps * (1 + room) ≤ 65535 * 65536 := Int.mul_le_mul (by omega) (by omega) (by omega) (by omega)
  have b := place_bd (p := p) (r := 1 + room) (by omega) (by omega)
  have c := lap_bd (p := p) (r := 1 + room) (by omega) (by omega)
  obtain ⟨n1, n2⟩ := laps_later (p := p) (r := 1 + room) (k := laps) (by omega) (by omega) (by omega)
  have a1 : aheadB p (p + laps * (1 + room)) (1 + room) = decide (0 < laps) := by
    rw [ahead_is (by omega) (by omega) (by omega), n2]
    by_cases h : 0 < laps
    · have := Int.mul_pos h (show 0 < 1 + room by omega); simp [h]; omega
    · have : laps = 0 := by omega
      subst this; simp
  go_enter Try.func8, Try.ntmps8
  go_wp2_with (first | (go_at_call 9; refine (posawake_any _).mono ?_; rintro e wx ⟨rfl, hgx⟩) | (go_at_call 15; refine (place_any _ _ (by omega) (by omega) _).mono ?_; rintro e wx ⟨rfl, hgx⟩) | (go_at_call 17; refine (lap_any _ _ (by omega) (by omega) _).mono ?_; rintro e wx ⟨rfl, hgx⟩) | (go_at_call 19; refine (ahead_any _ _ _ (by omega) (by omega) (by omega) _).mono ?_; rintro e wx ⟨rfl, hgx⟩))
  all_goals (go_ret; exact ⟨rfl, by repeat' (first | (with_reducible exact Below.refl _ _) | (with_reducible assumption) | (with_reducible refine kept_alloc ?_ _) | (with_reducible refine kept_drewN ?_ _) | (with_reducible refine Below.drew ?_) | (with_reducible refine Below.setCell ?_ (by first | omega | (simp; omega) | (simp; done)) _) | (refine kept_trans ?_ (by with_reducible assumption)))⟩)
set_option maxRecDepth 100000 in
theorem posLaps_lifted (os : Os) (started : os.Started) (H : Type) (enc : TypeId × Value → H) :
    ReturnsInHanded {} Try.checked os 8 .any (Rows.posLapsSpec.pre6 enc Try.prog Try.f8 Rows.posLapsRow.domain false) (Rows.posLapsSpec.post enc Try.prog Try.f8 false true false false) := by
  refine returnsInHanded_of_change (C := Try.checked) own started (by kernel_rfl) Try.func8
    (ChangeSpec.witness6 (enc := enc) (C := Try.checked) false ⟨#[], #[.int .u32 0, .int .u16 0, .int .u16 0], []⟩ 8 (by kernel_rfl) (by kernel_rfl) (by kernel_rfl) (by kernel_rfl)) ?_
  intro W base args ds gs before hval0 hW hcnd _
  have hval : ∀ (j : Nat) t v, Try.f8.params[j]? = some t → args[j]? = some v → Value.okWide Try.prog W .any base t v := hval0
  have hW' := hW
  obtain ⟨p, q, hA0, hV, rfl, hfz, hnd⟩ := hW
  have hA : DataW.TrodAll enc Try.prog W 0 (fun _ => true) true Try.f8.params.toList args.toList ds p := hA0
  rw [Try.params8] at hA hval
  obtain ⟨v0, vs0, d0, ds0, p0, q0, hargs, rfl, rfl, h0, r0⟩ := trodAll_cons hA
  obtain ⟨v1, vs1, d1, ds1, p1, q1, rfl, rfl, rfl, h1, r1⟩ := trodAll_cons r0
  obtain ⟨v2, vs2, d2, ds2, p2, q2, rfl, rfl, rfl, h2, r2⟩ := trodAll_cons r1
  obtain ⟨rfl, rfl, rfl⟩ := trodAll_nil r2
  obtain rfl : args = #[v0, v1, v2] := by cases args; simp_all
  obtain ⟨rfl, rfl⟩ := trodVars_none hV
  obtain ⟨p, rfl, rfl, rfl, wf0⟩ := open_int Try.underlying31 (hval 0 31 v0 rfl rfl) h0
  obtain ⟨room, rfl, rfl, rfl, wf1⟩ := open_int Try.underlying32 (hval 1 32 v1 rfl rfl) h1
  obtain ⟨laps, rfl, rfl, rfl, wf2⟩ := open_int Try.underlying32 (hval 2 32 v2 rfl rfl) h2
  clear hA0 hval0
  refine (posLaps_walk p (bounds_u32 wf0) room (bounds_u16 wf1) laps (bounds_u16 wf2) W).mono fun e W' ⟨he, hg⟩ => ?_
  subst he
  exact ⟨_, rfl, law_post laid hW' rfl (by kernel_rfl) rfl Try.underlying4 rfl hg⟩

/-- The statement, whole. -/
theorem posLaps_holds : Rows.PosLapsSaid :=
  OpenClaim.holds_of_wide 8 Try.f8 rfl rfl rfl rfl rfl rfl rfl ⟨rfl, rfl, rfl, rfl, rfl⟩ rfl rfl rfl rfl rfl (by kernel_rfl) Try.func8 (by kernel_rfl)
    (of_decide_eq_true (by kernel_rfl)) (by unfold Func.isWrapper; rw [if_neg (of_decide_eq_false (by kernel_rfl))]; exact ⟨rfl, rfl⟩)
    (fun os started H enc _ => posLaps_lifted os started H enc)

set_option maxHeartbeats 1000000 in
theorem posApart_walk (p : Int) (hp : 0 ≤ p ∧ p ≤ 4294967295) (a : Int) (ha : 0 ≤ a ∧ a ≤ 65535) (b : Int) (hb : 0 ≤ b ∧ b ≤ 65535) (room : Int) (hroom : 0 ≤ room ∧ room ≤ 65535) (w : World) :
    Calls Try.prog 6 #[.int .u32 p, .int .u16 a, .int .u16 b, .int .u16 room] w fun e w' => e = .returned (.bool true) ∧ Kept w w' := by
  have a0 := Int.emod_nonneg a (show 1 + room ≠ 0 by omega)
  have a1 := Int.emod_lt_of_pos a (show 0 < 1 + room by omega)
  have b0 := Int.emod_nonneg b (show 1 + room ≠ 0 by omega)
  have b1 := Int.emod_lt_of_pos b (show 0 < 1 + room by omega)
  have c2 : (placeI (p + a % (1 + room)) (1 + room) == placeI (p + b % (1 + room)) (1 + room)) = (p + a % (1 + room) == p + b % (1 + room)) := by
    rw [Bool.eq_iff_iff]; simp only [beq_iff_eq]; exact place_apart (by omega) (by omega) (by omega) (by omega) (by omega)
  have c1 : aheadB p (p + a) (1 + room) = (decide (p < p + a) && decide (placeI p (1 + room) = placeI (p + a) (1 + room))) := ahead_is (by omega) (by omega) (by omega)
  by_cases h1 : p < p + a
  all_goals
    have c1' : aheadB p (p + a) (1 + room) = (if p < p + a then (placeI p (1 + room) == placeI (p + a) (1 + room)) else false) := by rw [c1, Bool.eq_iff_iff]; simp [h1]
    simp only [h1, if_true, if_false] at c1'
    clear c1
    go_enter Try.func6, Try.ntmps6
    go_wp2_with (first | (go_at_call 9; refine (posawake_any _).mono ?_; rintro e wx ⟨rfl, hgx⟩) | (go_at_call 15; refine (place_any _ _ (by omega) (by omega) _).mono ?_; rintro e wx ⟨rfl, hgx⟩) | (go_at_call 17; refine (lap_any _ _ (by omega) (by omega) _).mono ?_; rintro e wx ⟨rfl, hgx⟩) | (go_at_call 19; refine (ahead_any _ _ _ (by omega) (by omega) (by omega) _).mono ?_; rintro e wx ⟨rfl, hgx⟩))
    all_goals (go_ret; exact ⟨rfl, by repeat' (first | (with_reducible exact Below.refl _ _) | (with_reducible assumption) | (with_reducible refine kept_alloc ?_ _) | (with_reducible refine kept_drewN ?_ _) | (with_reducible refine Below.drew ?_) | (with_reducible refine Below.setCell ?_ (by first | omega | (simp; omega) | (simp; done)) _) | (refine kept_trans ?_ (by with_reducible assumption)))⟩)
set_option maxRecDepth 100000 in
theorem posApart_lifted (os : Os) (started : os.Started) (H : Type) (enc : TypeId × Value → H) :
    ReturnsInHanded {} Try.checked os 6 .any (Rows.posApartSpec.pre6 enc Try.prog Try.f6 Rows.posApartRow.domain false) (Rows.posApartSpec.post enc Try.prog Try.f6 false true false false) := by
  refine returnsInHanded_of_change (C := Try.checked) own started (by kernel_rfl) Try.func6
    (ChangeSpec.witness6 (enc := enc) (C := Try.checked) false ⟨#[], #[.int .u32 0, .int .u16 0, .int .u16 0, .int .u16 0], []⟩ 8 (by kernel_rfl) (by kernel_rfl) (by kernel_rfl) (by kernel_rfl)) ?_
  intro W base args ds gs before hval0 hW hcnd _
  have hval : ∀ (j : Nat) t v, Try.f6.params[j]? = some t → args[j]? = some v → Value.okWide Try.prog W .any base t v := hval0
  have hW' := hW
  obtain ⟨p, q, hA0, hV, rfl, hfz, hnd⟩ := hW
  have hA : DataW.TrodAll enc Try.prog W 0 (fun _ => true) true Try.f6.params.toList args.toList ds p := hA0
  rw [Try.params6] at hA hval
  obtain ⟨v0, vs0, d0, ds0, p0, q0, hargs, rfl, rfl, h0, r0⟩ := trodAll_cons hA
  obtain ⟨v1, vs1, d1, ds1, p1, q1, rfl, rfl, rfl, h1, r1⟩ := trodAll_cons r0
  obtain ⟨v2, vs2, d2, ds2, p2, q2, rfl, rfl, rfl, h2, r2⟩ := trodAll_cons r1
  obtain ⟨v3, vs3, d3, ds3, p3, q3, rfl, rfl, rfl, h3, r3⟩ := trodAll_cons r2
  obtain ⟨rfl, rfl, rfl⟩ := trodAll_nil r3
  obtain rfl : args = #[v0, v1, v2, v3] := by cases args; simp_all
  obtain ⟨rfl, rfl⟩ := trodVars_none hV
  obtain ⟨p, rfl, rfl, rfl, wf0⟩ := open_int Try.underlying31 (hval 0 31 v0 rfl rfl) h0
  obtain ⟨a, rfl, rfl, rfl, wf1⟩ := open_int Try.underlying32 (hval 1 32 v1 rfl rfl) h1
  obtain ⟨b, rfl, rfl, rfl, wf2⟩ := open_int Try.underlying32 (hval 2 32 v2 rfl rfl) h2
  obtain ⟨room, rfl, rfl, rfl, wf3⟩ := open_int Try.underlying32 (hval 3 32 v3 rfl rfl) h3
  clear hA0 hval0
  refine (posApart_walk p (bounds_u32 wf0) a (bounds_u16 wf1) b (bounds_u16 wf2) room (bounds_u16 wf3) W).mono fun e W' ⟨he, hg⟩ => ?_
  subst he
  exact ⟨_, rfl, law_post laid hW' rfl (by kernel_rfl) rfl Try.underlying4 rfl hg⟩

/-- The statement, whole. -/
theorem posApart_holds : Rows.PosApartSaid :=
  OpenClaim.holds_of_wide 6 Try.f6 rfl rfl rfl rfl rfl rfl rfl ⟨rfl, rfl, rfl, rfl, rfl⟩ rfl rfl rfl rfl rfl (by kernel_rfl) Try.func6 (by kernel_rfl)
    (of_decide_eq_true (by kernel_rfl)) (by unfold Func.isWrapper; rw [if_neg (of_decide_eq_false (by kernel_rfl))]; exact ⟨rfl, rfl⟩)
    (fun os started H enc _ => posApart_lifted os started H enc)

set_option maxHeartbeats 1000000 in
theorem posLen_walk (w0 w1 w2 : Int) (hw0 : In64 w0) (hw1 : In64 w1) (hw2 : In64 w2) (room : Int) (hroom : In64 room) (w : World) :
    Calls Try.prog 7 #[.agg #[.int .i64 w0, .int .i64 w1, .int .i64 w2], .int .i64 room] w fun e w' => e = .returned (.bool true) ∧ Kept w w' := by
  cases c : checkB w0 w1 w2 room
  · go_enter Try.func7, Try.ntmps7
    go_wp2_with (first | (go_at_call 9; refine (posawake_any _).mono ?_; rintro e wx ⟨rfl, hgx⟩; obtain ⟨hcx, hfx⟩ := bcell hgx; have hz0 : w.heap.size < wx.heap.size := (by have := hgx.size; (try simp at this); omega)) | (go_at_call 10; refine (check_any _ _ _ _ (by omega) (by omega) (by omega) (by omega) _).mono ?_; rintro e wx ⟨rfl, hgx⟩; obtain ⟨hcx, hfx⟩ := bcell hgx; have hz0 : w.heap.size < wx.heap.size := (by have := hgx.size; (try simp at this); omega)) | (go_at_call 12; refine (len_any _ _ _ (by omega) (by omega) _).mono ?_; rintro e wx ⟨rfl, hgx⟩; obtain ⟨hcx, hfx⟩ := bcell hgx; have hz0 : w.heap.size < wx.heap.size := (by have := hgx.size; (try simp at this); omega)) | (go_at_call 14; refine (full_any _ _ _ _ (by omega) (by omega) _).mono ?_; rintro e wx ⟨rfl, hgx⟩; obtain ⟨hcx, hfx⟩ := bcell hgx; have hz0 : w.heap.size < wx.heap.size := (by have := hgx.size; (try simp at this); omega)))
    all_goals (go_ret; exact ⟨rfl, by repeat' (first | (with_reducible exact Below.refl _ _) | (with_reducible assumption) | (with_reducible refine kept_alloc ?_ _) | (with_reducible refine kept_drewN ?_ _) | (with_reducible refine Below.drew ?_) | (with_reducible refine Below.setCell ?_ (by first | omega | (simp; omega) | (simp; done)) _) | (refine kept_trans ?_ (by with_reducible assumption)))⟩)
  · have d := check_len c
    go_enter Try.func7, Try.ntmps7
    go_wp2_with (first | (go_at_call 9; refine (posawake_any _).mono ?_; rintro e wx ⟨rfl, hgx⟩; obtain ⟨hcx, hfx⟩ := bcell hgx; have hz0 : w.heap.size < wx.heap.size := (by have := hgx.size; (try simp at this); omega)) | (go_at_call 10; refine (check_any _ _ _ _ (by omega) (by omega) (by omega) (by omega) _).mono ?_; rintro e wx ⟨rfl, hgx⟩; obtain ⟨hcx, hfx⟩ := bcell hgx; have hz0 : w.heap.size < wx.heap.size := (by have := hgx.size; (try simp at this); omega)) | (go_at_call 12; refine (len_any _ _ _ (by omega) (by omega) _).mono ?_; rintro e wx ⟨rfl, hgx⟩; obtain ⟨hcx, hfx⟩ := bcell hgx; have hz0 : w.heap.size < wx.heap.size := (by have := hgx.size; (try simp at this); omega)) | (go_at_call 14; refine (full_any _ _ _ _ (by omega) (by omega) _).mono ?_; rintro e wx ⟨rfl, hgx⟩; obtain ⟨hcx, hfx⟩ := bcell hgx; have hz0 : w.heap.size < wx.heap.size := (by have := hgx.size; (try simp at this); omega)))
    have d1 := d.2.2.2.2.2.1
    have d2 : lenI w0 (w1 + 1) = w1 - w0 + 1 := by unfold lenI; rw [if_neg (by omega), if_pos (by omega)]; omega
    have s1 : IntKind.i64.wrap (w1 - w0) = w1 - w0 := IntWalk.i64_in _ (by omega)
    have s2 : IntKind.i64.wrap (w1 - w0 + 1) = w1 - w0 + 1 := IntWalk.i64_in _ (by omega)
    obtain ⟨m1, g1⟩ : ∃ m, (w1 == 1099511627776) = m := ⟨_, rfl⟩
    obtain ⟨m2, g2⟩ : ∃ m, (w1 - w0 == room) = m := ⟨_, rfl⟩
    have f1 : fullB w0 w1 room = m2 := by rw [← g2, Bool.eq_iff_iff]; simp only [fullB, d1, decide_eq_true_eq, beq_iff_eq]; omega
    have f2 : checkB w0 (w1 + 1) w2 room = (!m1 && !m2) := by
      rw [← g1, ← g2, Bool.eq_iff_iff]; simp only [checkB, d2]; simp; omega
    have d3 := d.1
    have d4 := d.2.1
    have d5 := d.2.2.1
    clear d
    cases m1 <;> cases m2
    all_goals
      simp only [Bool.not_true, Bool.not_false, Bool.and_true, Bool.and_false] at f2
      (refine wp_region_kept (w := w) [(w.heap.size, 0, .int .i64 w0), (w.heap.size, 1, .int .i64 w1), (w.heap.size, 2, .int .i64 w2), (wx.heap.size, 0, .int .i64 w0), (wx.heap.size, 1, .int .i64 (w1 + 1)), (wx.heap.size, 2, .int .i64 w2)] (by kernel_rfl) (by kernel_rfl) (by repeat' (first | (with_reducible exact Below.refl _ _) | (with_reducible assumption) | (with_reducible refine kept_alloc ?_ _) | (with_reducible refine kept_drewN ?_ _) | (with_reducible refine Below.drew ?_) | (with_reducible refine Below.setCell ?_ (by first | omega | (simp; omega) | (simp; done)) _) | (refine kept_trans ?_ (by with_reducible assumption)))) (by first | (simp [CellsAt, *, World.cell?_alloc_past, World.cell?_alloc_at]; done) | (simp [CellsAt, *, World.cell?_alloc_past, World.cell?_alloc_at]; omega)) (fun hne => ?_); (have hq0 : ∀ x : Wd w [(w.heap.size, 0, .int .i64 w0), (w.heap.size, 1, .int .i64 w1), (w.heap.size, 2, .int .i64 w2), (wx.heap.size, 0, .int .i64 w0), (wx.heap.size, 1, .int .i64 (w1 + 1)), (wx.heap.size, 2, .int .i64 w2)], x.at.cell? ⟨w.heap.size, 0, none⟩ = some (.int .i64 w0) := fun x => x.cells.1.2; have hq1 : ∀ x : Wd w [(w.heap.size, 0, .int .i64 w0), (w.heap.size, 1, .int .i64 w1), (w.heap.size, 2, .int .i64 w2), (wx.heap.size, 0, .int .i64 w0), (wx.heap.size, 1, .int .i64 (w1 + 1)), (wx.heap.size, 2, .int .i64 w2)], x.at.cell? ⟨w.heap.size, 1, none⟩ = some (.int .i64 w1) := fun x => x.cells.2.1.2; have hq2 : ∀ x : Wd w [(w.heap.size, 0, .int .i64 w0), (w.heap.size, 1, .int .i64 w1), (w.heap.size, 2, .int .i64 w2), (wx.heap.size, 0, .int .i64 w0), (wx.heap.size, 1, .int .i64 (w1 + 1)), (wx.heap.size, 2, .int .i64 w2)], x.at.cell? ⟨w.heap.size, 2, none⟩ = some (.int .i64 w2) := fun x => x.cells.2.2.1.2; have hq3 : ∀ x : Wd w [(w.heap.size, 0, .int .i64 w0), (w.heap.size, 1, .int .i64 w1), (w.heap.size, 2, .int .i64 w2), (wx.heap.size, 0, .int .i64 w0), (wx.heap.size, 1, .int .i64 (w1 + 1)), (wx.heap.size, 2, .int .i64 w2)], x.at.cell? ⟨wx.heap.size, 0, none⟩ = some (.int .i64 w0) := fun x => x.cells.2.2.2.1.2; have hq4 : ∀ x : Wd w [(w.heap.size, 0, .int .i64 w0), (w.heap.size, 1, .int .i64 w1), (w.heap.size, 2, .int .i64 w2), (wx.heap.size, 0, .int .i64 w0), (wx.heap.size, 1, .int .i64 (w1 + 1)), (wx.heap.size, 2, .int .i64 w2)], x.at.cell? ⟨wx.heap.size, 1, none⟩ = some (.int .i64 (w1 + 1)) := fun x => x.cells.2.2.2.2.1.2; have hq5 : ∀ x : Wd w [(w.heap.size, 0, .int .i64 w0), (w.heap.size, 1, .int .i64 w1), (w.heap.size, 2, .int .i64 w2), (wx.heap.size, 0, .int .i64 w0), (wx.heap.size, 1, .int .i64 (w1 + 1)), (wx.heap.size, 2, .int .i64 w2)], x.at.cell? ⟨wx.heap.size, 2, none⟩ = some (.int .i64 w2) := fun x => x.cells.2.2.2.2.2.1.2); (repeat (go_big_quiet_step ((first | (go_at_call 10; exact quiet_call (check_any _ _ _ _ (by omega) (by omega) (by omega) (by omega) _)) | (go_at_call 12; exact quiet_call (len_any _ _ _ (by omega) (by omega) _)) | (go_at_call 14; exact quiet_call (full_any _ _ _ _ (by omega) (by omega) _)))))); (refine wpQuiet_nil ?_); intro wq hwq; obtain ⟨x, hx⟩ := hwq; have hgx : Below w.heap.size w wq := (by rw [hx]; exact x.kept); have hcs := (show CellsAt wq [(w.heap.size, 0, .int .i64 w0), (w.heap.size, 1, .int .i64 w1), (w.heap.size, 2, .int .i64 w2), (wx.heap.size, 0, .int .i64 w0), (wx.heap.size, 1, .int .i64 (w1 + 1)), (wx.heap.size, 2, .int .i64 w2)] by rw [hx]; exact x.cells); clear hx x hne)
    all_goals go_wp2
    all_goals (go_ret; exact ⟨rfl, by repeat' (first | (with_reducible exact Below.refl _ _) | (with_reducible assumption) | (with_reducible refine kept_alloc ?_ _) | (with_reducible refine kept_drewN ?_ _) | (with_reducible refine Below.drew ?_) | (with_reducible refine Below.setCell ?_ (by first | omega | (simp; omega) | (simp; done)) _) | (refine kept_trans ?_ (by with_reducible assumption)))⟩)
set_option maxRecDepth 100000 in
theorem posLen_lifted (os : Os) (started : os.Started) (H : Type) (enc : TypeId × Value → H) :
    ReturnsInHanded {} Try.checked os 7 .any (Rows.posLenSpec.pre6 enc Try.prog Try.f7 Rows.posLenRow.domain false) (Rows.posLenSpec.post enc Try.prog Try.f7 false true false false) := by
  refine returnsInHanded_of_change (C := Try.checked) own started (by kernel_rfl) Try.func7
    (ChangeSpec.witness6 (enc := enc) (C := Try.checked) false ⟨#[], #[.agg #[.int .i64 0, .int .i64 0, .int .i64 0], .int .i64 0], []⟩ 8 (by kernel_rfl) (by kernel_rfl) (by kernel_rfl) (by kernel_rfl)) ?_
  intro W base args ds gs before hval0 hW hcnd _
  have hval : ∀ (j : Nat) t v, Try.f7.params[j]? = some t → args[j]? = some v → Value.okWide Try.prog W .any base t v := hval0
  have hW' := hW
  obtain ⟨p, q, hA0, hV, rfl, hfz, hnd⟩ := hW
  have hA : DataW.TrodAll enc Try.prog W 0 (fun _ => true) true Try.f7.params.toList args.toList ds p := hA0
  rw [Try.params7] at hA hval
  obtain ⟨v0, vs0, d0, ds0, p0, q0, hargs, rfl, rfl, h0, r0⟩ := trodAll_cons hA
  obtain ⟨v1, vs1, d1, ds1, p1, q1, rfl, rfl, rfl, h1, r1⟩ := trodAll_cons r0
  obtain ⟨rfl, rfl, rfl⟩ := trodAll_nil r1
  obtain rfl : args = #[v0, v1] := by cases args; simp_all
  obtain ⟨rfl, rfl⟩ := trodVars_none hV
  obtain ⟨w0, w1, w2, rfl, wf00, wf01, wf02⟩ := open_ints3 Try.underlying23 (by kernel_rfl) (by kernel_rfl) rfl rfl rfl Try.underlying3 Try.underlying3 Try.underlying3 (hval 0 23 v0 rfl rfl) h0
  obtain ⟨room, rfl, rfl, rfl, wf1⟩ := open_int Try.underlying3 (hval 1 3 v1 rfl rfl) h1
  clear hA0 hval0
  refine (posLen_walk w0 w1 w2 wf00 wf01 wf02 room (in64_of_wf wf1) W).mono fun e W' ⟨he, hg⟩ => ?_
  subst he
  exact ⟨_, rfl, law_post laid hW' rfl (by kernel_rfl) rfl Try.underlying4 rfl hg⟩

/-- The statement, whole. -/
theorem posLen_holds : Rows.PosLenSaid :=
  OpenClaim.holds_of_wide 7 Try.f7 rfl rfl rfl rfl rfl rfl rfl ⟨rfl, rfl, rfl, rfl, rfl⟩ rfl rfl rfl rfl rfl (by kernel_rfl) Try.func7 (by kernel_rfl)
    (of_decide_eq_true (by kernel_rfl)) (by unfold Func.isWrapper; rw [if_neg (of_decide_eq_false (by kernel_rfl))]; exact ⟨rfl, rfl⟩)
    (fun os started H enc _ => posLen_lifted os started H enc)
end Go.Proofs.Ytmfhkbcimlgciaa
