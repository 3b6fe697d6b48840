/- Layer 7: Next. -/
import Derived.Test.YtmdpgaihbkjjgaaWaitH
import Derived.Test.YtmdpgaihbkjjgaaFacts
namespace Go.Proofs.Ytmdpgaihbkjjgaa
set_option linter.unusedVariables false
set_option linter.unusedSimpArgs false
open Go.ChangeShapes Go.WideShapes Go.ChangeAt Go.RowKit

/-- What the region's values are, in the text's order. -/
def NxF (yb : Nat) (ca cb cc cd ce cf : Int) (cg : Bool) (n m r : Int) (fn : Nat) : Nat → Value → World → Prop
  | 0, v, W => ∃ mb, v = .map (some mb) ∧ IMap W mb waysL
  | 1, v, _ => v = .pointer (some ⟨yb, 3, none⟩)
  | 2, v, _ => v = .int .i64 cd
  | 3, v, _ => v = .func (.func fn) #[] #[]
  | 4, v, _ => v = .agg #[.int .i64 ca, .int .i64 cb, .int .i64 cc, .int .i64 cd, .int .i64 ce, .int .i64 cf, .bool cg]
  | 5, v, _ => v = .int .i64 n
  | 6, v, _ => v = .int .i64 m
  | 7, v, _ => v = .int .i64 r
  | 8, v, _ => v = .int .i64 r
  | _, _, _ => True
theorem nxf_mono (yb : Nat) (ca cb cc cd ce cf : Int) (cg : Bool) (n m r : Int) (fn : Nat) (i : Nat) (v : Value) (W W' : World) (h : NxF yb ca cb cc cd ce cf cg n m r fn i v W) (hk : Below W.heap.size W W') : NxF yb ca cb cc cd ce cf cg n m r fn i v W' := by
  match i with
  | 0 => obtain ⟨mb, rfl, hM⟩ := h; exact ⟨mb, rfl, hM.kept hk⟩
  | 1 | 2 | 3 | 4 | 5 | 6 | 7 | 8 => exact h
  | _ + 9 => trivial
theorem ways_fn {i : Int} {fn : Nat} (h : (i, wfn fn) ∈ waysL) : fn = 29 ∨ fn = 30 ∨ fn = 31 ∨ fn = 32 := by
  simp [waysL, wfn] at h
  rcases h with ⟨_, h⟩ | ⟨_, h⟩ | ⟨_, h⟩ | ⟨_, h⟩ <;> simp [h]
theorem ways_nodup : (waysL.map (·.1)).Nodup := by decide

set_option maxHeartbeats 2000000 in
theorem next_core (lg th po wt sp yi : Int) (si : Bool) (ca cb cc cd ce cf : Int) (cg : Bool) (n m r : Int) (fn : Nat) (w : World) (hmn : m = max n 0)
    (hW : ∀ W, Calls Try.prog 23 #[.agg #[.int .i64 lg, .int .i64 th, .int .i64 po, .int .i64 wt, .int .i64 sp, .int .i64 yi, .bool si]] W fun e w' => e = .returned (.agg #[.int .i64 ca, .int .i64 cb, .int .i64 cc, .int .i64 cd, .int .i64 ce, .int .i64 cf, .bool cg]) ∧ Kept W w') (hk : (cd, wfn fn) ∈ waysL)
    (hF : ∀ W, Calls Try.prog fn #[.agg #[.int .i64 ca, .int .i64 cb, .int .i64 cc, .int .i64 cd, .int .i64 ce, .int .i64 cf, .bool cg], .int .i64 m] W fun e w' => e = .returned (.int .i64 r) ∧ Kept W w') :
    Calls Try.prog 12 #[.agg #[.int .i64 lg, .int .i64 th, .int .i64 po, .int .i64 wt, .int .i64 sp, .int .i64 yi, .bool si], .int .i64 n] w fun e w' => e = .returned (.int .i64 r) ∧ Kept w w' := by
  have HW := Lib.hid hW
  have HF := Lib.hid hF
  have HK := Lib.hid hk
  have HM := Lib.hid hmn
  clear hW hF hk hmn
  go_enter Try.func12, Try.ntmps12
  go_wp2_with fail
  refine (HW.out _).mono ?_
  rintro e w1 ⟨rfl, hg1⟩
  have hcs : CellsAt w1 [(w.heap.size, 0, .int .i64 lg), (w.heap.size, 1, .int .i64 th), (w.heap.size, 2, .int .i64 po), (w.heap.size, 3, .int .i64 wt), (w.heap.size, 4, .int .i64 sp), (w.heap.size, 5, .int .i64 yi), (w.heap.size, 6, .bool si)] := cells_keep hg1 (by (simp only [CellsAt]; (repeat' (first | exact trivial | (refine And.intro ?_ ?_))); all_goals (first | (focus ((try simp only [World.size_setCell, World.size_alloc]); omega)) | (repeat (first | rfl | assumption | (refine (World.cell?_alloc_past _ _ _ ?_).trans ?_; focus ((try simp only [World.size_setCell, World.size_alloc]); omega)) | (refine (World.cell?_alloc_at _ _ _ _ ?_).trans ?_; focus ((try simp only [World.size_setCell, World.size_alloc]); done)) | (refine (World.cell?_setCell_other _ _ _ _ ?_).trans ?_; focus (simp; done)) | (refine (World.cell?_setCell_other _ _ _ _ ?_).trans ?_; focus (simp; omega)) | (refine World.cell?_setCell_same' _ _ _ ?_; focus (simp; done)))))))
  have hB1 : Below w.heap.size w w1 := by repeat' (first | (with_reducible exact Below.refl _ _) | (with_reducible assumption) | (with_reducible refine kept_alloc ?_ _) | (with_reducible refine kept_drewN ?_ _) | (with_reducible refine Below.drew ?_) | (with_reducible refine Below.setCell ?_ (by first | omega | (simp; omega) | (simp; done)) _) | (refine kept_trans ?_ (by with_reducible assumption)))
  clear hg1
  go_wp2_with fail
  obtain ⟨V, hV⟩ : ∃ V, w1.alloc (.cells #[.int .i64 ca, .int .i64 cb, .int .i64 cc, .int .i64 cd, .int .i64 ce, .int .i64 cf, .bool cg] 46) = V := ⟨_, rfl⟩
  obtain ⟨yb, hyb⟩ : ∃ yb, w1.heap.size = yb := ⟨_, rfl⟩
  have hcs2 : CellsAt V [(yb, 0, .int .i64 ca), (yb, 1, .int .i64 cb), (yb, 2, .int .i64 cc), (yb, 3, .int .i64 cd), (yb, 4, .int .i64 ce), (yb, 5, .int .i64 cf), (yb, 6, .bool cg)] := by rw [← hV, ← hyb]; (simp only [CellsAt]; (repeat' (first | exact trivial | (refine And.intro ?_ ?_))); all_goals (first | (focus ((try simp only [World.size_setCell, World.size_alloc]); omega)) | (repeat (first | rfl | assumption | (refine (World.cell?_alloc_past _ _ _ ?_).trans ?_; focus ((try simp only [World.size_setCell, World.size_alloc]); omega)) | (refine (World.cell?_alloc_at _ _ _ _ ?_).trans ?_; focus ((try simp only [World.size_setCell, World.size_alloc]); done)) | (refine (World.cell?_setCell_other _ _ _ _ ?_).trans ?_; focus (simp; done)) | (refine (World.cell?_setCell_other _ _ _ _ ?_).trans ?_; focus (simp; omega)) | (refine World.cell?_setCell_same' _ _ _ ?_; focus (simp; done))))))
  have hB : Below w.heap.size w V := by rw [← hV]; repeat' (first | (with_reducible exact Below.refl _ _) | (with_reducible assumption) | (with_reducible refine kept_alloc ?_ _) | (with_reducible refine kept_drewN ?_ _) | (with_reducible refine Below.drew ?_) | (with_reducible refine Below.setCell ?_ (by first | omega | (simp; omega) | (simp; done)) _) | (refine kept_trans ?_ (by with_reducible assumption)))
  rw [hV, hyb]
  clear hcs hB1 hV hyb
  have hsz : yb < V.heap.size := hcs2.1.1
  have hcs := hcs2
  clear hcs2
  have hq0 := hcs.1.2; have hq1 := hcs.2.1.2; have hq2 := hcs.2.2.1.2; have hq3 := hcs.2.2.2.1.2; have hq4 := hcs.2.2.2.2.1.2; have hq5 := hcs.2.2.2.2.2.1.2; have hq6 := hcs.2.2.2.2.2.2.1.2; have hz0 := hcs.1.1
  have HB := Lib.hid hB
  clear hB
  refine wp_region_facts [8, 9, 10, 11, 12, 13, 14, 15, 4] (NxF yb ca cb cc cd ce cf cg n m r fn) (by kernel_rfl) (by kernel_rfl) rfl (by decide) (by intro d hd; show d < 16; revert d hd; decide) rfl (nxf_mono yb ca cb cc cd ce cf cg n m r fn) ?step ?fin
  case step =>
    intro i o ho b W h
    have e1 := h.base 1 (v := .int .i64 n) (by decide) rfl
    have e5 := h.base 5 (v := .pointer (some ⟨yb, 0, none⟩)) (by decide) rfl
    have c0 := (h.kept.cell (p := ⟨yb, 0, none⟩) hsz).trans hq0
    have c1 := (h.kept.cell (p := ⟨yb, 1, none⟩) hsz).trans hq1
    have c2 := (h.kept.cell (p := ⟨yb, 2, none⟩) hsz).trans hq2
    have c3 := (h.kept.cell (p := ⟨yb, 3, none⟩) hsz).trans hq3
    have c4 := (h.kept.cell (p := ⟨yb, 4, none⟩) hsz).trans hq4
    have c5 := (h.kept.cell (p := ⟨yb, 5, none⟩) hsz).trans hq5
    have c6 := (h.kept.cell (p := ⟨yb, 6, none⟩) hsz).trans hq6
    clear hq0 hq1 hq2 hq3 hq4 hq5 hq6 hcs
    have hi : i < 9 := (List.getElem?_eq_some_iff.1 ho).1
    obtain rfl | rfl | rfl | rfl | rfl | rfl | rfl | rfl | rfl : i = 0 ∨ i = 1 ∨ i = 2 ∨ i = 3 ∨ i = 4 ∨ i = 5 ∨ i = 6 ∨ i = 7 ∨ i = 8 := by omega
    all_goals cases ho
    · (have hzn : b.tmps.size = 16 := h.size; have hd0 : b.defers = [] := h.defers; rw [act_lit hzn hd0]; have hrr : List.range 16 = [0, 1, 2, 3, 4, 5, 6, 7, 8, 9, 10, 11, 12, 13, 14, 15] := rfl; simp only [hrr, List.map_cons, List.map_nil, e1]; clear hzn hd0 hrr; (try generalize b.tmps.getD 0 undef = u0); (try generalize b.tmps.getD 1 undef = u1); (try generalize b.tmps.getD 2 undef = u2); (try generalize b.tmps.getD 3 undef = u3); (try generalize b.tmps.getD 4 undef = u4); (try generalize b.tmps.getD 5 undef = u5); (try generalize b.tmps.getD 6 undef = u6); (try generalize b.tmps.getD 7 undef = u7); (try generalize b.tmps.getD 8 undef = u8); (try generalize b.tmps.getD 9 undef = u9); (try generalize b.tmps.getD 10 undef = u10); (try generalize b.tmps.getD 11 undef = u11); (try generalize b.tmps.getD 12 undef = u12); (try generalize b.tmps.getD 13 undef = u13); (try generalize b.tmps.getD 14 undef = u14); (try generalize b.tmps.getD 15 undef = u15))
      go_wp2_with (go_at_call 24; refine (wways_any _).mono ?_; rintro e wx ⟨mb, rfl, hM, hmb, hgx⟩)
      exact ⟨_, rfl, ⟨mb, rfl, hM⟩, hgx⟩
    · (have hzn : b.tmps.size = 16 := h.size; have hd0 : b.defers = [] := h.defers; rw [act_lit hzn hd0]; have hrr : List.range 16 = [0, 1, 2, 3, 4, 5, 6, 7, 8, 9, 10, 11, 12, 13, 14, 15] := rfl; simp only [hrr, List.map_cons, List.map_nil, e5]; clear hzn hd0 hrr; (try generalize b.tmps.getD 0 undef = u0); (try generalize b.tmps.getD 1 undef = u1); (try generalize b.tmps.getD 2 undef = u2); (try generalize b.tmps.getD 3 undef = u3); (try generalize b.tmps.getD 4 undef = u4); (try generalize b.tmps.getD 5 undef = u5); (try generalize b.tmps.getD 6 undef = u6); (try generalize b.tmps.getD 7 undef = u7); (try generalize b.tmps.getD 8 undef = u8); (try generalize b.tmps.getD 9 undef = u9); (try generalize b.tmps.getD 10 undef = u10); (try generalize b.tmps.getD 11 undef = u11); (try generalize b.tmps.getD 12 undef = u12); (try generalize b.tmps.getD 13 undef = u13); (try generalize b.tmps.getD 14 undef = u14); (try generalize b.tmps.getD 15 undef = u15))
      go_wp2
      exact ⟨_, rfl, rfl, Below.refl _ _⟩
    · obtain ⟨_, g9, rfl⟩ := h.got 1 rfl rfl
      (have hzn : b.tmps.size = 16 := h.size; have hd0 : b.defers = [] := h.defers; rw [act_lit hzn hd0]; have hrr : List.range 16 = [0, 1, 2, 3, 4, 5, 6, 7, 8, 9, 10, 11, 12, 13, 14, 15] := rfl; simp only [hrr, List.map_cons, List.map_nil, g9]; clear hzn hd0 hrr; (try generalize b.tmps.getD 0 undef = u0); (try generalize b.tmps.getD 1 undef = u1); (try generalize b.tmps.getD 2 undef = u2); (try generalize b.tmps.getD 3 undef = u3); (try generalize b.tmps.getD 4 undef = u4); (try generalize b.tmps.getD 5 undef = u5); (try generalize b.tmps.getD 6 undef = u6); (try generalize b.tmps.getD 7 undef = u7); (try generalize b.tmps.getD 8 undef = u8); (try generalize b.tmps.getD 9 undef = u9); (try generalize b.tmps.getD 10 undef = u10); (try generalize b.tmps.getD 11 undef = u11); (try generalize b.tmps.getD 12 undef = u12); (try generalize b.tmps.getD 13 undef = u13); (try generalize b.tmps.getD 14 undef = u14); (try generalize b.tmps.getD 15 undef = u15))
      go_wp2
      exact ⟨_, rfl, rfl, Below.refl _ _⟩
    · obtain ⟨_, g8, mb, rfl, hM⟩ := h.got 0 rfl rfl
      obtain ⟨_, g10, rfl⟩ := h.got 2 rfl rfl
      have hlk := imap_look Try.underlying49 Try.underlying3 hM ways_nodup HK.out
      unfold wfn at hlk
      (have hzn : b.tmps.size = 16 := h.size; have hd0 : b.defers = [] := h.defers; rw [act_lit hzn hd0]; have hrr : List.range 16 = [0, 1, 2, 3, 4, 5, 6, 7, 8, 9, 10, 11, 12, 13, 14, 15] := rfl; simp only [hrr, List.map_cons, List.map_nil, g8, g10]; clear hzn hd0 hrr; (try generalize b.tmps.getD 0 undef = u0); (try generalize b.tmps.getD 1 undef = u1); (try generalize b.tmps.getD 2 undef = u2); (try generalize b.tmps.getD 3 undef = u3); (try generalize b.tmps.getD 4 undef = u4); (try generalize b.tmps.getD 5 undef = u5); (try generalize b.tmps.getD 6 undef = u6); (try generalize b.tmps.getD 7 undef = u7); (try generalize b.tmps.getD 8 undef = u8); (try generalize b.tmps.getD 9 undef = u9); (try generalize b.tmps.getD 10 undef = u10); (try generalize b.tmps.getD 11 undef = u11); (try generalize b.tmps.getD 12 undef = u12); (try generalize b.tmps.getD 13 undef = u13); (try generalize b.tmps.getD 14 undef = u14); (try generalize b.tmps.getD 15 undef = u15))
      go_wp2
      exact ⟨_, rfl, rfl, Below.refl _ _⟩
    · (have hzn : b.tmps.size = 16 := h.size; have hd0 : b.defers = [] := h.defers; rw [act_lit hzn hd0]; have hrr : List.range 16 = [0, 1, 2, 3, 4, 5, 6, 7, 8, 9, 10, 11, 12, 13, 14, 15] := rfl; simp only [hrr, List.map_cons, List.map_nil, e5]; clear hzn hd0 hrr; (try generalize b.tmps.getD 0 undef = u0); (try generalize b.tmps.getD 1 undef = u1); (try generalize b.tmps.getD 2 undef = u2); (try generalize b.tmps.getD 3 undef = u3); (try generalize b.tmps.getD 4 undef = u4); (try generalize b.tmps.getD 5 undef = u5); (try generalize b.tmps.getD 6 undef = u6); (try generalize b.tmps.getD 7 undef = u7); (try generalize b.tmps.getD 8 undef = u8); (try generalize b.tmps.getD 9 undef = u9); (try generalize b.tmps.getD 10 undef = u10); (try generalize b.tmps.getD 11 undef = u11); (try generalize b.tmps.getD 12 undef = u12); (try generalize b.tmps.getD 13 undef = u13); (try generalize b.tmps.getD 14 undef = u14); (try generalize b.tmps.getD 15 undef = u15))
      go_wp2
      exact ⟨_, rfl, rfl, Below.refl _ _⟩
    · (have hzn : b.tmps.size = 16 := h.size; have hd0 : b.defers = [] := h.defers; rw [act_lit hzn hd0]; have hrr : List.range 16 = [0, 1, 2, 3, 4, 5, 6, 7, 8, 9, 10, 11, 12, 13, 14, 15] := rfl; simp only [hrr, List.map_cons, List.map_nil, e1]; clear hzn hd0 hrr; (try generalize b.tmps.getD 0 undef = u0); (try generalize b.tmps.getD 1 undef = u1); (try generalize b.tmps.getD 2 undef = u2); (try generalize b.tmps.getD 3 undef = u3); (try generalize b.tmps.getD 4 undef = u4); (try generalize b.tmps.getD 5 undef = u5); (try generalize b.tmps.getD 6 undef = u6); (try generalize b.tmps.getD 7 undef = u7); (try generalize b.tmps.getD 8 undef = u8); (try generalize b.tmps.getD 9 undef = u9); (try generalize b.tmps.getD 10 undef = u10); (try generalize b.tmps.getD 11 undef = u11); (try generalize b.tmps.getD 12 undef = u12); (try generalize b.tmps.getD 13 undef = u13); (try generalize b.tmps.getD 14 undef = u14); (try generalize b.tmps.getD 15 undef = u15))
      go_wp2
      exact ⟨_, rfl, rfl, Below.refl _ _⟩
    · obtain ⟨_, g13, rfl⟩ := h.got 5 rfl rfl
      (have hzn : b.tmps.size = 16 := h.size; have hd0 : b.defers = [] := h.defers; rw [act_lit hzn hd0]; have hrr : List.range 16 = [0, 1, 2, 3, 4, 5, 6, 7, 8, 9, 10, 11, 12, 13, 14, 15] := rfl; simp only [hrr, List.map_cons, List.map_nil, g13]; clear hzn hd0 hrr; (try generalize b.tmps.getD 0 undef = u0); (try generalize b.tmps.getD 1 undef = u1); (try generalize b.tmps.getD 2 undef = u2); (try generalize b.tmps.getD 3 undef = u3); (try generalize b.tmps.getD 4 undef = u4); (try generalize b.tmps.getD 5 undef = u5); (try generalize b.tmps.getD 6 undef = u6); (try generalize b.tmps.getD 7 undef = u7); (try generalize b.tmps.getD 8 undef = u8); (try generalize b.tmps.getD 9 undef = u9); (try generalize b.tmps.getD 10 undef = u10); (try generalize b.tmps.getD 11 undef = u11); (try generalize b.tmps.getD 12 undef = u12); (try generalize b.tmps.getD 13 undef = u13); (try generalize b.tmps.getD 14 undef = u14); (try generalize b.tmps.getD 15 undef = u15))
      go_wp2
      all_goals exact ⟨_, rfl, congrArg (Value.int .i64) (by have := HM.out; omega), Below.refl _ _⟩
    · obtain ⟨_, g11, rfl⟩ := h.got 3 rfl rfl
      obtain ⟨_, g12, rfl⟩ := h.got 4 rfl rfl
      obtain ⟨_, g14, rfl⟩ := h.got 6 rfl rfl
      (have hzn : b.tmps.size = 16 := h.size; have hd0 : b.defers = [] := h.defers; rw [act_lit hzn hd0]; have hrr : List.range 16 = [0, 1, 2, 3, 4, 5, 6, 7, 8, 9, 10, 11, 12, 13, 14, 15] := rfl; simp only [hrr, List.map_cons, List.map_nil, g11, g12, g14]; clear hzn hd0 hrr; (try generalize b.tmps.getD 0 undef = u0); (try generalize b.tmps.getD 1 undef = u1); (try generalize b.tmps.getD 2 undef = u2); (try generalize b.tmps.getD 3 undef = u3); (try generalize b.tmps.getD 4 undef = u4); (try generalize b.tmps.getD 5 undef = u5); (try generalize b.tmps.getD 6 undef = u6); (try generalize b.tmps.getD 7 undef = u7); (try generalize b.tmps.getD 8 undef = u8); (try generalize b.tmps.getD 9 undef = u9); (try generalize b.tmps.getD 10 undef = u10); (try generalize b.tmps.getD 11 undef = u11); (try generalize b.tmps.getD 12 undef = u12); (try generalize b.tmps.getD 13 undef = u13); (try generalize b.tmps.getD 14 undef = u14); (try generalize b.tmps.getD 15 undef = u15))
      rcases ways_fn HK.out with rfl | rfl | rfl | rfl
      · go_wp2_with (go_at_call 29; refine (HF.out _).mono ?_; rintro e wy ⟨rfl, hgy⟩)
        exact ⟨_, rfl, rfl, hgy⟩
      · go_wp2_with (go_at_call 30; refine (HF.out _).mono ?_; rintro e wy ⟨rfl, hgy⟩)
        exact ⟨_, rfl, rfl, hgy⟩
      · go_wp2_with (go_at_call 31; refine (HF.out _).mono ?_; rintro e wy ⟨rfl, hgy⟩)
        exact ⟨_, rfl, rfl, hgy⟩
      · go_wp2_with (go_at_call 32; refine (HF.out _).mono ?_; rintro e wy ⟨rfl, hgy⟩)
        exact ⟨_, rfl, rfl, hgy⟩
    · obtain ⟨_, g15, rfl⟩ := h.got 7 rfl rfl
      (have hzn : b.tmps.size = 16 := h.size; have hd0 : b.defers = [] := h.defers; rw [act_lit hzn hd0]; have hrr : List.range 16 = [0, 1, 2, 3, 4, 5, 6, 7, 8, 9, 10, 11, 12, 13, 14, 15] := rfl; simp only [hrr, List.map_cons, List.map_nil, g15]; clear hzn hd0 hrr; (try generalize b.tmps.getD 0 undef = u0); (try generalize b.tmps.getD 1 undef = u1); (try generalize b.tmps.getD 2 undef = u2); (try generalize b.tmps.getD 3 undef = u3); (try generalize b.tmps.getD 4 undef = u4); (try generalize b.tmps.getD 5 undef = u5); (try generalize b.tmps.getD 6 undef = u6); (try generalize b.tmps.getD 7 undef = u7); (try generalize b.tmps.getD 8 undef = u8); (try generalize b.tmps.getD 9 undef = u9); (try generalize b.tmps.getD 10 undef = u10); (try generalize b.tmps.getD 11 undef = u11); (try generalize b.tmps.getD 12 undef = u12); (try generalize b.tmps.getD 13 undef = u13); (try generalize b.tmps.getD 14 undef = u14); (try generalize b.tmps.getD 15 undef = u15))
      go_wp2
      exact ⟨_, rfl, rfl, Below.refl _ _⟩
  case fin =>
    intro b W h
    obtain ⟨_, g4, rfl⟩ := h.got 8 rfl rfl
    have hBW := HB.out.trans (h.kept.mono HB.out.size)
    rename_i K hK
    refine hK _ _ ?_
    (have hzn : b.tmps.size = 16 := h.size; have hd0 : b.defers = [] := h.defers; rw [act_lit hzn hd0]; have hrr : List.range 16 = [0, 1, 2, 3, 4, 5, 6, 7, 8, 9, 10, 11, 12, 13, 14, 15] := rfl; simp only [hrr, List.map_cons, List.map_nil, g4]; clear hzn hd0 hrr; (try generalize b.tmps.getD 0 undef = u0); (try generalize b.tmps.getD 1 undef = u1); (try generalize b.tmps.getD 2 undef = u2); (try generalize b.tmps.getD 3 undef = u3); (try generalize b.tmps.getD 4 undef = u4); (try generalize b.tmps.getD 5 undef = u5); (try generalize b.tmps.getD 6 undef = u6); (try generalize b.tmps.getD 7 undef = u7); (try generalize b.tmps.getD 8 undef = u8); (try generalize b.tmps.getD 9 undef = u9); (try generalize b.tmps.getD 10 undef = u10); (try generalize b.tmps.getD 11 undef = u11); (try generalize b.tmps.getD 12 undef = u12); (try generalize b.tmps.getD 13 undef = u13); (try generalize b.tmps.getD 14 undef = u14); (try generalize b.tmps.getD 15 undef = u15))
    go_wp2
    go_ret
    exact ⟨rfl, hBW⟩

theorem way_cell {wt : Int} (h1 : 0 ≤ wt) (h2 : wt ≤ 3) : wt = 0 ∨ wt = 1 ∨ wt = 2 ∨ wt = 3 := by omega
theorem wnext_any (lg th po wt sp yi : Int) (si : Bool) (n : Int) (w : World) : Calls Try.prog 12 #[.agg #[.int .i64 lg, .int .i64 th, .int .i64 po, .int .i64 wt, .int .i64 sp, .int .i64 yi, .bool si], .int .i64 n] w fun e w' => e = .returned (.int .i64 (nxI lg th po wt sp yi (max n 0))) ∧ Kept w w' := by
  cases hm : mayB lg th po wt sp yi
  · rw [nx_no hm]
    exact next_core lg th po wt sp yi si 0 0 0 0 0 0 false n (max n 0) 0 29 w rfl (fun W => wayof_no lg th po wt sp yi si W hm) (by simp [waysL, wfn]) (fun W => wbusy_any 0 0 0 0 0 0 _ false W)
  · rw [nx_yes hm]
    have hp := may_iff.1 hm
    obtain rfl | rfl | rfl | rfl := way_cell hp.2.2.2.2.2.2.1 hp.2.2.2.2.2.2.2.1
    · exact next_core lg th po 0 sp yi si lg th po 0 sp yi si n (max n 0) 0 29 w rfl (fun W => wayof_yes lg th po 0 sp yi si W hm) (by simp [waysL, wfn]) (fun W => wbusy_any lg th po 0 sp yi _ si W)
    · exact next_core lg th po 1 sp yi si lg th po 1 sp yi si n (max n 0) 1 30 w rfl (fun W => wayof_yes lg th po 1 sp yi si W hm) (by simp [waysL, wfn]) (fun W => wyielding_any lg th po 1 sp yi _ si W)
    · exact next_core lg th po 2 sp yi si lg th po 2 sp yi si n (max n 0) (phI sp yi (max n 0)) 31 w rfl (fun W => wayof_yes lg th po 2 sp yi si W hm) (by simp [waysL, wfn]) (fun W => wphased_any lg th po 2 sp yi _ si W (by omega) (by omega))
    · exact next_core lg th po 3 sp yi si lg th po 3 sp yi si n (max n 0) 2 32 w rfl (fun W => wayof_yes lg th po 3 sp yi si W hm) (by simp [waysL, wfn]) (fun W => wparking_any lg th po 3 sp yi _ si W)
end Go.Proofs.Ytmdpgaihbkjjgaa
