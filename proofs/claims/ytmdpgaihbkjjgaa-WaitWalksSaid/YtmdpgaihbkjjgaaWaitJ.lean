/- Layer 7: Walk. -/
import Derived.Test.YtmdpgaihbkjjgaaWaitI
import Derived.Laws.OwnMore
namespace Go.Proofs.Ytmdpgaihbkjjgaa
set_option linter.unusedVariables false
set_option linter.unusedSimpArgs false
open Go.ChangeShapes Go.WideShapes Go.ChangeAt Go.RowKit

/-- A row of the call's own, one number set. -/
theorem set_flat : ∀ (l : List Int) (i : Nat) (x : Int), (l.flatMap intC).set i (.int .i64 x) = (l.set i x).flatMap intC
  | [], _, _ => rfl
  | _ :: _, 0, _ => rfl
  | e :: l, i + 1, x => by
    have ih := set_flat l i x
    simp only [List.flatMap_cons, intC, List.cons_append, List.nil_append, List.set_cons_succ]
    rw [ih]
theorem Ow.setInt {w : World} {base g cap n : Nat} {l : List Int} (h : Ow w base 3 1 intC l (.slice (some ⟨g, 0, none⟩) n cap)) (i : Nat) (x : Int) :
    Ow (w.setCell ⟨g, i, none⟩ (.int .i64 x)) base 3 1 intC (l.set i x) (.slice (some ⟨g, 0, none⟩) n cap) := by
  obtain ⟨h0, ⟨h1, _⟩ | ⟨_, _, cur, h1, hb, hg, hl, hm, hs, ht⟩⟩ := h
  · cases h1
  cases h1
  refine ⟨flat_len intEnc _, .inr ⟨g, cap, cur.setIfInBounds i (.int .i64 x), by rw [List.length_set], hb, ?_, by simpa using hl, hm, by simpa using hs, ?_⟩⟩
  · simp [World.setCell, Array.getElem?_modify, hg]
  · rw [← set_flat l i x, ← ht, List.length_set]
    simp [List.take_set]
theorem Ow.intAt {w : World} {base g cap n : Nat} {l : List Int} (h : Ow w base 3 1 intC l (.slice (some ⟨g, 0, none⟩) n cap)) {i : Nat} (hi : i < l.length) : w.cell? ⟨g, i, none⟩ = some (.int .i64 l[i]) ∧ w.frozen? ⟨g, i, none⟩ = false := by
  have h1 := Ow.sl intEnc h
  have h2 := int_at h1 hi
  rw [Nat.zero_add] at h2
  refine ⟨h2, ?_⟩
  obtain ⟨_, ⟨e, _⟩ | ⟨_, _, cur, e, _, hg, _⟩⟩ := h
  · cases e
  cases e
  simp [World.frozen?, hg]
theorem made_ints : ∀ k : Nat, (madeCells #[Value.int .i64 0] k).toList = (List.replicate k (0 : Int)).flatMap intC := by
  intro k
  rw [toList_madeCells_one]
  induction k with
  | zero => rfl
  | succ k ih => rw [List.replicate_succ, List.replicate_succ, List.flatMap_cons, ← ih]; rfl
/-- A row of zeros. -/
theorem Ow.zeros {w0 w : World} (k : Nat) (hk : k ≤ 1000) (hB : Below w0.heap.size w0 w) : Ow (w.alloc (.cells (madeCells #[Value.int .i64 0] k) 3)) w0.heap.size 3 1 intC (List.replicate k 0) (.slice (some ⟨w.heap.size, 0, none⟩) k k) := by
  have hl : (List.replicate k (0 : Int)).length = k := by simp
  exact Ow.made (W := w) (base := w0.heap.size) (e := 3) intEnc (List.replicate k (0 : Int)) (madeCells #[Value.int .i64 0] k) (made_ints k) hB.size (by simp; unfold maxLen; omega) rfl hl
theorem mk_ints (c : Int) (k : Nat) (hc : c = (k : Int)) (hk : k ≤ 1000) (W : World) : (Instr.makeSlice 24 (.int .i64 c) (.int .i64 c)).run Try.prog W = .ok (.slice (some ⟨W.heap.size, 0, none⟩) k k) (W.alloc (.cells (madeCells (Value.int .i64 0).cells (k * 1)) 3)) := by
  subst hc
  obtain ⟨i, hi, hz0, hz1, hz2⟩ := info_parts int_info
  have := run_makeSlice (P := Try.prog) (w := W) 24 3 i (.int .i64 0) Try.underlying24 hi hz0 .i64 .i64 k k (by omega) (Int.le_refl _) (by rw [hz1]; simp; omega) (by rw [hz2]; omega) (by omega)
  rw [hz1] at this
  simpa using this
theorem ways_enter {i : Int} {fn : Nat} (h : (i, wfn fn) ∈ waysL) (args : Array Value) (w : World) : (callFunc fn args).run Try.prog w = .ok (.enter fn args) w := by
  rcases ways_fn h with rfl | rfl | rfl | rfl <;> rfl
theorem cells_set {W : World} {p : Addr} {u : Value} : ∀ {l : List (Nat × Nat × Value)}, CellsAt W l → (∀ x ∈ l, x.1 ≠ p.block) → CellsAt (W.setCell p u) l
  | [], _, _ => trivial
  | x :: _, h, hn => ⟨⟨by simpa using h.1.1, by
      have := hn x (by simp)
      rw [← h.1.2]
      simp [World.cell?, Below.heap_setCell _ _ _ _ this]⟩, cells_set h.2 (fun y hy => hn y (by simp [hy]))⟩
/-- The list as far as it is told. -/
def soFar (f : Nat → Int) (k j : Nat) : List Int := (List.range k).map fun i => if i < j then f i else 0
theorem soFar_len (f : Nat → Int) (k j : Nat) : (soFar f k j).length = k := by simp [soFar]
theorem soFar_zero (f : Nat → Int) (k : Nat) : soFar f k 0 = List.replicate k 0 := by
  apply List.ext_getElem
  · simp [soFar]
  · intro i h1 h2; simp [soFar]
theorem soFar_all (f : Nat → Int) (k : Nat) : soFar f k k = (List.range k).map f := by
  unfold soFar
  apply List.map_congr_left
  intro i hi
  rw [if_pos (List.mem_range.1 hi)]
theorem soFar_set (f : Nat → Int) (k j : Nat) (hj : j < k) : (soFar f k j).set j (f j) = soFar f k (j + 1) := by
  apply List.ext_getElem
  · simp [soFar]
  · intro i h1 h2
    simp only [soFar, List.getElem_set, List.getElem_map, List.getElem_range]
    by_cases h : j = i
    · subst h; simp
    · rw [if_neg h]
      by_cases h3 : i < j
      · rw [if_pos h3, if_pos (by omega)]
      · rw [if_neg h3, if_neg (by omega)]

/-- What the region's values are, in the text's order. -/
def WkF (yb : Nat) (cd : Int) (fn : Nat) : Nat → Value → World → Prop
  | 0, v, W => ∃ mb, v = .map (some mb) ∧ IMap W mb waysL
  | 1, v, _ => v = .pointer (some ⟨yb, 3, none⟩)
  | 2, v, _ => v = .int .i64 cd
  | 3, v, _ => v = .func (.func fn) #[] #[]
  | 4, v, _ => v = .func (.func fn) #[] #[]
  | _, _, _ => True
theorem wkf_mono (yb : Nat) (cd : Int) (fn : Nat) (i : Nat) (v : Value) (W W' : World) (h : WkF yb cd fn i v W) (hk : Below W.heap.size W W') : WkF yb cd fn i v W' := by
  match i with
  | 0 => obtain ⟨mb, rfl, hM⟩ := h; exact ⟨mb, rfl, hM.kept hk⟩
  | 1 | 2 | 3 | 4 => exact h
  | _ + 5 => trivial

/-- What a call that hands out a list of numbers leaves: of its own. -/
def RetI (r : List Int) (w : World) (e : Ending) (w' : World) : Prop := ∃ p k, e = .returned (.slice p r.length k) ∧ Ow w' w.heap.size 3 1 intC r (.slice p r.length k) ∧ Kept w w'

set_option maxHeartbeats 2000000 in
theorem walk_core (lg th po wt sp yi : Int) (si : Bool) (ca cb cc cd ce cf : Int) (cg : Bool) (many : Int) (f : Nat → Int) (fn : Nat) (w : World)
    (hW : ∀ W, Calls Try.prog 23 #[.agg #[.int .i64 lg, .int .i64 th, .int .i64 po, .int .i64 wt, .int .i64 sp, .int .i64 yi, .bool si]] W fun e w' => e = .returned (.agg #[.int .i64 ca, .int .i64 cb, .int .i64 cc, .int .i64 cd, .int .i64 ce, .int .i64 cf, .bool cg]) ∧ Kept W w') (hk : (cd, wfn fn) ∈ waysL)
    (hF : ∀ (i : Nat) W, i < 1000 → Calls Try.prog fn #[.agg #[.int .i64 ca, .int .i64 cb, .int .i64 cc, .int .i64 cd, .int .i64 ce, .int .i64 cf, .bool cg], .int .i64 i] W fun e w' => e = .returned (.int .i64 (f i)) ∧ Kept W w') :
    Calls Try.prog 15 #[.agg #[.int .i64 lg, .int .i64 th, .int .i64 po, .int .i64 wt, .int .i64 sp, .int .i64 yi, .bool si], .int .i64 many] w (RetI ((List.range (manyN many)).map f) w) := by
  have hkn := many_le many
  obtain ⟨k, hkm⟩ : ∃ k, manyN many = k := ⟨_, rfl⟩
  rw [hkm] at hkn ⊢
  have HN := Lib.hid hkm
  clear hkm
  have HW := Lib.hid hW
  have HF := Lib.hid hF
  have HK := Lib.hid hk
  have hen := ways_enter hk
  clear hW hF hk
  go_enter Try.func15, Try.ntmps15
  go_wp2_with fail
  refine (HW.out _).mono ?_
  rintro e w1 ⟨rfl, hg1⟩
  have hcs : CellsAt w1 [(w.heap.size, 0, .int .i64 lg), (w.heap.size, 1, .int .i64 th), (w.heap.size, 2, .int .i64 po), (w.heap.size, 3, .int .i64 wt), (w.heap.size, 4, .int .i64 sp), (w.heap.size, 5, .int .i64 yi), (w.heap.size, 6, .bool si)] := cells_keep hg1 (by (simp only [CellsAt]; (repeat' (first | exact trivial | (refine And.intro ?_ ?_))); all_goals (first | (focus ((try simp only [World.size_setCell, World.size_alloc]); omega)) | (repeat (first | rfl | assumption | (refine (World.cell?_alloc_past _ _ _ ?_).trans ?_; focus ((try simp only [World.size_setCell, World.size_alloc]); omega)) | (refine (World.cell?_alloc_at _ _ _ _ ?_).trans ?_; focus ((try simp only [World.size_setCell, World.size_alloc]); done)) | (refine (World.cell?_setCell_other _ _ _ _ ?_).trans ?_; focus (simp; done)) | (refine (World.cell?_setCell_other _ _ _ _ ?_).trans ?_; focus (simp; omega)) | (refine World.cell?_setCell_same' _ _ _ ?_; focus (simp; done)))))))
  have hB1 : Below w.heap.size w w1 := by repeat' (first | (with_reducible exact Below.refl _ _) | (with_reducible assumption) | (with_reducible refine kept_alloc ?_ _) | (with_reducible refine kept_drewN ?_ _) | (with_reducible refine Below.drew ?_) | (with_reducible refine Below.setCell ?_ (by first | omega | (simp; omega) | (simp; done)) _) | (refine kept_trans ?_ (by with_reducible assumption)))
  clear hg1
  go_wp2_with fail
  obtain ⟨V, hV⟩ : ∃ V, w1.alloc (.cells #[.int .i64 ca, .int .i64 cb, .int .i64 cc, .int .i64 cd, .int .i64 ce, .int .i64 cf, .bool cg] 46) = V := ⟨_, rfl⟩
  obtain ⟨yb, hyb⟩ : ∃ yb, w1.heap.size = yb := ⟨_, rfl⟩
  have hcs2 : CellsAt V [(yb, 0, .int .i64 ca), (yb, 1, .int .i64 cb), (yb, 2, .int .i64 cc), (yb, 3, .int .i64 cd), (yb, 4, .int .i64 ce), (yb, 5, .int .i64 cf), (yb, 6, .bool cg)] := by rw [← hV, ← hyb]; (simp only [CellsAt]; (repeat' (first | exact trivial | (refine And.intro ?_ ?_))); all_goals (first | (focus ((try simp only [World.size_setCell, World.size_alloc]); omega)) | (repeat (first | rfl | assumption | (refine (World.cell?_alloc_past _ _ _ ?_).trans ?_; focus ((try simp only [World.size_setCell, World.size_alloc]); omega)) | (refine (World.cell?_alloc_at _ _ _ _ ?_).trans ?_; focus ((try simp only [World.size_setCell, World.size_alloc]); done)) | (refine (World.cell?_setCell_other _ _ _ _ ?_).trans ?_; focus (simp; done)) | (refine (World.cell?_setCell_other _ _ _ _ ?_).trans ?_; focus (simp; omega)) | (refine World.cell?_setCell_same' _ _ _ ?_; focus (simp; done))))))
  have hB : Below w.heap.size w V := by rw [← hV]; repeat' (first | (with_reducible exact Below.refl _ _) | (with_reducible assumption) | (with_reducible refine kept_alloc ?_ _) | (with_reducible refine kept_drewN ?_ _) | (with_reducible refine Below.drew ?_) | (with_reducible refine Below.setCell ?_ (by first | omega | (simp; omega) | (simp; done)) _) | (refine kept_trans ?_ (by with_reducible assumption)))
  have hyw : w.heap.size ≤ yb := by rw [← hyb]; exact hB1.size
  rw [hV, hyb]
  clear hcs hB1 hV hyb
  have hsz : yb < V.heap.size := hcs2.1.1
  have HCS := Lib.hid hcs2
  have q3 := hcs2.2.2.2.1.2
  have HB := Lib.hid hB
  clear hB hcs2
  refine wp_region_facts [11, 12, 13, 14, 6] (WkF yb cd fn) (by kernel_rfl) (by kernel_rfl) rfl (by decide) (by intro d hd; show d < 33; revert d hd; decide) rfl (wkf_mono yb cd fn) ?step ?fin
  case step =>
    intro i o ho b W h
    have e5 := h.base 5 (v := .pointer (some ⟨yb, 0, none⟩)) (by decide) rfl
    have c3 := (h.kept.cell (p := ⟨yb, 3, none⟩) hsz).trans q3
    clear q3
    have hi : i < 5 := (List.getElem?_eq_some_iff.1 ho).1
    obtain rfl | rfl | rfl | rfl | rfl : i = 0 ∨ i = 1 ∨ i = 2 ∨ i = 3 ∨ i = 4 := by omega
    all_goals cases ho
    · (have hzn : b.tmps.size = 33 := h.size; have hd0 : b.defers = [] := h.defers; rw [act_lit hzn hd0]; have hrr : List.range 33 = [0, 1, 2, 3, 4, 5, 6, 7, 8, 9, 10, 11, 12, 13, 14, 15, 16, 17, 18, 19, 20, 21, 22, 23, 24, 25, 26, 27, 28, 29, 30, 31, 32] := rfl; simp only [hrr, List.map_cons, List.map_nil, e5]; clear hzn hd0 hrr; (try generalize b.tmps.getD 0 undef = u0); (try generalize b.tmps.getD 1 undef = u1); (try generalize b.tmps.getD 2 undef = u2); (try generalize b.tmps.getD 3 undef = u3); (try generalize b.tmps.getD 4 undef = u4); (try generalize b.tmps.getD 5 undef = u5); (try generalize b.tmps.getD 6 undef = u6); (try generalize b.tmps.getD 7 undef = u7); (try generalize b.tmps.getD 8 undef = u8); (try generalize b.tmps.getD 9 undef = u9); (try generalize b.tmps.getD 10 undef = u10); (try generalize b.tmps.getD 11 undef = u11); (try generalize b.tmps.getD 12 undef = u12); (try generalize b.tmps.getD 13 undef = u13); (try generalize b.tmps.getD 14 undef = u14); (try generalize b.tmps.getD 15 undef = u15); (try generalize b.tmps.getD 16 undef = u16); (try generalize b.tmps.getD 17 undef = u17); (try generalize b.tmps.getD 18 undef = u18); (try generalize b.tmps.getD 19 undef = u19); (try generalize b.tmps.getD 20 undef = u20); (try generalize b.tmps.getD 21 undef = u21); (try generalize b.tmps.getD 22 undef = u22); (try generalize b.tmps.getD 23 undef = u23); (try generalize b.tmps.getD 24 undef = u24); (try generalize b.tmps.getD 25 undef = u25); (try generalize b.tmps.getD 26 undef = u26); (try generalize b.tmps.getD 27 undef = u27); (try generalize b.tmps.getD 28 undef = u28); (try generalize b.tmps.getD 29 undef = u29); (try generalize b.tmps.getD 30 undef = u30); (try generalize b.tmps.getD 31 undef = u31); (try generalize b.tmps.getD 32 undef = u32))
      go_wp2_with (go_at_call 24; refine (wways_any _).mono ?_; rintro e wx ⟨mb, rfl, hM, hmb, hgx⟩)
      exact ⟨_, rfl, ⟨mb, rfl, hM⟩, hgx⟩
    · (have hzn : b.tmps.size = 33 := h.size; have hd0 : b.defers = [] := h.defers; rw [act_lit hzn hd0]; have hrr : List.range 33 = [0, 1, 2, 3, 4, 5, 6, 7, 8, 9, 10, 11, 12, 13, 14, 15, 16, 17, 18, 19, 20, 21, 22, 23, 24, 25, 26, 27, 28, 29, 30, 31, 32] := rfl; simp only [hrr, List.map_cons, List.map_nil, e5]; clear hzn hd0 hrr; (try generalize b.tmps.getD 0 undef = u0); (try generalize b.tmps.getD 1 undef = u1); (try generalize b.tmps.getD 2 undef = u2); (try generalize b.tmps.getD 3 undef = u3); (try generalize b.tmps.getD 4 undef = u4); (try generalize b.tmps.getD 5 undef = u5); (try generalize b.tmps.getD 6 undef = u6); (try generalize b.tmps.getD 7 undef = u7); (try generalize b.tmps.getD 8 undef = u8); (try generalize b.tmps.getD 9 undef = u9); (try generalize b.tmps.getD 10 undef = u10); (try generalize b.tmps.getD 11 undef = u11); (try generalize b.tmps.getD 12 undef = u12); (try generalize b.tmps.getD 13 undef = u13); (try generalize b.tmps.getD 14 undef = u14); (try generalize b.tmps.getD 15 undef = u15); (try generalize b.tmps.getD 16 undef = u16); (try generalize b.tmps.getD 17 undef = u17); (try generalize b.tmps.getD 18 undef = u18); (try generalize b.tmps.getD 19 undef = u19); (try generalize b.tmps.getD 20 undef = u20); (try generalize b.tmps.getD 21 undef = u21); (try generalize b.tmps.getD 22 undef = u22); (try generalize b.tmps.getD 23 undef = u23); (try generalize b.tmps.getD 24 undef = u24); (try generalize b.tmps.getD 25 undef = u25); (try generalize b.tmps.getD 26 undef = u26); (try generalize b.tmps.getD 27 undef = u27); (try generalize b.tmps.getD 28 undef = u28); (try generalize b.tmps.getD 29 undef = u29); (try generalize b.tmps.getD 30 undef = u30); (try generalize b.tmps.getD 31 undef = u31); (try generalize b.tmps.getD 32 undef = u32))
      go_wp2
      exact ⟨_, rfl, rfl, Below.refl _ _⟩
    · obtain ⟨_, g12, rfl⟩ := h.got 1 rfl rfl
      (have hzn : b.tmps.size = 33 := h.size; have hd0 : b.defers = [] := h.defers; rw [act_lit hzn hd0]; have hrr : List.range 33 = [0, 1, 2, 3, 4, 5, 6, 7, 8, 9, 10, 11, 12, 13, 14, 15, 16, 17, 18, 19, 20, 21, 22, 23, 24, 25, 26, 27, 28, 29, 30, 31, 32] := rfl; simp only [hrr, List.map_cons, List.map_nil, g12]; clear hzn hd0 hrr; (try generalize b.tmps.getD 0 undef = u0); (try generalize b.tmps.getD 1 undef = u1); (try generalize b.tmps.getD 2 undef = u2); (try generalize b.tmps.getD 3 undef = u3); (try generalize b.tmps.getD 4 undef = u4); (try generalize b.tmps.getD 5 undef = u5); (try generalize b.tmps.getD 6 undef = u6); (try generalize b.tmps.getD 7 undef = u7); (try generalize b.tmps.getD 8 undef = u8); (try generalize b.tmps.getD 9 undef = u9); (try generalize b.tmps.getD 10 undef = u10); (try generalize b.tmps.getD 11 undef = u11); (try generalize b.tmps.getD 12 undef = u12); (try generalize b.tmps.getD 13 undef = u13); (try generalize b.tmps.getD 14 undef = u14); (try generalize b.tmps.getD 15 undef = u15); (try generalize b.tmps.getD 16 undef = u16); (try generalize b.tmps.getD 17 undef = u17); (try generalize b.tmps.getD 18 undef = u18); (try generalize b.tmps.getD 19 undef = u19); (try generalize b.tmps.getD 20 undef = u20); (try generalize b.tmps.getD 21 undef = u21); (try generalize b.tmps.getD 22 undef = u22); (try generalize b.tmps.getD 23 undef = u23); (try generalize b.tmps.getD 24 undef = u24); (try generalize b.tmps.getD 25 undef = u25); (try generalize b.tmps.getD 26 undef = u26); (try generalize b.tmps.getD 27 undef = u27); (try generalize b.tmps.getD 28 undef = u28); (try generalize b.tmps.getD 29 undef = u29); (try generalize b.tmps.getD 30 undef = u30); (try generalize b.tmps.getD 31 undef = u31); (try generalize b.tmps.getD 32 undef = u32))
      go_wp2
      exact ⟨_, rfl, rfl, Below.refl _ _⟩
    · obtain ⟨_, g11, mb, rfl, hM⟩ := h.got 0 rfl rfl
      obtain ⟨_, g13, rfl⟩ := h.got 2 rfl rfl
      have hlk := imap_look Try.underlying49 Try.underlying3 hM ways_nodup HK.out
      unfold wfn at hlk
      (have hzn : b.tmps.size = 33 := h.size; have hd0 : b.defers = [] := h.defers; rw [act_lit hzn hd0]; have hrr : List.range 33 = [0, 1, 2, 3, 4, 5, 6, 7, 8, 9, 10, 11, 12, 13, 14, 15, 16, 17, 18, 19, 20, 21, 22, 23, 24, 25, 26, 27, 28, 29, 30, 31, 32] := rfl; simp only [hrr, List.map_cons, List.map_nil, g11, g13]; clear hzn hd0 hrr; (try generalize b.tmps.getD 0 undef = u0); (try generalize b.tmps.getD 1 undef = u1); (try generalize b.tmps.getD 2 undef = u2); (try generalize b.tmps.getD 3 undef = u3); (try generalize b.tmps.getD 4 undef = u4); (try generalize b.tmps.getD 5 undef = u5); (try generalize b.tmps.getD 6 undef = u6); (try generalize b.tmps.getD 7 undef = u7); (try generalize b.tmps.getD 8 undef = u8); (try generalize b.tmps.getD 9 undef = u9); (try generalize b.tmps.getD 10 undef = u10); (try generalize b.tmps.getD 11 undef = u11); (try generalize b.tmps.getD 12 undef = u12); (try generalize b.tmps.getD 13 undef = u13); (try generalize b.tmps.getD 14 undef = u14); (try generalize b.tmps.getD 15 undef = u15); (try generalize b.tmps.getD 16 undef = u16); (try generalize b.tmps.getD 17 undef = u17); (try generalize b.tmps.getD 18 undef = u18); (try generalize b.tmps.getD 19 undef = u19); (try generalize b.tmps.getD 20 undef = u20); (try generalize b.tmps.getD 21 undef = u21); (try generalize b.tmps.getD 22 undef = u22); (try generalize b.tmps.getD 23 undef = u23); (try generalize b.tmps.getD 24 undef = u24); (try generalize b.tmps.getD 25 undef = u25); (try generalize b.tmps.getD 26 undef = u26); (try generalize b.tmps.getD 27 undef = u27); (try generalize b.tmps.getD 28 undef = u28); (try generalize b.tmps.getD 29 undef = u29); (try generalize b.tmps.getD 30 undef = u30); (try generalize b.tmps.getD 31 undef = u31); (try generalize b.tmps.getD 32 undef = u32))
      go_wp2
      exact ⟨_, rfl, rfl, Below.refl _ _⟩
    · obtain ⟨_, g14, rfl⟩ := h.got 3 rfl rfl
      (have hzn : b.tmps.size = 33 := h.size; have hd0 : b.defers = [] := h.defers; rw [act_lit hzn hd0]; have hrr : List.range 33 = [0, 1, 2, 3, 4, 5, 6, 7, 8, 9, 10, 11, 12, 13, 14, 15, 16, 17, 18, 19, 20, 21, 22, 23, 24, 25, 26, 27, 28, 29, 30, 31, 32] := rfl; simp only [hrr, List.map_cons, List.map_nil, g14]; clear hzn hd0 hrr; (try generalize b.tmps.getD 0 undef = u0); (try generalize b.tmps.getD 1 undef = u1); (try generalize b.tmps.getD 2 undef = u2); (try generalize b.tmps.getD 3 undef = u3); (try generalize b.tmps.getD 4 undef = u4); (try generalize b.tmps.getD 5 undef = u5); (try generalize b.tmps.getD 6 undef = u6); (try generalize b.tmps.getD 7 undef = u7); (try generalize b.tmps.getD 8 undef = u8); (try generalize b.tmps.getD 9 undef = u9); (try generalize b.tmps.getD 10 undef = u10); (try generalize b.tmps.getD 11 undef = u11); (try generalize b.tmps.getD 12 undef = u12); (try generalize b.tmps.getD 13 undef = u13); (try generalize b.tmps.getD 14 undef = u14); (try generalize b.tmps.getD 15 undef = u15); (try generalize b.tmps.getD 16 undef = u16); (try generalize b.tmps.getD 17 undef = u17); (try generalize b.tmps.getD 18 undef = u18); (try generalize b.tmps.getD 19 undef = u19); (try generalize b.tmps.getD 20 undef = u20); (try generalize b.tmps.getD 21 undef = u21); (try generalize b.tmps.getD 22 undef = u22); (try generalize b.tmps.getD 23 undef = u23); (try generalize b.tmps.getD 24 undef = u24); (try generalize b.tmps.getD 25 undef = u25); (try generalize b.tmps.getD 26 undef = u26); (try generalize b.tmps.getD 27 undef = u27); (try generalize b.tmps.getD 28 undef = u28); (try generalize b.tmps.getD 29 undef = u29); (try generalize b.tmps.getD 30 undef = u30); (try generalize b.tmps.getD 31 undef = u31); (try generalize b.tmps.getD 32 undef = u32))
      go_wp2
      exact ⟨_, rfl, rfl, Below.refl _ _⟩
  case fin =>
    intro b W h
    obtain ⟨_, g6, rfl⟩ := h.got 4 rfl rfl
    have e1 := h.base 1 (v := .int .i64 many) (by decide) rfl
    have e4 := h.base 4 (v := .slice none 0 0) (by decide) rfl
    have e5 := h.base 5 (v := .pointer (some ⟨yb, 0, none⟩)) (by decide) rfl
    have hBW := HB.out.trans (h.kept.mono HB.out.size)
    have hcsW := Lib.hid (cells_keep h.kept HCS.out)
    rename_i K hK
    refine hK _ _ ?_
    clear hK HB HCS q3
    (have hzn : b.tmps.size = 33 := h.size; have hd0 : b.defers = [] := h.defers; rw [act_lit hzn hd0]; have hrr : List.range 33 = [0, 1, 2, 3, 4, 5, 6, 7, 8, 9, 10, 11, 12, 13, 14, 15, 16, 17, 18, 19, 20, 21, 22, 23, 24, 25, 26, 27, 28, 29, 30, 31, 32] := rfl; simp only [hrr, List.map_cons, List.map_nil, g6, e1, e4, e5]; clear hzn hd0 hrr; (try generalize b.tmps.getD 0 undef = u0); (try generalize b.tmps.getD 1 undef = u1); (try generalize b.tmps.getD 2 undef = u2); (try generalize b.tmps.getD 3 undef = u3); (try generalize b.tmps.getD 4 undef = u4); (try generalize b.tmps.getD 5 undef = u5); (try generalize b.tmps.getD 6 undef = u6); (try generalize b.tmps.getD 7 undef = u7); (try generalize b.tmps.getD 8 undef = u8); (try generalize b.tmps.getD 9 undef = u9); (try generalize b.tmps.getD 10 undef = u10); (try generalize b.tmps.getD 11 undef = u11); (try generalize b.tmps.getD 12 undef = u12); (try generalize b.tmps.getD 13 undef = u13); (try generalize b.tmps.getD 14 undef = u14); (try generalize b.tmps.getD 15 undef = u15); (try generalize b.tmps.getD 16 undef = u16); (try generalize b.tmps.getD 17 undef = u17); (try generalize b.tmps.getD 18 undef = u18); (try generalize b.tmps.getD 19 undef = u19); (try generalize b.tmps.getD 20 undef = u20); (try generalize b.tmps.getD 21 undef = u21); (try generalize b.tmps.getD 22 undef = u22); (try generalize b.tmps.getD 23 undef = u23); (try generalize b.tmps.getD 24 undef = u24); (try generalize b.tmps.getD 25 undef = u25); (try generalize b.tmps.getD 26 undef = u26); (try generalize b.tmps.getD 27 undef = u27); (try generalize b.tmps.getD 28 undef = u28); (try generalize b.tmps.getD 29 undef = u29); (try generalize b.tmps.getD 30 undef = u30); (try generalize b.tmps.getD 31 undef = u31); (try generalize b.tmps.getD 32 undef = u32))
    have hsz2 : yb < W.heap.size := Nat.lt_of_lt_of_le hsz h.kept.size
    clear h g6 e1 e4 e5
    have hcase : (1000 < many ∧ k = 1000) ∨ ((0 < many ∧ ¬ 1000 < many) ∧ many = k) ∨ ((¬ 0 < many ∧ ¬ 1000 < many) ∧ k = 0) := by
      have := HN.out
      unfold manyN at this
      omega
    have HZ := Lib.hid (Ow.zeros (w0 := w) (w := W) k hkn hBW)
    have hzw : W.heap.size < (W.alloc (.cells (madeCells #[Value.int .i64 0] k) 3)).heap.size := by simp
    rcases hcase with ⟨h1, h2⟩ | ⟨⟨h1, h3⟩, h2⟩ | ⟨⟨h1, h3⟩, h2⟩
    case' inl => have hmk := mk_ints 1000 k (by omega) (by omega)
    case' inr.inl => have hmk := mk_ints many k (by omega) (by omega)
    case' inr.inr => have hmk := mk_ints 0 k (by omega) (by omega)
    all_goals
      clear h2 HN
      go_wp2
      clear h1 hmk
      go_loopw [8, 21] (fun _ i wr => ∃ j : Nat, j ≤ k ∧ i = .int .i64 j ∧ Ow wr w.heap.size 3 1 intC (soFar f k j) (.slice (some ⟨W.heap.size, 0, none⟩) k k) ∧ CellsAt wr [(yb, 0, .int .i64 ca), (yb, 1, .int .i64 cb), (yb, 2, .int .i64 cc), (yb, 3, .int .i64 cd), (yb, 4, .int .i64 ce), (yb, 5, .int .i64 cf), (yb, 6, .bool cg)] ∧ Below w.heap.size w wr) (fun _ i _ => k - (intOf i).toNat)
      case atStart => exact ⟨0, by omega, rfl, by rw [soFar_zero]; exact HZ.out, cells_keep ((Below.refl _ _).alloc (Nat.le_refl _) _) hcsW.out, by repeat' (first | (with_reducible exact Below.refl _ _) | (with_reducible assumption) | (with_reducible refine kept_alloc ?_ _) | (with_reducible refine kept_drewN ?_ _) | (with_reducible refine Below.drew ?_) | (with_reducible refine Below.setCell ?_ (by first | omega | (simp; omega) | (simp; done)) _) | (refine kept_trans ?_ (by with_reducible assumption)))⟩
      case round =>
        obtain ⟨j, hj, rfl, hO, hcs, hB⟩ := hrel
        have HO := Lib.hid hO
        clear hO
        by_cases hlt : j < k
        · have hj1 : j < 1000 := by omega
          have i1 : (0 : Int) ≤ (j : Int) := by omega
          have i2 : (j : Int) < (k : Int) := by omega
          have hq0 := hcs.1.2; have hq1 := hcs.2.1.2; have hq2 := hcs.2.2.1.2; have hq3 := hcs.2.2.2.1.2; have hq4 := hcs.2.2.2.2.1.2; have hq5 := hcs.2.2.2.2.2.1.2; have hq6 := hcs.2.2.2.2.2.2.1.2; have hz0 := hcs.1.1
          have HCW := Lib.hid hcs
          clear hcs
          have hsl := soFar_len f k j
          have HS := Lib.hid hsl
          clear hsl
          have hlt' : j < (soFar f k j).length := by rw [HS.out]; exact hlt
          have HX := Lib.hid hlt'
          clear hlt'
          go_wp2_with (go_at_fn fn; refine (HF.out j _ hj1).mono ?_; rintro e w2 ⟨rfl, hg2⟩; have HO2 := Lib.hid (Ow.kept HO.out hg2); have hc2 := (Ow.intAt HO2.out HX.out).1; have hf2 := (Ow.intAt HO2.out HX.out).2)
          refine ⟨⟨j + 1, by omega, by go_num, ?_, ?_, ?_⟩, by simp [intOf]; omega⟩
          · rw [← soFar_set f k j hlt]; exact Ow.setInt HO2.out j (f j)
          · refine cells_set (cells_keep hg2 HCW.out) ?_
            intro x hx
            have hxb : x.1 = yb := by simp at hx; rcases hx with rfl | rfl | rfl | rfl | rfl | rfl | rfl <;> rfl
            rw [hxb]; show yb ≠ W.heap.size; omega
          · exact (kept_trans hB hg2).setCell (p := ⟨_, _, none⟩) hBW.size _
        · have hjk : j = k := by omega
          subst hjk
          clear hcs
          go_wp2
          go_ret
          refine ⟨some ⟨W.heap.size, 0, none⟩, j, by simp, ?_, by repeat' (first | (with_reducible exact Below.refl _ _) | (with_reducible assumption) | (with_reducible refine kept_alloc ?_ _) | (with_reducible refine kept_drewN ?_ _) | (with_reducible refine Below.drew ?_) | (with_reducible refine Below.setCell ?_ (by first | omega | (simp; omega) | (simp; done)) _) | (refine kept_trans ?_ (by with_reducible assumption)))⟩
          rw [← soFar_all]
          have := HO.out
          rw [soFar_len]
          exact this
end Go.Proofs.Ytmdpgaihbkjjgaa
