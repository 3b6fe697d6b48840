/- Layer 7: how many are one, as the document says; what every statement asks first. -/
import Derived.Test.YtmdpgaihbkjjgaaWaitL
namespace Go.Proofs.Ytmdpgaihbkjjgaa
set_option linter.unusedVariables false
set_option linter.unusedSimpArgs false
open Go.ChangeShapes Go.WideShapes Go.ChangeAt Go.RowKit

set_option maxHeartbeats 1000000 in
theorem rwmany_any (l : List Int) (one : Int) (p : Option Addr) (k : Nat) (w : World) (hl : Sl w 1 intC l (.slice p l.length k)) :
    Calls Try.prog 17 #[.slice p l.length k, .int .i64 one] w fun e w' => e = .returned (.int .i64 (cntO l one)) ∧ Kept w w' := by
  have H := Lib.hid hl
  obtain ⟨_, _, e1, hlk, hkm, _, hne⟩ := hl.is
  cases e1
  have hbig : l.length ≤ 9223372036854775807 := by unfold maxLen at hkm; omega
  clear hl hkm
  obtain ⟨N, hN⟩ : ∃ N, l.length = N := ⟨_, rfl⟩
  rw [hN] at hbig hlk ⊢
  have HN := Lib.hid hN
  have HNE := Lib.hid hne
  clear hN hne
  go_enter Try.func17, Try.ntmps17
  go_wp2
  go_loopw [5, 6] (fun m i wr => ∃ j : Nat, j ≤ N ∧ i = .int .i64 j ∧ m = .int .i64 (cntO (l.take j) one) ∧ Below w.heap.size w wr) (fun _ i _ => N - (intOf i).toNat)
  case atStart => exact ⟨0, by omega, rfl, rfl, Below.refl _ _⟩
  case round =>
    obtain ⟨j, hj, rfl, rfl, hB⟩ := hrel
    by_cases hlt : j < N
    · have hlt' : j < l.length := by rw [HN.out]; exact hlt
      obtain ⟨b, o, rfl, hb, -⟩ := HNE.out (by intro h; subst h; simp at hlt')
      have c1 := (hB.cell (p := ⟨b, o + j, none⟩) hb).trans (int_at H.out hlt')
      have hbw : b < wr.heap.size := Nat.lt_of_lt_of_le hb hB.size
      have i1 : (0 : Int) ≤ (j : Int) := by omega
      have i2 : (j : Int) < (N : Int) := by omega
      have hs : Hid (cntO (l.take (j + 1)) one = cntO (l.take j) one + if l[j] = one then 1 else 0) := by
        show _ = _
        rw [List.take_succ_eq_append_getElem hlt', cnt_snoc]
      have hcb := cnt_bound (l.take j) one
      rw [List.length_take, Nat.min_eq_left (by omega)] at hcb
      generalize cntO (l.take j) one = m at *
      generalize l[j] = y at *
      have hw1 : IntKind.i64.wrap (m + 1) = m + 1 := IntWalk.i64_in _ (by omega)
      cases hxy : (y == one)
      · have hn : Hid (cntO (l.take (j + 1)) one = m) := by
          show _ = _
          rw [hs.out, if_neg (by simpa using hxy), Int.add_zero]
        clear hs
        go_wp2
        exact ⟨⟨j + 1, by omega, by go_num, by rw [hn.out], by repeat' (first | (with_reducible exact Below.refl _ _) | (with_reducible assumption) | (with_reducible refine kept_alloc ?_ _) | (with_reducible refine kept_drewN ?_ _) | (with_reducible refine Below.drew ?_) | (with_reducible refine Below.setCell ?_ (by first | omega | (simp; omega) | (simp; done)) _) | (refine kept_trans ?_ (by with_reducible assumption)))⟩, by simp [intOf]; omega⟩
      · have hn : Hid (cntO (l.take (j + 1)) one = m + 1) := by
          show _ = _
          rw [hs.out, if_pos (by simpa using hxy)]
        clear hs
        go_wp2
        exact ⟨⟨j + 1, by omega, by go_num, by rw [hn.out], by repeat' (first | (with_reducible exact Below.refl _ _) | (with_reducible assumption) | (with_reducible refine kept_alloc ?_ _) | (with_reducible refine kept_drewN ?_ _) | (with_reducible refine Below.drew ?_) | (with_reducible refine Below.setCell ?_ (by first | omega | (simp; omega) | (simp; done)) _) | (refine kept_trans ?_ (by with_reducible assumption)))⟩, by simp [intOf]; omega⟩
    · have : j = N := by omega
      subst this
      have ht : Hid (cntO (l.take j) one = cntO l one) := by
        show _ = _
        rw [← HN.out, List.take_length]
      go_wp2
      go_ret
      exact ⟨ret_int ht.out, by repeat' (first | (with_reducible exact Below.refl _ _) | (with_reducible assumption) | (with_reducible refine kept_alloc ?_ _) | (with_reducible refine kept_drewN ?_ _) | (with_reducible refine Below.drew ?_) | (with_reducible refine Below.setCell ?_ (by first | omega | (simp; omega) | (simp; done)) _) | (refine kept_trans ?_ (by with_reducible assumption)))⟩

theorem rwmany_n {l : List Int} {N : Nat} (hN : l.length = N) (one : Int) (p : Option Addr) (k : Nat) (w : World) (hl : Sl w 1 intC l (.slice p l.length k)) :
    Calls Try.prog 17 #[.slice p N k, .int .i64 one] w fun e w' => e = .returned (.int .i64 (cntO l one)) ∧ Kept w w' := by
  subst hN
  exact rwmany_any l one p k w hl
theorem rints_val {l m : List Int} {b : Bool} (hb : decide (l = m) = b) {n n' : Nat} (hn : l.length = n) (hn' : m.length = n') (p q : Option Addr) (k k' : Nat) (w : World) (hl : Sl w 1 intC l (.slice p n k)) (hm : Sl w 1 intC m (.slice q n' k')) (hlm : n ≤ 9223372036854775806) :
    Calls Try.prog 14 #[.slice p n k, .slice q n' k'] w fun e w' => e = .returned (.bool b) ∧ Kept w w' := by
  subst hb hn hn'
  exact rints_any l m p q k k' w hl hm hlm
theorem wnext_val {lg th po wt sp yi n x : Int} (hx : nxI lg th po wt sp yi (max n 0) = x) (si : Bool) (w : World) : Calls Try.prog 12 #[.agg #[.int .i64 lg, .int .i64 th, .int .i64 po, .int .i64 wt, .int .i64 sp, .int .i64 yi, .bool si], .int .i64 n] w fun e w' => e = .returned (.int .i64 x) ∧ Kept w w' := by
  subst hx
  exact wnext_any lg th po wt sp yi si n w
theorem wuntil_val {lg th po wt sp yi x : Int} {b : Bool} (hx : tryI lg th po wt sp yi = x) (hb : parksB lg th po wt sp yi = b) (si : Bool) (w : World) : Calls Try.prog 9 #[.agg #[.int .i64 lg, .int .i64 th, .int .i64 po, .int .i64 wt, .int .i64 sp, .int .i64 yi, .bool si]] w fun e w' => e = .returned (.tuple #[.int .i64 x, .bool b]) ∧ Kept w w' := by
  subst hx hb
  exact wuntil_any lg th po wt sp yi si w
theorem rwuntil_val {lg th po wt sp yi x : Int} {b : Bool} (hx : tryI lg th po wt sp yi = x) (hb : parksB lg th po wt sp yi = b) (si : Bool) (w : World) : Calls Try.prog 10 #[.agg #[.int .i64 lg, .int .i64 th, .int .i64 po, .int .i64 wt, .int .i64 sp, .int .i64 yi, .bool si]] w fun e w' => e = .returned (.tuple #[.int .i64 x, .bool b]) ∧ Kept w w' := by
  subst hx hb
  exact rwuntil_any lg th po wt sp yi si w
/-- A walk, its list under a name. -/
def RetIn (r : List Int) (n : Nat) (w : World) (e : Ending) (w' : World) : Prop := ∃ p k, e = .returned (.slice p n k) ∧ Ow w' w.heap.size 3 1 intC r (.slice p n k) ∧ Kept w w'
theorem wwalk_val {lg th po wt sp yi many : Int} {l : List Int} {n : Nat} (hl : walkL lg th po wt sp yi (manyN many) = l) (hn : l.length = n) (si : Bool) (w : World) : Calls Try.prog 15 #[.agg #[.int .i64 lg, .int .i64 th, .int .i64 po, .int .i64 wt, .int .i64 sp, .int .i64 yi, .bool si], .int .i64 many] w (RetIn l n w) := by
  subst hl hn
  exact wwalk_any lg th po wt sp yi si many w
theorem rwwalk_val {lg th po wt sp yi many : Int} {l : List Int} {n : Nat} (hm : In64 many) (hl : walkL lg th po wt sp yi (manyN many) = l) (hn : l.length = n) (si : Bool) (w : World) : Calls Try.prog 16 #[.agg #[.int .i64 lg, .int .i64 th, .int .i64 po, .int .i64 wt, .int .i64 sp, .int .i64 yi, .bool si], .int .i64 many] w (RetIn l n w) := by
  subst hl hn
  exact rwalk_any lg th po wt sp yi si many w hm
theorem wspent_val {l : List Int} {n : Nat} {a b c : Int} (ha : cntO l 0 = a) (hb : cntO l 1 = b) (hc : cntO l 2 = c) (hn : l.length = n) (p : Option Addr) (k : Nat) (w : World) (hl : Sl w 1 intC l (.slice p n k)) :
    Calls Try.prog 11 #[.slice p n k] w fun e w' => e = .returned (.tuple #[.int .i64 a, .int .i64 b, .int .i64 c]) ∧ Kept w w' := by
  subst ha hb hc hn
  exact wspent_any l p k w hl

set_option maxHeartbeats 4000000 in
set_option maxRecDepth 100000 in
theorem waitawake_any (w : World) : Calls Try.prog 8 #[] w fun e w' => e = .returned (.bool true) ∧ Kept w w' := by
  go_enter Try.func8, Try.ntmps8
  go_wp2_with fail
  refine (wuntil_val (x := 3) (b := true) (by decide) (by decide) _ _).mono ?_
  rintro e w1 ⟨rfl, hg1⟩
  ((try clear hq0 hq1 hq2 hq3 hq4 hq5 hq6 hq7 hq8 hq9 hq10 hq11 hq12 hq13 hz0 hz1); have hcs : CellsAt w1 [(w.heap.size, 0, .int .i64 1), (w.heap.size, 1, .int .i64 1), (w.heap.size, 2, .int .i64 0), (w.heap.size, 3, .int .i64 2), (w.heap.size, 4, .int .i64 2), (w.heap.size, 5, .int .i64 1), (w.heap.size, 6, .bool false), (w.heap.size + 1, 0, .int .i64 1), (w.heap.size + 1, 1, .int .i64 1), (w.heap.size + 1, 2, .int .i64 0), (w.heap.size + 1, 3, .int .i64 1), (w.heap.size + 1, 4, .int .i64 0), (w.heap.size + 1, 5, .int .i64 0), (w.heap.size + 1, 6, .bool false)] := cells_keep hg1 (by first | exact hcs | (simp only [CellsAt]; (repeat' (first | exact trivial | (refine And.intro ?_ ?_))); all_goals (first | (focus ((try simp only [World.size_setCell, World.size_alloc]); omega)) | (repeat (first | rfl | assumption | (refine (World.cell?_alloc_past _ _ _ ?_).trans ?_; focus ((try simp only [World.size_setCell, World.size_alloc]); omega)) | (refine (World.cell?_alloc_at _ _ _ _ ?_).trans ?_; focus ((try simp only [World.size_setCell, World.size_alloc]); done)) | (refine (World.cell?_setCell_other _ _ _ _ ?_).trans ?_; focus (simp; done)) | (refine (World.cell?_setCell_other _ _ _ _ ?_).trans ?_; focus (simp; omega)) | (refine World.cell?_setCell_same' _ _ _ ?_; focus (simp; done))))))); have hq0 := hcs.1.2; have hq1 := hcs.2.1.2; have hq2 := hcs.2.2.1.2; have hq3 := hcs.2.2.2.1.2; have hq4 := hcs.2.2.2.2.1.2; have hq5 := hcs.2.2.2.2.2.1.2; have hq6 := hcs.2.2.2.2.2.2.1.2; have hq7 := hcs.2.2.2.2.2.2.2.1.2; have hq8 := hcs.2.2.2.2.2.2.2.2.1.2; have hq9 := hcs.2.2.2.2.2.2.2.2.2.1.2; have hq10 := hcs.2.2.2.2.2.2.2.2.2.2.1.2; have hq11 := hcs.2.2.2.2.2.2.2.2.2.2.2.1.2; have hq12 := hcs.2.2.2.2.2.2.2.2.2.2.2.2.1.2; have hq13 := hcs.2.2.2.2.2.2.2.2.2.2.2.2.2.1.2; have hz0 := hcs.1.1; have hz1 := hcs.2.2.2.2.2.2.2.1.1)
  go_wp2_with fail
  refine (wuntil_val (x := 0) (b := false) (by decide) (by decide) _ _).mono ?_
  rintro e w2 ⟨rfl, hg2⟩
  ((try clear hq0 hq1 hq2 hq3 hq4 hq5 hq6 hq7 hq8 hq9 hq10 hq11 hq12 hq13 hz0 hz1); have hcs : CellsAt w2 [(w.heap.size, 0, .int .i64 1), (w.heap.size, 1, .int .i64 1), (w.heap.size, 2, .int .i64 0), (w.heap.size, 3, .int .i64 2), (w.heap.size, 4, .int .i64 2), (w.heap.size, 5, .int .i64 1), (w.heap.size, 6, .bool false), (w.heap.size + 1, 0, .int .i64 1), (w.heap.size + 1, 1, .int .i64 1), (w.heap.size + 1, 2, .int .i64 0), (w.heap.size + 1, 3, .int .i64 1), (w.heap.size + 1, 4, .int .i64 0), (w.heap.size + 1, 5, .int .i64 0), (w.heap.size + 1, 6, .bool false)] := cells_keep hg2 (by first | exact hcs | (simp only [CellsAt]; (repeat' (first | exact trivial | (refine And.intro ?_ ?_))); all_goals (first | (focus ((try simp only [World.size_setCell, World.size_alloc]); omega)) | (repeat (first | rfl | assumption | (refine (World.cell?_alloc_past _ _ _ ?_).trans ?_; focus ((try simp only [World.size_setCell, World.size_alloc]); omega)) | (refine (World.cell?_alloc_at _ _ _ _ ?_).trans ?_; focus ((try simp only [World.size_setCell, World.size_alloc]); done)) | (refine (World.cell?_setCell_other _ _ _ _ ?_).trans ?_; focus (simp; done)) | (refine (World.cell?_setCell_other _ _ _ _ ?_).trans ?_; focus (simp; omega)) | (refine World.cell?_setCell_same' _ _ _ ?_; focus (simp; done))))))); have hq0 := hcs.1.2; have hq1 := hcs.2.1.2; have hq2 := hcs.2.2.1.2; have hq3 := hcs.2.2.2.1.2; have hq4 := hcs.2.2.2.2.1.2; have hq5 := hcs.2.2.2.2.2.1.2; have hq6 := hcs.2.2.2.2.2.2.1.2; have hq7 := hcs.2.2.2.2.2.2.2.1.2; have hq8 := hcs.2.2.2.2.2.2.2.2.1.2; have hq9 := hcs.2.2.2.2.2.2.2.2.2.1.2; have hq10 := hcs.2.2.2.2.2.2.2.2.2.2.1.2; have hq11 := hcs.2.2.2.2.2.2.2.2.2.2.2.1.2; have hq12 := hcs.2.2.2.2.2.2.2.2.2.2.2.2.1.2; have hq13 := hcs.2.2.2.2.2.2.2.2.2.2.2.2.2.1.2; have hz0 := hcs.1.1; have hz1 := hcs.2.2.2.2.2.2.2.1.1)
  go_wp2_with fail
  refine (wspent_val (l := [0, 1, 1, 2, 2, 2, 3, -1]) (a := 1) (b := 2) (c := 3) (by decide) (by decide) (by decide) rfl _ _ _ (Ow.sl intEnc (Ow.made (base := 0) (e := 3) (W := w2) intEnc [0, 1, 1, 2, 2, 2, 3, -1] #[.int .i64 0, .int .i64 1, .int .i64 1, .int .i64 2, .int .i64 2, .int .i64 2, .int .i64 3, .int .i64 (-1)] rfl (Nat.zero_le _) (by show 8 ≤ maxLen; decide) rfl rfl))).mono ?_
  rintro e w3 ⟨rfl, hg3⟩
  ((try clear hq0 hq1 hq2 hq3 hq4 hq5 hq6 hq7 hq8 hq9 hq10 hq11 hq12 hq13 hz0 hz1); have hcs : CellsAt w3 [(w.heap.size, 0, .int .i64 1), (w.heap.size, 1, .int .i64 1), (w.heap.size, 2, .int .i64 0), (w.heap.size, 3, .int .i64 2), (w.heap.size, 4, .int .i64 2), (w.heap.size, 5, .int .i64 1), (w.heap.size, 6, .bool false), (w.heap.size + 1, 0, .int .i64 1), (w.heap.size + 1, 1, .int .i64 1), (w.heap.size + 1, 2, .int .i64 0), (w.heap.size + 1, 3, .int .i64 1), (w.heap.size + 1, 4, .int .i64 0), (w.heap.size + 1, 5, .int .i64 0), (w.heap.size + 1, 6, .bool false)] := cells_keep (kept_trans (kept_alloc (Below.refl _ _) _) hg3) (by first | exact hcs | (simp only [CellsAt]; (repeat' (first | exact trivial | (refine And.intro ?_ ?_))); all_goals (first | (focus ((try simp only [World.size_setCell, World.size_alloc]); omega)) | (repeat (first | rfl | assumption | (refine (World.cell?_alloc_past _ _ _ ?_).trans ?_; focus ((try simp only [World.size_setCell, World.size_alloc]); omega)) | (refine (World.cell?_alloc_at _ _ _ _ ?_).trans ?_; focus ((try simp only [World.size_setCell, World.size_alloc]); done)) | (refine (World.cell?_setCell_other _ _ _ _ ?_).trans ?_; focus (simp; done)) | (refine (World.cell?_setCell_other _ _ _ _ ?_).trans ?_; focus (simp; omega)) | (refine World.cell?_setCell_same' _ _ _ ?_; focus (simp; done))))))); have hq0 := hcs.1.2; have hq1 := hcs.2.1.2; have hq2 := hcs.2.2.1.2; have hq3 := hcs.2.2.2.1.2; have hq4 := hcs.2.2.2.2.1.2; have hq5 := hcs.2.2.2.2.2.1.2; have hq6 := hcs.2.2.2.2.2.2.1.2; have hq7 := hcs.2.2.2.2.2.2.2.1.2; have hq8 := hcs.2.2.2.2.2.2.2.2.1.2; have hq9 := hcs.2.2.2.2.2.2.2.2.2.1.2; have hq10 := hcs.2.2.2.2.2.2.2.2.2.2.1.2; have hq11 := hcs.2.2.2.2.2.2.2.2.2.2.2.1.2; have hq12 := hcs.2.2.2.2.2.2.2.2.2.2.2.2.1.2; have hq13 := hcs.2.2.2.2.2.2.2.2.2.2.2.2.2.1.2; have hz0 := hcs.1.1; have hz1 := hcs.2.2.2.2.2.2.2.1.1)
  go_wp2_with fail
  refine (wwalk_val (l := [0, 0, 1, 2, 2]) (n := 5) (by decide) rfl _ _).mono ?_
  rintro e w4 ⟨p4, k4, rfl, hO4, hg4⟩
  ((try clear hq0 hq1 hq2 hq3 hq4 hq5 hq6 hq7 hq8 hq9 hq10 hq11 hq12 hq13 hz0 hz1); have hcs : CellsAt w4 [(w.heap.size, 0, .int .i64 1), (w.heap.size, 1, .int .i64 1), (w.heap.size, 2, .int .i64 0), (w.heap.size, 3, .int .i64 2), (w.heap.size, 4, .int .i64 2), (w.heap.size, 5, .int .i64 1), (w.heap.size, 6, .bool false), (w.heap.size + 1, 0, .int .i64 1), (w.heap.size + 1, 1, .int .i64 1), (w.heap.size + 1, 2, .int .i64 0), (w.heap.size + 1, 3, .int .i64 1), (w.heap.size + 1, 4, .int .i64 0), (w.heap.size + 1, 5, .int .i64 0), (w.heap.size + 1, 6, .bool false)] := cells_keep hg4 (by first | exact hcs | (simp only [CellsAt]; (repeat' (first | exact trivial | (refine And.intro ?_ ?_))); all_goals (first | (focus ((try simp only [World.size_setCell, World.size_alloc]); omega)) | (repeat (first | rfl | assumption | (refine (World.cell?_alloc_past _ _ _ ?_).trans ?_; focus ((try simp only [World.size_setCell, World.size_alloc]); omega)) | (refine (World.cell?_alloc_at _ _ _ _ ?_).trans ?_; focus ((try simp only [World.size_setCell, World.size_alloc]); done)) | (refine (World.cell?_setCell_other _ _ _ _ ?_).trans ?_; focus (simp; done)) | (refine (World.cell?_setCell_other _ _ _ _ ?_).trans ?_; focus (simp; omega)) | (refine World.cell?_setCell_same' _ _ _ ?_; focus (simp; done))))))); have hq0 := hcs.1.2; have hq1 := hcs.2.1.2; have hq2 := hcs.2.2.1.2; have hq3 := hcs.2.2.2.1.2; have hq4 := hcs.2.2.2.2.1.2; have hq5 := hcs.2.2.2.2.2.1.2; have hq6 := hcs.2.2.2.2.2.2.1.2; have hq7 := hcs.2.2.2.2.2.2.2.1.2; have hq8 := hcs.2.2.2.2.2.2.2.2.1.2; have hq9 := hcs.2.2.2.2.2.2.2.2.2.1.2; have hq10 := hcs.2.2.2.2.2.2.2.2.2.2.1.2; have hq11 := hcs.2.2.2.2.2.2.2.2.2.2.2.1.2; have hq12 := hcs.2.2.2.2.2.2.2.2.2.2.2.2.1.2; have hq13 := hcs.2.2.2.2.2.2.2.2.2.2.2.2.2.1.2; have hz0 := hcs.1.1; have hz1 := hcs.2.2.2.2.2.2.2.1.1)
  have HO4 := Lib.hid hO4
  clear hO4
  go_wp2_with fail
  refine (rints_val (l := [0, 0, 1, 2, 2]) (m := [0, 0, 1, 2, 2]) (b := true) (by decide) rfl rfl _ _ _ _ _ ((Ow.sl intEnc HO4.out).kept ((Below.refl _ _).alloc (Nat.le_refl _) _)) (Ow.sl intEnc (Ow.made (base := 0) (e := 3) (W := w4) intEnc [0, 0, 1, 2, 2] #[.int .i64 0, .int .i64 0, .int .i64 1, .int .i64 2, .int .i64 2] rfl (Nat.zero_le _) (by show 5 ≤ maxLen; decide) rfl rfl)) (by decide)).mono ?_
  rintro e w5 ⟨rfl, hg5⟩
  ((try clear hq0 hq1 hq2 hq3 hq4 hq5 hq6 hq7 hq8 hq9 hq10 hq11 hq12 hq13 hz0 hz1); have hcs : CellsAt w5 [(w.heap.size, 0, .int .i64 1), (w.heap.size, 1, .int .i64 1), (w.heap.size, 2, .int .i64 0), (w.heap.size, 3, .int .i64 2), (w.heap.size, 4, .int .i64 2), (w.heap.size, 5, .int .i64 1), (w.heap.size, 6, .bool false), (w.heap.size + 1, 0, .int .i64 1), (w.heap.size + 1, 1, .int .i64 1), (w.heap.size + 1, 2, .int .i64 0), (w.heap.size + 1, 3, .int .i64 1), (w.heap.size + 1, 4, .int .i64 0), (w.heap.size + 1, 5, .int .i64 0), (w.heap.size + 1, 6, .bool false)] := cells_keep (kept_trans (kept_alloc (Below.refl _ _) _) hg5) (by first | exact hcs | (simp only [CellsAt]; (repeat' (first | exact trivial | (refine And.intro ?_ ?_))); all_goals (first | (focus ((try simp only [World.size_setCell, World.size_alloc]); omega)) | (repeat (first | rfl | assumption | (refine (World.cell?_alloc_past _ _ _ ?_).trans ?_; focus ((try simp only [World.size_setCell, World.size_alloc]); omega)) | (refine (World.cell?_alloc_at _ _ _ _ ?_).trans ?_; focus ((try simp only [World.size_setCell, World.size_alloc]); done)) | (refine (World.cell?_setCell_other _ _ _ _ ?_).trans ?_; focus (simp; done)) | (refine (World.cell?_setCell_other _ _ _ _ ?_).trans ?_; focus (simp; omega)) | (refine World.cell?_setCell_same' _ _ _ ?_; focus (simp; done))))))); have hq0 := hcs.1.2; have hq1 := hcs.2.1.2; have hq2 := hcs.2.2.1.2; have hq3 := hcs.2.2.2.1.2; have hq4 := hcs.2.2.2.2.1.2; have hq5 := hcs.2.2.2.2.2.1.2; have hq6 := hcs.2.2.2.2.2.2.1.2; have hq7 := hcs.2.2.2.2.2.2.2.1.2; have hq8 := hcs.2.2.2.2.2.2.2.2.1.2; have hq9 := hcs.2.2.2.2.2.2.2.2.2.1.2; have hq10 := hcs.2.2.2.2.2.2.2.2.2.2.1.2; have hq11 := hcs.2.2.2.2.2.2.2.2.2.2.2.1.2; have hq12 := hcs.2.2.2.2.2.2.2.2.2.2.2.2.1.2; have hq13 := hcs.2.2.2.2.2.2.2.2.2.2.2.2.2.1.2; have hz0 := hcs.1.1; have hz1 := hcs.2.2.2.2.2.2.2.1.1)
  go_wp2_with fail
  refine (wnext_val (x := 0) (by decide) _ _).mono ?_
  rintro e w6 ⟨rfl, hg6⟩
  ((try clear hq0 hq1 hq2 hq3 hq4 hq5 hq6 hq7 hq8 hq9 hq10 hq11 hq12 hq13 hz0 hz1); have hcs : CellsAt w6 [(w.heap.size, 0, .int .i64 1), (w.heap.size, 1, .int .i64 1), (w.heap.size, 2, .int .i64 0), (w.heap.size, 3, .int .i64 2), (w.heap.size, 4, .int .i64 2), (w.heap.size, 5, .int .i64 1), (w.heap.size, 6, .bool false), (w.heap.size + 1, 0, .int .i64 1), (w.heap.size + 1, 1, .int .i64 1), (w.heap.size + 1, 2, .int .i64 0), (w.heap.size + 1, 3, .int .i64 1), (w.heap.size + 1, 4, .int .i64 0), (w.heap.size + 1, 5, .int .i64 0), (w.heap.size + 1, 6, .bool false)] := cells_keep hg6 (by first | exact hcs | (simp only [CellsAt]; (repeat' (first | exact trivial | (refine And.intro ?_ ?_))); all_goals (first | (focus ((try simp only [World.size_setCell, World.size_alloc]); omega)) | (repeat (first | rfl | assumption | (refine (World.cell?_alloc_past _ _ _ ?_).trans ?_; focus ((try simp only [World.size_setCell, World.size_alloc]); omega)) | (refine (World.cell?_alloc_at _ _ _ _ ?_).trans ?_; focus ((try simp only [World.size_setCell, World.size_alloc]); done)) | (refine (World.cell?_setCell_other _ _ _ _ ?_).trans ?_; focus (simp; done)) | (refine (World.cell?_setCell_other _ _ _ _ ?_).trans ?_; focus (simp; omega)) | (refine World.cell?_setCell_same' _ _ _ ?_; focus (simp; done))))))); have hq0 := hcs.1.2; have hq1 := hcs.2.1.2; have hq2 := hcs.2.2.1.2; have hq3 := hcs.2.2.2.1.2; have hq4 := hcs.2.2.2.2.1.2; have hq5 := hcs.2.2.2.2.2.1.2; have hq6 := hcs.2.2.2.2.2.2.1.2; have hq7 := hcs.2.2.2.2.2.2.2.1.2; have hq8 := hcs.2.2.2.2.2.2.2.2.1.2; have hq9 := hcs.2.2.2.2.2.2.2.2.2.1.2; have hq10 := hcs.2.2.2.2.2.2.2.2.2.2.1.2; have hq11 := hcs.2.2.2.2.2.2.2.2.2.2.2.1.2; have hq12 := hcs.2.2.2.2.2.2.2.2.2.2.2.2.1.2; have hq13 := hcs.2.2.2.2.2.2.2.2.2.2.2.2.2.1.2; have hz0 := hcs.1.1; have hz1 := hcs.2.2.2.2.2.2.2.1.1)
  go_wp2_with fail
  refine (wnext_val (x := 1) (by decide) _ _).mono ?_
  rintro e w7 ⟨rfl, hg7⟩
  ((try clear hq0 hq1 hq2 hq3 hq4 hq5 hq6 hq7 hq8 hq9 hq10 hq11 hq12 hq13 hz0 hz1); have hcs : CellsAt w7 [(w.heap.size, 0, .int .i64 1), (w.heap.size, 1, .int .i64 1), (w.heap.size, 2, .int .i64 0), (w.heap.size, 3, .int .i64 2), (w.heap.size, 4, .int .i64 2), (w.heap.size, 5, .int .i64 1), (w.heap.size, 6, .bool false), (w.heap.size + 1, 0, .int .i64 1), (w.heap.size + 1, 1, .int .i64 1), (w.heap.size + 1, 2, .int .i64 0), (w.heap.size + 1, 3, .int .i64 1), (w.heap.size + 1, 4, .int .i64 0), (w.heap.size + 1, 5, .int .i64 0), (w.heap.size + 1, 6, .bool false)] := cells_keep hg7 (by first | exact hcs | (simp only [CellsAt]; (repeat' (first | exact trivial | (refine And.intro ?_ ?_))); all_goals (first | (focus ((try simp only [World.size_setCell, World.size_alloc]); omega)) | (repeat (first | rfl | assumption | (refine (World.cell?_alloc_past _ _ _ ?_).trans ?_; focus ((try simp only [World.size_setCell, World.size_alloc]); omega)) | (refine (World.cell?_alloc_at _ _ _ _ ?_).trans ?_; focus ((try simp only [World.size_setCell, World.size_alloc]); done)) | (refine (World.cell?_setCell_other _ _ _ _ ?_).trans ?_; focus (simp; done)) | (refine (World.cell?_setCell_other _ _ _ _ ?_).trans ?_; focus (simp; omega)) | (refine World.cell?_setCell_same' _ _ _ ?_; focus (simp; done))))))); have hq0 := hcs.1.2; have hq1 := hcs.2.1.2; have hq2 := hcs.2.2.1.2; have hq3 := hcs.2.2.2.1.2; have hq4 := hcs.2.2.2.2.1.2; have hq5 := hcs.2.2.2.2.2.1.2; have hq6 := hcs.2.2.2.2.2.2.1.2; have hq7 := hcs.2.2.2.2.2.2.2.1.2; have hq8 := hcs.2.2.2.2.2.2.2.2.1.2; have hq9 := hcs.2.2.2.2.2.2.2.2.2.1.2; have hq10 := hcs.2.2.2.2.2.2.2.2.2.2.1.2; have hq11 := hcs.2.2.2.2.2.2.2.2.2.2.2.1.2; have hq12 := hcs.2.2.2.2.2.2.2.2.2.2.2.2.1.2; have hq13 := hcs.2.2.2.2.2.2.2.2.2.2.2.2.2.1.2; have hz0 := hcs.1.1; have hz1 := hcs.2.2.2.2.2.2.2.1.1)
  go_wp2_with fail
  refine (wnext_val (x := 2) (by decide) _ _).mono ?_
  rintro e w8 ⟨rfl, hg8⟩
  ((try clear hq0 hq1 hq2 hq3 hq4 hq5 hq6 hq7 hq8 hq9 hq10 hq11 hq12 hq13 hz0 hz1); have hcs : CellsAt w8 [(w.heap.size, 0, .int .i64 1), (w.heap.size, 1, .int .i64 1), (w.heap.size, 2, .int .i64 0), (w.heap.size, 3, .int .i64 2), (w.heap.size, 4, .int .i64 2), (w.heap.size, 5, .int .i64 1), (w.heap.size, 6, .bool false), (w.heap.size + 1, 0, .int .i64 1), (w.heap.size + 1, 1, .int .i64 1), (w.heap.size + 1, 2, .int .i64 0), (w.heap.size + 1, 3, .int .i64 1), (w.heap.size + 1, 4, .int .i64 0), (w.heap.size + 1, 5, .int .i64 0), (w.heap.size + 1, 6, .bool false)] := cells_keep hg8 (by first | exact hcs | (simp only [CellsAt]; (repeat' (first | exact trivial | (refine And.intro ?_ ?_))); all_goals (first | (focus ((try simp only [World.size_setCell, World.size_alloc]); omega)) | (repeat (first | rfl | assumption | (refine (World.cell?_alloc_past _ _ _ ?_).trans ?_; focus ((try simp only [World.size_setCell, World.size_alloc]); omega)) | (refine (World.cell?_alloc_at _ _ _ _ ?_).trans ?_; focus ((try simp only [World.size_setCell, World.size_alloc]); done)) | (refine (World.cell?_setCell_other _ _ _ _ ?_).trans ?_; focus (simp; done)) | (refine (World.cell?_setCell_other _ _ _ _ ?_).trans ?_; focus (simp; omega)) | (refine World.cell?_setCell_same' _ _ _ ?_; focus (simp; done))))))); have hq0 := hcs.1.2; have hq1 := hcs.2.1.2; have hq2 := hcs.2.2.1.2; have hq3 := hcs.2.2.2.1.2; have hq4 := hcs.2.2.2.2.1.2; have hq5 := hcs.2.2.2.2.2.1.2; have hq6 := hcs.2.2.2.2.2.2.1.2; have hq7 := hcs.2.2.2.2.2.2.2.1.2; have hq8 := hcs.2.2.2.2.2.2.2.2.1.2; have hq9 := hcs.2.2.2.2.2.2.2.2.2.1.2; have hq10 := hcs.2.2.2.2.2.2.2.2.2.2.1.2; have hq11 := hcs.2.2.2.2.2.2.2.2.2.2.2.1.2; have hq12 := hcs.2.2.2.2.2.2.2.2.2.2.2.2.1.2; have hq13 := hcs.2.2.2.2.2.2.2.2.2.2.2.2.2.1.2; have hz0 := hcs.1.1; have hz1 := hcs.2.2.2.2.2.2.2.1.1)
  go_wp2_with fail
  refine (wnext_val (x := 0) (by decide) _ _).mono ?_
  rintro e w9 ⟨rfl, hg9⟩
  ((try clear hq0 hq1 hq2 hq3 hq4 hq5 hq6 hq7 hq8 hq9 hq10 hq11 hq12 hq13 hz0 hz1); have hcs : CellsAt w9 [(w.heap.size, 0, .int .i64 1), (w.heap.size, 1, .int .i64 1), (w.heap.size, 2, .int .i64 0), (w.heap.size, 3, .int .i64 2), (w.heap.size, 4, .int .i64 2), (w.heap.size, 5, .int .i64 1), (w.heap.size, 6, .bool false), (w.heap.size + 1, 0, .int .i64 1), (w.heap.size + 1, 1, .int .i64 1), (w.heap.size + 1, 2, .int .i64 0), (w.heap.size + 1, 3, .int .i64 1), (w.heap.size + 1, 4, .int .i64 0), (w.heap.size + 1, 5, .int .i64 0), (w.heap.size + 1, 6, .bool false)] := cells_keep hg9 (by first | exact hcs | (simp only [CellsAt]; (repeat' (first | exact trivial | (refine And.intro ?_ ?_))); all_goals (first | (focus ((try simp only [World.size_setCell, World.size_alloc]); omega)) | (repeat (first | rfl | assumption | (refine (World.cell?_alloc_past _ _ _ ?_).trans ?_; focus ((try simp only [World.size_setCell, World.size_alloc]); omega)) | (refine (World.cell?_alloc_at _ _ _ _ ?_).trans ?_; focus ((try simp only [World.size_setCell, World.size_alloc]); done)) | (refine (World.cell?_setCell_other _ _ _ _ ?_).trans ?_; focus (simp; done)) | (refine (World.cell?_setCell_other _ _ _ _ ?_).trans ?_; focus (simp; omega)) | (refine World.cell?_setCell_same' _ _ _ ?_; focus (simp; done))))))); have hq0 := hcs.1.2; have hq1 := hcs.2.1.2; have hq2 := hcs.2.2.1.2; have hq3 := hcs.2.2.2.1.2; have hq4 := hcs.2.2.2.2.1.2; have hq5 := hcs.2.2.2.2.2.1.2; have hq6 := hcs.2.2.2.2.2.2.1.2; have hq7 := hcs.2.2.2.2.2.2.2.1.2; have hq8 := hcs.2.2.2.2.2.2.2.2.1.2; have hq9 := hcs.2.2.2.2.2.2.2.2.2.1.2; have hq10 := hcs.2.2.2.2.2.2.2.2.2.2.1.2; have hq11 := hcs.2.2.2.2.2.2.2.2.2.2.2.1.2; have hq12 := hcs.2.2.2.2.2.2.2.2.2.2.2.2.1.2; have hq13 := hcs.2.2.2.2.2.2.2.2.2.2.2.2.2.1.2; have hz0 := hcs.1.1; have hz1 := hcs.2.2.2.2.2.2.2.1.1)
  go_wp2_with fail
  refine (wwalk_val (l := []) (n := 0) (by decide) rfl _ _).mono ?_
  rintro e wx ⟨px, kx, rfl, hOx, hgx⟩
  clear hOx
  go_wp2
  go_ret
  exact ⟨rfl, by repeat' (first | (with_reducible exact Below.refl _ _) | (with_reducible assumption) | (with_reducible refine kept_alloc ?_ _) | (with_reducible refine kept_drewN ?_ _) | (with_reducible refine Below.drew ?_) | (with_reducible refine Below.setCell ?_ (by first | omega | (simp; omega) | (simp; done)) _) | (refine kept_trans ?_ (by with_reducible assumption)))⟩
end Go.Proofs.Ytmdpgaihbkjjgaa
