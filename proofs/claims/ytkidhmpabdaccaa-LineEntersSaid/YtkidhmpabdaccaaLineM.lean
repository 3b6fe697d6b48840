/- Layer 5: what every statement asks first; arguments opened. -/
import Derived.Test.YtkidhmpabdaccaaLineL
import Derived.Test.YtkidhmpabdaccaaInts
namespace Go.Proofs.Ytkidhmpabdaccaa
set_option linter.unusedVariables false
set_option linter.unusedSimpArgs false
open Go.ChangeShapes Go.WideShapes Go.ChangeAt Go.RowKit

theorem lenter_val {l r : List Int} {i c : Int} (hr : entL l i = r) (hc : entE l i = c) (p : Option Addr) (k : Nat) (w : World) (hl : Sl w 1 intC l (.slice p l.length k)) (hm : l.length ≤ 999999) :
    Calls Try.prog 10 #[.slice p l.length k, .int .i64 i] w (RetLE w r c) := hr ▸ hc ▸ lenter_any l i p k w hl hm
theorem lleave_val {l r : List Int} {i c : Int} (hr : lvL l i = r) (hc : lvE l i = c) (p : Option Addr) (k : Nat) (w : World) (hl : Sl w 1 intC l (.slice p l.length k)) (hm : l.length ≤ 999999) :
    Calls Try.prog 12 #[.slice p l.length k, .int .i64 i] w (RetLE w r c) := hr ▸ hc ▸ lleave_any l i p k w hl hm
theorem lnext_val {l r : List Int} {x : Int} {b : Bool} (hx : nxI l = x) (hr : nxL l = r) (hb : nxB l = b) (p : Option Addr) (k : Nat) (w : World) (hl : Sl w 1 intC l (.slice p l.length k)) (hm : l.length ≤ 999999) :
    Calls Try.prog 14 #[.slice p l.length k] w (RetN w x r b) := hx ▸ hr ▸ hb ▸ lnext_any l p k w hl hm
theorem lcheck_val {l : List Int} {b : Bool} (hb : okLn l = b) (p : Option Addr) (k : Nat) (w : World) (hl : Sl w 1 intC l (.slice p l.length k)) :
    Calls Try.prog 17 #[.slice p l.length k] w fun e w' => e = .returned (.bool b) ∧ Kept w w' := hb ▸ lcheck_any l p k w hl
theorem lplace_val {l : List Int} {i c : Int} (hc : plI l i = c) (p : Option Addr) (k : Nat) (w : World) (hl : Sl w 1 intC l (.slice p l.length k)) :
    Calls Try.prog 19 #[.slice p l.length k, .int .i64 i] w fun e w' => e = .returned (.int .i64 c) ∧ Kept w w' := hc ▸ lplace_any l i p k w hl
theorem lfirst_val {l : List Int} {i c : Int} {b : Bool} (hc : plI l i = c) (hb : (c == 0) = b) (p : Option Addr) (k : Nat) (w : World) (hl : Sl w 1 intC l (.slice p l.length k)) :
    Calls Try.prog 21 #[.slice p l.length k, .int .i64 i] w fun e w' => e = .returned (.bool b) ∧ Kept w w' := hb ▸ hc ▸ lfirst_any l i p k w hl
theorem sli_two (w : World) (x y : Int) {g : Nat} (hg : w.heap.size = g) : Sl (w.alloc (.cells #[.int .i64 x, .int .i64 y] 3)) 1 intC [x, y] (.slice (some ⟨g, 0, none⟩) 2 2) :=
  Ow.sl intEnc (Ow.made (base := 0) (e := 3) (W := w) intEnc [x, y] #[.int .i64 x, .int .i64 y] rfl (Nat.zero_le _) (by show 2 ≤ maxLen; decide) hg rfl)
theorem la1 : entL [] 5 = [5] ∧ entE [] 5 = 0 := by decide
theorem la2 : entL [5] 2 = [5, 2] ∧ entE [5] 2 = 0 := by decide
theorem la3 : entL [5, 2] 5 = [5, 2] ∧ entE [5, 2] 5 = 60 := by decide
theorem la4 : entL [5, 2] 16 = [5, 2] ∧ entE [5, 2] 16 = 40 := by decide
theorem la5 : nxI [5, 2] = 5 ∧ nxL [5, 2] = [2] ∧ nxB [5, 2] = true := by decide
theorem la6 : lvL [5, 2] 5 = [2] ∧ lvE [5, 2] 5 = 0 := by decide
theorem la7 : lvL [2] 5 = [2] ∧ lvE [2] 5 = 40 := by decide
theorem la8 : nxI [] = 0 ∧ nxL [] = [] ∧ nxB [] = false := by decide
theorem la9 : plI [5, 2] 5 = 0 ∧ plI [5, 2] 2 = 1 ∧ plI [5, 2] 7 = -1 ∧ okLn [5, 2] = true ∧ okLn [1, 1] = false := by decide

set_option maxHeartbeats 4000000 in
set_option maxRecDepth 100000 in
theorem lineawake_any (w : World) : Calls Try.prog 9 #[] w fun e w' => e = .returned (.bool true) ∧ Kept w w' := by
  go_enter Try.func9, Try.ntmps9
  go_wp2_with fail
  refine (lenter_val la1.1 la1.2 none 0 _ (sli_nil _) (by decide)).mono ?_
  rintro e w1 ⟨p1, k1, rfl, sS1, hg1⟩
  go_wp2_with fail
  refine (lenter_val la2.1 la2.2 p1 k1 _ (sS1.kept (by repeat' (first | (with_reducible exact Below.refl _ _) | (with_reducible assumption) | (with_reducible refine kept_alloc ?_ _) | (with_reducible refine kept_drewN ?_ _) | (with_reducible refine Below.drew ?_) | (with_reducible refine Below.setCell ?_ (by first | omega | (simp; omega) | (simp; done)) _) | (refine kept_trans ?_ (by with_reducible assumption))))) (by decide)).mono ?_
  rintro e w2 ⟨p2, k2, rfl, sS2, hg2⟩
  go_wp2_with fail
  refine (lenter_val la3.1 la3.2 p2 k2 _ (sS2.kept (by repeat' (first | (with_reducible exact Below.refl _ _) | (with_reducible assumption) | (with_reducible refine kept_alloc ?_ _) | (with_reducible refine kept_drewN ?_ _) | (with_reducible refine Below.drew ?_) | (with_reducible refine Below.setCell ?_ (by first | omega | (simp; omega) | (simp; done)) _) | (refine kept_trans ?_ (by with_reducible assumption))))) (by decide)).mono ?_
  rintro e w3 ⟨p3, k3, rfl, -, hg3⟩
  go_wp2_with fail
  refine (lenter_val la4.1 la4.2 p2 k2 _ (sS2.kept (by repeat' (first | (with_reducible exact Below.refl _ _) | (with_reducible assumption) | (with_reducible refine kept_alloc ?_ _) | (with_reducible refine kept_drewN ?_ _) | (with_reducible refine Below.drew ?_) | (with_reducible refine Below.setCell ?_ (by first | omega | (simp; omega) | (simp; done)) _) | (refine kept_trans ?_ (by with_reducible assumption))))) (by decide)).mono ?_
  rintro e w4 ⟨p4, k4, rfl, -, hg4⟩
  go_wp2_with fail
  refine (lnext_val la5.1 la5.2.1 la5.2.2 p2 k2 _ (sS2.kept (by repeat' (first | (with_reducible exact Below.refl _ _) | (with_reducible assumption) | (with_reducible refine kept_alloc ?_ _) | (with_reducible refine kept_drewN ?_ _) | (with_reducible refine Below.drew ?_) | (with_reducible refine Below.setCell ?_ (by first | omega | (simp; omega) | (simp; done)) _) | (refine kept_trans ?_ (by with_reducible assumption))))) (by decide)).mono ?_
  rintro e w5 ⟨p5, k5, rfl, sS5, hg5⟩
  go_wp2_with fail
  refine (lleave_val la6.1 la6.2 p2 k2 _ (sS2.kept (by repeat' (first | (with_reducible exact Below.refl _ _) | (with_reducible assumption) | (with_reducible refine kept_alloc ?_ _) | (with_reducible refine kept_drewN ?_ _) | (with_reducible refine Below.drew ?_) | (with_reducible refine Below.setCell ?_ (by first | omega | (simp; omega) | (simp; done)) _) | (refine kept_trans ?_ (by with_reducible assumption))))) (by decide)).mono ?_
  rintro e w6 ⟨p6, k6, rfl, sS6, hg6⟩
  go_wp2_with fail
  refine (lleave_val la7.1 la7.2 p6 k6 _ (sS6.kept (by repeat' (first | (with_reducible exact Below.refl _ _) | (with_reducible assumption) | (with_reducible refine kept_alloc ?_ _) | (with_reducible refine kept_drewN ?_ _) | (with_reducible refine Below.drew ?_) | (with_reducible refine Below.setCell ?_ (by first | omega | (simp; omega) | (simp; done)) _) | (refine kept_trans ?_ (by with_reducible assumption))))) (by decide)).mono ?_
  rintro e w7 ⟨p7, k7, rfl, -, hg7⟩
  go_wp2_with fail
  refine (lnext_val la8.1 la8.2.1 la8.2.2 none 0 _ (sli_nil _) (by decide)).mono ?_
  rintro e w8 ⟨p8, k8, rfl, -, hg8⟩
  go_wp2_with fail
  refine (rints_any [2] [2] p5 _ k5 1 _ (sS5.kept (by repeat' (first | (with_reducible exact Below.refl _ _) | (with_reducible assumption) | (with_reducible refine kept_alloc ?_ _) | (with_reducible refine kept_drewN ?_ _) | (with_reducible refine Below.drew ?_) | (with_reducible refine Below.setCell ?_ (by first | omega | (simp; omega) | (simp; done)) _) | (refine kept_trans ?_ (by with_reducible assumption))))) (sli_one _ 2 (by first | rfl | simp)) (by decide)).mono ?_
  rintro e w9 ⟨rfl, hg9⟩
  rw [show decide (([2] : List Int) = [2]) = true by decide]
  go_wp2_with fail
  refine (rints_any [2] [2] p6 _ k6 1 _ (sS6.kept (by repeat' (first | (with_reducible exact Below.refl _ _) | (with_reducible assumption) | (with_reducible refine kept_alloc ?_ _) | (with_reducible refine kept_drewN ?_ _) | (with_reducible refine Below.drew ?_) | (with_reducible refine Below.setCell ?_ (by first | omega | (simp; omega) | (simp; done)) _) | (refine kept_trans ?_ (by with_reducible assumption))))) (sli_one _ 2 (by first | rfl | simp)) (by decide)).mono ?_
  rintro e w10 ⟨rfl, hg10⟩
  rw [show decide (([2] : List Int) = [2]) = true by decide]
  go_wp2_with fail
  refine (lfirst_val (b := true) la9.1 (by decide) p2 k2 _ (sS2.kept (by repeat' (first | (with_reducible exact Below.refl _ _) | (with_reducible assumption) | (with_reducible refine kept_alloc ?_ _) | (with_reducible refine kept_drewN ?_ _) | (with_reducible refine Below.drew ?_) | (with_reducible refine Below.setCell ?_ (by first | omega | (simp; omega) | (simp; done)) _) | (refine kept_trans ?_ (by with_reducible assumption)))))).mono ?_
  rintro e w11 ⟨rfl, hg11⟩
  go_wp2_with fail
  refine (lfirst_val (b := false) la9.2.1 (by decide) p2 k2 _ (sS2.kept (by repeat' (first | (with_reducible exact Below.refl _ _) | (with_reducible assumption) | (with_reducible refine kept_alloc ?_ _) | (with_reducible refine kept_drewN ?_ _) | (with_reducible refine Below.drew ?_) | (with_reducible refine Below.setCell ?_ (by first | omega | (simp; omega) | (simp; done)) _) | (refine kept_trans ?_ (by with_reducible assumption)))))).mono ?_
  rintro e w12 ⟨rfl, hg12⟩
  go_wp2_with fail
  refine (lplace_val la9.2.1 p2 k2 _ (sS2.kept (by repeat' (first | (with_reducible exact Below.refl _ _) | (with_reducible assumption) | (with_reducible refine kept_alloc ?_ _) | (with_reducible refine kept_drewN ?_ _) | (with_reducible refine Below.drew ?_) | (with_reducible refine Below.setCell ?_ (by first | omega | (simp; omega) | (simp; done)) _) | (refine kept_trans ?_ (by with_reducible assumption)))))).mono ?_
  rintro e w13 ⟨rfl, hg13⟩
  go_wp2_with fail
  refine (lplace_val la9.2.2.1 p2 k2 _ (sS2.kept (by repeat' (first | (with_reducible exact Below.refl _ _) | (with_reducible assumption) | (with_reducible refine kept_alloc ?_ _) | (with_reducible refine kept_drewN ?_ _) | (with_reducible refine Below.drew ?_) | (with_reducible refine Below.setCell ?_ (by first | omega | (simp; omega) | (simp; done)) _) | (refine kept_trans ?_ (by with_reducible assumption)))))).mono ?_
  rintro e w14 ⟨rfl, hg14⟩
  go_wp2_with fail
  refine (lcheck_val la9.2.2.2.1 p2 k2 _ (sS2.kept (by repeat' (first | (with_reducible exact Below.refl _ _) | (with_reducible assumption) | (with_reducible refine kept_alloc ?_ _) | (with_reducible refine kept_drewN ?_ _) | (with_reducible refine Below.drew ?_) | (with_reducible refine Below.setCell ?_ (by first | omega | (simp; omega) | (simp; done)) _) | (refine kept_trans ?_ (by with_reducible assumption)))))).mono ?_
  rintro e w15 ⟨rfl, hg15⟩
  go_wp2_with fail
  refine (lcheck_val la9.2.2.2.2 _ 2 _ (sli_two _ 1 1 (by first | rfl | simp))).mono ?_
  rintro e w16 ⟨rfl, hg16⟩
  go_wp2
  all_goals (go_ret; exact ⟨rfl, by repeat' (first | (with_reducible exact Below.refl _ _) | (with_reducible assumption) | (with_reducible refine kept_alloc ?_ _) | (with_reducible refine kept_drewN ?_ _) | (with_reducible refine Below.drew ?_) | (with_reducible refine Below.setCell ?_ (by first | omega | (simp; omega) | (simp; done)) _) | (refine kept_trans ?_ (by with_reducible assumption)))⟩)

/-! ### A slice of integers as an argument -/
def intShape : List (Ck 0) := [.int .i64]
theorem int_of_read {W : World} {vs : List Value} (h : ReadL W intShape vs) : ∃ d : Int, vs = intC d ∧ In64 d := by
  simp only [intShape, read_nil, read_cons, read_int, read_bool, read_str] at h
  obtain ⟨_, _, rfl, ⟨a, rfl, h0⟩, rfl⟩ := h
  exact ⟨a, rfl, in64_of_wf h0⟩
end Go.Proofs.Ytkidhmpabdaccaa
