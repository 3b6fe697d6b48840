/- Layer 10: twins with values given; what every statement asks first. -/
import Derived.Test.YtlmiedgpibollaaTurnI
import Derived.Test.YtlmiedgpibollaaTurnR
import Derived.Test.YtlmiedgpibollaaInts
namespace Go.Proofs.Ytlmiedgpibollaa
set_option linter.unusedVariables false
set_option linter.unusedSimpArgs false
open Go.ChangeShapes Go.WideShapes Go.ChangeAt Go.RowKit

theorem sl_nil0 (w : World) : Sl w 1 intC [] (.slice none 0 0) := ⟨none, 0, rfl, by simp, by simp, fun _ => rfl, fun h => absurd rfl h⟩
theorem sl_lit (w : World) (xs : List Int) (cells : Array Value) (hc : cells.toList = xs.flatMap intC) {g n : Nat} (hg : w.heap.size = g) (hn : xs.length = n) (hm : xs.length ≤ 1000) :
    Sl (w.alloc (.cells cells 3)) 1 intC xs (.slice (some ⟨g, 0, none⟩) xs.length n) := by
  have h := Ow.sl intEnc (Ow.made (base := 0) (e := 3) (W := w) intEnc xs cells hc (Nat.zero_le _) (by unfold maxLen; omega) hg hn)
  subst hn
  exact h
theorem tcount_val {l : List Int} {N r : Nat} {who : Int} (hN : l.length = N) (hr : ctO l who = r) (p : Option Addr) (k : Nat) (w : World) (hl : Sl w 1 intC l (.slice p l.length k)) :
    Calls Try.prog 15 #[.slice p N k, .int .i64 who] w fun e w' => e = .returned (.int .i64 r) ∧ Kept w w' := by subst hN hr; exact tcount_any l who p k w hl
theorem tgap_val {l : List Int} {N r : Nat} {who : Int} (hN : l.length = N) (hr : gapO l who = r) (p : Option Addr) (k : Nat) (w : World) (hl : Sl w 1 intC l (.slice p l.length k)) :
    Calls Try.prog 17 #[.slice p N k, .int .i64 who] w fun e w' => e = .returned (.int .i64 r) ∧ Kept w w' := by subst hr; exact tgap_n hN who p k w hl
theorem tfair_val {l who : List Int} {N M : Nat} {win : Int} {b : Bool} (hN : l.length = N) (hM : who.length = M) (hb : fairB l who win = b) (hw64 : In64 win) (p q : Option Addr) (k kw : Nat) (w : World) (hl : Sl w 1 intC l (.slice p l.length k)) (hw : Sl w 1 intC who (.slice q who.length kw)) :
    Calls Try.prog 19 #[.slice p N k, .slice q M kw, .int .i64 win] w fun e w' => e = .returned (.bool b) ∧ Kept w w' := by subst hb; exact tfair_n hN hM win hw64 p q k kw w hl hw
theorem tleast_val {l who : List Int} {N M : Nat} {i : Int} {b : Bool} (hN : l.length = N) (hM : who.length = M) (hi : lstI l who = i) (hb : lstB l who = b) (p q : Option Addr) (k kw : Nat) (w : World) (hl : Sl w 1 intC l (.slice p l.length k)) (hw : Sl w 1 intC who (.slice q who.length kw)) :
    Calls Try.prog 10 #[.slice p N k, .slice q M kw] w fun e w' => e = .returned (.tuple #[.int .i64 i, .bool b]) ∧ Kept w w' := by subst hi hb; exact tleast_n hN hM p q k kw w hl hw
theorem trobin_val {t r : Int} {R : List Int} (hR : rbL t r = R) (ht : In64 t) (hr : In64 r) (w : World) : Calls Try.prog 13 #[.int .i64 t, .int .i64 r] w (RetR R w) := by subst hR; exact trobin_any t r ht hr w

theorem ta1 : lstI [0, 1, 1, 0] [0, 1] = 3 ∧ lstB [0, 1, 1, 0] [0, 1] = true ∧ lstI [0, 1, 1, 0] [2] = 0 ∧ lstB [0, 1, 1, 0] [2] = false := by decide
theorem ta2 : rbL 2 2 = [0, 1, 0, 1] ∧ rbL 17 1 = [] ∧ rbL 1 0 = [] := by decide
theorem ta3 : ctO [0, 1, 1, 0] 1 = 2 ∧ gapO [0, 1, 1, 0] 0 = 2 ∧ gapO [0, 1, 1, 0] 1 = 1 ∧ gapO [0, 1, 1, 0] 5 = 4 := by decide
theorem ta4 : fairB [0, 1, 1, 0] [0, 1] 3 = true ∧ fairB [0, 1, 1, 0] [0, 1] 2 = false ∧ fairB [0, 1, 1, 0] [5] 5 = true ∧ fairB [0, 1, 1, 0] [] 0 = false := by decide

set_option maxHeartbeats 4000000 in
set_option maxRecDepth 100000 in
theorem turnawake_any (w : World) : Calls Try.prog 9 #[] w fun e w' => e = .returned (.bool true) ∧ Kept w w' := by
  have sL := Lib.hid (sl_lit w [0, 1, 1, 0] #[.int .i64 0, .int .i64 1, .int .i64 1, .int .i64 0] rfl rfl rfl (by decide))
  go_enter Try.func9, Try.ntmps9
  go_wp2_with fail
  refine (tleast_val rfl rfl ta1.1 ta1.2.1 _ _ 4 2 _ (sL.out.kept (by repeat' (first | (with_reducible exact Below.refl _ _) | (with_reducible assumption) | (with_reducible refine kept_alloc ?_ _) | (with_reducible refine kept_drewN ?_ _) | (with_reducible refine Below.drew ?_) | (with_reducible refine Below.setCell ?_ (by first | omega | (simp; omega) | (simp; done)) _) | (refine kept_trans ?_ (by with_reducible assumption))))) (sl_lit _ [0, 1] #[.int .i64 0, .int .i64 1] rfl (by first | rfl | simp) rfl (by decide))).mono ?_
  rintro e w1 ⟨rfl, hg1⟩
  go_wp2_with fail
  refine (tleast_val rfl rfl ta1.2.2.1 ta1.2.2.2 _ _ 4 1 _ (sL.out.kept (by repeat' (first | (with_reducible exact Below.refl _ _) | (with_reducible assumption) | (with_reducible refine kept_alloc ?_ _) | (with_reducible refine kept_drewN ?_ _) | (with_reducible refine Below.drew ?_) | (with_reducible refine Below.setCell ?_ (by first | omega | (simp; omega) | (simp; done)) _) | (refine kept_trans ?_ (by with_reducible assumption))))) (sl_lit _ [2] #[.int .i64 2] rfl (by first | rfl | simp) rfl (by decide))).mono ?_
  rintro e w2 ⟨rfl, hg2⟩
  go_wp2_with fail
  refine (trobin_val ta2.1 (by decide) (by decide) _).mono ?_
  rintro e w3 ⟨p3, k3, rfl, hO3, hg3⟩
  have HO3 := Lib.hid hO3
  clear hO3
  go_wp2_with fail
  refine (rints_any [0, 1, 0, 1] [0, 1, 0, 1] p3 _ k3 4 _ ((Ow.sl intEnc HO3.out).kept (by repeat' (first | (with_reducible exact Below.refl _ _) | (with_reducible assumption) | (with_reducible refine kept_alloc ?_ _) | (with_reducible refine kept_drewN ?_ _) | (with_reducible refine Below.drew ?_) | (with_reducible refine Below.setCell ?_ (by first | omega | (simp; omega) | (simp; done)) _) | (refine kept_trans ?_ (by with_reducible assumption))))) (sl_lit _ [0, 1, 0, 1] #[.int .i64 0, .int .i64 1, .int .i64 0, .int .i64 1] rfl (by first | rfl | simp) rfl (by decide)) (by decide)).mono ?_
  rintro e w4 ⟨rfl, hg4⟩
  rw [show decide (([0, 1, 0, 1] : List Int) = [0, 1, 0, 1]) = true by decide]
  go_wp2_with fail
  refine (trobin_val ta2.2.1 (by decide) (by decide) _).mono ?_
  rintro e w5 ⟨p5, k5, rfl, -, hg5⟩
  go_wp2_with fail
  refine (trobin_val ta2.2.2 (by decide) (by decide) _).mono ?_
  rintro e w6 ⟨p6, k6, rfl, -, hg6⟩
  go_wp2_with fail
  refine (tcount_val rfl ta3.1 _ 4 _ (sL.out.kept (by repeat' (first | (with_reducible exact Below.refl _ _) | (with_reducible assumption) | (with_reducible refine kept_alloc ?_ _) | (with_reducible refine kept_drewN ?_ _) | (with_reducible refine Below.drew ?_) | (with_reducible refine Below.setCell ?_ (by first | omega | (simp; omega) | (simp; done)) _) | (refine kept_trans ?_ (by with_reducible assumption)))))).mono ?_
  rintro e w7 ⟨rfl, hg7⟩
  go_wp2_with fail
  refine (tgap_val rfl ta3.2.1 _ 4 _ (sL.out.kept (by repeat' (first | (with_reducible exact Below.refl _ _) | (with_reducible assumption) | (with_reducible refine kept_alloc ?_ _) | (with_reducible refine kept_drewN ?_ _) | (with_reducible refine Below.drew ?_) | (with_reducible refine Below.setCell ?_ (by first | omega | (simp; omega) | (simp; done)) _) | (refine kept_trans ?_ (by with_reducible assumption)))))).mono ?_
  rintro e w8 ⟨rfl, hg8⟩
  go_wp2_with fail
  refine (tgap_val rfl ta3.2.2.1 _ 4 _ (sL.out.kept (by repeat' (first | (with_reducible exact Below.refl _ _) | (with_reducible assumption) | (with_reducible refine kept_alloc ?_ _) | (with_reducible refine kept_drewN ?_ _) | (with_reducible refine Below.drew ?_) | (with_reducible refine Below.setCell ?_ (by first | omega | (simp; omega) | (simp; done)) _) | (refine kept_trans ?_ (by with_reducible assumption)))))).mono ?_
  rintro e w9 ⟨rfl, hg9⟩
  go_wp2_with fail
  refine (tgap_val rfl ta3.2.2.2 _ 4 _ (sL.out.kept (by repeat' (first | (with_reducible exact Below.refl _ _) | (with_reducible assumption) | (with_reducible refine kept_alloc ?_ _) | (with_reducible refine kept_drewN ?_ _) | (with_reducible refine Below.drew ?_) | (with_reducible refine Below.setCell ?_ (by first | omega | (simp; omega) | (simp; done)) _) | (refine kept_trans ?_ (by with_reducible assumption)))))).mono ?_
  rintro e w10 ⟨rfl, hg10⟩
  go_wp2_with fail
  refine (tfair_val rfl rfl ta4.1 (by decide) _ _ 4 2 _ (sL.out.kept (by repeat' (first | (with_reducible exact Below.refl _ _) | (with_reducible assumption) | (with_reducible refine kept_alloc ?_ _) | (with_reducible refine kept_drewN ?_ _) | (with_reducible refine Below.drew ?_) | (with_reducible refine Below.setCell ?_ (by first | omega | (simp; omega) | (simp; done)) _) | (refine kept_trans ?_ (by with_reducible assumption))))) (sl_lit _ [0, 1] #[.int .i64 0, .int .i64 1] rfl (by first | rfl | simp) rfl (by decide))).mono ?_
  rintro e w11 ⟨rfl, hg11⟩
  go_wp2_with fail
  refine (tfair_val rfl rfl ta4.2.1 (by decide) _ _ 4 2 _ (sL.out.kept (by repeat' (first | (with_reducible exact Below.refl _ _) | (with_reducible assumption) | (with_reducible refine kept_alloc ?_ _) | (with_reducible refine kept_drewN ?_ _) | (with_reducible refine Below.drew ?_) | (with_reducible refine Below.setCell ?_ (by first | omega | (simp; omega) | (simp; done)) _) | (refine kept_trans ?_ (by with_reducible assumption))))) (sl_lit _ [0, 1] #[.int .i64 0, .int .i64 1] rfl (by first | rfl | simp) rfl (by decide))).mono ?_
  rintro e w12 ⟨rfl, hg12⟩
  go_wp2_with fail
  refine (tfair_val rfl rfl ta4.2.2.1 (by decide) _ _ 4 1 _ (sL.out.kept (by repeat' (first | (with_reducible exact Below.refl _ _) | (with_reducible assumption) | (with_reducible refine kept_alloc ?_ _) | (with_reducible refine kept_drewN ?_ _) | (with_reducible refine Below.drew ?_) | (with_reducible refine Below.setCell ?_ (by first | omega | (simp; omega) | (simp; done)) _) | (refine kept_trans ?_ (by with_reducible assumption))))) (sl_lit _ [5] #[.int .i64 5] rfl (by first | rfl | simp) rfl (by decide))).mono ?_
  rintro e w13 ⟨rfl, hg13⟩
  go_wp2_with fail
  refine (tfair_val rfl rfl ta4.2.2.2 (by decide) _ _ 4 0 _ (sL.out.kept (by repeat' (first | (with_reducible exact Below.refl _ _) | (with_reducible assumption) | (with_reducible refine kept_alloc ?_ _) | (with_reducible refine kept_drewN ?_ _) | (with_reducible refine Below.drew ?_) | (with_reducible refine Below.setCell ?_ (by first | omega | (simp; omega) | (simp; done)) _) | (refine kept_trans ?_ (by with_reducible assumption))))) (sl_nil0 _)).mono ?_
  rintro e w14 ⟨rfl, hg14⟩
  go_wp2
  all_goals (go_ret; exact ⟨rfl, by repeat' (first | (with_reducible exact Below.refl _ _) | (with_reducible assumption) | (with_reducible refine kept_alloc ?_ _) | (with_reducible refine kept_drewN ?_ _) | (with_reducible refine Below.drew ?_) | (with_reducible refine Below.setCell ?_ (by first | omega | (simp; omega) | (simp; done)) _) | (refine kept_trans ?_ (by with_reducible assumption)))⟩)
end Go.Proofs.Ytlmiedgpibollaa
