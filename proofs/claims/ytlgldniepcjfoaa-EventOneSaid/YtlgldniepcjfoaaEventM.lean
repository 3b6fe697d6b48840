/- Layer 6: what every statement asks first; arguments opened. -/
import Derived.Test.YtlgldniepcjfoaaEventJ
import Derived.Test.YtlgldniepcjfoaaEventK
import Derived.Test.YtlgldniepcjfoaaInts
namespace Go.Proofs.Ytlgldniepcjfoaa
set_option linter.unusedVariables false
set_option linter.unusedSimpArgs false
open Go.ChangeShapes Go.WideShapes Go.ChangeAt Go.RowKit

theorem ecommit_val {ep s i c : Int} {l r : List Int} {b : Bool} (hr : cmL ep l s i = r) (hb : cmB ep l s i = b) (hc : cmC ep l i = c) (p : Option Addr) (k : Nat) (w : World) (hl : Sl w 1 intC l (.slice p l.length k)) (hm : l.length ≤ 999999) :
    Calls Try.prog 10 #[.agg #[.int .i64 ep, .slice p l.length k], .int .i64 s, .int .i64 i] w (RetCm w ep r b c) := hr ▸ hb ▸ hc ▸ ecommit_any ep l s i p k w hl hm
theorem ecancel_val {ep i : Int} {l r : List Int} {b : Bool} (hr : cnL ep l i = r) (hb : cnB ep l i = b) (p : Option Addr) (k : Nat) (w : World) (hl : Sl w 1 intC l (.slice p l.length k)) (hm : l.length ≤ 999999) :
    Calls Try.prog 15 #[.agg #[.int .i64 ep, .slice p l.length k], .int .i64 i] w (RetCn w ep r b) := hr ▸ hb ▸ ecancel_any ep l i p k w hl hm
theorem enotify_val {ep n x : Int} {l r : List Int} {b : Bool} (hn : ntE ep l = n) (hr : ntL 1 ep l = r) (hx : hdI (ntT 1 ep l) = x) (hb : hdB (ntT 1 ep l) = b) (p : Option Addr) (k : Nat) (w : World) (hl : Sl w 1 intC l (.slice p l.length k)) (hm : l.length ≤ 999999) :
    Calls Try.prog 11 #[.agg #[.int .i64 ep, .slice p l.length k]] w (RetNf w n r x b) := hn ▸ hr ▸ hx ▸ hb ▸ enotify_any ep l p k w hl hm
theorem enotall_val {ep n : Int} {l r t : List Int} (hn : ntE ep l = n) (hr : ntL l.length ep l = r) (ht : ntT l.length ep l = t) (p : Option Addr) (k : Nat) (w : World) (hl : Sl w 1 intC l (.slice p l.length k)) (hm : l.length ≤ 999999) :
    Calls Try.prog 12 #[.agg #[.int .i64 ep, .slice p l.length k]] w (RetEL w n r t) := hn ▸ hr ▸ ht ▸ enotall_any ep l p k w hl hm
theorem lplace_val' {l : List Int} {i c : Int} (hc : plI l i = c) (p : Option Addr) (k : Nat) (w : World) (hl : Sl w 1 intC l (.slice p l.length k)) :
    Calls Try.prog 13 #[.slice p l.length k, .int .i64 i] w fun e w' => e = .returned (.int .i64 c) ∧ Kept w w' := hc ▸ lplace_any l i p k w hl
theorem esli_two (w : World) (x y : Int) {g : Nat} (hg : w.heap.size = g) : Sl (w.alloc (.cells #[.int .i64 x, .int .i64 y] 3)) 1 intC [x, y] (.slice (some ⟨g, 0, none⟩) 2 2) :=
  Ow.sl intEnc (Ow.made (base := 0) (e := 3) (W := w) intEnc [x, y] #[.int .i64 x, .int .i64 y] rfl (Nat.zero_le _) (by show 2 ≤ maxLen; decide) hg rfl)
theorem box_set {W : World} {n : Nat} {u0 u1 : Value} (v0 v1 : Value) (c0 : W.cell? ⟨n, 0, none⟩ = some u0) (c1 : W.cell? ⟨n, 1, none⟩ = some u1) :
    ((W.setCell ⟨n, 0, none⟩ v0).setCell ⟨n, 1, none⟩ v1).cell? ⟨n, 0, none⟩ = some v0 ∧ ((W.setCell ⟨n, 0, none⟩ v0).setCell ⟨n, 1, none⟩ v1).cell? ⟨n, 1, none⟩ = some v1 := by
  constructor
  · refine (World.cell?_setCell_other _ _ _ _ (by simp)).trans ?_
    exact World.cell?_setCell_same' _ _ _ (by rw [c0]; rfl)
  · refine World.cell?_setCell_same' _ _ _ ?_
    rw [show (W.setCell ⟨n, 0, none⟩ v0).cell? ⟨n, 1, none⟩ = W.cell? ⟨n, 1, none⟩ from World.cell?_setCell_other _ _ _ _ (by simp), c1]; rfl
theorem ea1 : cmL 3 [] 3 5 = [5] ∧ cmB 3 [] 3 5 = true ∧ cmC 3 [] 5 = 0 := by decide
theorem ea2 : cmL 3 [5] 3 2 = [5, 2] ∧ cmB 3 [5] 3 2 = true ∧ cmC 3 [5] 2 = 0 := by decide
theorem ea3 : cmL 3 [5, 2] 2 7 = [5, 2] ∧ cmB 3 [5, 2] 2 7 = false ∧ cmC 3 [5, 2] 7 = 0 := by decide
theorem ea4 : cmL 3 [5, 2] 3 5 = [5, 2] ∧ cmB 3 [5, 2] 3 5 = false ∧ cmC 3 [5, 2] 5 = 60 := by decide
theorem ea5 : ntE 3 [5, 2] = 4 ∧ ntL 1 3 [5, 2] = [2] ∧ hdI (ntT 1 3 [5, 2]) = 5 ∧ hdB (ntT 1 3 [5, 2]) = true := by decide
theorem ea6 : ntL [5, 2].length 3 [5, 2] = [] ∧ ntT [5, 2].length 3 [5, 2] = [5, 2] := by decide
theorem ea7 : cnL 3 [5, 2] 5 = [2] ∧ cnB 3 [5, 2] 5 = true := by decide
theorem ea8 : ntE 0 [] = 1 ∧ ntL 1 0 [] = [] ∧ hdI (ntT 1 0 []) = 0 ∧ hdB (ntT 1 0 []) = false := by decide
theorem ea9 : prE 3 [5, 2] = 3 ∧ prE (-1) [] = -1 ∧ okE 3 [5, 2] = true ∧ okE 0 [16] = false := by decide

set_option maxHeartbeats 4000000 in
set_option maxRecDepth 100000 in
theorem evawake_any (w : World) : Calls Try.prog 7 #[] w fun e w' => e = .returned (.bool true) ∧ Kept w w' := by
  go_enter Try.func7, Try.ntmps7
  go_wp2_with fail
  refine (ecommit_val ea1.1 ea1.2.1 ea1.2.2 none 0 _ (sli_nil _) (by decide)).mono ?_
  rintro e w1 ⟨p1, k1, rfl, sO1, hg1⟩
  have sS1 := Lib.hid (Ow.sl intEnc sO1)
  clear sO1
  go_wp2_with fail
  refine (ecommit_val ea2.1 ea2.2.1 ea2.2.2 p1 k1 _ (sS1.out.kept (by repeat' (first | (with_reducible exact Below.refl _ _) | (with_reducible assumption) | (with_reducible refine kept_alloc ?_ _) | (with_reducible refine kept_drewN ?_ _) | (with_reducible refine Below.drew ?_) | (with_reducible refine Below.setCell ?_ (by first | omega | (simp; omega) | (simp; done)) _) | (refine kept_trans ?_ (by with_reducible assumption))))) (by decide)).mono ?_
  rintro e w2 ⟨p2, k2, rfl, sO2, hg2⟩
  have hcs : CellsAt w2 [(w1.heap.size, 0, .int .i64 3), (w1.heap.size, 1, .slice p1 1 k1)] := cells_keep hg2 (by (simp only [CellsAt]; (repeat' (first | exact trivial | (refine And.intro ?_ ?_))); all_goals (first | (focus ((try simp only [World.size_setCell, World.size_alloc]); omega)) | (repeat (first | rfl | assumption | (refine (World.cell?_alloc_past _ _ _ ?_).trans ?_; focus ((try simp only [World.size_setCell, World.size_alloc]); omega)) | (refine (World.cell?_alloc_at _ _ _ _ ?_).trans ?_; focus ((try simp only [World.size_setCell, World.size_alloc]); done)) | (refine (World.cell?_setCell_other _ _ _ _ ?_).trans ?_; focus (simp; done)) | (refine (World.cell?_setCell_other _ _ _ _ ?_).trans ?_; focus (simp; omega)) | (refine World.cell?_setCell_same' _ _ _ ?_; focus (simp; done)))))))
  have hfr : ∀ j, w2.frozen? ⟨w1.heap.size, j, none⟩ = false := fun j => ((bcell hg2).2 _ _ (by simp)).trans (World.frozen?_alloc_at _ _ _ _ (by simp))
  have hq0 := hcs.1.2; have hq1 := hcs.2.1.2; have hz0 := hcs.1.1
  have hzz : w1.heap.size < (w1.alloc (.cells #[.int .i64 3, .slice p1 1 k1] 24)).heap.size := by simp
  have sS2 := Lib.hid (Ow.sl intEnc ((sO2.setCell (p := ⟨w1.heap.size, 0, none⟩) hzz (.int .i64 3)).setCell (p := ⟨w1.heap.size, 1, none⟩) hzz (.slice p2 2 k2)))
  clear sO2
  go_wp2_with fail
  have hw1 := hg1.size
  have hB2 : Below w.heap.size w ((w2.setCell ⟨w1.heap.size, 0, none⟩ (.int .i64 3)).setCell ⟨w1.heap.size, 1, none⟩ (.slice p2 2 k2)) := by repeat' (first | (with_reducible exact Below.refl _ _) | (with_reducible assumption) | (with_reducible refine kept_alloc ?_ _) | (with_reducible refine kept_drewN ?_ _) | (with_reducible refine Below.drew ?_) | (with_reducible refine Below.setCell ?_ (by first | omega | (simp; omega) | (simp; done)) _) | (refine kept_trans ?_ (by with_reducible assumption)))
  obtain ⟨u0, u1⟩ := box_set (.int .i64 3) (.slice p2 2 k2) hq0 hq1
  have hz : w1.heap.size < ((w2.setCell ⟨w1.heap.size, 0, none⟩ (.int .i64 3)).setCell ⟨w1.heap.size, 1, none⟩ (.slice p2 2 k2)).heap.size := by simpa using hz0
  generalize (w2.setCell ⟨w1.heap.size, 0, none⟩ (.int .i64 3)).setCell ⟨w1.heap.size, 1, none⟩ (.slice p2 2 k2) = V at sS2 hB2 u0 u1 hz ⊢
  clear hcs hfr hq0 hq1 hz0 hzz hg1 hg2 sS1
  generalize w1.heap.size = n1 at *
  refine (ecommit_val ea3.1 ea3.2.1 ea3.2.2 p2 k2 _ (sS2.out.kept (by repeat' (first | (with_reducible exact Below.refl _ _) | (with_reducible assumption) | (with_reducible refine kept_alloc ?_ _) | (with_reducible refine kept_drewN ?_ _) | (with_reducible refine Below.drew ?_) | (with_reducible refine Below.setCell ?_ (by first | omega | (simp; omega) | (simp; done)) _) | (refine kept_trans ?_ (by with_reducible assumption))))) (by decide)).mono ?_
  rintro e w3 ⟨p3, k3, rfl, -, hg3⟩
  have hcs : CellsAt w3 [(n1, 0, .int .i64 3), (n1, 1, .slice p2 2 k2)] := cells_keep hg3 (by (simp only [CellsAt]; (repeat' (first | exact trivial | (refine And.intro ?_ ?_))); all_goals (first | (focus ((try simp only [World.size_setCell, World.size_alloc]); omega)) | (repeat (first | rfl | assumption | (refine (World.cell?_alloc_past _ _ _ ?_).trans ?_; focus ((try simp only [World.size_setCell, World.size_alloc]); omega)) | (refine (World.cell?_alloc_at _ _ _ _ ?_).trans ?_; focus ((try simp only [World.size_setCell, World.size_alloc]); done)) | (refine (World.cell?_setCell_other _ _ _ _ ?_).trans ?_; focus (simp; done)) | (refine (World.cell?_setCell_other _ _ _ _ ?_).trans ?_; focus (simp; omega)) | (refine World.cell?_setCell_same' _ _ _ ?_; focus (simp; done)))))))
  have hq0 := hcs.1.2; have hq1 := hcs.2.1.2; have hz0 := hcs.1.1
  go_wp2_with fail
  refine (ecommit_val ea4.1 ea4.2.1 ea4.2.2 p2 k2 _ (sS2.out.kept (by repeat' (first | (with_reducible exact Below.refl _ _) | (with_reducible assumption) | (with_reducible refine kept_alloc ?_ _) | (with_reducible refine kept_drewN ?_ _) | (with_reducible refine Below.drew ?_) | (with_reducible refine Below.setCell ?_ (by first | omega | (simp; omega) | (simp; done)) _) | (refine kept_trans ?_ (by with_reducible assumption))))) (by decide)).mono ?_
  rintro e w4 ⟨p4, k4, rfl, -, hg4⟩
  have hcs : CellsAt w4 [(n1, 0, .int .i64 3), (n1, 1, .slice p2 2 k2)] := cells_keep hg4 (by (simp only [CellsAt]; (repeat' (first | exact trivial | (refine And.intro ?_ ?_))); all_goals (first | (focus ((try simp only [World.size_setCell, World.size_alloc]); omega)) | (repeat (first | rfl | assumption | (refine (World.cell?_alloc_past _ _ _ ?_).trans ?_; focus ((try simp only [World.size_setCell, World.size_alloc]); omega)) | (refine (World.cell?_alloc_at _ _ _ _ ?_).trans ?_; focus ((try simp only [World.size_setCell, World.size_alloc]); done)) | (refine (World.cell?_setCell_other _ _ _ _ ?_).trans ?_; focus (simp; done)) | (refine (World.cell?_setCell_other _ _ _ _ ?_).trans ?_; focus (simp; omega)) | (refine World.cell?_setCell_same' _ _ _ ?_; focus (simp; done)))))))
  clear hq0 hq1 hz0
  have hq0 := hcs.1.2; have hq1 := hcs.2.1.2; have hz0 := hcs.1.1
  go_wp2_with fail
  refine (enotify_val ea5.1 ea5.2.1 ea5.2.2.1 ea5.2.2.2 p2 k2 _ (sS2.out.kept (by repeat' (first | (with_reducible exact Below.refl _ _) | (with_reducible assumption) | (with_reducible refine kept_alloc ?_ _) | (with_reducible refine kept_drewN ?_ _) | (with_reducible refine Below.drew ?_) | (with_reducible refine Below.setCell ?_ (by first | omega | (simp; omega) | (simp; done)) _) | (refine kept_trans ?_ (by with_reducible assumption))))) (by decide)).mono ?_
  rintro e w5 ⟨p5, k5, rfl, sO5, hg5⟩
  have sS5 := Lib.hid (Ow.sl intEnc sO5)
  have hcs : CellsAt w5 [(n1, 0, .int .i64 3), (n1, 1, .slice p2 2 k2)] := cells_keep hg5 (by (simp only [CellsAt]; (repeat' (first | exact trivial | (refine And.intro ?_ ?_))); all_goals (first | (focus ((try simp only [World.size_setCell, World.size_alloc]); omega)) | (repeat (first | rfl | assumption | (refine (World.cell?_alloc_past _ _ _ ?_).trans ?_; focus ((try simp only [World.size_setCell, World.size_alloc]); omega)) | (refine (World.cell?_alloc_at _ _ _ _ ?_).trans ?_; focus ((try simp only [World.size_setCell, World.size_alloc]); done)) | (refine (World.cell?_setCell_other _ _ _ _ ?_).trans ?_; focus (simp; done)) | (refine (World.cell?_setCell_other _ _ _ _ ?_).trans ?_; focus (simp; omega)) | (refine World.cell?_setCell_same' _ _ _ ?_; focus (simp; done)))))))
  have hV5 : Below V.heap.size V w5 := by repeat' (first | (with_reducible exact Below.refl _ _) | (with_reducible assumption) | (with_reducible refine kept_alloc ?_ _) | (with_reducible refine kept_drewN ?_ _) | (with_reducible refine Below.drew ?_) | (with_reducible refine Below.setCell ?_ (by first | omega | (simp; omega) | (simp; done)) _) | (refine kept_trans ?_ (by with_reducible assumption)))
  have sS2' := Lib.hid (sS2.out.kept hV5)
  have hB5 : Below w.heap.size w w5 := hB2.trans (hV5.mono hB2.size)
  clear sO5 hq0 hq1 hz0 hg3 hg4 hg5 hV5 sS2 u0 u1 hz hB2
  have hq0 := hcs.1.2; have hq1 := hcs.2.1.2; have hz0 := hcs.1.1
  go_wp2_with fail
  refine (enotall_val ea5.1 ea6.1 ea6.2 p2 k2 _ (sS2'.out.kept (by repeat' (first | (with_reducible exact Below.refl _ _) | (with_reducible assumption) | (with_reducible refine kept_alloc ?_ _) | (with_reducible refine kept_drewN ?_ _) | (with_reducible refine Below.drew ?_) | (with_reducible refine Below.setCell ?_ (by first | omega | (simp; omega) | (simp; done)) _) | (refine kept_trans ?_ (by with_reducible assumption))))) (by decide)).mono ?_
  rintro e w6 ⟨p6, q6, k6, k6', rfl, sO6, tO6, hg6⟩
  have tS6 := Lib.hid (Ow.sl intEnc tO6)
  have hcs : CellsAt w6 [(n1, 0, .int .i64 3), (n1, 1, .slice p2 2 k2), (w5.heap.size, 0, .int .i64 4), (w5.heap.size, 1, .slice p5 1 k5)] := cells_keep hg6 (by (simp only [CellsAt]; (repeat' (first | exact trivial | (refine And.intro ?_ ?_))); all_goals (first | (focus ((try simp only [World.size_setCell, World.size_alloc]); omega)) | (repeat (first | rfl | assumption | (refine (World.cell?_alloc_past _ _ _ ?_).trans ?_; focus ((try simp only [World.size_setCell, World.size_alloc]); omega)) | (refine (World.cell?_alloc_at _ _ _ _ ?_).trans ?_; focus ((try simp only [World.size_setCell, World.size_alloc]); done)) | (refine (World.cell?_setCell_other _ _ _ _ ?_).trans ?_; focus (simp; done)) | (refine (World.cell?_setCell_other _ _ _ _ ?_).trans ?_; focus (simp; omega)) | (refine World.cell?_setCell_same' _ _ _ ?_; focus (simp; done)))))))
  clear sO6 tO6 hq0 hq1 hz0
  have hq0 := hcs.1.2; have hq1 := hcs.2.1.2; have hq2 := hcs.2.2.1.2; have hq3 := hcs.2.2.2.1.2; have hz0 := hcs.1.1; have hz1 := hcs.2.2.1.1
  go_wp2_with fail
  refine (ecancel_val ea7.1 ea7.2 p2 k2 _ (sS2'.out.kept (by repeat' (first | (with_reducible exact Below.refl _ _) | (with_reducible assumption) | (with_reducible refine kept_alloc ?_ _) | (with_reducible refine kept_drewN ?_ _) | (with_reducible refine Below.drew ?_) | (with_reducible refine Below.setCell ?_ (by first | omega | (simp; omega) | (simp; done)) _) | (refine kept_trans ?_ (by with_reducible assumption))))) (by decide)).mono ?_
  rintro e w7 ⟨p7, k7, rfl, sO7, hg7⟩
  have sS7 := Lib.hid (Ow.sl intEnc sO7)
  have hcs : CellsAt w7 [(n1, 0, .int .i64 3), (n1, 1, .slice p2 2 k2), (w5.heap.size, 0, .int .i64 4), (w5.heap.size, 1, .slice p5 1 k5), (w6.heap.size, 0, .int .i64 4), (w6.heap.size, 1, .slice p6 0 k6)] := cells_keep hg7 (by (simp only [CellsAt]; (repeat' (first | exact trivial | (refine And.intro ?_ ?_))); all_goals (first | (focus ((try simp only [World.size_setCell, World.size_alloc]); omega)) | (repeat (first | rfl | assumption | (refine (World.cell?_alloc_past _ _ _ ?_).trans ?_; focus ((try simp only [World.size_setCell, World.size_alloc]); omega)) | (refine (World.cell?_alloc_at _ _ _ _ ?_).trans ?_; focus ((try simp only [World.size_setCell, World.size_alloc]); done)) | (refine (World.cell?_setCell_other _ _ _ _ ?_).trans ?_; focus (simp; done)) | (refine (World.cell?_setCell_other _ _ _ _ ?_).trans ?_; focus (simp; omega)) | (refine World.cell?_setCell_same' _ _ _ ?_; focus (simp; done)))))))
  clear sO7 hq0 hq1 hq2 hq3 hz0 hz1
  have hq0 := hcs.1.2; have hq1 := hcs.2.1.2; have hq2 := hcs.2.2.1.2; have hq3 := hcs.2.2.2.1.2; have hq4 := hcs.2.2.2.2.1.2; have hq5 := hcs.2.2.2.2.2.1.2; have hz0 := hcs.1.1; have hz1 := hcs.2.2.1.1; have hz2 := hcs.2.2.2.2.1.1
  go_wp2_with fail
  refine (enotify_val ea8.1 ea8.2.1 ea8.2.2.1 ea8.2.2.2 none 0 _ (sli_nil _) (by decide)).mono ?_
  rintro e w8 ⟨p8, k8, rfl, -, hg8⟩
  have hcs : CellsAt w8 [(n1, 0, .int .i64 3), (n1, 1, .slice p2 2 k2), (w5.heap.size, 0, .int .i64 4), (w5.heap.size, 1, .slice p5 1 k5), (w6.heap.size, 0, .int .i64 4), (w6.heap.size, 1, .slice p6 0 k6), (w7.heap.size, 0, .int .i64 3), (w7.heap.size, 1, .slice p7 1 k7)] := cells_keep hg8 (by (simp only [CellsAt]; (repeat' (first | exact trivial | (refine And.intro ?_ ?_))); all_goals (first | (focus ((try simp only [World.size_setCell, World.size_alloc]); omega)) | (repeat (first | rfl | assumption | (refine (World.cell?_alloc_past _ _ _ ?_).trans ?_; focus ((try simp only [World.size_setCell, World.size_alloc]); omega)) | (refine (World.cell?_alloc_at _ _ _ _ ?_).trans ?_; focus ((try simp only [World.size_setCell, World.size_alloc]); done)) | (refine (World.cell?_setCell_other _ _ _ _ ?_).trans ?_; focus (simp; done)) | (refine (World.cell?_setCell_other _ _ _ _ ?_).trans ?_; focus (simp; omega)) | (refine World.cell?_setCell_same' _ _ _ ?_; focus (simp; done)))))))
  have sS2 : Hid (Sl w8 1 intC [5, 2] (.slice p2 2 k2)) := Lib.hid (sS2'.out.kept (by repeat' (first | (with_reducible exact Below.refl _ _) | (with_reducible assumption) | (with_reducible refine kept_alloc ?_ _) | (with_reducible refine kept_drewN ?_ _) | (with_reducible refine Below.drew ?_) | (with_reducible refine Below.setCell ?_ (by first | omega | (simp; omega) | (simp; done)) _) | (refine kept_trans ?_ (by with_reducible assumption)))))
  have sS5' : Hid (Sl w8 1 intC [2] (.slice p5 1 k5)) := Lib.hid (sS5.out.kept (by repeat' (first | (with_reducible exact Below.refl _ _) | (with_reducible assumption) | (with_reducible refine kept_alloc ?_ _) | (with_reducible refine kept_drewN ?_ _) | (with_reducible refine Below.drew ?_) | (with_reducible refine Below.setCell ?_ (by first | omega | (simp; omega) | (simp; done)) _) | (refine kept_trans ?_ (by with_reducible assumption)))))
  have sS6' : Hid (Sl w8 1 intC [5, 2] (.slice q6 2 k6')) := Lib.hid (tS6.out.kept (by repeat' (first | (with_reducible exact Below.refl _ _) | (with_reducible assumption) | (with_reducible refine kept_alloc ?_ _) | (with_reducible refine kept_drewN ?_ _) | (with_reducible refine Below.drew ?_) | (with_reducible refine Below.setCell ?_ (by first | omega | (simp; omega) | (simp; done)) _) | (refine kept_trans ?_ (by with_reducible assumption)))))
  have sS7' : Hid (Sl w8 1 intC [2] (.slice p7 1 k7)) := Lib.hid (sS7.out.kept (by repeat' (first | (with_reducible exact Below.refl _ _) | (with_reducible assumption) | (with_reducible refine kept_alloc ?_ _) | (with_reducible refine kept_drewN ?_ _) | (with_reducible refine Below.drew ?_) | (with_reducible refine Below.setCell ?_ (by first | omega | (simp; omega) | (simp; done)) _) | (refine kept_trans ?_ (by with_reducible assumption)))))
  have hB8 : Below w.heap.size w w8 := hB5.trans ((show Below w5.heap.size w5 w8 by repeat' (first | (with_reducible exact Below.refl _ _) | (with_reducible assumption) | (with_reducible refine kept_alloc ?_ _) | (with_reducible refine kept_drewN ?_ _) | (with_reducible refine Below.drew ?_) | (with_reducible refine Below.setCell ?_ (by first | omega | (simp; omega) | (simp; done)) _) | (refine kept_trans ?_ (by with_reducible assumption)))).mono hB5.size)
  clear hq0 hq1 hq2 hq3 hq4 hq5 hz0 hz1 hz2 sS2' sS5
  have hq0 := hcs.1.2; have hq1 := hcs.2.1.2; have hq2 := hcs.2.2.1.2; have hq3 := hcs.2.2.2.1.2; have hq4 := hcs.2.2.2.2.1.2; have hq5 := hcs.2.2.2.2.2.1.2; have hq6 := hcs.2.2.2.2.2.2.1.2; have hq7 := hcs.2.2.2.2.2.2.2.1.2; have hz0 := hcs.1.1; have hz1 := hcs.2.2.1.1; have hz2 := hcs.2.2.2.2.1.1; have hz3 := hcs.2.2.2.2.2.2.1.1
  go_wp2_with fail
  refine (rints_any [2] [2] p5 _ k5 1 _ (sS5'.out.kept (by repeat' (first | (with_reducible exact Below.refl _ _) | (with_reducible assumption) | (with_reducible refine kept_alloc ?_ _) | (with_reducible refine kept_drewN ?_ _) | (with_reducible refine Below.drew ?_) | (with_reducible refine Below.setCell ?_ (by first | omega | (simp; omega) | (simp; done)) _) | (refine kept_trans ?_ (by with_reducible assumption))))) (sli_one _ 2 (by first | rfl | simp)) (by decide)).mono ?_
  rintro e w9 ⟨rfl, hg9⟩
  rw [show decide (([2] : List Int) = [2]) = true by decide]
  have hcs : CellsAt w9 [(n1, 0, .int .i64 3), (n1, 1, .slice p2 2 k2), (w5.heap.size, 0, .int .i64 4), (w5.heap.size, 1, .slice p5 1 k5), (w6.heap.size, 0, .int .i64 4), (w6.heap.size, 1, .slice p6 0 k6), (w7.heap.size, 0, .int .i64 3), (w7.heap.size, 1, .slice p7 1 k7)] := cells_keep hg9 (by (simp only [CellsAt]; (repeat' (first | exact trivial | (refine And.intro ?_ ?_))); all_goals (first | (focus ((try simp only [World.size_setCell, World.size_alloc]); omega)) | (repeat (first | rfl | assumption | (refine (World.cell?_alloc_past _ _ _ ?_).trans ?_; focus ((try simp only [World.size_setCell, World.size_alloc]); omega)) | (refine (World.cell?_alloc_at _ _ _ _ ?_).trans ?_; focus ((try simp only [World.size_setCell, World.size_alloc]); done)) | (refine (World.cell?_setCell_other _ _ _ _ ?_).trans ?_; focus (simp; done)) | (refine (World.cell?_setCell_other _ _ _ _ ?_).trans ?_; focus (simp; omega)) | (refine World.cell?_setCell_same' _ _ _ ?_; focus (simp; done)))))))
  clear hq0 hq1 hq2 hq3 hq4 hq5 hq6 hq7 hz0 hz1 hz2 hz3
  have hq0 := hcs.1.2; have hq1 := hcs.2.1.2; have hq2 := hcs.2.2.1.2; have hq3 := hcs.2.2.2.1.2; have hq4 := hcs.2.2.2.2.1.2; have hq5 := hcs.2.2.2.2.2.1.2; have hq6 := hcs.2.2.2.2.2.2.1.2; have hq7 := hcs.2.2.2.2.2.2.2.1.2; have hz0 := hcs.1.1; have hz1 := hcs.2.2.1.1; have hz2 := hcs.2.2.2.2.1.1; have hz3 := hcs.2.2.2.2.2.2.1.1
  go_wp2_with fail
  refine (rints_any [5, 2] [5, 2] q6 _ k6' 2 _ (sS6'.out.kept (by repeat' (first | (with_reducible exact Below.refl _ _) | (with_reducible assumption) | (with_reducible refine kept_alloc ?_ _) | (with_reducible refine kept_drewN ?_ _) | (with_reducible refine Below.drew ?_) | (with_reducible refine Below.setCell ?_ (by first | omega | (simp; omega) | (simp; done)) _) | (refine kept_trans ?_ (by with_reducible assumption))))) (esli_two _ 5 2 (by first | rfl | simp)) (by decide)).mono ?_
  rintro e w10 ⟨rfl, hg10⟩
  rw [show decide (([5, 2] : List Int) = [5, 2]) = true by decide]
  have hcs : CellsAt w10 [(n1, 0, .int .i64 3), (n1, 1, .slice p2 2 k2), (w5.heap.size, 0, .int .i64 4), (w5.heap.size, 1, .slice p5 1 k5), (w6.heap.size, 0, .int .i64 4), (w6.heap.size, 1, .slice p6 0 k6), (w7.heap.size, 0, .int .i64 3), (w7.heap.size, 1, .slice p7 1 k7)] := cells_keep hg10 (by (simp only [CellsAt]; (repeat' (first | exact trivial | (refine And.intro ?_ ?_))); all_goals (first | (focus ((try simp only [World.size_setCell, World.size_alloc]); omega)) | (repeat (first | rfl | assumption | (refine (World.cell?_alloc_past _ _ _ ?_).trans ?_; focus ((try simp only [World.size_setCell, World.size_alloc]); omega)) | (refine (World.cell?_alloc_at _ _ _ _ ?_).trans ?_; focus ((try simp only [World.size_setCell, World.size_alloc]); done)) | (refine (World.cell?_setCell_other _ _ _ _ ?_).trans ?_; focus (simp; done)) | (refine (World.cell?_setCell_other _ _ _ _ ?_).trans ?_; focus (simp; omega)) | (refine World.cell?_setCell_same' _ _ _ ?_; focus (simp; done)))))))
  clear hq0 hq1 hq2 hq3 hq4 hq5 hq6 hq7 hz0 hz1 hz2 hz3
  have hq0 := hcs.1.2; have hq1 := hcs.2.1.2; have hq2 := hcs.2.2.1.2; have hq3 := hcs.2.2.2.1.2; have hq4 := hcs.2.2.2.2.1.2; have hq5 := hcs.2.2.2.2.2.1.2; have hq6 := hcs.2.2.2.2.2.2.1.2; have hq7 := hcs.2.2.2.2.2.2.2.1.2; have hz0 := hcs.1.1; have hz1 := hcs.2.2.1.1; have hz2 := hcs.2.2.2.2.1.1; have hz3 := hcs.2.2.2.2.2.2.1.1
  go_wp2_with fail
  refine (rints_any [2] [2] p7 _ k7 1 _ (sS7'.out.kept (by repeat' (first | (with_reducible exact Below.refl _ _) | (with_reducible assumption) | (with_reducible refine kept_alloc ?_ _) | (with_reducible refine kept_drewN ?_ _) | (with_reducible refine Below.drew ?_) | (with_reducible refine Below.setCell ?_ (by first | omega | (simp; omega) | (simp; done)) _) | (refine kept_trans ?_ (by with_reducible assumption))))) (sli_one _ 2 (by first | rfl | simp)) (by decide)).mono ?_
  rintro e w11 ⟨rfl, hg11⟩
  rw [show decide (([2] : List Int) = [2]) = true by decide]
  have hcs : CellsAt w11 [(n1, 0, .int .i64 3), (n1, 1, .slice p2 2 k2), (w5.heap.size, 0, .int .i64 4), (w5.heap.size, 1, .slice p5 1 k5), (w6.heap.size, 0, .int .i64 4), (w6.heap.size, 1, .slice p6 0 k6), (w7.heap.size, 0, .int .i64 3), (w7.heap.size, 1, .slice p7 1 k7)] := cells_keep hg11 (by (simp only [CellsAt]; (repeat' (first | exact trivial | (refine And.intro ?_ ?_))); all_goals (first | (focus ((try simp only [World.size_setCell, World.size_alloc]); omega)) | (repeat (first | rfl | assumption | (refine (World.cell?_alloc_past _ _ _ ?_).trans ?_; focus ((try simp only [World.size_setCell, World.size_alloc]); omega)) | (refine (World.cell?_alloc_at _ _ _ _ ?_).trans ?_; focus ((try simp only [World.size_setCell, World.size_alloc]); done)) | (refine (World.cell?_setCell_other _ _ _ _ ?_).trans ?_; focus (simp; done)) | (refine (World.cell?_setCell_other _ _ _ _ ?_).trans ?_; focus (simp; omega)) | (refine World.cell?_setCell_same' _ _ _ ?_; focus (simp; done)))))))
  clear hq0 hq1 hq2 hq3 hq4 hq5 hq6 hq7 hz0 hz1 hz2 hz3
  have hq0 := hcs.1.2; have hq1 := hcs.2.1.2; have hq2 := hcs.2.2.1.2; have hq3 := hcs.2.2.2.1.2; have hq4 := hcs.2.2.2.2.1.2; have hq5 := hcs.2.2.2.2.2.1.2; have hq6 := hcs.2.2.2.2.2.2.1.2; have hq7 := hcs.2.2.2.2.2.2.2.1.2; have hz0 := hcs.1.1; have hz1 := hcs.2.2.1.1; have hz2 := hcs.2.2.2.2.1.1; have hz3 := hcs.2.2.2.2.2.2.1.1
  go_wp2_with fail
  refine (eprep_val ea9.1 p2 k2 _ (sS2.out.kept (by repeat' (first | (with_reducible exact Below.refl _ _) | (with_reducible assumption) | (with_reducible refine kept_alloc ?_ _) | (with_reducible refine kept_drewN ?_ _) | (with_reducible refine Below.drew ?_) | (with_reducible refine Below.setCell ?_ (by first | omega | (simp; omega) | (simp; done)) _) | (refine kept_trans ?_ (by with_reducible assumption)))))).mono ?_
  rintro e w12 ⟨rfl, hg12⟩
  have hcs : CellsAt w12 [(n1, 0, .int .i64 3), (n1, 1, .slice p2 2 k2), (w5.heap.size, 0, .int .i64 4), (w5.heap.size, 1, .slice p5 1 k5), (w6.heap.size, 0, .int .i64 4), (w6.heap.size, 1, .slice p6 0 k6), (w7.heap.size, 0, .int .i64 3), (w7.heap.size, 1, .slice p7 1 k7)] := cells_keep hg12 (by (simp only [CellsAt]; (repeat' (first | exact trivial | (refine And.intro ?_ ?_))); all_goals (first | (focus ((try simp only [World.size_setCell, World.size_alloc]); omega)) | (repeat (first | rfl | assumption | (refine (World.cell?_alloc_past _ _ _ ?_).trans ?_; focus ((try simp only [World.size_setCell, World.size_alloc]); omega)) | (refine (World.cell?_alloc_at _ _ _ _ ?_).trans ?_; focus ((try simp only [World.size_setCell, World.size_alloc]); done)) | (refine (World.cell?_setCell_other _ _ _ _ ?_).trans ?_; focus (simp; done)) | (refine (World.cell?_setCell_other _ _ _ _ ?_).trans ?_; focus (simp; omega)) | (refine World.cell?_setCell_same' _ _ _ ?_; focus (simp; done)))))))
  clear hq0 hq1 hq2 hq3 hq4 hq5 hq6 hq7 hz0 hz1 hz2 hz3
  have hq0 := hcs.1.2; have hq1 := hcs.2.1.2; have hq2 := hcs.2.2.1.2; have hq3 := hcs.2.2.2.1.2; have hq4 := hcs.2.2.2.2.1.2; have hq5 := hcs.2.2.2.2.2.1.2; have hq6 := hcs.2.2.2.2.2.2.1.2; have hq7 := hcs.2.2.2.2.2.2.2.1.2; have hz0 := hcs.1.1; have hz1 := hcs.2.2.1.1; have hz2 := hcs.2.2.2.2.1.1; have hz3 := hcs.2.2.2.2.2.2.1.1
  go_wp2_with fail
  refine (eprep_val ea9.2.1 none 0 _ (sli_nil _)).mono ?_
  rintro e w13 ⟨rfl, hg13⟩
  have hcs : CellsAt w13 [(n1, 0, .int .i64 3), (n1, 1, .slice p2 2 k2), (w5.heap.size, 0, .int .i64 4), (w5.heap.size, 1, .slice p5 1 k5), (w6.heap.size, 0, .int .i64 4), (w6.heap.size, 1, .slice p6 0 k6), (w7.heap.size, 0, .int .i64 3), (w7.heap.size, 1, .slice p7 1 k7)] := cells_keep hg13 (by (simp only [CellsAt]; (repeat' (first | exact trivial | (refine And.intro ?_ ?_))); all_goals (first | (focus ((try simp only [World.size_setCell, World.size_alloc]); omega)) | (repeat (first | rfl | assumption | (refine (World.cell?_alloc_past _ _ _ ?_).trans ?_; focus ((try simp only [World.size_setCell, World.size_alloc]); omega)) | (refine (World.cell?_alloc_at _ _ _ _ ?_).trans ?_; focus ((try simp only [World.size_setCell, World.size_alloc]); done)) | (refine (World.cell?_setCell_other _ _ _ _ ?_).trans ?_; focus (simp; done)) | (refine (World.cell?_setCell_other _ _ _ _ ?_).trans ?_; focus (simp; omega)) | (refine World.cell?_setCell_same' _ _ _ ?_; focus (simp; done)))))))
  clear hq0 hq1 hq2 hq3 hq4 hq5 hq6 hq7 hz0 hz1 hz2 hz3
  have hq0 := hcs.1.2; have hq1 := hcs.2.1.2; have hq2 := hcs.2.2.1.2; have hq3 := hcs.2.2.2.1.2; have hq4 := hcs.2.2.2.2.1.2; have hq5 := hcs.2.2.2.2.2.1.2; have hq6 := hcs.2.2.2.2.2.2.1.2; have hq7 := hcs.2.2.2.2.2.2.2.1.2; have hz0 := hcs.1.1; have hz1 := hcs.2.2.1.1; have hz2 := hcs.2.2.2.2.1.1; have hz3 := hcs.2.2.2.2.2.2.1.1
  go_wp2_with fail
  refine (echeck_val ea9.2.2.1 p2 k2 _ (sS2.out.kept (by repeat' (first | (with_reducible exact Below.refl _ _) | (with_reducible assumption) | (with_reducible refine kept_alloc ?_ _) | (with_reducible refine kept_drewN ?_ _) | (with_reducible refine Below.drew ?_) | (with_reducible refine Below.setCell ?_ (by first | omega | (simp; omega) | (simp; done)) _) | (refine kept_trans ?_ (by with_reducible assumption)))))).mono ?_
  rintro e w14 ⟨rfl, hg14⟩
  have hcs : CellsAt w14 [(n1, 0, .int .i64 3), (n1, 1, .slice p2 2 k2), (w5.heap.size, 0, .int .i64 4), (w5.heap.size, 1, .slice p5 1 k5), (w6.heap.size, 0, .int .i64 4), (w6.heap.size, 1, .slice p6 0 k6), (w7.heap.size, 0, .int .i64 3), (w7.heap.size, 1, .slice p7 1 k7)] := cells_keep hg14 (by (simp only [CellsAt]; (repeat' (first | exact trivial | (refine And.intro ?_ ?_))); all_goals (first | (focus ((try simp only [World.size_setCell, World.size_alloc]); omega)) | (repeat (first | rfl | assumption | (refine (World.cell?_alloc_past _ _ _ ?_).trans ?_; focus ((try simp only [World.size_setCell, World.size_alloc]); omega)) | (refine (World.cell?_alloc_at _ _ _ _ ?_).trans ?_; focus ((try simp only [World.size_setCell, World.size_alloc]); done)) | (refine (World.cell?_setCell_other _ _ _ _ ?_).trans ?_; focus (simp; done)) | (refine (World.cell?_setCell_other _ _ _ _ ?_).trans ?_; focus (simp; omega)) | (refine World.cell?_setCell_same' _ _ _ ?_; focus (simp; done)))))))
  clear hq0 hq1 hq2 hq3 hq4 hq5 hq6 hq7 hz0 hz1 hz2 hz3
  have hq0 := hcs.1.2; have hq1 := hcs.2.1.2; have hq2 := hcs.2.2.1.2; have hq3 := hcs.2.2.2.1.2; have hq4 := hcs.2.2.2.2.1.2; have hq5 := hcs.2.2.2.2.2.1.2; have hq6 := hcs.2.2.2.2.2.2.1.2; have hq7 := hcs.2.2.2.2.2.2.2.1.2; have hz0 := hcs.1.1; have hz1 := hcs.2.2.1.1; have hz2 := hcs.2.2.2.2.1.1; have hz3 := hcs.2.2.2.2.2.2.1.1
  go_wp2_with fail
  refine (echeck_val ea9.2.2.2 _ 1 _ (sli_one _ 16 (by first | rfl | simp))).mono ?_
  rintro e w15 ⟨rfl, hg15⟩
  go_wp2
  all_goals (go_ret; exact ⟨rfl, by repeat' (first | (with_reducible exact Below.refl _ _) | (with_reducible assumption) | (with_reducible refine kept_alloc ?_ _) | (with_reducible refine kept_drewN ?_ _) | (with_reducible refine Below.drew ?_) | (with_reducible refine Below.setCell ?_ (by first | omega | (simp; omega) | (simp; done)) _) | (refine kept_trans ?_ (by with_reducible assumption)))⟩)

/-! ### An event as an argument -/
def evShape : List (Ck 1) := [.int .i64, .row [.int .i64]]
theorem ev_of_read {W : World} {vs : List Value} (h : ReadL W evShape vs) : ∃ (ep : Int) (l : List Int) (p : Option Addr) (k : Nat), vs = [.int .i64 ep, .slice p l.length k] ∧ Sl W 1 intC l (.slice p l.length k) ∧ In64 ep ∧ l.length ≤ maxLen := by
  simp only [evShape, read_cons, read_nil, read_int] at h
  obtain ⟨_, _, rfl, ⟨c, rfl, h1⟩, v, _, rfl, hv, rfl⟩ := h
  obtain ⟨xs, hs, _, hl⟩ := Sl.of_read (α := Int) intC (fun _ => True) (by decide) hv (fun vs h => by
    simp only [read_cons, read_nil, read_int] at h
    obtain ⟨_, _, rfl, ⟨x, rfl, _⟩, rfl⟩ := h
    exact ⟨x, rfl, trivial⟩)
  obtain ⟨p, k, rfl, _⟩ := hs.is
  exact ⟨c, xs, p, k, rfl, hs, in64_of_wf h1, hl⟩
end Go.Proofs.Ytlgldniepcjfoaa
