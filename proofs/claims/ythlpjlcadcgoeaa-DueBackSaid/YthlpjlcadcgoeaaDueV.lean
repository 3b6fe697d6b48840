/- Layer 4: what every statement asks first; arguments opened. -/
import Derived.Test.YthlpjlcadcgoeaaDueU
namespace Go.Proofs.Ythlpjlcadcgoeaa
set_option linter.unusedVariables false
set_option linter.unusedSimpArgs false
open Go.ChangeShapes Go.WideShapes Go.ChangeAt Go.RowKit

theorem dput_val {l r : List Du} {d : Du} {c : Int} (hr : putL l d = r) (hc : codeI l d = c) (p : Option Addr) (k : Nat) (w : World) (hl : Sl w 2 Du.cells l (.slice p l.length k)) (hm : l.length ≤ 700) :
    Calls Try.prog 10 #[.slice p l.length k, .agg #[.int .i64 d.tm, .int .i64 d.id]] w (RetDE w r c) := hr ▸ hc ▸ dput_any l d p k w hl hm
theorem ddrop_val {l r : List Du} {i c : Int} (hr : dropL l i = r) (hc : dropI l i = c) (p : Option Addr) (k : Nat) (w : World) (hl : Sl w 2 Du.cells l (.slice p l.length k)) (hm : l.length ≤ 700) :
    Calls Try.prog 12 #[.slice p l.length k, .int .i64 i] w (RetDE w r c) := hr ▸ hc ▸ ddrop_any l i p k w hl hm
theorem dlate_val {l s : List Du} {now : Int} {r : List Int} (hr : lateI l now = r) (hs : restL l now = s) (p : Option Addr) (k : Nat) (w : World) (hl : Sl w 2 Du.cells l (.slice p l.length k)) (hm : l.length ≤ 700) :
    Calls Try.prog 13 #[.slice p l.length k, .int .i64 now] w (RetL w r s) := hr ▸ hs ▸ dlate_any l now p k w hl hm
theorem dfirst_val {l : List Du} {d : Du} {b : Bool} (hd : fstD l = d) (hb : fstB l = b) (p : Option Addr) (k : Nat) (w : World) (hl : Sl w 2 Du.cells l (.slice p l.length k)) (hm : l.length ≤ 700) :
    Calls Try.prog 15 #[.slice p l.length k] w fun e w' => e = .returned (.tuple #[.agg #[.int .i64 d.tm, .int .i64 d.id], .bool b]) ∧ Kept w w' := hd ▸ hb ▸ dfirst_any l p k w hl (by omega)
theorem dcheck_val {l : List Du} {b : Bool} (hb : okB l = b) (p : Option Addr) (k : Nat) (w : World) (hl : Sl w 2 Du.cells l (.slice p l.length k)) (hm : l.length ≤ 700) :
    Calls Try.prog 9 #[.slice p l.length k] w fun e w' => e = .returned (.bool b) ∧ Kept w w' := hb ▸ dcheck_any l p k w hl (by omega)
theorem sld_nil (w : World) : Sl w 2 Du.cells [] (.slice none 0 0) := ⟨none, 0, rfl, by simp, by simp, fun _ => rfl, fun h => absurd rfl h⟩
theorem hS2x (w : World) (c d : Du) {g : Nat} (hg : w.heap.size = g) : Sl (w.alloc (.cells #[.int .i64 c.tm, .int .i64 c.id, .int .i64 d.tm, .int .i64 d.id] 24)) 2 Du.cells [c, d] (.slice (some ⟨g, 0, none⟩) 2 2) :=
  Ow.sl Du.enc (Ow.made (base := 0) (e := 24) (W := w) Du.enc [c, d] #[.int .i64 c.tm, .int .i64 c.id, .int .i64 d.tm, .int .i64 d.id] rfl (Nat.zero_le _) (by show 2 ≤ maxLen; decide) hg rfl)
theorem da1 : putL [] ⟨9, 5⟩ = [⟨9, 5⟩] ∧ codeI [] ⟨9, 5⟩ = 0 := by decide
theorem da2 : putL [⟨9, 5⟩] ⟨7, 2⟩ = [⟨7, 2⟩, ⟨9, 5⟩] ∧ codeI [⟨9, 5⟩] ⟨7, 2⟩ = 0 := by decide
theorem da3 : putL [⟨7, 2⟩, ⟨9, 5⟩] ⟨7, 5⟩ = [⟨7, 2⟩, ⟨9, 5⟩] ∧ codeI [⟨7, 2⟩, ⟨9, 5⟩] ⟨7, 5⟩ = 60 := by decide
theorem da4 : putL [⟨7, 2⟩, ⟨9, 5⟩] ⟨-1, 5⟩ = [⟨7, 2⟩, ⟨9, 5⟩] ∧ codeI [⟨7, 2⟩, ⟨9, 5⟩] ⟨-1, 5⟩ = 50 := by decide
theorem da5 : putL [⟨7, 2⟩, ⟨9, 5⟩] ⟨0, 16⟩ = [⟨7, 2⟩, ⟨9, 5⟩] ∧ codeI [⟨7, 2⟩, ⟨9, 5⟩] ⟨0, 16⟩ = 40 := by decide
theorem da6 : lateI [⟨7, 2⟩, ⟨9, 5⟩] 8 = [2] ∧ restL [⟨7, 2⟩, ⟨9, 5⟩] 8 = [⟨9, 5⟩] := by decide
theorem da7 : fstD [⟨7, 2⟩, ⟨9, 5⟩] = ⟨7, 2⟩ ∧ fstB [⟨7, 2⟩, ⟨9, 5⟩] = true := by decide
theorem da8 : dropL [⟨7, 2⟩, ⟨9, 5⟩] 2 = [⟨9, 5⟩] ∧ dropI [⟨7, 2⟩, ⟨9, 5⟩] 2 = 0 := by decide
theorem da9 : dropL [⟨9, 5⟩] 2 = [⟨9, 5⟩] ∧ dropI [⟨9, 5⟩] 2 = 40 := by decide
theorem da10 : fstD [] = ⟨0, 0⟩ ∧ fstB [] = false := by decide
theorem da11 : okB [⟨7, 2⟩, ⟨9, 5⟩] = true := by decide
theorem da12 : okB [⟨2, 0⟩, ⟨1, 1⟩] = false := by decide

set_option maxHeartbeats 4000000 in
set_option maxRecDepth 100000 in
theorem dueawake_any (w : World) : Calls Try.prog 8 #[] w fun e w' => e = .returned (.bool true) ∧ Kept w w' := by
  have hcmp : ∀ w : World, (binOp .eql 24 (.agg #[.int .i64 7, .int .i64 2]) (.agg #[.int .i64 7, .int .i64 2])).run Try.prog w = .ok (.bool true) w := fun w => du_eql ⟨7, 2⟩ ⟨7, 2⟩ w
  go_enter Try.func8, Try.ntmps8
  go_wp2_with fail
  refine (dput_val da1.1 da1.2 none 0 _ (sld_nil _) (by decide)).mono ?_
  rintro e w1 ⟨p1, k1, rfl, sS1, hg1⟩
  go_wp2_with fail
  refine (dput_val da2.1 da2.2 p1 k1 _ (sS1.kept (by repeat' (first | (with_reducible exact Below.refl _ _) | (with_reducible assumption) | (with_reducible refine kept_alloc ?_ _) | (with_reducible refine kept_drewN ?_ _) | (with_reducible refine Below.drew ?_) | (with_reducible refine Below.setCell ?_ (by first | omega | (simp; omega) | (simp; done)) _) | (refine kept_trans ?_ (by with_reducible assumption))))) (by decide)).mono ?_
  rintro e w2 ⟨p2, k2, rfl, sS2, hg2⟩
  go_wp2_with fail
  refine (dput_val da3.1 da3.2 p2 k2 _ (sS2.kept (by repeat' (first | (with_reducible exact Below.refl _ _) | (with_reducible assumption) | (with_reducible refine kept_alloc ?_ _) | (with_reducible refine kept_drewN ?_ _) | (with_reducible refine Below.drew ?_) | (with_reducible refine Below.setCell ?_ (by first | omega | (simp; omega) | (simp; done)) _) | (refine kept_trans ?_ (by with_reducible assumption))))) (by decide)).mono ?_
  rintro e w3 ⟨p3, k3, rfl, -, hg3⟩
  go_wp2_with fail
  refine (dput_val da4.1 da4.2 p2 k2 _ (sS2.kept (by repeat' (first | (with_reducible exact Below.refl _ _) | (with_reducible assumption) | (with_reducible refine kept_alloc ?_ _) | (with_reducible refine kept_drewN ?_ _) | (with_reducible refine Below.drew ?_) | (with_reducible refine Below.setCell ?_ (by first | omega | (simp; omega) | (simp; done)) _) | (refine kept_trans ?_ (by with_reducible assumption))))) (by decide)).mono ?_
  rintro e w4 ⟨p4, k4, rfl, -, hg4⟩
  go_wp2_with fail
  refine (dput_val da5.1 da5.2 p2 k2 _ (sS2.kept (by repeat' (first | (with_reducible exact Below.refl _ _) | (with_reducible assumption) | (with_reducible refine kept_alloc ?_ _) | (with_reducible refine kept_drewN ?_ _) | (with_reducible refine Below.drew ?_) | (with_reducible refine Below.setCell ?_ (by first | omega | (simp; omega) | (simp; done)) _) | (refine kept_trans ?_ (by with_reducible assumption))))) (by decide)).mono ?_
  rintro e w5 ⟨p5, k5, rfl, -, hg5⟩
  go_wp2_with fail
  refine (dlate_val da6.1 da6.2 p2 k2 _ (sS2.kept (by repeat' (first | (with_reducible exact Below.refl _ _) | (with_reducible assumption) | (with_reducible refine kept_alloc ?_ _) | (with_reducible refine kept_drewN ?_ _) | (with_reducible refine Below.drew ?_) | (with_reducible refine Below.setCell ?_ (by first | omega | (simp; omega) | (simp; done)) _) | (refine kept_trans ?_ (by with_reducible assumption))))) (by decide)).mono ?_
  rintro e w6 ⟨p6, q6, k6, j6, rfl, hI6, hR6, hg6⟩
  go_wp2_with fail
  refine (dfirst_val da7.1 da7.2 p2 k2 _ (sS2.kept (by repeat' (first | (with_reducible exact Below.refl _ _) | (with_reducible assumption) | (with_reducible refine kept_alloc ?_ _) | (with_reducible refine kept_drewN ?_ _) | (with_reducible refine Below.drew ?_) | (with_reducible refine Below.setCell ?_ (by first | omega | (simp; omega) | (simp; done)) _) | (refine kept_trans ?_ (by with_reducible assumption))))) (by decide)).mono ?_
  rintro e w7 ⟨rfl, hg7⟩
  go_wp2_with fail
  refine (ddrop_val da8.1 da8.2 p2 k2 _ (sS2.kept (by repeat' (first | (with_reducible exact Below.refl _ _) | (with_reducible assumption) | (with_reducible refine kept_alloc ?_ _) | (with_reducible refine kept_drewN ?_ _) | (with_reducible refine Below.drew ?_) | (with_reducible refine Below.setCell ?_ (by first | omega | (simp; omega) | (simp; done)) _) | (refine kept_trans ?_ (by with_reducible assumption))))) (by decide)).mono ?_
  rintro e w8 ⟨p8, k8, rfl, hS8, hg8⟩
  have hcs : CellsAt w8 [(w7.heap.size, 0, .int .i64 7), (w7.heap.size, 1, .int .i64 2)] := cells_keep hg8 (by (simp only [CellsAt]; (repeat' (first | exact trivial | (refine And.intro ?_ ?_))); all_goals (first | (focus ((try simp only [World.size_setCell, World.size_alloc]); omega)) | (repeat (first | rfl | assumption | (refine (World.cell?_alloc_past _ _ _ ?_).trans ?_; focus ((try simp only [World.size_setCell, World.size_alloc]); omega)) | (refine (World.cell?_alloc_at _ _ _ _ ?_).trans ?_; focus ((try simp only [World.size_setCell, World.size_alloc]); done)) | (refine (World.cell?_setCell_other _ _ _ _ ?_).trans ?_; focus (simp; done)) | (refine (World.cell?_setCell_other _ _ _ _ ?_).trans ?_; focus (simp; omega)) | (refine World.cell?_setCell_same' _ _ _ ?_; focus (simp; done)))))))
  have hq0 := hcs.1.2; have hq1 := hcs.2.1.2; have hz0 := hcs.1.1
  go_wp2_with fail
  refine (ddrop_val da9.1 da9.2 p8 k8 _ (hS8.kept (by repeat' (first | (with_reducible exact Below.refl _ _) | (with_reducible assumption) | (with_reducible refine kept_alloc ?_ _) | (with_reducible refine kept_drewN ?_ _) | (with_reducible refine Below.drew ?_) | (with_reducible refine Below.setCell ?_ (by first | omega | (simp; omega) | (simp; done)) _) | (refine kept_trans ?_ (by with_reducible assumption))))) (by decide)).mono ?_
  rintro e w9 ⟨p9, k9, rfl, -, hg9⟩
  have hcs := cells_keep hg9 hcs
  have hq0 := hcs.1.2; have hq1 := hcs.2.1.2; have hz0 := hcs.1.1
  go_wp2_with fail
  refine (dfirst_val da10.1 da10.2 none 0 _ (sld_nil _) (by decide)).mono ?_
  rintro e w10 ⟨rfl, hg10⟩
  have hcs := cells_keep hg10 hcs
  have hq0 := hcs.1.2; have hq1 := hcs.2.1.2; have hz0 := hcs.1.1
  go_wp2_with fail
  refine (rints_any [2] [2] p6 _ k6 1 _ (hI6.kept (by repeat' (first | (with_reducible exact Below.refl _ _) | (with_reducible assumption) | (with_reducible refine kept_alloc ?_ _) | (with_reducible refine kept_drewN ?_ _) | (with_reducible refine Below.drew ?_) | (with_reducible refine Below.setCell ?_ (by first | omega | (simp; omega) | (simp; done)) _) | (refine kept_trans ?_ (by with_reducible assumption))))) (hI1 _ 2 (by simp)) (by decide)).mono ?_
  rintro e w11 ⟨rfl, hg11⟩
  have hcs : CellsAt w11 [(w7.heap.size, 0, .int .i64 7), (w7.heap.size, 1, .int .i64 2)] := cells_keep hg11 (by (simp only [CellsAt]; (repeat' (first | exact trivial | (refine And.intro ?_ ?_))); all_goals (first | (focus ((try simp only [World.size_setCell, World.size_alloc]); omega)) | (repeat (first | rfl | assumption | (refine (World.cell?_alloc_past _ _ _ ?_).trans ?_; focus ((try simp only [World.size_setCell, World.size_alloc]); omega)) | (refine (World.cell?_alloc_at _ _ _ _ ?_).trans ?_; focus ((try simp only [World.size_setCell, World.size_alloc]); done)) | (refine (World.cell?_setCell_other _ _ _ _ ?_).trans ?_; focus (simp; done)) | (refine (World.cell?_setCell_other _ _ _ _ ?_).trans ?_; focus (simp; omega)) | (refine World.cell?_setCell_same' _ _ _ ?_; focus (simp; done)))))))
  have hq0 := hcs.1.2; have hq1 := hcs.2.1.2; have hz0 := hcs.1.1
  go_wp2_with fail
  refine (rdsame_any [⟨9, 5⟩] [⟨9, 5⟩] q6 _ j6 1 _ (hR6.kept (by repeat' (first | (with_reducible exact Below.refl _ _) | (with_reducible assumption) | (with_reducible refine kept_alloc ?_ _) | (with_reducible refine kept_drewN ?_ _) | (with_reducible refine Below.drew ?_) | (with_reducible refine Below.setCell ?_ (by first | omega | (simp; omega) | (simp; done)) _) | (refine kept_trans ?_ (by with_reducible assumption))))) (hS1 _ ⟨9, 5⟩ (by first | rfl | simp)) (by decide)).mono ?_
  rintro e w12 ⟨rfl, hg12⟩
  have hcs : CellsAt w12 [(w7.heap.size, 0, .int .i64 7), (w7.heap.size, 1, .int .i64 2)] := cells_keep hg12 (by (simp only [CellsAt]; (repeat' (first | exact trivial | (refine And.intro ?_ ?_))); all_goals (first | (focus ((try simp only [World.size_setCell, World.size_alloc]); omega)) | (repeat (first | rfl | assumption | (refine (World.cell?_alloc_past _ _ _ ?_).trans ?_; focus ((try simp only [World.size_setCell, World.size_alloc]); omega)) | (refine (World.cell?_alloc_at _ _ _ _ ?_).trans ?_; focus ((try simp only [World.size_setCell, World.size_alloc]); done)) | (refine (World.cell?_setCell_other _ _ _ _ ?_).trans ?_; focus (simp; done)) | (refine (World.cell?_setCell_other _ _ _ _ ?_).trans ?_; focus (simp; omega)) | (refine World.cell?_setCell_same' _ _ _ ?_; focus (simp; done)))))))
  have hq0 := hcs.1.2; have hq1 := hcs.2.1.2; have hz0 := hcs.1.1
  go_wp2_with fail
  refine (rdsame_any [⟨9, 5⟩] [⟨9, 5⟩] p8 q6 k8 j6 _ (hS8.kept (by repeat' (first | (with_reducible exact Below.refl _ _) | (with_reducible assumption) | (with_reducible refine kept_alloc ?_ _) | (with_reducible refine kept_drewN ?_ _) | (with_reducible refine Below.drew ?_) | (with_reducible refine Below.setCell ?_ (by first | omega | (simp; omega) | (simp; done)) _) | (refine kept_trans ?_ (by with_reducible assumption))))) (hR6.kept (by repeat' (first | (with_reducible exact Below.refl _ _) | (with_reducible assumption) | (with_reducible refine kept_alloc ?_ _) | (with_reducible refine kept_drewN ?_ _) | (with_reducible refine Below.drew ?_) | (with_reducible refine Below.setCell ?_ (by first | omega | (simp; omega) | (simp; done)) _) | (refine kept_trans ?_ (by with_reducible assumption))))) (by decide)).mono ?_
  rintro e w13 ⟨rfl, hg13⟩
  go_wp2_with fail
  refine (dcheck_val da11 p2 k2 _ (sS2.kept (by repeat' (first | (with_reducible exact Below.refl _ _) | (with_reducible assumption) | (with_reducible refine kept_alloc ?_ _) | (with_reducible refine kept_drewN ?_ _) | (with_reducible refine Below.drew ?_) | (with_reducible refine Below.setCell ?_ (by first | omega | (simp; omega) | (simp; done)) _) | (refine kept_trans ?_ (by with_reducible assumption))))) (by decide)).mono ?_
  rintro e w14 ⟨rfl, hg14⟩
  go_wp2_with fail
  refine (dcheck_val da12 _ 2 _ (hS2x _ ⟨2, 0⟩ ⟨1, 1⟩ (by first | rfl | simp)) (by decide)).mono ?_
  rintro e w15 ⟨rfl, hg15⟩
  go_wp2
  all_goals (go_ret; exact ⟨rfl, by repeat' (first | (with_reducible exact Below.refl _ _) | (with_reducible assumption) | (with_reducible refine kept_alloc ?_ _) | (with_reducible refine kept_drewN ?_ _) | (with_reducible refine Below.drew ?_) | (with_reducible refine Below.setCell ?_ (by first | omega | (simp; omega) | (simp; done)) _) | (refine kept_trans ?_ (by with_reducible assumption)))⟩)

def Du.shape : List (Ck 0) := [.int .i64, .int .i64]
abbrev Du.size : Nat := 2
def Du.ok (d : Du) : Prop := In64 d.tm ∧ In64 d.id
def Du.zero : List Value := [.int .i64 0, .int .i64 0]
theorem Du.of_read {W : World} {vs : List Value} (h : ReadL W Du.shape vs) : ∃ d : Du, vs = d.cells ∧ d.ok := by
  simp only [Du.shape, read_nil, read_cons, read_int, read_bool, read_str] at h
  obtain ⟨_, _, rfl, ⟨a, rfl, h0⟩, _, _, rfl, ⟨b, rfl, h1⟩, rfl⟩ := h
  exact ⟨⟨a, b⟩, rfl, in64_of_wf h0, in64_of_wf h1⟩
end Go.Proofs.Ythlpjlcadcgoeaa
