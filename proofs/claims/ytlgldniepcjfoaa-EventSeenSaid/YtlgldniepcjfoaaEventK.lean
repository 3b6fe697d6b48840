/- Layer 6: Commit, Cancel. -/
import Derived.Test.YtlgldniepcjfoaaEventG
namespace Go.Proofs.Ytlgldniepcjfoaa
set_option linter.unusedVariables false
set_option linter.unusedSimpArgs false
open Go.ChangeShapes Go.WideShapes Go.ChangeAt Go.RowKit

/-- What 'Commit' leaves. -/
def RetCm (w : World) (ep : Int) (r : List Int) (b : Bool) (c : Int) (e : Ending) (w' : World) : Prop :=
  ∃ (p : Option Addr) (k : Nat), e = .returned (.tuple #[.agg #[.int .i64 ep, .slice p r.length k], .bool b, .int .i64 c]) ∧ Ow w' w.heap.size 3 1 intC r (.slice p r.length k) ∧ Kept w w'
theorem lenter_oval' {l r : List Int} {i c : Int} (hr : entL l i = r) (hc : entE l i = c) (p : Option Addr) (k : Nat) (w : World) (hl : Sl w 1 intC l (.slice p l.length k)) (hm : l.length ≤ 999999) :
    Calls Try.prog 19 #[.slice p l.length k, .int .i64 i] w (RetLO w r c) := hr ▸ hc ▸ lenter_own l i p k w hl hm
theorem lleave_oval' {l r : List Int} {i c : Int} (hr : lvL l i = r) (hc : lvE l i = c) (p : Option Addr) (k : Nat) (w : World) (hl : Sl w 1 intC l (.slice p l.length k)) (hm : l.length ≤ 999999) :
    Calls Try.prog 23 #[.slice p l.length k, .int .i64 i] w (RetLO w r c) := hr ▸ hc ▸ lleave_own l i p k w hl hm
set_option maxHeartbeats 4000000 in
theorem ecommit_any (ep : Int) (l : List Int) (s i : Int) (p : Option Addr) (k : Nat) (w : World) (hl : Sl w 1 intC l (.slice p l.length k)) (hm : l.length ≤ 999999) :
    Calls Try.prog 10 #[.agg #[.int .i64 ep, .slice p l.length k], .int .i64 s, .int .i64 i] w (RetCm w ep (cmL ep l s i) (cmB ep l s i) (cmC ep l i)) := by
  have H := Lib.hid hl
  clear hl
  cases hok : okE ep l
  · obtain ⟨e1, e2, e3⟩ := cm_no (s := s) (i := i) hok
    rw [e1, e2, e3]
    have HO := Lib.hid hok
    clear hok e1 e2 e3
    go_enter Try.func10, Try.ntmps10
    go_wp2_with fail
    refine (echeck_val HO.out p k _ (H.out.kept (by repeat' (first | (with_reducible exact Below.refl _ _) | (with_reducible assumption) | (with_reducible refine kept_alloc ?_ _) | (with_reducible refine kept_drewN ?_ _) | (with_reducible refine Below.drew ?_) | (with_reducible refine Below.setCell ?_ (by first | omega | (simp; omega) | (simp; done)) _) | (refine kept_trans ?_ (by with_reducible assumption)))))).mono ?_
    rintro e w1 ⟨rfl, hg1⟩
    have hcs : CellsAt w1 [(w.heap.size, 0, .int .i64 ep), (w.heap.size, 1, .slice p l.length k), (w.heap.size + 1, 0, .int .i64 0), (w.heap.size + 1, 1, .slice none 0 0)] := cells_keep hg1 (by (simp only [CellsAt]; (repeat' (first | exact trivial | (refine And.intro ?_ ?_))); all_goals (first | (focus ((try simp only [World.size_setCell, World.size_alloc]); omega)) | (repeat (first | rfl | assumption | (refine (World.cell?_alloc_past _ _ _ ?_).trans ?_; focus ((try simp only [World.size_setCell, World.size_alloc]); omega)) | (refine (World.cell?_alloc_at _ _ _ _ ?_).trans ?_; focus ((try simp only [World.size_setCell, World.size_alloc]); done)) | (refine (World.cell?_setCell_other _ _ _ _ ?_).trans ?_; focus (simp; done)) | (refine (World.cell?_setCell_other _ _ _ _ ?_).trans ?_; focus (simp; omega)) | (refine World.cell?_setCell_same' _ _ _ ?_; focus (simp; done))))))); have hq0 := hcs.1.2; have hq1 := hcs.2.1.2; have hq2 := hcs.2.2.1.2; have hq3 := hcs.2.2.2.1.2; have hz0 := hcs.1.1; have hz1 := hcs.2.2.1.1; have hfr : ∀ j, w1.frozen? ⟨w.heap.size + 1, j, none⟩ = false := fun j => ((bcell hg1).2 _ _ (by simp)).trans (World.frozen?_alloc_at _ _ _ _ (by simp))
    go_wp2_with fail
    refine (ekept_any ep l p k _ (H.out.kept (by repeat' (first | (with_reducible exact Below.refl _ _) | (with_reducible assumption) | (with_reducible refine kept_alloc ?_ _) | (with_reducible refine kept_drewN ?_ _) | (with_reducible refine Below.drew ?_) | (with_reducible refine Below.setCell ?_ (by first | omega | (simp; omega) | (simp; done)) _) | (refine kept_trans ?_ (by with_reducible assumption))))) hm).mono ?_
    rintro e w2 ⟨p2, k2, rfl, hO2, hg2⟩
    have hfr2 : ∀ j, w2.frozen? ⟨w.heap.size + 1, j, none⟩ = false := fun j => ((bcell hg2).2 _ _ hz1).trans (hfr j); have hz1' : w.heap.size + 1 < w1.heap.size := hz1; have hcs := cells_keep hg2 hcs; clear hq0 hq1 hq2 hq3 hz0 hz1 hfr; have hq0 := hcs.1.2; have hq1 := hcs.2.1.2; have hq2 := hcs.2.2.1.2; have hq3 := hcs.2.2.2.1.2; have hz0 := hcs.1.1; have hz1 := hcs.2.2.1.1
    go_wp2
    refine bodyPost_ret (v := .tuple #[.agg #[.int .i64 ep, .slice p2 l.length k2], .bool false, .int .i64 40]) (by simp [results, Try.results10, go_sem, *]) rfl ?_
    have hB : Below w.heap.size w w2 := by repeat' (first | (with_reducible exact Below.refl _ _) | (with_reducible assumption) | (with_reducible refine kept_alloc ?_ _) | (with_reducible refine kept_drewN ?_ _) | (with_reducible refine Below.drew ?_) | (with_reducible refine Below.setCell ?_ (by first | omega | (simp; omega) | (simp; done)) _) | (refine kept_trans ?_ (by with_reducible assumption)))
    exact ⟨p2, k2, rfl, (Ow.mono ((hO2.setCell (p := ⟨_, _, none⟩) hz1' _).setCell (p := ⟨_, _, none⟩) hz1' _) (by omega)), (((hB).setCell (p := ⟨_, _, none⟩) (Nat.le_succ _) _).setCell (p := ⟨_, _, none⟩) (Nat.le_succ _) _)⟩
  · obtain ⟨e1, e2⟩ := cm_ok (s := s) (i := i) hok
    have HO := Lib.hid hok
    obtain ⟨c, hc⟩ : ∃ c, entE l i = c := ⟨_, rfl⟩
    obtain ⟨r, hr⟩ : ∃ r, entL l i = r := ⟨_, rfl⟩
    have HC := Lib.hid (And.intro hr hc)
    by_cases hc0 : c = 0
    · subst hc0
      have hrl : r = l ++ [i] := by rw [← hr, ent_yes hc]
      cases hes : (ep == s)
      · have hne : (ep != s) = true := by simp at hes ⊢; exact hes
        have hL : cmL ep l s i = l := by unfold cmL; rw [e2, hes, Bool.and_false]; rfl
        rw [e1, e2, hL, hc, hes, Bool.and_false]
        clear hok e1 e2 hL hc hr hrl
        go_enter Try.func10, Try.ntmps10; go_wp2_with fail; refine (echeck_val HO.out p k _ (H.out.kept (by repeat' (first | (with_reducible exact Below.refl _ _) | (with_reducible assumption) | (with_reducible refine kept_alloc ?_ _) | (with_reducible refine kept_drewN ?_ _) | (with_reducible refine Below.drew ?_) | (with_reducible refine Below.setCell ?_ (by first | omega | (simp; omega) | (simp; done)) _) | (refine kept_trans ?_ (by with_reducible assumption)))))).mono ?_; rintro e w1 ⟨rfl, hg1⟩; have hcs : CellsAt w1 [(w.heap.size, 0, .int .i64 ep), (w.heap.size, 1, .slice p l.length k), (w.heap.size + 1, 0, .int .i64 0), (w.heap.size + 1, 1, .slice none 0 0)] := cells_keep hg1 (by (simp only [CellsAt]; (repeat' (first | exact trivial | (refine And.intro ?_ ?_))); all_goals (first | (focus ((try simp only [World.size_setCell, World.size_alloc]); omega)) | (repeat (first | rfl | assumption | (refine (World.cell?_alloc_past _ _ _ ?_).trans ?_; focus ((try simp only [World.size_setCell, World.size_alloc]); omega)) | (refine (World.cell?_alloc_at _ _ _ _ ?_).trans ?_; focus ((try simp only [World.size_setCell, World.size_alloc]); done)) | (refine (World.cell?_setCell_other _ _ _ _ ?_).trans ?_; focus (simp; done)) | (refine (World.cell?_setCell_other _ _ _ _ ?_).trans ?_; focus (simp; omega)) | (refine World.cell?_setCell_same' _ _ _ ?_; focus (simp; done))))))); have hq0 := hcs.1.2; have hq1 := hcs.2.1.2; have hq2 := hcs.2.2.1.2; have hq3 := hcs.2.2.2.1.2; have hz0 := hcs.1.1; have hz1 := hcs.2.2.1.1; have hfr : ∀ j, w1.frozen? ⟨w.heap.size + 1, j, none⟩ = false := fun j => ((bcell hg1).2 _ _ (by simp)).trans (World.frozen?_alloc_at _ _ _ _ (by simp)); go_wp2_with fail; refine (lenter_oval' HC.out.1 HC.out.2 p k _ (H.out.kept (by repeat' (first | (with_reducible exact Below.refl _ _) | (with_reducible assumption) | (with_reducible refine kept_alloc ?_ _) | (with_reducible refine kept_drewN ?_ _) | (with_reducible refine Below.drew ?_) | (with_reducible refine Below.setCell ?_ (by first | omega | (simp; omega) | (simp; done)) _) | (refine kept_trans ?_ (by with_reducible assumption))))) hm).mono ?_; rintro e w2 ⟨p2, k2, rfl, hO2, hg2⟩; have hfr2 : ∀ j, w2.frozen? ⟨w.heap.size + 1, j, none⟩ = false := fun j => ((bcell hg2).2 _ _ hz1).trans (hfr j); have hz1' : w.heap.size + 1 < w1.heap.size := hz1; have hcs := cells_keep hg2 hcs; clear hq0 hq1 hq2 hq3 hz0 hz1 hfr; have hq0 := hcs.1.2; have hq1 := hcs.2.1.2; have hq2 := hcs.2.2.1.2; have hq3 := hcs.2.2.2.1.2; have hz0 := hcs.1.1; have hz1 := hcs.2.2.1.1; have hB2 : Below w.heap.size w w2 := (by repeat' (first | (with_reducible exact Below.refl _ _) | (with_reducible assumption) | (with_reducible refine kept_alloc ?_ _) | (with_reducible refine kept_drewN ?_ _) | (with_reducible refine Below.drew ?_) | (with_reducible refine Below.setCell ?_ (by first | omega | (simp; omega) | (simp; done)) _) | (refine kept_trans ?_ (by with_reducible assumption)))); clear hg1 hg2
        go_wp2_with fail
        refine (ekept_any ep l p k _ (H.out.kept (by repeat' (first | (with_reducible exact Below.refl _ _) | (with_reducible assumption) | (with_reducible refine kept_alloc ?_ _) | (with_reducible refine kept_drewN ?_ _) | (with_reducible refine Below.drew ?_) | (with_reducible refine Below.setCell ?_ (by first | omega | (simp; omega) | (simp; done)) _) | (refine kept_trans ?_ (by with_reducible assumption))))) hm).mono ?_
        rintro e w3 ⟨p3, k3, rfl, hO3, hg3⟩
        have hfr3 : ∀ j, w3.frozen? ⟨w.heap.size + 1, j, none⟩ = false := fun j => ((bcell hg3).2 _ _ hz1).trans (hfr2 j); have hz2' : w.heap.size + 1 < w2.heap.size := hz1; have hcs := cells_keep hg3 hcs; clear hq0 hq1 hq2 hq3 hz0 hz1 hfr2; have hq0 := hcs.1.2; have hq1 := hcs.2.1.2; have hq2 := hcs.2.2.1.2; have hq3 := hcs.2.2.2.1.2; have hz0 := hcs.1.1; have hz1 := hcs.2.2.1.1
        go_wp2
        refine bodyPost_ret (v := .tuple #[.agg #[.int .i64 ep, .slice p3 l.length k3], .bool false, .int .i64 0]) (by simp [results, Try.results10, go_sem, *]) rfl ?_
        have hB : Below w.heap.size w w3 := kept_trans hB2 hg3
        exact ⟨p3, k3, rfl, (Ow.mono ((hO3.setCell (p := ⟨_, _, none⟩) hz2' _).setCell (p := ⟨_, _, none⟩) hz2' _) (by omega)), (((hB).setCell (p := ⟨_, _, none⟩) (Nat.le_succ _) _).setCell (p := ⟨_, _, none⟩) (Nat.le_succ _) _)⟩
      · have hne : (ep != s) = false := by simp at hes ⊢; exact hes
        have hL : cmL ep l s i = r := by unfold cmL; rw [e2, hes, hc, hrl]; rfl
        rw [e1, e2, hL, hc, hes, Bool.and_true, show ((0 : Int) == 0) = true by rfl]
        clear hok e1 e2 hL hc hr hrl
        go_enter Try.func10, Try.ntmps10; go_wp2_with fail; refine (echeck_val HO.out p k _ (H.out.kept (by repeat' (first | (with_reducible exact Below.refl _ _) | (with_reducible assumption) | (with_reducible refine kept_alloc ?_ _) | (with_reducible refine kept_drewN ?_ _) | (with_reducible refine Below.drew ?_) | (with_reducible refine Below.setCell ?_ (by first | omega | (simp; omega) | (simp; done)) _) | (refine kept_trans ?_ (by with_reducible assumption)))))).mono ?_; rintro e w1 ⟨rfl, hg1⟩; have hcs : CellsAt w1 [(w.heap.size, 0, .int .i64 ep), (w.heap.size, 1, .slice p l.length k), (w.heap.size + 1, 0, .int .i64 0), (w.heap.size + 1, 1, .slice none 0 0)] := cells_keep hg1 (by (simp only [CellsAt]; (repeat' (first | exact trivial | (refine And.intro ?_ ?_))); all_goals (first | (focus ((try simp only [World.size_setCell, World.size_alloc]); omega)) | (repeat (first | rfl | assumption | (refine (World.cell?_alloc_past _ _ _ ?_).trans ?_; focus ((try simp only [World.size_setCell, World.size_alloc]); omega)) | (refine (World.cell?_alloc_at _ _ _ _ ?_).trans ?_; focus ((try simp only [World.size_setCell, World.size_alloc]); done)) | (refine (World.cell?_setCell_other _ _ _ _ ?_).trans ?_; focus (simp; done)) | (refine (World.cell?_setCell_other _ _ _ _ ?_).trans ?_; focus (simp; omega)) | (refine World.cell?_setCell_same' _ _ _ ?_; focus (simp; done))))))); have hq0 := hcs.1.2; have hq1 := hcs.2.1.2; have hq2 := hcs.2.2.1.2; have hq3 := hcs.2.2.2.1.2; have hz0 := hcs.1.1; have hz1 := hcs.2.2.1.1; have hfr : ∀ j, w1.frozen? ⟨w.heap.size + 1, j, none⟩ = false := fun j => ((bcell hg1).2 _ _ (by simp)).trans (World.frozen?_alloc_at _ _ _ _ (by simp)); go_wp2_with fail; refine (lenter_oval' HC.out.1 HC.out.2 p k _ (H.out.kept (by repeat' (first | (with_reducible exact Below.refl _ _) | (with_reducible assumption) | (with_reducible refine kept_alloc ?_ _) | (with_reducible refine kept_drewN ?_ _) | (with_reducible refine Below.drew ?_) | (with_reducible refine Below.setCell ?_ (by first | omega | (simp; omega) | (simp; done)) _) | (refine kept_trans ?_ (by with_reducible assumption))))) hm).mono ?_; rintro e w2 ⟨p2, k2, rfl, hO2, hg2⟩; have hfr2 : ∀ j, w2.frozen? ⟨w.heap.size + 1, j, none⟩ = false := fun j => ((bcell hg2).2 _ _ hz1).trans (hfr j); have hz1' : w.heap.size + 1 < w1.heap.size := hz1; have hcs := cells_keep hg2 hcs; clear hq0 hq1 hq2 hq3 hz0 hz1 hfr; have hq0 := hcs.1.2; have hq1 := hcs.2.1.2; have hq2 := hcs.2.2.1.2; have hq3 := hcs.2.2.2.1.2; have hz0 := hcs.1.1; have hz1 := hcs.2.2.1.1; have hB2 : Below w.heap.size w w2 := (by repeat' (first | (with_reducible exact Below.refl _ _) | (with_reducible assumption) | (with_reducible refine kept_alloc ?_ _) | (with_reducible refine kept_drewN ?_ _) | (with_reducible refine Below.drew ?_) | (with_reducible refine Below.setCell ?_ (by first | omega | (simp; omega) | (simp; done)) _) | (refine kept_trans ?_ (by with_reducible assumption)))); clear hg1 hg2
        go_wp2
        refine bodyPost_ret (v := .tuple #[.agg #[.int .i64 ep, .slice p2 r.length k2], .bool true, .int .i64 0]) (by simp [results, Try.results10, go_sem, *]) rfl ?_
        exact ⟨p2, k2, rfl, (Ow.mono ((hO2.setCell (p := ⟨_, _, none⟩) hz1' _).setCell (p := ⟨_, _, none⟩) hz1' _) (by omega)), (((hB2).setCell (p := ⟨_, _, none⟩) (Nat.le_succ _) _).setCell (p := ⟨_, _, none⟩) (Nat.le_succ _) _)⟩
    · have hcn : (c != 0) = true := by simpa using hc0
      have hcb : (c == 0) = false := by simpa using hc0
      have hL : cmL ep l s i = l := by unfold cmL; rw [e2, hc, hcb]; rfl
      rw [e1, e2, hL, hc, hcb, Bool.false_and]
      clear hok e1 e2 hL hc hr
      go_enter Try.func10, Try.ntmps10; go_wp2_with fail; refine (echeck_val HO.out p k _ (H.out.kept (by repeat' (first | (with_reducible exact Below.refl _ _) | (with_reducible assumption) | (with_reducible refine kept_alloc ?_ _) | (with_reducible refine kept_drewN ?_ _) | (with_reducible refine Below.drew ?_) | (with_reducible refine Below.setCell ?_ (by first | omega | (simp; omega) | (simp; done)) _) | (refine kept_trans ?_ (by with_reducible assumption)))))).mono ?_; rintro e w1 ⟨rfl, hg1⟩; have hcs : CellsAt w1 [(w.heap.size, 0, .int .i64 ep), (w.heap.size, 1, .slice p l.length k), (w.heap.size + 1, 0, .int .i64 0), (w.heap.size + 1, 1, .slice none 0 0)] := cells_keep hg1 (by (simp only [CellsAt]; (repeat' (first | exact trivial | (refine And.intro ?_ ?_))); all_goals (first | (focus ((try simp only [World.size_setCell, World.size_alloc]); omega)) | (repeat (first | rfl | assumption | (refine (World.cell?_alloc_past _ _ _ ?_).trans ?_; focus ((try simp only [World.size_setCell, World.size_alloc]); omega)) | (refine (World.cell?_alloc_at _ _ _ _ ?_).trans ?_; focus ((try simp only [World.size_setCell, World.size_alloc]); done)) | (refine (World.cell?_setCell_other _ _ _ _ ?_).trans ?_; focus (simp; done)) | (refine (World.cell?_setCell_other _ _ _ _ ?_).trans ?_; focus (simp; omega)) | (refine World.cell?_setCell_same' _ _ _ ?_; focus (simp; done))))))); have hq0 := hcs.1.2; have hq1 := hcs.2.1.2; have hq2 := hcs.2.2.1.2; have hq3 := hcs.2.2.2.1.2; have hz0 := hcs.1.1; have hz1 := hcs.2.2.1.1; have hfr : ∀ j, w1.frozen? ⟨w.heap.size + 1, j, none⟩ = false := fun j => ((bcell hg1).2 _ _ (by simp)).trans (World.frozen?_alloc_at _ _ _ _ (by simp)); go_wp2_with fail; refine (lenter_oval' HC.out.1 HC.out.2 p k _ (H.out.kept (by repeat' (first | (with_reducible exact Below.refl _ _) | (with_reducible assumption) | (with_reducible refine kept_alloc ?_ _) | (with_reducible refine kept_drewN ?_ _) | (with_reducible refine Below.drew ?_) | (with_reducible refine Below.setCell ?_ (by first | omega | (simp; omega) | (simp; done)) _) | (refine kept_trans ?_ (by with_reducible assumption))))) hm).mono ?_; rintro e w2 ⟨p2, k2, rfl, hO2, hg2⟩; have hfr2 : ∀ j, w2.frozen? ⟨w.heap.size + 1, j, none⟩ = false := fun j => ((bcell hg2).2 _ _ hz1).trans (hfr j); have hz1' : w.heap.size + 1 < w1.heap.size := hz1; have hcs := cells_keep hg2 hcs; clear hq0 hq1 hq2 hq3 hz0 hz1 hfr; have hq0 := hcs.1.2; have hq1 := hcs.2.1.2; have hq2 := hcs.2.2.1.2; have hq3 := hcs.2.2.2.1.2; have hz0 := hcs.1.1; have hz1 := hcs.2.2.1.1; have hB2 : Below w.heap.size w w2 := (by repeat' (first | (with_reducible exact Below.refl _ _) | (with_reducible assumption) | (with_reducible refine kept_alloc ?_ _) | (with_reducible refine kept_drewN ?_ _) | (with_reducible refine Below.drew ?_) | (with_reducible refine Below.setCell ?_ (by first | omega | (simp; omega) | (simp; done)) _) | (refine kept_trans ?_ (by with_reducible assumption)))); clear hg1 hg2
      go_wp2_with fail
      refine (ekept_any ep l p k _ (H.out.kept (by repeat' (first | (with_reducible exact Below.refl _ _) | (with_reducible assumption) | (with_reducible refine kept_alloc ?_ _) | (with_reducible refine kept_drewN ?_ _) | (with_reducible refine Below.drew ?_) | (with_reducible refine Below.setCell ?_ (by first | omega | (simp; omega) | (simp; done)) _) | (refine kept_trans ?_ (by with_reducible assumption))))) hm).mono ?_
      rintro e w3 ⟨p3, k3, rfl, hO3, hg3⟩
      have hfr3 : ∀ j, w3.frozen? ⟨w.heap.size + 1, j, none⟩ = false := fun j => ((bcell hg3).2 _ _ hz1).trans (hfr2 j); have hz2' : w.heap.size + 1 < w2.heap.size := hz1; have hcs := cells_keep hg3 hcs; clear hq0 hq1 hq2 hq3 hz0 hz1 hfr2; have hq0 := hcs.1.2; have hq1 := hcs.2.1.2; have hq2 := hcs.2.2.1.2; have hq3 := hcs.2.2.2.1.2; have hz0 := hcs.1.1; have hz1 := hcs.2.2.1.1
      go_wp2
      refine bodyPost_ret (v := .tuple #[.agg #[.int .i64 ep, .slice p3 l.length k3], .bool false, .int .i64 c]) (by simp [results, Try.results10, go_sem, *]) rfl ?_
      have hB : Below w.heap.size w w3 := kept_trans hB2 hg3
      exact ⟨p3, k3, rfl, (Ow.mono ((hO3.setCell (p := ⟨_, _, none⟩) hz2' _).setCell (p := ⟨_, _, none⟩) hz2' _) (by omega)), (((hB).setCell (p := ⟨_, _, none⟩) (Nat.le_succ _) _).setCell (p := ⟨_, _, none⟩) (Nat.le_succ _) _)⟩

/-- What 'Cancel' leaves. -/
def RetCn (w : World) (ep : Int) (r : List Int) (b : Bool) (e : Ending) (w' : World) : Prop :=
  ∃ (p : Option Addr) (k : Nat), e = .returned (.tuple #[.agg #[.int .i64 ep, .slice p r.length k], .bool b]) ∧ Ow w' w.heap.size 3 1 intC r (.slice p r.length k) ∧ Kept w w'
set_option maxHeartbeats 4000000 in
theorem ecancel_any (ep : Int) (l : List Int) (i : Int) (p : Option Addr) (k : Nat) (w : World) (hl : Sl w 1 intC l (.slice p l.length k)) (hm : l.length ≤ 999999) :
    Calls Try.prog 15 #[.agg #[.int .i64 ep, .slice p l.length k], .int .i64 i] w (RetCn w ep (cnL ep l i) (cnB ep l i)) := by
  have H := Lib.hid hl
  clear hl
  cases hok : okE ep l
  · have e1 : cnL ep l i = l := by simp [cnL, hok]
    have e2 : cnB ep l i = false := by simp [cnB, hok]
    rw [e1, e2]
    have HO := Lib.hid hok
    clear hok e1 e2
    go_enter Try.func15, Try.ntmps15
    go_wp2_with fail
    refine (echeck_val HO.out p k _ (H.out.kept (by repeat' (first | (with_reducible exact Below.refl _ _) | (with_reducible assumption) | (with_reducible refine kept_alloc ?_ _) | (with_reducible refine kept_drewN ?_ _) | (with_reducible refine Below.drew ?_) | (with_reducible refine Below.setCell ?_ (by first | omega | (simp; omega) | (simp; done)) _) | (refine kept_trans ?_ (by with_reducible assumption)))))).mono ?_
    rintro e w1 ⟨rfl, hg1⟩
    have hcs : CellsAt w1 [(w.heap.size, 0, .int .i64 ep), (w.heap.size, 1, .slice p l.length k), (w.heap.size + 1, 0, .int .i64 0), (w.heap.size + 1, 1, .slice none 0 0)] := cells_keep hg1 (by (simp only [CellsAt]; (repeat' (first | exact trivial | (refine And.intro ?_ ?_))); all_goals (first | (focus ((try simp only [World.size_setCell, World.size_alloc]); omega)) | (repeat (first | rfl | assumption | (refine (World.cell?_alloc_past _ _ _ ?_).trans ?_; focus ((try simp only [World.size_setCell, World.size_alloc]); omega)) | (refine (World.cell?_alloc_at _ _ _ _ ?_).trans ?_; focus ((try simp only [World.size_setCell, World.size_alloc]); done)) | (refine (World.cell?_setCell_other _ _ _ _ ?_).trans ?_; focus (simp; done)) | (refine (World.cell?_setCell_other _ _ _ _ ?_).trans ?_; focus (simp; omega)) | (refine World.cell?_setCell_same' _ _ _ ?_; focus (simp; done))))))); have hq0 := hcs.1.2; have hq1 := hcs.2.1.2; have hq2 := hcs.2.2.1.2; have hq3 := hcs.2.2.2.1.2; have hz0 := hcs.1.1; have hz1 := hcs.2.2.1.1; have hfr : ∀ j, w1.frozen? ⟨w.heap.size + 1, j, none⟩ = false := fun j => ((bcell hg1).2 _ _ (by simp)).trans (World.frozen?_alloc_at _ _ _ _ (by simp))
    go_wp2_with fail
    refine (ekept_any ep l p k _ (H.out.kept (by repeat' (first | (with_reducible exact Below.refl _ _) | (with_reducible assumption) | (with_reducible refine kept_alloc ?_ _) | (with_reducible refine kept_drewN ?_ _) | (with_reducible refine Below.drew ?_) | (with_reducible refine Below.setCell ?_ (by first | omega | (simp; omega) | (simp; done)) _) | (refine kept_trans ?_ (by with_reducible assumption))))) hm).mono ?_
    rintro e w2 ⟨p2, k2, rfl, hO2, hg2⟩
    have hfr2 : ∀ j, w2.frozen? ⟨w.heap.size + 1, j, none⟩ = false := fun j => ((bcell hg2).2 _ _ hz1).trans (hfr j); have hz1' : w.heap.size + 1 < w1.heap.size := hz1; have hcs := cells_keep hg2 hcs; clear hq0 hq1 hq2 hq3 hz0 hz1 hfr; have hq0 := hcs.1.2; have hq1 := hcs.2.1.2; have hq2 := hcs.2.2.1.2; have hq3 := hcs.2.2.2.1.2; have hz0 := hcs.1.1; have hz1 := hcs.2.2.1.1
    go_wp2
    refine bodyPost_ret (v := .tuple #[.agg #[.int .i64 ep, .slice p2 l.length k2], .bool false]) (by simp [results, Try.results15, go_sem, *]) rfl ?_
    have hB : Below w.heap.size w w2 := by repeat' (first | (with_reducible exact Below.refl _ _) | (with_reducible assumption) | (with_reducible refine kept_alloc ?_ _) | (with_reducible refine kept_drewN ?_ _) | (with_reducible refine Below.drew ?_) | (with_reducible refine Below.setCell ?_ (by first | omega | (simp; omega) | (simp; done)) _) | (refine kept_trans ?_ (by with_reducible assumption)))
    exact ⟨p2, k2, rfl, (Ow.mono ((hO2.setCell (p := ⟨_, _, none⟩) hz1' _).setCell (p := ⟨_, _, none⟩) hz1' _) (by omega)), (((hB).setCell (p := ⟨_, _, none⟩) (Nat.le_succ _) _).setCell (p := ⟨_, _, none⟩) (Nat.le_succ _) _)⟩
  · have e1 : cnL ep l i = lvL l i := by simp [cnL, hok]
    have e2 : cnB ep l i = (lvE l i == 0) := by simp [cnB, hok]
    have HO := Lib.hid hok
    obtain ⟨c, hc⟩ : ∃ c, lvE l i = c := ⟨_, rfl⟩
    obtain ⟨r, hr⟩ : ∃ r, lvL l i = r := ⟨_, rfl⟩
    rw [e1, e2, hc, hr]
    have HC := Lib.hid (And.intro hr hc)
    clear hok e1 e2 hc hr
    go_enter Try.func15, Try.ntmps15
    go_wp2_with fail
    refine (echeck_val HO.out p k _ (H.out.kept (by repeat' (first | (with_reducible exact Below.refl _ _) | (with_reducible assumption) | (with_reducible refine kept_alloc ?_ _) | (with_reducible refine kept_drewN ?_ _) | (with_reducible refine Below.drew ?_) | (with_reducible refine Below.setCell ?_ (by first | omega | (simp; omega) | (simp; done)) _) | (refine kept_trans ?_ (by with_reducible assumption)))))).mono ?_
    rintro e w1 ⟨rfl, hg1⟩
    have hcs : CellsAt w1 [(w.heap.size, 0, .int .i64 ep), (w.heap.size, 1, .slice p l.length k), (w.heap.size + 1, 0, .int .i64 0), (w.heap.size + 1, 1, .slice none 0 0)] := cells_keep hg1 (by (simp only [CellsAt]; (repeat' (first | exact trivial | (refine And.intro ?_ ?_))); all_goals (first | (focus ((try simp only [World.size_setCell, World.size_alloc]); omega)) | (repeat (first | rfl | assumption | (refine (World.cell?_alloc_past _ _ _ ?_).trans ?_; focus ((try simp only [World.size_setCell, World.size_alloc]); omega)) | (refine (World.cell?_alloc_at _ _ _ _ ?_).trans ?_; focus ((try simp only [World.size_setCell, World.size_alloc]); done)) | (refine (World.cell?_setCell_other _ _ _ _ ?_).trans ?_; focus (simp; done)) | (refine (World.cell?_setCell_other _ _ _ _ ?_).trans ?_; focus (simp; omega)) | (refine World.cell?_setCell_same' _ _ _ ?_; focus (simp; done))))))); have hq0 := hcs.1.2; have hq1 := hcs.2.1.2; have hq2 := hcs.2.2.1.2; have hq3 := hcs.2.2.2.1.2; have hz0 := hcs.1.1; have hz1 := hcs.2.2.1.1; have hfr : ∀ j, w1.frozen? ⟨w.heap.size + 1, j, none⟩ = false := fun j => ((bcell hg1).2 _ _ (by simp)).trans (World.frozen?_alloc_at _ _ _ _ (by simp))
    go_wp2_with fail
    refine (lleave_oval' HC.out.1 HC.out.2 p k _ (H.out.kept (by repeat' (first | (with_reducible exact Below.refl _ _) | (with_reducible assumption) | (with_reducible refine kept_alloc ?_ _) | (with_reducible refine kept_drewN ?_ _) | (with_reducible refine Below.drew ?_) | (with_reducible refine Below.setCell ?_ (by first | omega | (simp; omega) | (simp; done)) _) | (refine kept_trans ?_ (by with_reducible assumption))))) hm).mono ?_
    rintro e w2 ⟨p2, k2, rfl, hO2, hg2⟩
    have hfr2 : ∀ j, w2.frozen? ⟨w.heap.size + 1, j, none⟩ = false := fun j => ((bcell hg2).2 _ _ hz1).trans (hfr j); have hz1' : w.heap.size + 1 < w1.heap.size := hz1; have hcs := cells_keep hg2 hcs; clear hq0 hq1 hq2 hq3 hz0 hz1 hfr; have hq0 := hcs.1.2; have hq1 := hcs.2.1.2; have hq2 := hcs.2.2.1.2; have hq3 := hcs.2.2.2.1.2; have hz0 := hcs.1.1; have hz1 := hcs.2.2.1.1
    go_wp2
    refine bodyPost_ret (v := .tuple #[.agg #[.int .i64 ep, .slice p2 r.length k2], .bool (c == 0)]) (by simp [results, Try.results15, go_sem, *]) rfl ?_
    have hB : Below w.heap.size w w2 := by repeat' (first | (with_reducible exact Below.refl _ _) | (with_reducible assumption) | (with_reducible refine kept_alloc ?_ _) | (with_reducible refine kept_drewN ?_ _) | (with_reducible refine Below.drew ?_) | (with_reducible refine Below.setCell ?_ (by first | omega | (simp; omega) | (simp; done)) _) | (refine kept_trans ?_ (by with_reducible assumption)))
    exact ⟨p2, k2, rfl, (Ow.mono ((hO2.setCell (p := ⟨_, _, none⟩) hz1' _).setCell (p := ⟨_, _, none⟩) hz1' _) (by omega)), (((hB).setCell (p := ⟨_, _, none⟩) (Nat.le_succ _) _).setCell (p := ⟨_, _, none⟩) (Nat.le_succ _) _)⟩
end Go.Proofs.Ytlgldniepcjfoaa
