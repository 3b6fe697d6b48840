/- Layer 6: a notice: for so many at most; Notify, NotifyAll. -/
import Derived.Test.YtlgldniepcjfoaaEventH
namespace Go.Proofs.Ytlgldniepcjfoaa
set_option linter.unusedVariables false
set_option linter.unusedSimpArgs false
open Go.ChangeShapes Go.WideShapes Go.ChangeAt Go.RowKit

/-- What a call that hands back an event and a list leaves. -/
def RetEL (w : World) (ep : Int) (r t : List Int) (e : Ending) (w' : World) : Prop :=
  ∃ (p q : Option Addr) (k k' : Nat), e = .returned (.tuple #[.agg #[.int .i64 ep, .slice p r.length k], .slice q t.length k']) ∧ Ow w' w.heap.size 3 1 intC r (.slice p r.length k) ∧ Ow w' w.heap.size 3 1 intC t (.slice q t.length k') ∧ Kept w w'
theorem ntE_ok {ep : Int} {l : List Int} (h : okE ep l = true) (m : Nat) : ntE ep l = nxE ep ∧ ntL m ep l = l.drop m ∧ ntT m ep l = l.take m := by simp [ntE, ntL, ntT, h]
theorem ntE_no {ep : Int} {l : List Int} (h : okE ep l = false) (m : Nat) : ntE ep l = ep ∧ ntL m ep l = l ∧ ntT m ep l = [] := by simp [ntE, ntL, ntT, h]
set_option maxHeartbeats 4000000 in
theorem enotice_any (ep : Int) (l : List Int) (m : Nat) (p : Option Addr) (k : Nat) (w : World) (lb : Array Value) (hl : Sl w 1 intC l (.slice p l.length k)) (hm : l.length ≤ 999999) (hmm : m ≤ 999999) (hT : Tells 31 lb (fun x => decide (x < (m : Int))) w) :
    Calls Try.prog 20 #[.agg #[.int .i64 ep, .slice p l.length k], .func (.func 31) #[] lb] w (RetEL w (ntE ep l) (ntL m ep l) (ntT m ep l)) := by
  have H := Lib.hid hl
  have HT := Lib.hid hT
  clear hl hT
  cases hok : okE ep l
  · obtain ⟨e1, e2, e3⟩ := ntE_no hok m
    rw [e1, e2, e3]
    have HO := Lib.hid hok
    clear hok e1 e2 e3
    go_enter Try.func20, Try.ntmps20
    go_wp2_with fail
    refine (echeck_val HO.out p k _ (H.out.kept (by repeat' (first | (with_reducible exact Below.refl _ _) | (with_reducible assumption) | (with_reducible refine kept_alloc ?_ _) | (with_reducible refine kept_drewN ?_ _) | (with_reducible refine Below.drew ?_) | (with_reducible refine Below.setCell ?_ (by first | omega | (simp; omega) | (simp; done)) _) | (refine kept_trans ?_ (by with_reducible assumption)))))).mono ?_
    rintro e w1 ⟨rfl, hg1⟩
    have hcs : CellsAt w1 [(w.heap.size, 0, .int .i64 ep), (w.heap.size, 1, .slice p l.length k), (w.heap.size + 1, 0, .int .i64 0), (w.heap.size + 1, 1, .slice none 0 0)] := cells_keep hg1 (by (simp only [CellsAt]; (repeat' (first | exact trivial | (refine And.intro ?_ ?_))); all_goals (first | (focus ((try simp only [World.size_setCell, World.size_alloc]); omega)) | (repeat (first | rfl | assumption | (refine (World.cell?_alloc_past _ _ _ ?_).trans ?_; focus ((try simp only [World.size_setCell, World.size_alloc]); omega)) | (refine (World.cell?_alloc_at _ _ _ _ ?_).trans ?_; focus ((try simp only [World.size_setCell, World.size_alloc]); done)) | (refine (World.cell?_setCell_other _ _ _ _ ?_).trans ?_; focus (simp; done)) | (refine (World.cell?_setCell_other _ _ _ _ ?_).trans ?_; focus (simp; omega)) | (refine World.cell?_setCell_same' _ _ _ ?_; focus (simp; done)))))))
    have hq0 := hcs.1.2; have hq1 := hcs.2.1.2; have hq2 := hcs.2.2.1.2; have hq3 := hcs.2.2.2.1.2; have hz0 := hcs.1.1; have hz1 := hcs.2.2.1.1
    have hfr : ∀ j, w1.frozen? ⟨w.heap.size + 1, j, none⟩ = false := fun j => ((bcell hg1).2 _ _ (by simp)).trans (World.frozen?_alloc_at _ _ _ _ (by simp))
    go_wp2_with fail
    refine (ekept_any ep l p k _ (H.out.kept (by repeat' (first | (with_reducible exact Below.refl _ _) | (with_reducible assumption) | (with_reducible refine kept_alloc ?_ _) | (with_reducible refine kept_drewN ?_ _) | (with_reducible refine Below.drew ?_) | (with_reducible refine Below.setCell ?_ (by first | omega | (simp; omega) | (simp; done)) _) | (refine kept_trans ?_ (by with_reducible assumption))))) hm).mono ?_
    rintro e w2 ⟨p2, k2, rfl, hO2, hg2⟩
    have hfr2 : ∀ j, w2.frozen? ⟨w.heap.size + 1, j, none⟩ = false := fun j => ((bcell hg2).2 _ _ hz1).trans (hfr j)
    have hz1' : w.heap.size + 1 < w1.heap.size := hz1
    have hcs := cells_keep hg2 hcs
    clear hq0 hq1 hq2 hq3 hz0 hz1
    have hq0 := hcs.1.2; have hq1 := hcs.2.1.2; have hq2 := hcs.2.2.1.2; have hq3 := hcs.2.2.2.1.2; have hz0 := hcs.1.1; have hz1 := hcs.2.2.1.1
    go_wp2
    refine bodyPost_ret (v := .tuple #[.agg #[.int .i64 ep, .slice p2 l.length k2], .slice none 0 0]) (by simp [results, Try.results20, go_sem, *]) rfl ?_
    have hB : Below w.heap.size w w2 := by repeat' (first | (with_reducible exact Below.refl _ _) | (with_reducible assumption) | (with_reducible refine kept_alloc ?_ _) | (with_reducible refine kept_drewN ?_ _) | (with_reducible refine Below.drew ?_) | (with_reducible refine Below.setCell ?_ (by first | omega | (simp; omega) | (simp; done)) _) | (refine kept_trans ?_ (by with_reducible assumption)))
    exact ⟨p2, none, k2, 0, rfl, Ow.mono ((hO2.setCell (p := ⟨_, _, none⟩) hz1' _).setCell (p := ⟨_, _, none⟩) hz1' _) (by omega), owi_nil, (hB.setCell (p := ⟨_, _, none⟩) (Nat.le_succ _) _).setCell (p := ⟨_, _, none⟩) (Nat.le_succ _) _⟩
  · obtain ⟨e1, e2, e3⟩ := ntE_ok hok m
    rw [e1, e2, e3]
    have hlo := okE_ln hok
    have hb := (okE_iff.1 hok).1
    have HO := Lib.hid hok
    have HLO := Lib.hid hlo
    clear hok hlo e1 e2 e3
    have i1 : IntKind.i64.wrap (ep + 1) = ep + 1 := IntWalk.i64_in _ (by omega)
    go_enter Try.func20, Try.ntmps20
    go_wp2_with fail
    refine (echeck_val HO.out p k _ (H.out.kept (by repeat' (first | (with_reducible exact Below.refl _ _) | (with_reducible assumption) | (with_reducible refine kept_alloc ?_ _) | (with_reducible refine kept_drewN ?_ _) | (with_reducible refine Below.drew ?_) | (with_reducible refine Below.setCell ?_ (by first | omega | (simp; omega) | (simp; done)) _) | (refine kept_trans ?_ (by with_reducible assumption)))))).mono ?_
    rintro e w1 ⟨rfl, hg1⟩
    have hcs : CellsAt w1 [(w.heap.size, 0, .int .i64 ep), (w.heap.size, 1, .slice p l.length k), (w.heap.size + 1, 0, .int .i64 0), (w.heap.size + 1, 1, .slice none 0 0)] := cells_keep hg1 (by (simp only [CellsAt]; (repeat' (first | exact trivial | (refine And.intro ?_ ?_))); all_goals (first | (focus ((try simp only [World.size_setCell, World.size_alloc]); omega)) | (repeat (first | rfl | assumption | (refine (World.cell?_alloc_past _ _ _ ?_).trans ?_; focus ((try simp only [World.size_setCell, World.size_alloc]); omega)) | (refine (World.cell?_alloc_at _ _ _ _ ?_).trans ?_; focus ((try simp only [World.size_setCell, World.size_alloc]); done)) | (refine (World.cell?_setCell_other _ _ _ _ ?_).trans ?_; focus (simp; done)) | (refine (World.cell?_setCell_other _ _ _ _ ?_).trans ?_; focus (simp; omega)) | (refine World.cell?_setCell_same' _ _ _ ?_; focus (simp; done)))))))
    have hq0 := hcs.1.2; have hq1 := hcs.2.1.2; have hq2 := hcs.2.2.1.2; have hq3 := hcs.2.2.2.1.2; have hz0 := hcs.1.1; have hz1 := hcs.2.2.1.1
    have hfr : ∀ j, w1.frozen? ⟨w.heap.size + 1, j, none⟩ = false := fun j => ((bcell hg1).2 _ _ (by simp)).trans (World.frozen?_alloc_at _ _ _ _ (by simp))
    go_wp2_with fail
    refine (ekept_any ep l p k _ (H.out.kept (by repeat' (first | (with_reducible exact Below.refl _ _) | (with_reducible assumption) | (with_reducible refine kept_alloc ?_ _) | (with_reducible refine kept_drewN ?_ _) | (with_reducible refine Below.drew ?_) | (with_reducible refine Below.setCell ?_ (by first | omega | (simp; omega) | (simp; done)) _) | (refine kept_trans ?_ (by with_reducible assumption))))) hm).mono ?_
    rintro e w2 ⟨p2, k2, rfl, hO2, hg2⟩
    have hfr2 : ∀ j, w2.frozen? ⟨w.heap.size + 1, j, none⟩ = false := fun j => ((bcell hg2).2 _ _ hz1).trans (hfr j)
    have hB2 : Below w.heap.size w w2 := by repeat' (first | (with_reducible exact Below.refl _ _) | (with_reducible assumption) | (with_reducible refine kept_alloc ?_ _) | (with_reducible refine kept_drewN ?_ _) | (with_reducible refine Below.drew ?_) | (with_reducible refine Below.setCell ?_ (by first | omega | (simp; omega) | (simp; done)) _) | (refine kept_trans ?_ (by with_reducible assumption)))
    have HS2 := Lib.hid hO2
    have hw1 : w.heap.size + 1 < w1.heap.size := hz1
    have hw12 := hg2.size
    have hcs := cells_keep hg2 hcs
    clear hq0 hq1 hq2 hq3 hz0 hz1 hO2 hg1 hg2
    have hq0 := hcs.1.2; have hq1 := hcs.2.1.2; have hq2 := hcs.2.2.1.2; have hq3 := hcs.2.2.2.1.2; have hz0 := hcs.1.1; have hz1 := hcs.2.2.1.1
    have HC2 := Lib.hid hcs
    clear hcs
    have hfd : ∀ W : World, (Instr.field 24 (.agg #[.int .i64 ep, .slice p2 l.length k2]) 1).run Try.prog W = .ok (.slice p2 l.length k2) W := fun _ => (by kernel_rfl)
    go_wp2_with fail
    obtain ⟨V, hV⟩ : ∃ V, w2.alloc (.cells #[.slice p2 l.length k2] 53) = V := ⟨_, rfl⟩
    have v1 : V.cell? ⟨w2.heap.size, 0, none⟩ = some (.slice p2 l.length k2) := by rw [← hV]; simp
    have v2 : V.frozen? ⟨w2.heap.size, 0, none⟩ = false := by rw [← hV]; exact World.frozen?_alloc_at _ _ _ _ (by simp)
    have v3 : w2.heap.size < V.heap.size := by rw [← hV]; simp
    have v4 : Below w2.heap.size w2 V := by rw [← hV]; repeat' (first | (with_reducible exact Below.refl _ _) | (with_reducible assumption) | (with_reducible refine kept_alloc ?_ _) | (with_reducible refine kept_drewN ?_ _) | (with_reducible refine Below.drew ?_) | (with_reducible refine Below.setCell ?_ (by first | omega | (simp; omega) | (simp; done)) _) | (refine kept_trans ?_ (by with_reducible assumption)))
    have hB3 : Below w.heap.size w V := kept_trans hB2 v4
    rw [hV]
    clear hV
    refine (etaken_any w1.heap.size l m w2.heap.size p2 k2 V w lb v3 v1 v2 (HS2.out.kept v4) (by omega) HLO.out hm hmm HT.out hB3 hB2.size).mono ?_
    rintro e w4 ⟨pt, p4, kt, k4, rfl, hO4, hS4, c4, hg4⟩
    have hv4 : Below w2.heap.size w2 w4 := v4.trans hg4
    have hcs := cells_keep hv4 HC2.out
    have hfr4 : ∀ j, w4.frozen? ⟨w.heap.size + 1, j, none⟩ = false := fun j => ((bcell hv4).2 _ _ hz1).trans (hfr2 j)
    have hB4 : Below w.heap.size w w4 := kept_trans hB2 hv4
    have hz2 : w2.heap.size < w4.heap.size := Nat.lt_of_lt_of_le v3 hg4.size
    have HX := Lib.hid (And.intro hO4 (And.intro hS4 hB4))
    clear hq0 hq1 hq2 hq3 v1 v2 v4 hg4 hO4 hS4 hB4 hfr2 hfr hfd
    have hz1' : w.heap.size + 1 < w2.heap.size := hz1
    clear hz0 hz1
    have hq0 := hcs.1.2; have hq1 := hcs.2.1.2; have hq2 := hcs.2.2.1.2; have hq3 := hcs.2.2.2.1.2; have hz0 := hcs.1.1; have hz1 := hcs.2.2.1.1
    clear hcs
    go_wp2
    have hv3 : w.heap.size + 1 < V.heap.size := by omega
    have htk : (l.take m).length = min m l.length := List.length_take
    have hdk : (l.drop m).length = l.length - m := List.length_drop
    rw [← htk, ← hdk, ← nxE_min]
    refine bodyPost_ret (v := .tuple #[.agg #[.int .i64 (nxE ep), .slice p4 (l.drop m).length k4], .slice pt (l.take m).length kt]) (by simp [results, Try.results20, go_sem, *]) rfl ?_
    exact ⟨p4, pt, k4, kt, rfl, Ow.mono ((HX.out.2.1.setCell (p := ⟨_, _, none⟩) hw1 _).setCell (p := ⟨_, _, none⟩) hw1 _) (by omega), Ow.mono ((HX.out.1.setCell (p := ⟨_, _, none⟩) hv3 _).setCell (p := ⟨_, _, none⟩) hv3 _) (by omega), (HX.out.2.2.setCell (p := ⟨_, _, none⟩) (Nat.le_succ _) _).setCell (p := ⟨_, _, none⟩) (Nat.le_succ _) _⟩
end Go.Proofs.Ytlgldniepcjfoaa
