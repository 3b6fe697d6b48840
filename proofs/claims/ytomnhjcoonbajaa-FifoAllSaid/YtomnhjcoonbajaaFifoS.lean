/- Contracts of the document's functions of layer 3: queues. -/
import Derived.Test.YtomnhjcoonbajaaFifoR
import Derived.RegionTactic
import Derived.ChangeAlike
import Derived.Deep.RegionHeld3
namespace Go.Proofs.Ytomnhjcoonbajaa
set_option linter.unusedVariables false
set_option linter.unusedSimpArgs false
open Go.ChangeShapes Go.WideShapes Go.ChangeAt Go.RowKit

set_option maxHeartbeats 1000000 in
theorem rsame_any (a b : Qu) (p q : Option Addr) (k k' : Nat) (w : World) (hl : Sl w 1 intC a.vals (.slice p a.vals.length k)) (hm : Sl w 1 intC b.vals (.slice q b.vals.length k')) (hlm : a.vals.length ≤ 9223372036854775806) :
    Calls Try.prog 13 #[.agg #[.slice p a.vals.length k, .int .i64 a.cap, .int .i64 a.pol, .int .i64 a.mode], .agg #[.slice q b.vals.length k', .int .i64 b.cap, .int .i64 b.pol, .int .i64 b.mode]] w fun e w' => e = .returned (.bool (sameB a b)) ∧ Kept w w' := by
  obtain ⟨l, c, po, m⟩ := a
  obtain ⟨l', c', po', m'⟩ := b
  simp only at *
  cases hb : decide (l = l')
  all_goals
    go_enter Try.func13, Try.ntmps13
    go_wp2_with fail
    refine (rints_any l l' p q k k' _ (hl.kept (by repeat' (first | (with_reducible exact Below.refl _ _) | (with_reducible assumption) | (with_reducible refine kept_alloc ?_ _) | (with_reducible refine kept_drewN ?_ _) | (with_reducible refine Below.drew ?_) | (with_reducible refine Below.setCell ?_ (by first | omega | (simp; omega) | (simp; done)) _) | (refine kept_trans ?_ (by with_reducible assumption))))) (hm.kept (by repeat' (first | (with_reducible exact Below.refl _ _) | (with_reducible assumption) | (with_reducible refine kept_alloc ?_ _) | (with_reducible refine kept_drewN ?_ _) | (with_reducible refine Below.drew ?_) | (with_reducible refine Below.setCell ?_ (by first | omega | (simp; omega) | (simp; done)) _) | (refine kept_trans ?_ (by with_reducible assumption))))) hlm).mono ?_
    rintro e wx ⟨rfl, hgx⟩
    have hcs := cells_keep (l := [(w.heap.size, 0, .slice p l.length k), (w.heap.size, 1, .int .i64 c), (w.heap.size, 2, .int .i64 po), (w.heap.size, 3, .int .i64 m), (w.heap.size + 1, 0, .slice q l'.length k'), (w.heap.size + 1, 1, .int .i64 c'), (w.heap.size + 1, 2, .int .i64 po'), (w.heap.size + 1, 3, .int .i64 m')]) hgx (by (simp only [CellsAt]; (repeat' (first | exact trivial | (refine And.intro ?_ ?_))); all_goals (first | (focus ((try simp only [World.size_setCell, World.size_alloc]); omega)) | (repeat (first | rfl | assumption | (refine (World.cell?_alloc_past _ _ _ ?_).trans ?_; focus ((try simp only [World.size_setCell, World.size_alloc]); omega)) | (refine (World.cell?_alloc_at _ _ _ _ ?_).trans ?_; focus ((try simp only [World.size_setCell, World.size_alloc]); done)) | (refine (World.cell?_setCell_other _ _ _ _ ?_).trans ?_; focus (simp; done)) | (refine (World.cell?_setCell_other _ _ _ _ ?_).trans ?_; focus (simp; omega)) | (refine World.cell?_setCell_same' _ _ _ ?_; focus (simp; done)))))))
    have hq0 := hcs.1.2; have hq1 := hcs.2.1.2; have hq2 := hcs.2.2.1.2; have hq3 := hcs.2.2.2.1.2; have hq4 := hcs.2.2.2.2.1.2; have hq5 := hcs.2.2.2.2.2.1.2; have hq6 := hcs.2.2.2.2.2.2.1.2; have hq7 := hcs.2.2.2.2.2.2.2.1.2; have hz0 := hcs.1.1; have hz1 := hcs.2.2.2.2.1.1
    go_wp2
    all_goals (go_ret; exact ⟨ret_bool (by rw [sameB]; simp only [hb]; rw [Bool.eq_iff_iff]; first | (simp; done) | (simp [*]; done) | (simp; omega)), by repeat' (first | (with_reducible exact Below.refl _ _) | (with_reducible assumption) | (with_reducible refine kept_alloc ?_ _) | (with_reducible refine kept_drewN ?_ _) | (with_reducible refine Below.drew ?_) | (with_reducible refine Below.setCell ?_ (by first | omega | (simp; omega) | (simp; done)) _) | (refine kept_trans ?_ (by with_reducible assumption)))⟩)

end Go.Proofs.Ytomnhjcoonbajaa
