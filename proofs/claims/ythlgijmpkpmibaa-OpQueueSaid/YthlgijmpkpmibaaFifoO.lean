/- Contract of the program's own function of layer 3 that lays a queue in memory of its own. -/
import Derived.Test.YthlgijmpkpmibaaFifoW
import Derived.Test.YthlgijmpkpmibaaFifoR
import Derived.Test.YthlgijmpkpmibaaTail
import Derived.Laws.CopyOwn
import Derived.Deep.OwnRows
import Derived.RegionTactic
namespace Go.Proofs.Ythlgijmpkpmibaa
set_option linter.unusedVariables false
set_option linter.unusedSimpArgs false
open Go.ChangeShapes Go.WideShapes Go.ChangeAt Go.RowKit

theorem Ov.setCell {w : World} {base : Nat} {l : List Int} {x : Addr} {k : Nat} (h : Ov w base l (some x) k) {p : Addr} (hp : x.block ≠ p.block) (u : Value) : Ov (w.setCell p u) base l (some x) k :=
  h.of_block fun y hy => by cases hy; exact Below.heap_setCell _ _ _ _ hp

/-- A queue with values of its own. -/
def RetOwn (w : World) (a : Qu) (e : Ending) (w' : World) : Prop :=
  ∃ g, e = .returned (.agg #[.slice (some ⟨g, 0, none⟩) a.vals.length a.vals.length, .int .i64 a.cap, .int .i64 a.pol, .int .i64 a.mode]) ∧ w.heap.size ≤ g ∧ Ov w' w.heap.size a.vals (some ⟨g, 0, none⟩) a.vals.length ∧ Kept w w'

set_option maxHeartbeats 1000000 in
theorem plaid_any (a : Qu) (p : Option Addr) (k : Nat) (w : World) (hl : Sl w 1 intC a.vals (.slice p a.vals.length k)) (hm : a.vals.length ≤ 1000) :
    Calls Try.prog 25 #[.agg #[.slice p a.vals.length k, .int .i64 a.cap, .int .i64 a.pol, .int .i64 a.mode]] w (RetOwn w a) := by
  obtain ⟨l, qc, qp, qm⟩ := a
  simp only at *
  obtain ⟨_, _, e1, _, _, hnone, hlc⟩ := hl.is
  cases e1
  have hmk := run_make_row' (P := Try.prog) 31 3 (.int .i64 0) 8 Try.underlying31 int_info rfl .i64 .i64 l.length (by omega) (by omega)
  obtain ⟨M, hM⟩ : ∃ M, madeCells #[Value.int .i64 0] l.length = M := ⟨_, rfl⟩
  have hMs : M.size = l.length := by rw [← hM]; simp [madeCells]
  rw [hM] at hmk
  have hL := Lib.hid hlc
  clear hlc
  go_enter Try.func25, Try.ntmps25
  go_wp2_with ((with_reducible refine wpList_copy_splice (o := ⟨some 11, _, _, _, _, _⟩) rfl (.tmp 8) (.tmp 10) 31 31 rfl 3 Try.underlying31 (by kernel_rfl) _ _ _ _ _ _ rfl rfl (w.heap.size + 1 + 1) 0 M.toList 3 ?_ (l.map (Value.int .i64)) ?_ ?_ ?_ ?_ (w.heap.size + 1 + 1) ((w.alloc (.cells #[.slice p l.length k, .int .i64 qc, .int .i64 qp, .int .i64 qm] 33)).alloc (.cells #[.slice none 0 0, .int .i64 0, .int .i64 0, .int .i64 0] 42)) ?_ (Nat.le_refl _) ?_))
  · rw [Array.toArray_toList]; exact obj_at (by simp)
  · simp
  · intro h0
    obtain ⟨b, o, rfl, hb, hc⟩ := hL.out (by intro h; subst h; simp at h0)
    refine ⟨⟨b, o, none⟩, rfl, fun j x hx => ?_⟩
    have hadd : (⟨b, o, none⟩ : Addr).add j = ⟨b, o + j, none⟩ := by unfold Addr.add; split <;> simp_all
    have h1 := hc j x hx 0 (by omega)
    simp only [intC, Nat.mul_one, Nat.add_zero, List.getElem?_cons_zero] at h1
    rw [hadd, World.cell?_alloc_past _ _ _ (by simp; omega), World.cell?_alloc_past _ _ _ (by simp; omega), World.cell?_alloc_past _ _ _ hb]
    exact h1
  · simp [hMs]
  · intro v hv
    obtain ⟨x, _, rfl⟩ := List.mem_map.1 hv
    rfl
  · exact (Below.refl _ _).alloc (by simp) _
  · intro wx hgx' hbx
    obtain ⟨V, hV⟩ : ∃ V, (w.alloc (.cells #[.slice p l.length k, .int .i64 qc, .int .i64 qp, .int .i64 qm] 33)).alloc (.cells #[.slice none 0 0, .int .i64 0, .int .i64 0, .int .i64 0] 42) = V := ⟨_, rfl⟩
    have hVs : w.heap.size + 1 + 1 = V.heap.size := by rw [← hV]; simp
    have hcs : CellsAt V [(w.heap.size, 0, .slice p l.length k), (w.heap.size, 1, .int .i64 qc), (w.heap.size, 2, .int .i64 qp), (w.heap.size, 3, .int .i64 qm), (w.heap.size + 1, 0, .slice none 0 0), (w.heap.size + 1, 1, .int .i64 0), (w.heap.size + 1, 2, .int .i64 0), (w.heap.size + 1, 3, .int .i64 0)] := by rw [← hV]; (simp only [CellsAt]; (repeat' (first | exact trivial | (refine And.intro ?_ ?_))); all_goals (first | (focus ((try simp only [World.size_setCell, World.size_alloc]); omega)) | (repeat (first | rfl | assumption | (refine (World.cell?_alloc_past _ _ _ ?_).trans ?_; focus ((try simp only [World.size_setCell, World.size_alloc]); omega)) | (refine (World.cell?_alloc_at _ _ _ _ ?_).trans ?_; focus ((try simp only [World.size_setCell, World.size_alloc]); done)) | (refine (World.cell?_setCell_other _ _ _ _ ?_).trans ?_; focus (simp; done)) | (refine (World.cell?_setCell_other _ _ _ _ ?_).trans ?_; focus (simp; omega)) | (refine World.cell?_setCell_same' _ _ _ ?_; focus (simp; done))))))
    have hB : Below w.heap.size w V := by rw [← hV]; repeat' (first | (with_reducible exact Below.refl _ _) | (with_reducible assumption) | (with_reducible refine kept_alloc ?_ _) | (with_reducible refine kept_drewN ?_ _) | (with_reducible refine Below.drew ?_) | (with_reducible refine Below.setCell ?_ (by first | omega | (simp; omega) | (simp; done)) _) | (refine kept_trans ?_ (by with_reducible assumption)))
    have hfr : ∀ j, V.frozen? ⟨w.heap.size, j, none⟩ = false := by intro j; rw [← hV, World.frozen?_alloc_past _ _ _ (by simp)]; exact World.frozen?_alloc_at _ _ _ _ rfl
    have hfr1 : ∀ j, V.frozen? ⟨w.heap.size + 1, j, none⟩ = false := by intro j; rw [← hV]; exact World.frozen?_alloc_at _ _ _ _ (by simp)
    rw [hV, hVs] at hbx
    have hcs := cells_keep hbx hcs
    have hq0 := hcs.1.2; have hq1 := hcs.2.1.2; have hq2 := hcs.2.2.1.2; have hq3 := hcs.2.2.2.1.2; have hq4 := hcs.2.2.2.2.1.2; have hq5 := hcs.2.2.2.2.2.1.2; have hq6 := hcs.2.2.2.2.2.2.1.2; have hq7 := hcs.2.2.2.2.2.2.2.1.2; have hz0 := hcs.1.1; have hz1 := hcs.2.2.2.2.1.1
    have hq0f : wx.frozen? ⟨w.heap.size, 0, none⟩ = false := (hbx.frozen (p := ⟨w.heap.size, 0, none⟩) (by show w.heap.size < _; omega)).trans (hfr 0)
    have hr0 : wx.frozen? ⟨w.heap.size + 1, 0, none⟩ = false := (hbx.frozen (p := ⟨w.heap.size + 1, 0, none⟩) (by show w.heap.size + 1 < _; omega)).trans (hfr1 0)
    have hr1 : wx.frozen? ⟨w.heap.size + 1, 1, none⟩ = false := (hbx.frozen (p := ⟨w.heap.size + 1, 1, none⟩) (by show w.heap.size + 1 < _; omega)).trans (hfr1 1)
    have hr2 : wx.frozen? ⟨w.heap.size + 1, 2, none⟩ = false := (hbx.frozen (p := ⟨w.heap.size + 1, 2, none⟩) (by show w.heap.size + 1 < _; omega)).trans (hfr1 2)
    have hr3 : wx.frozen? ⟨w.heap.size + 1, 3, none⟩ = false := (hbx.frozen (p := ⟨w.heap.size + 1, 3, none⟩) (by show w.heap.size + 1 < _; omega)).trans (hfr1 3)
    have hsp : splice M.toList 0 (l.map (Value.int .i64)) = l.map (Value.int .i64) := by simp [splice, hMs]
    rw [hsp] at hgx'
    have hO : Ov wx w.heap.size l (some ⟨w.heap.size + 1 + 1, 0, none⟩) l.length := Ov.made (by omega) hgx'.out (Nat.le_refl _) (by unfold maxLen; omega) (by simp) (fun i x hx => by simp [hx])
    have hBx : Below w.heap.size w wx := hB.trans (hbx.mono hB.size)
    have hVh := Lib.hid hVs
    have hMh := Lib.hid hM
    have hMsh := Lib.hid hMs
    clear hsp hgx' hfr hfr1 hV hVs hmk hM hMs hbx
    go_wp2
    refine bodyPost_ret (v := .agg #[.slice (some ⟨w.heap.size + 1 + 1, 0, none⟩) l.length l.length, .int .i64 qc, .int .i64 qp, .int .i64 qm]) (by simp [results, Try.results25, go_sem, *]) rfl ?_
    refine ⟨_, rfl, by omega, ?_, ?_⟩
    · refine Ov.setCell (Ov.setCell (Ov.setCell (Ov.setCell (Ov.setCell hO ?_ _) ?_ _) ?_ _) ?_ _) ?_ _ <;> (show _ ≠ _; simp; try omega)
    · repeat' (first | (with_reducible exact Below.refl _ _) | (with_reducible assumption) | (with_reducible refine kept_alloc ?_ _) | (with_reducible refine kept_drewN ?_ _) | (with_reducible refine Below.drew ?_) | (with_reducible refine Below.setCell ?_ (by first | omega | (simp; omega) | (simp; done)) _) | (refine kept_trans ?_ (by with_reducible assumption)))
end Go.Proofs.Ythlgijmpkpmibaa
