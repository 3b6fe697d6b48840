/- Layer 6: an event in a box, that is told round by round. -/
import Derived.Test.YtlgldniepcjfoaaEventM
namespace Go.Proofs.Ytlgldniepcjfoaa
set_option linter.unusedVariables false
set_option linter.unusedSimpArgs false
open Go.ChangeShapes Go.WideShapes Go.ChangeAt Go.RowKit

/-- What stands at the head of a round: the event handed in lies in its box, the one that is told in another one. -/
structure Lp (w : World) (le : Int) (l : List Int) (lp : Option Addr) (lk xb : Nat) (R : List Int) (E : Int) (px : Option Addr) (kx : Nat) (wr : World) : Prop where
  cells : CellsAt wr [(w.heap.size, 0, .int .i64 le), (w.heap.size, 1, .slice lp l.length lk), (xb, 0, .int .i64 E), (xb, 1, .slice px R.length kx)]
  froz : ∀ i, wr.frozen? ⟨xb, i, none⟩ = false
  line : Sl wr 1 intC R (.slice px R.length kx)
  ok : okE E R = true
  below : Below w.heap.size w wr
  far : w.heap.size < xb
theorem Lp.kept {w : World} {le : Int} {l : List Int} {lp : Option Addr} {lk xb : Nat} {R : List Int} {E : Int} {px : Option Addr} {kx : Nat} {wr wr' : World} (h : Lp w le l lp lk xb R E px kx wr) (hk : Kept wr wr') : Lp w le l lp lk xb R E px kx wr' :=
  ⟨cells_keep hk h.cells, fun i => ((bcell hk).2 _ _ h.cells.2.2.1.1).trans (h.froz i), h.line.kept hk, h.ok, h.below.trans (hk.mono h.below.size), h.far⟩
/-- Another event is put into its box. -/
theorem Lp.put {w : World} {le : Int} {l : List Int} {lp : Option Addr} {lk xb : Nat} {R : List Int} {E : Int} {px : Option Addr} {kx : Nat} {V : World} (h : Lp w le l lp lk xb R E px kx V) {R' : List Int} {E' : Int} {p : Option Addr} {k base : Nat} (hb : xb < base) (hO : Ow V base 3 1 intC R' (.slice p R'.length k)) (hok : okE E' R' = true) :
    Lp w le l lp lk xb R' E' p k ((V.setCell ⟨xb, 0, none⟩ (.int .i64 E')).setCell ⟨xb, 1, none⟩ (.slice p R'.length k)) := by
  obtain ⟨⟨h0, h1⟩, ⟨h2, h3⟩, ⟨h4, h5⟩, ⟨h6, h7⟩, -⟩ := h.cells
  have hf := h.far
  simp only at h0 h1 h2 h3 h4 h5 h6 h7
  obtain ⟨n0, n1⟩ := box_set (.int .i64 E') (.slice p R'.length k) h5 h7
  refine ⟨⟨⟨by simpa using h0, ?_⟩, ⟨by simpa using h2, ?_⟩, ⟨by simpa using h4, n0⟩, ⟨by simpa using h6, n1⟩, trivial⟩, fun i => by rw [World.frozen?_setCell, World.frozen?_setCell]; exact h.froz i, Ow.sl intEnc ((hO.setCell (p := ⟨xb, 0, none⟩) hb _).setCell (p := ⟨xb, 1, none⟩) hb _), hok, (h.below.setCell (p := ⟨xb, 0, none⟩) (Nat.le_of_lt hf) _).setCell (p := ⟨xb, 1, none⟩) (Nat.le_of_lt hf) _, hf⟩
  · exact (set2_far V xb _ _ hf).trans h1
  · exact (set2_far V xb _ _ hf).trans h3
/-- The boxes alone. -/
structure Lq (w : World) (le : Int) (l : List Int) (lp : Option Addr) (lk xb : Nat) (R : List Int) (E : Int) (px : Option Addr) (kx : Nat) (wr : World) : Prop where
  cells : CellsAt wr [(w.heap.size, 0, .int .i64 le), (w.heap.size, 1, .slice lp l.length lk), (xb, 0, .int .i64 E), (xb, 1, .slice px R.length kx)]
  froz : ∀ i, wr.frozen? ⟨xb, i, none⟩ = false
  below : Below w.heap.size w wr
  far : w.heap.size < xb
theorem Lq.put {w : World} {le : Int} {l : List Int} {lp : Option Addr} {lk xb : Nat} {R : List Int} {E : Int} {px : Option Addr} {kx : Nat} {V : World} (h : Lq w le l lp lk xb R E px kx V) {R' : List Int} {E' : Int} {p : Option Addr} {k base : Nat} (hb : xb < base) (hO : Ow V base 3 1 intC R' (.slice p R'.length k)) (hok : okE E' R' = true) :
    Lp w le l lp lk xb R' E' p k ((V.setCell ⟨xb, 0, none⟩ (.int .i64 E')).setCell ⟨xb, 1, none⟩ (.slice p R'.length k)) := by
  obtain ⟨⟨h0, h1⟩, ⟨h2, h3⟩, ⟨h4, h5⟩, ⟨h6, h7⟩, -⟩ := h.cells
  have hf := h.far
  simp only at h0 h1 h2 h3 h4 h5 h6 h7
  obtain ⟨n0, n1⟩ := box_set (.int .i64 E') (.slice p R'.length k) h5 h7
  refine ⟨⟨⟨by simpa using h0, ?_⟩, ⟨by simpa using h2, ?_⟩, ⟨by simpa using h4, n0⟩, ⟨by simpa using h6, n1⟩, trivial⟩, fun i => by rw [World.frozen?_setCell, World.frozen?_setCell]; exact h.froz i, Ow.sl intEnc ((hO.setCell (p := ⟨xb, 0, none⟩) hb _).setCell (p := ⟨xb, 1, none⟩) hb _), hok, (h.below.setCell (p := ⟨xb, 0, none⟩) (Nat.le_of_lt hf) _).setCell (p := ⟨xb, 1, none⟩) (Nat.le_of_lt hf) _, hf⟩
  · exact (set2_far V xb _ _ hf).trans h1
  · exact (set2_far V xb _ _ hf).trans h3
/-- Behind an append to a row that is younger than the boxes. -/
theorem Lp.app {w : World} {le : Int} {l : List Int} {lp : Option Addr} {lk xb : Nat} {R : List Int} {E : Int} {px : Option Addr} {kx : Nat} {wr w4 w6 : World} (h : Lp w le l lp lk xb R E px kx wr) (hg : Kept wr w4) {T : List Int} {v : Value} (hT : Ow wr (xb + 1) 3 1 intC T v)
    {R' : List Int} {p4 : Option Addr} {k4 : Nat} (hO : Ow w4 wr.heap.size 3 1 intC R' (.slice p4 R'.length k4)) {E' : Int} {o : Obj} (hgr : ((w4.alloc (.cells #[.int .i64 E', .slice p4 R'.length k4] 24)).alloc o).grownBy w6 v.ownBlock) :
    Lq w le l lp lk xb R E px kx w6 ∧ Ow w6 wr.heap.size 3 1 intC R' (.slice p4 R'.length k4) ∧ (w6.cell? ⟨w4.heap.size, 0, none⟩ = some (.int .i64 E') ∧ w6.cell? ⟨w4.heap.size, 1, none⟩ = some (.slice p4 R'.length k4) ∧ w4.heap.size < w6.heap.size) ∧ Below (xb + 1) wr w6 := by
  have hxb : xb < wr.heap.size := h.cells.2.2.1.1
  have hsz : wr.heap.size ≤ w4.heap.size := hg.size
  have ha : Kept w4 ((w4.alloc (.cells #[.int .i64 E', .slice p4 R'.length k4] 24)).alloc o) := ((Below.refl _ _).alloc (Nat.le_refl _) _).alloc (by simp) _
  have hs2 : w4.heap.size + 1 + 1 = ((w4.alloc (.cells #[.int .i64 E', .slice p4 R'.length k4] 24)).alloc o).heap.size := by simp
  have hB : Below (xb + 1) wr w6 := ((hg.mono hxb).trans (ha.mono (by omega))).grown hgr (by omega) (fun i e => (hT.lt i e).1)
  have hne : ∀ b, wr.heap.size ≤ b → v.ownBlock ≠ some b := fun b hb e => by have := (hT.lt b e).2; omega
  have hblk : ∀ b, wr.heap.size ≤ b → b < w4.heap.size + 1 + 1 → w6.heap[b]? = ((w4.alloc (.cells #[.int .i64 E', .slice p4 R'.length k4] 24)).alloc o).heap[b]? := fun b h1 h2 => hgr.block b (by omega) (fun e => hne b h1 e.symm)
  have hyA : ∀ i, w6.cell? ⟨w4.heap.size, i, none⟩ = (#[.int .i64 E', .slice p4 R'.length k4] : Array Value)[i]? := fun i => by
    rw [World.cell?_of_block (w := (w4.alloc (.cells #[.int .i64 E', .slice p4 R'.length k4] 24)).alloc o) (hblk w4.heap.size hsz (by omega))]
    refine (World.cell?_alloc_past _ _ _ (by simp)).trans ?_
    exact World.cell?_alloc_at (w := w4) _ _ _ i rfl
  refine ⟨⟨⟨⟨?_, ?_⟩, ⟨?_, ?_⟩, ⟨?_, ?_⟩, ⟨?_, ?_⟩, trivial⟩, fun i => (hB.frozen (p := ⟨xb, i, none⟩) (Nat.lt_succ_self _)).trans (h.froz i), h.below.trans (hB.mono (by have := h.far; omega)), h.far⟩, ?_, ⟨hyA 0, hyA 1, ?_⟩, hB⟩
  · exact Nat.lt_of_lt_of_le h.cells.1.1 hB.size
  · exact (hB.cell (p := ⟨w.heap.size, 0, none⟩) (Nat.lt_succ_of_lt h.far)).trans h.cells.1.2
  · exact Nat.lt_of_lt_of_le h.cells.2.1.1 hB.size
  · exact (hB.cell (p := ⟨w.heap.size, 1, none⟩) (Nat.lt_succ_of_lt h.far)).trans h.cells.2.1.2
  · exact Nat.lt_of_lt_of_le h.cells.2.2.1.1 hB.size
  · exact (hB.cell (p := ⟨xb, 0, none⟩) (Nat.lt_succ_self _)).trans h.cells.2.2.1.2
  · exact Nat.lt_of_lt_of_le h.cells.2.2.2.1.1 hB.size
  · exact (hB.cell (p := ⟨xb, 1, none⟩) (Nat.lt_succ_self _)).trans h.cells.2.2.2.1.2
  · exact Ow.grown (hO.kept ha) hgr (fun g hg' e => hne g (hO.lt g hg').1 e)
  · have := hgr.size; omega
/-- What a notice makes of it. -/
theorem note_round {l : List Int} {j : Nat} {E : Int} (hok : okE E (l.drop j) = true) : ntE E (l.drop j) = nxE E ∧ ntL 1 E (l.drop j) = l.drop (j + 1) ∧ okE (nxE E) (l.drop (j + 1)) = true ∧
    (∀ hj : j < l.length, hdI (ntT 1 E (l.drop j)) = l[j] ∧ hdB (ntT 1 E (l.drop j)) = true) ∧ (¬ j < l.length → hdI (ntT 1 E (l.drop j)) = 0 ∧ hdB (ntT 1 E (l.drop j)) = false) := by
  obtain ⟨e1, e2, e3⟩ := ntE_ok hok 1
  refine ⟨e1, by rw [e2, List.drop_drop], okE_nx hok ?_, fun hj => ?_, fun hj => ?_⟩
  · have := ok_drop (okE_ln hok) 1
    rwa [List.drop_drop] at this
  · rw [e3, List.drop_eq_getElem_cons hj]
    exact ⟨rfl, rfl⟩
  · rw [e3, List.drop_eq_nil_of_le (by omega)]
    exact ⟨rfl, rfl⟩
end Go.Proofs.Ytlgldniepcjfoaa
