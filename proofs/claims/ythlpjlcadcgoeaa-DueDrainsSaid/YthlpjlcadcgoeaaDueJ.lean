/- Layer 4: contracts of the pile's methods. -/
import Derived.Test.YthlpjlcadcgoeaaDueI
import Derived.Lib.Hide
import Derived.BigRegion
import Derived.Deep.RegionLaw
namespace Go.Proofs.Ythlpjlcadcgoeaa
set_option linter.unusedVariables false
set_option linter.unusedSimpArgs false
open Go.ChangeShapes Go.WideShapes Go.ChangeAt Go.RowKit

theorem plen_any (w : World) (pb g cap : Nat) (l : List Du) (h : Pile w pb g cap l) : Calls Try.prog 44 #[.pointer (some ⟨pb, 0, none⟩)] w fun e w' => e = .returned (.int .i64 l.length) ∧ Kept w w' := by
  have hq := h.slice.1
  go_enter Try.func44, Try.ntmps44
  go_wp2
  all_goals (go_ret; exact ⟨rfl, by repeat' (first | (with_reducible exact Below.refl _ _) | (with_reducible assumption) | (with_reducible refine kept_alloc ?_ _) | (with_reducible refine kept_drewN ?_ _) | (with_reducible refine Below.drew ?_) | (with_reducible refine Below.setCell ?_ (by first | omega | (simp; omega) | (simp; done)) _) | (refine kept_trans ?_ (by with_reducible assumption)))⟩)

/-- 'x.(api.Due)' of one that is a due. -/
theorem due_assert (a b : Int) (w : World) : (Instr.typeAssert (.iface 24 (.agg #[.int .i64 a, .int .i64 b])) 20 24 true).run Try.prog w = .ok (.tuple #[.agg #[.int .i64 a, .int .i64 b], .bool true]) w := by kernel_rfl

set_option maxHeartbeats 1000000 in
theorem pless_any (w : World) (pb g cap : Nat) (l : List Du) (i j : Nat) (h : Pile w pb g cap l) (hi : i < l.length) (hj : j < l.length) :
    Calls Try.prog 45 #[.pointer (some ⟨pb, 0, none⟩), .int .i64 i, .int .i64 j] w fun e w' => e = .returned (.bool (dahB (gt l i) (gt l j))) ∧ Kept w w' := by
  have hbd := h.bd
  have hq := h.slice.1
  obtain ⟨c1, c2, -, -⟩ := h.cells hi
  obtain ⟨c3, c4, -, -⟩ := h.cells hj
  have b1 : (0 : Int) ≤ (i : Int) := by omega
  have b2 : (i : Int) < (l.length : Int) := by omega
  have b3 : (0 : Int) ≤ (j : Int) := by omega
  have b4 : (j : Int) < (l.length : Int) := by omega
  have hz1 := h.lt.1
  have hz2 := h.lt.2
  clear h hbd
  go_enter Try.func45, Try.ntmps45
  go_wp2
  (refine wp_region_kept (w := w) [(pb, 0, .slice (some ⟨g, 0, none⟩) l.length cap), (g, i * 2, .int .i64 (gt l i).tm), (g, i * 2 + 1, .int .i64 (gt l i).id), (g, j * 2, .int .i64 (gt l j).tm), (g, j * 2 + 1, .int .i64 (gt l j).id)] (by kernel_rfl) (by kernel_rfl) (by repeat' (first | (with_reducible exact Below.refl _ _) | (with_reducible assumption) | (with_reducible refine kept_alloc ?_ _) | (with_reducible refine kept_drewN ?_ _) | (with_reducible refine Below.drew ?_) | (with_reducible refine Below.setCell ?_ (by first | omega | (simp; omega) | (simp; done)) _) | (refine kept_trans ?_ (by with_reducible assumption)))) (by first | (simp [CellsAt, *, World.cell?_alloc_past, World.cell?_alloc_at]; done) | (simp [CellsAt, *, World.cell?_alloc_past, World.cell?_alloc_at]; omega)) (fun hne => ?_); (have hq0 : ∀ xwd : Wd w [(pb, 0, .slice (some ⟨g, 0, none⟩) l.length cap), (g, i * 2, .int .i64 (gt l i).tm), (g, i * 2 + 1, .int .i64 (gt l i).id), (g, j * 2, .int .i64 (gt l j).tm), (g, j * 2 + 1, .int .i64 (gt l j).id)], xwd.at.cell? ⟨pb, 0, none⟩ = some (.slice (some ⟨g, 0, none⟩) l.length cap) := fun xwd => xwd.cells.1.2; have hq1 : ∀ xwd : Wd w [(pb, 0, .slice (some ⟨g, 0, none⟩) l.length cap), (g, i * 2, .int .i64 (gt l i).tm), (g, i * 2 + 1, .int .i64 (gt l i).id), (g, j * 2, .int .i64 (gt l j).tm), (g, j * 2 + 1, .int .i64 (gt l j).id)], xwd.at.cell? ⟨g, i * 2, none⟩ = some (.int .i64 (gt l i).tm) := fun xwd => xwd.cells.2.1.2; have hq2 : ∀ xwd : Wd w [(pb, 0, .slice (some ⟨g, 0, none⟩) l.length cap), (g, i * 2, .int .i64 (gt l i).tm), (g, i * 2 + 1, .int .i64 (gt l i).id), (g, j * 2, .int .i64 (gt l j).tm), (g, j * 2 + 1, .int .i64 (gt l j).id)], xwd.at.cell? ⟨g, i * 2 + 1, none⟩ = some (.int .i64 (gt l i).id) := fun xwd => xwd.cells.2.2.1.2; have hq3 : ∀ xwd : Wd w [(pb, 0, .slice (some ⟨g, 0, none⟩) l.length cap), (g, i * 2, .int .i64 (gt l i).tm), (g, i * 2 + 1, .int .i64 (gt l i).id), (g, j * 2, .int .i64 (gt l j).tm), (g, j * 2 + 1, .int .i64 (gt l j).id)], xwd.at.cell? ⟨g, j * 2, none⟩ = some (.int .i64 (gt l j).tm) := fun xwd => xwd.cells.2.2.2.1.2; have hq4 : ∀ xwd : Wd w [(pb, 0, .slice (some ⟨g, 0, none⟩) l.length cap), (g, i * 2, .int .i64 (gt l i).tm), (g, i * 2 + 1, .int .i64 (gt l i).id), (g, j * 2, .int .i64 (gt l j).tm), (g, j * 2 + 1, .int .i64 (gt l j).id)], xwd.at.cell? ⟨g, j * 2 + 1, none⟩ = some (.int .i64 (gt l j).id) := fun xwd => xwd.cells.2.2.2.2.1.2); (repeat (go_big_quiet_step ((first | (go_at_call 23; exact quiet_call (dah_any _ _ _)))))); (refine wpQuiet_nil ?_); intro wq hwq; obtain ⟨xwd, hxwd⟩ := hwq; have hgx : Below w.heap.size w wq := (by rw [hxwd]; exact xwd.kept); have hcs := (show CellsAt wq [(pb, 0, .slice (some ⟨g, 0, none⟩) l.length cap), (g, i * 2, .int .i64 (gt l i).tm), (g, i * 2 + 1, .int .i64 (gt l i).id), (g, j * 2, .int .i64 (gt l j).tm), (g, j * 2 + 1, .int .i64 (gt l j).id)] by rw [hxwd]; exact xwd.cells); clear hxwd xwd hne)
  go_wp2
  all_goals (go_ret; exact ⟨rfl, by repeat' (first | (with_reducible exact Below.refl _ _) | (with_reducible assumption) | (with_reducible refine kept_alloc ?_ _) | (with_reducible refine kept_drewN ?_ _) | (with_reducible refine Below.drew ?_) | (with_reducible refine Below.setCell ?_ (by first | omega | (simp; omega) | (simp; done)) _) | (refine kept_trans ?_ (by with_reducible assumption)))⟩)

set_option maxHeartbeats 1000000 in
theorem pswap_any (w : World) (pb g cap : Nat) (l : List Du) (i j : Nat) (h : Pile w pb g cap l) (hi : i < l.length) (hj : j < l.length) :
    Calls Try.prog 48 #[.pointer (some ⟨pb, 0, none⟩), .int .i64 i, .int .i64 j] w fun e w' => e = .returned (.tuple #[]) ∧ Pile w' pb g cap (sw l i j) ∧ Out [g] w w' := by
  have hbd := h.bd
  have hq := h.slice.1
  obtain ⟨c1, c2, f1, f2⟩ := h.cells hi
  obtain ⟨c3, c4, f3, f4⟩ := h.cells hj
  have b1 : (0 : Int) ≤ (i : Int) := by omega
  have b2 : (i : Int) < (l.length : Int) := by omega
  have b3 : (0 : Int) ≤ (j : Int) := by omega
  have b4 : (j : Int) < (l.length : Int) := by omega
  obtain ⟨u1, g1⟩ := cell?_setCell_some (w := w) (p := ⟨g, i * 2, none⟩) (x := .int .i64 (gt l j).tm) (q := ⟨g, j * 2, none⟩) c3
  obtain ⟨u2, g2⟩ := cell?_setCell_some (w := w) (p := ⟨g, i * 2, none⟩) (x := .int .i64 (gt l j).tm) (q := ⟨g, j * 2 + 1, none⟩) c4
  obtain ⟨u3, g3⟩ := cell?_setCell_some (w := w.setCell ⟨g, i * 2, none⟩ (.int .i64 (gt l j).tm)) (p := ⟨g, i * 2 + 1, none⟩) (x := .int .i64 (gt l j).id) (q := ⟨g, j * 2 + 1, none⟩) g2
  have H := Lib.hid h
  clear h hbd
  go_enter Try.func48, Try.ntmps48
  go_wp2
  go_region
  go_end0
  have hP : Pile _ pb g cap (sw l i j) := (H.out.setAt hi (gt l j)).setAt (i := j) (by simpa using hj) (gt l i)
  exact ⟨rfl, hP.kept (Below.drew (Below.refl _ _)), (((((Out.refl [g] w).set (x := ⟨g, _, none⟩) (.inl (by simp)) _).set (x := ⟨g, _, none⟩) (.inl (by simp)) _).set (x := ⟨g, _, none⟩) (.inl (by simp)) _).set (x := ⟨g, _, none⟩) (.inl (by simp)) _).then (Below.drew (Below.refl _ _))⟩

set_option maxHeartbeats 1000000 in
theorem ppop_any (w : World) (pb g cap n : Nat) (l : List Du) (h : Pile w pb g cap l) (hn : l.length = n + 1) (hm : n ≤ 1000) :
    Calls Try.prog 46 #[.pointer (some ⟨pb, 0, none⟩)] w fun e w' => e = .returned (.iface 24 (.agg #[.int .i64 (gt l n).tm, .int .i64 (gt l n).id])) ∧ Pile w' pb g cap (l.take n) ∧ Out [pb] w w' := by
  have hbd := h.bd
  have hq := h.slice.1
  have hf := h.slice.2
  obtain ⟨c1, c2, -, -⟩ := h.cells (i := n) (by omega)
  rw [hn] at hq hbd
  have b1 : (n : Int) + 1 ≤ (cap : Int) := by omega
  have b2 : (n : Int) ≤ (cap : Int) := by omega
  have hz1 := h.lt.1
  have hz2 := h.lt.2
  have H := Lib.hid h
  have HN := Lib.hid hn
  clear h hbd hn
  go_enter Try.func46, Try.ntmps46
  go_wp2
  go_ret
  have hl : (l.take n).length = n := by have := HN.out; simp; omega
  have hP := Pile.with (pb := pb) (g := g) H.out.obj (Ow.take H.out.own (n := n) (by have := HN.out; omega)) H.out.ne
  rw [hl] at hP
  exact ⟨rfl, hP.kept ((Below.refl _ _).alloc (Nat.le_refl _) _), ((Out.refl [pb] w).set (x := ⟨pb, _, none⟩) (.inl (by simp)) _).alloc _⟩

theorem ow_some {α : Type} {W : World} {base k : Nat} {e : TypeId} {enc : α → List Value} {xs : List α} {v : Value} (h : Ow W base e k enc xs v) (hne : xs ≠ []) : ∃ g cap, v = .slice (some ⟨g, 0, none⟩) xs.length cap := by
  obtain ⟨_, ⟨_, h1⟩ | ⟨g, cap, _, h1, _⟩⟩ := h
  · exact absurd (List.length_eq_zero_iff.1 h1) hne
  · exact ⟨g, cap, h1⟩
theorem push_block {g g1 n n1 c c1 s : Nat} (h : ∀ x, (Value.slice (some ⟨g1, 0, none⟩) n1 c1).ownBlock = some x → (Value.slice (some ⟨g, 0, none⟩) n c).ownBlock = some x ∨ x = s) : g1 = g ∨ g1 = s := by
  rcases h g1 rfl with h | h
  · exact .inl (by cases h; rfl)
  · exact .inr h
theorem push_obj {V X w1 : World} {pb g cap n : Nat} {l : List Du} (h : Pile V pb g cap l) (hB : Below V.heap.size V X) (hg : X.grownBy w1 (Value.slice (some ⟨g, 0, none⟩) n cap).ownBlock) : w1.heap[pb]? = some (.cells #[.slice (some ⟨g, 0, none⟩) l.length cap] 56 (0, 0)) :=
  (hg.block pb (Nat.lt_of_lt_of_le h.lt.1 hB.size) (by intro e; cases e; exact h.ne rfl)).trans ((hB.block _ h.lt.1).trans h.obj)
theorem push_cell {V X w1 : World} {pb g cap n : Nat} {l : List Du} (h : Pile V pb g cap l) (hB : Below V.heap.size V X) (hg : X.grownBy w1 (Value.slice (some ⟨g, 0, none⟩) n cap).ownBlock) : w1.cell? ⟨pb, 0, none⟩ = some (.slice (some ⟨g, 0, none⟩) l.length cap) := by
  simp [World.cell?, push_obj h hB hg]
theorem push_frozen {V X w1 : World} {pb g cap n : Nat} {l : List Du} (h : Pile V pb g cap l) (hB : Below V.heap.size V X) (hg : X.grownBy w1 (Value.slice (some ⟨g, 0, none⟩) n cap).ownBlock) : w1.frozen? ⟨pb, 0, none⟩ = false := by
  simp [World.frozen?, push_obj h hB hg]

theorem push_end {w V X w1 : World} {pb g cap g1 k1 n : Nat} {l : List Du} {d : Du} (h : Pile V pb g cap l) (hB : Below w.heap.size w V) (hX : Below V.heap.size V X) (hg : X.grownBy w1 (Value.slice (some ⟨g, 0, none⟩) l.length cap).ownBlock)
    (ho : Ow w1 0 24 2 Du.cells (l ++ [d]) (.slice (some ⟨g1, 0, none⟩) (l ++ [d]).length k1)) (hob : g1 = g ∨ g1 = X.heap.size) (hn : (l ++ [d]).length = n) :
    ∃ g' cap', Pile (w1.setCell ⟨pb, 0, none⟩ (.slice (some ⟨g1, 0, none⟩) n k1)) pb g' cap' (l ++ [d]) ∧ Out [pb, g] w (w1.setCell ⟨pb, 0, none⟩ (.slice (some ⟨g1, 0, none⟩) n k1)) ∧ (g' = g ∨ w.heap.size ≤ g') := by
  subst hn
  have h1 := h.lt
  have h2 := hX.size
  have h3 := hB.size
  refine ⟨g1, k1, Pile.with (push_obj h hX hg) ho ?_, ?_, ?_⟩
  · rcases hob with rfl | rfl
    · exact h.ne
    · omega
  · refine Out.set (Out.grown (((Out.refl [pb, g] w).then hB).then hX) hg (fun x hx => ?_)) (.inl (by simp)) _
    cases hx; exact .inl (by simp)
  · rcases hob with rfl | rfl
    · exact .inl rfl
    · exact .inr (by omega)

theorem due_info : (Try.prog.info? 24).map (fun i => (i.zero, i.size, i.bytes)) = some (some (.agg #[.int .i64 0, .int .i64 0]), 2, 16) := by kernel_rfl

set_option maxHeartbeats 1000000 in
theorem ppush_any (w : World) (pb g cap : Nat) (l : List Du) (d : Du) (h : Pile w pb g cap l) (hm : l.length ≤ 1000) :
    Calls Try.prog 47 #[.pointer (some ⟨pb, 0, none⟩), .iface 24 (.agg #[.int .i64 d.tm, .int .i64 d.id])] w fun e w' => e = .returned (.tuple #[]) ∧ ∃ g' cap', Pile w' pb g' cap' (l ++ [d]) ∧ Out [pb, g] w w' ∧ (g' = g ∨ w.heap.size ≤ g') := by
  have hbd := h.bd
  have hq := h.slice.1
  have hf := h.slice.2
  have hz1 := h.lt.1
  have hz2 := h.lt.2
  have H := Lib.hid h
  have ht := due_assert d.tm d.id
  clear h hbd
  go_enter Try.func47, Try.ntmps47
  go_wp2
  clear ht
  obtain ⟨V, hV⟩ : ∃ V, w.alloc (.cells #[.int .i64 d.tm, .int .i64 d.id] 24) = V := ⟨_, rfl⟩
  have hB : Below w.heap.size w V := by rw [← hV]; repeat' (first | (with_reducible exact Below.refl _ _) | (with_reducible assumption) | (with_reducible refine kept_alloc ?_ _) | (with_reducible refine kept_drewN ?_ _) | (with_reducible refine Below.drew ?_) | (with_reducible refine Below.setCell ?_ (by first | omega | (simp; omega) | (simp; done)) _) | (refine kept_trans ?_ (by with_reducible assumption)))
  have q1 : V.cell? ⟨pb, 0, none⟩ = some (.slice (some ⟨g, 0, none⟩) l.length cap) := ((bcell hB).1 _ _ hz1).trans hq
  have q2 : V.cell? ⟨w.heap.size, 0, none⟩ = some (.int .i64 d.tm) := by rw [← hV]; exact World.cell?_alloc_at _ _ _ _ (by simp)
  have q3 : V.cell? ⟨w.heap.size, 1, none⟩ = some (.int .i64 d.id) := by rw [← hV]; exact World.cell?_alloc_at _ _ _ _ (by simp)
  have hzV : w.heap.size < V.heap.size := by rw [← hV]; simp
  have hzP : pb < V.heap.size := by have := hB.size; omega
  have HP := Lib.hid (H.out.kept hB)
  rw [hV]
  clear hV hq hf
  go_region_law (refine step_appb (by rfl) (.tmp 15) (.tmp 17) 56 (by rfl) (.agg #[.int .i64 0, .int .i64 0]) 16 Try.underlying56 due_info (by rfl) (by decide) Du.enc (by rfl) (by rfl) (xs := l) (ys := [d]) (base := 0) (HP.out.own.kept (by repeat' (first | (with_reducible exact Below.refl _ _) | (with_reducible assumption) | (with_reducible refine kept_alloc ?_ _) | (with_reducible refine kept_drewN ?_ _) | (with_reducible refine Below.drew ?_) | (with_reducible refine Below.setCell ?_ (by first | omega | (simp; omega) | (simp; done)) _) | (refine kept_trans ?_ (by with_reducible assumption))))) ((Ow.sl Du.enc (Ow.made (base := 0) (e := 24) (W := V) Du.enc [d] #[.int .i64 d.tm, .int .i64 d.id] rfl (Nat.zero_le _) (by show 1 ≤ maxLen; decide) rfl rfl)).kept (Below.drew (Below.refl _ _))) (by simp) (Nat.zero_le _) (by simp; unfold maxLen; omega) (by simp; omega) ?_; intro v1 w1 how1 hgr hob; obtain ⟨g1, k1, rfl⟩ := ow_some how1 (by simp); have hob1 := push_block hob; have q4 := push_cell HP.out (by repeat' (first | (with_reducible exact Below.refl _ _) | (with_reducible assumption) | (with_reducible refine kept_alloc ?_ _) | (with_reducible refine kept_drewN ?_ _) | (with_reducible refine Below.drew ?_) | (with_reducible refine Below.setCell ?_ (by first | omega | (simp; omega) | (simp; done)) _) | (refine kept_trans ?_ (by with_reducible assumption)))) hgr; have f4 := push_frozen HP.out (by repeat' (first | (with_reducible exact Below.refl _ _) | (with_reducible assumption) | (with_reducible refine kept_alloc ?_ _) | (with_reducible refine kept_drewN ?_ _) | (with_reducible refine Below.drew ?_) | (with_reducible refine Below.setCell ?_ (by first | omega | (simp; omega) | (simp; done)) _) | (refine kept_trans ?_ (by with_reducible assumption)))) hgr)
  all_goals (go_end0; exact ⟨rfl, push_end HP.out hB (by repeat' (first | (with_reducible exact Below.refl _ _) | (with_reducible assumption) | (with_reducible refine kept_alloc ?_ _) | (with_reducible refine kept_drewN ?_ _) | (with_reducible refine Below.drew ?_) | (with_reducible refine Below.setCell ?_ (by first | omega | (simp; omega) | (simp; done)) _) | (refine kept_trans ?_ (by with_reducible assumption)))) hgr how1 hob1 (by simp)⟩)
end Go.Proofs.Ythlpjlcadcgoeaa
