/- Texts merged: ThDQ, LineGQ, LineHQ, LineIQ, LineJQ, LineKQ, LineLQ, LineNQ, IntsQ, LineMQ, EventGQ, FabCQ, AbsQ, FabDQ. -/
import Derived.Test.YtcakapmpifnfpaaGreatZa6
import Derived.Test.YtcakapmpifnfpaaGreatZa5
import Derived.LoopTactic
import Derived.Lib.Hide
import Derived.Shelf.Slices.Delete
import Derived.Deep.RegionHeld3
import Derived.IntWalk
import Derived.Test.YtcakapmpifnfpaaGreatZa4
import Derived.Deep.Cut
/- Layer 12: whether a thread may be, and whether it is late: the program's, and the document's. -/
namespace Go.Proofs.YtcakapmpifnfpaaGreat
set_option linter.unusedVariables false
set_option linter.unusedSimpArgs false
open Go.ChangeShapes Go.WideShapes Go.ChangeAt Go.RowKit
set_option maxHeartbeats 2000000 in
theorem tcheck_any {st ki va un pc re se tr rs go : Int} {la : Bool} (w : World) : Calls Tryz.prog 53 #[.agg #[.int .i64 st, .int .i64 ki, .int .i64 va, .int .i64 un, .int .i64 pc, .int .i64 re, .int .i64 se, .int .i64 tr, .bool la, .int .i64 rs, .int .i64 go]] w fun e w' => e = .returned (.bool (thB ⟨st, ki, va, un, pc, re, se, tr, la, rs, go⟩)) ∧ Kept w w' := by
  go_enter Tryz.func53, Tryz.ntmps53
  go_wp2_with fail; refine (tdoes_any _).mono ?_; rintro e w1 ⟨rfl, hw1⟩
  have hcs : CellsAt w1 [(w.heap.size + 1, 0, .int .i64 st), (w.heap.size + 1, 1, .int .i64 ki), (w.heap.size + 1, 2, .int .i64 va), (w.heap.size + 1, 3, .int .i64 un), (w.heap.size + 1, 4, .int .i64 pc), (w.heap.size + 1, 5, .int .i64 re), (w.heap.size + 1, 6, .int .i64 se), (w.heap.size + 1, 7, .int .i64 tr), (w.heap.size + 1, 8, .bool la), (w.heap.size + 1, 9, .int .i64 rs), (w.heap.size + 1, 10, .int .i64 go)] := cells_keep hw1 (by (simp only [CellsAt]; (repeat' (first | exact trivial | (refine And.intro ?_ ?_))); all_goals (first | (focus ((try simp only [World.size_setCell, World.size_alloc]); omega)) | (repeat (first | rfl | assumption | (refine (World.cell?_alloc_past _ _ _ ?_).trans ?_; focus ((try simp only [World.size_setCell, World.size_alloc]); omega)) | (refine (World.cell?_alloc_at _ _ _ _ ?_).trans ?_; focus ((try simp only [World.size_setCell, World.size_alloc]); done)) | (refine (World.cell?_setCell_other _ _ _ _ ?_).trans ?_; focus (simp; done)) | (refine (World.cell?_setCell_other _ _ _ _ ?_).trans ?_; focus (simp; omega)) | (refine World.cell?_setCell_same' _ _ _ ?_; focus (simp; done)))))))
  have hq0 := hcs.1.2; have hq1 := hcs.2.1.2; have hq2 := hcs.2.2.1.2; have hq3 := hcs.2.2.2.1.2; have hq4 := hcs.2.2.2.2.1.2; have hq5 := hcs.2.2.2.2.2.1.2; have hq6 := hcs.2.2.2.2.2.2.1.2; have hq7 := hcs.2.2.2.2.2.2.2.1.2; have hq8 := hcs.2.2.2.2.2.2.2.2.1.2; have hq9 := hcs.2.2.2.2.2.2.2.2.2.1.2; have hq10 := hcs.2.2.2.2.2.2.2.2.2.2.1.2; have hz0 := hcs.1.1
  have hB : Below w.heap.size w w1 := by repeat' (first | (with_reducible exact Below.refl _ _) | (with_reducible assumption) | (with_reducible refine kept_alloc ?_ _) | (with_reducible refine kept_drewN ?_ _) | (with_reducible refine Below.drew ?_) | (with_reducible refine Below.setCell ?_ (by first | omega | (simp; omega) | (simp; done)) _) | (refine kept_trans ?_ (by with_reducible assumption)))
  clear hw1
  go_wp2_with (first | (go_at_call 80; refine (twaits_any _).mono ?_; rintro e wx ⟨rfl, hgx⟩; try (have hcs := cells_keep hgx hcs; have hq0 := hcs.1.2; have hq1 := hcs.2.1.2; have hq2 := hcs.2.2.1.2; have hq3 := hcs.2.2.2.1.2; have hq4 := hcs.2.2.2.2.1.2; have hq5 := hcs.2.2.2.2.2.1.2; have hq6 := hcs.2.2.2.2.2.2.1.2; have hq7 := hcs.2.2.2.2.2.2.2.1.2; have hq8 := hcs.2.2.2.2.2.2.2.2.1.2; have hq9 := hcs.2.2.2.2.2.2.2.2.2.1.2; have hq10 := hcs.2.2.2.2.2.2.2.2.2.2.1.2; have hz0 := hcs.1.1)) | (go_at_call 81; refine (tcounts_any _).mono ?_; rintro e wx ⟨rfl, hgx⟩; try (have hcs := cells_keep hgx hcs; have hq0 := hcs.1.2; have hq1 := hcs.2.1.2; have hq2 := hcs.2.2.1.2; have hq3 := hcs.2.2.2.1.2; have hq4 := hcs.2.2.2.2.1.2; have hq5 := hcs.2.2.2.2.2.1.2; have hq6 := hcs.2.2.2.2.2.2.1.2; have hq7 := hcs.2.2.2.2.2.2.2.1.2; have hq8 := hcs.2.2.2.2.2.2.2.2.1.2; have hq9 := hcs.2.2.2.2.2.2.2.2.2.1.2; have hq10 := hcs.2.2.2.2.2.2.2.2.2.2.1.2; have hz0 := hcs.1.1)) | (go_at_call 64; refine (tidle_any _).mono ?_; rintro e wx ⟨rfl, hgx⟩; try (have hcs := cells_keep hgx hcs; have hq0 := hcs.1.2; have hq1 := hcs.2.1.2; have hq2 := hcs.2.2.1.2; have hq3 := hcs.2.2.2.1.2; have hq4 := hcs.2.2.2.2.1.2; have hq5 := hcs.2.2.2.2.2.1.2; have hq6 := hcs.2.2.2.2.2.2.1.2; have hq7 := hcs.2.2.2.2.2.2.2.1.2; have hq8 := hcs.2.2.2.2.2.2.2.2.1.2; have hq9 := hcs.2.2.2.2.2.2.2.2.2.1.2; have hq10 := hcs.2.2.2.2.2.2.2.2.2.2.1.2; have hz0 := hcs.1.1)) | (go_at_call 82; refine (trests_any _).mono ?_; rintro e wx ⟨rfl, hgx⟩; try (have hcs := cells_keep hgx hcs; have hq0 := hcs.1.2; have hq1 := hcs.2.1.2; have hq2 := hcs.2.2.1.2; have hq3 := hcs.2.2.2.1.2; have hq4 := hcs.2.2.2.2.1.2; have hq5 := hcs.2.2.2.2.2.1.2; have hq6 := hcs.2.2.2.2.2.2.1.2; have hq7 := hcs.2.2.2.2.2.2.2.1.2; have hq8 := hcs.2.2.2.2.2.2.2.2.1.2; have hq9 := hcs.2.2.2.2.2.2.2.2.2.1.2; have hq10 := hcs.2.2.2.2.2.2.2.2.2.2.1.2; have hz0 := hcs.1.1)))
  all_goals (go_ret; exact ⟨ret_bool (by simp_all [thB]), by repeat' (first | (with_reducible exact Below.refl _ _) | (with_reducible assumption) | (with_reducible refine kept_alloc ?_ _) | (with_reducible refine kept_drewN ?_ _) | (with_reducible refine Below.drew ?_) | (with_reducible refine Below.setCell ?_ (by first | omega | (simp; omega) | (simp; done)) _) | (refine kept_trans ?_ (by with_reducible assumption)))⟩)
end Go.Proofs.YtcakapmpifnfpaaGreat

/- Layer 5: the library's looks at slices of integers (Index, Contains, IndexFunc, ContainsFunc, Delete), over slices as lists. -/
namespace Go.Proofs.YtcakapmpifnfpaaGreat
set_option linter.unusedVariables false
set_option linter.unusedSimpArgs false
open Go.ChangeShapes Go.WideShapes Go.ChangeAt Go.RowKit

theorem sli_at {W : World} {l : List Int} {b o n c : Nat} (h : Sl W 1 intC l (.slice (some ⟨b, o, none⟩) n c)) {j : Nat} (hj : j < l.length) : W.cell? ⟨b, o + j, none⟩ = some (.int .i64 l[j]) := by
  obtain ⟨p, k, e, _, _, _, h4⟩ := h.is
  cases e
  obtain ⟨b', o', e, _, h5⟩ := h4 (by intro h; subst h; simp at hj)
  cases e
  have h6 := h5 j l[j] (List.getElem?_eq_getElem hj) 0 (by omega)
  simpa [intC] using h6

set_option maxHeartbeats 1000000 in
theorem index_any (l : List Int) (x : Int) (p : Option Addr) (k : Nat) (w : World) (hl : Sl w 1 intC l (.slice p l.length k)) :
    Calls Tryz.prog 105 #[.slice p l.length k, .int .i64 x] w fun e w' => e = .returned (.int .i64 (ixI l x)) ∧ Kept w w' := by
  have H := Lib.hid hl
  obtain ⟨_, _, e1, hlk, hkm, _, hne⟩ := hl.is
  cases e1
  have hbig : l.length ≤ 9223372036854775807 := by unfold maxLen at hkm; omega
  clear hl hkm
  obtain ⟨N, hN⟩ : ∃ N, l.length = N := ⟨_, rfl⟩
  rw [hN] at hbig hlk ⊢
  have HN := Lib.hid hN
  have HNE := Lib.hid hne
  clear hN hne
  go_enter Tryz.func105, Tryz.ntmps105
  go_wp2
  go_loopw [5, 8] (fun _ s8 wr => ∃ j : Nat, j ≤ N ∧ s8 = .int .i64 j ∧ Hid (x ∉ l.take j) ∧ Below w.heap.size w wr) (fun _ s8 _ => N - (intOf s8).toNat)
  case atStart => exact ⟨0, by omega, rfl, Lib.hid (by simp), Below.refl _ _⟩
  case round =>
    obtain ⟨j, hj, rfl, T, hB⟩ := hrel
    by_cases hlt : j < N
    · have hlt' : j < l.length := by rw [HN.out]; exact hlt
      obtain ⟨b, o, rfl, hb, -⟩ := HNE.out (by intro h; subst h; simp at hlt')
      have c1 := (hB.cell (p := ⟨b, o + j, none⟩) hb).trans (sli_at H.out hlt')
      have hbw : b < wr.heap.size := Nat.lt_of_lt_of_le hb hB.size
      have i1 : (0 : Int) ≤ (j : Int) := by omega
      have i2 : (j : Int) < (N : Int) := by omega
      have Hh : Hid (l[j] = x → ixI l x = j) := fun h => ix_hit hlt' h T.out
      have Hn : Hid (l[j] ≠ x → x ∉ l.take (j + 1)) := fun h => not_take_succ hlt' h T.out
      generalize l[j] = y at *
      cases hxy : (x == y)
      · have hn := Lib.hid (Hn.out (by have h : x ≠ y := by simpa using hxy
                                       exact Ne.symm h))
        clear Hh Hn
        go_wp2
        exact ⟨⟨j + 1, by omega, by go_num, hn.out, by repeat' (first | (with_reducible exact Below.refl _ _) | (with_reducible assumption) | (with_reducible refine kept_alloc ?_ _) | (with_reducible refine kept_drewN ?_ _) | (with_reducible refine Below.drew ?_) | (with_reducible refine Below.setCell ?_ (by first | omega | (simp; omega) | (simp; done)) _) | (refine kept_trans ?_ (by with_reducible assumption)))⟩, by simp [intOf]; omega⟩
      · have hn := Lib.hid (Hh.out (by have h : x = y := by simpa using hxy
                                       exact h.symm))
        clear Hh Hn
        go_wp2
        go_ret
        exact ⟨ret_int hn.out.symm, by repeat' (first | (with_reducible exact Below.refl _ _) | (with_reducible assumption) | (with_reducible refine kept_alloc ?_ _) | (with_reducible refine kept_drewN ?_ _) | (with_reducible refine Below.drew ?_) | (with_reducible refine Below.setCell ?_ (by first | omega | (simp; omega) | (simp; done)) _) | (refine kept_trans ?_ (by with_reducible assumption)))⟩
    · have : j = N := by omega
      subst this
      have hn : Hid (x ∉ l) := Lib.hid (by have := T.out; rw [← HN.out, List.take_length] at this; exact this)
      clear T
      go_wp2
      go_ret
      exact ⟨ret_int (ix_miss hn.out).symm, by repeat' (first | (with_reducible exact Below.refl _ _) | (with_reducible assumption) | (with_reducible refine kept_alloc ?_ _) | (with_reducible refine kept_drewN ?_ _) | (with_reducible refine Below.drew ?_) | (with_reducible refine Below.setCell ?_ (by first | omega | (simp; omega) | (simp; done)) _) | (refine kept_trans ?_ (by with_reducible assumption)))⟩

theorem ret_contains {l : List Int} {x : Int} : Ending.returned (.bool (decide (0 ≤ ixI l x))) = .returned (.bool (decide (x ∈ l))) := ret_bool (by simp [ix_nonneg])
theorem contains_any (l : List Int) (x : Int) (p : Option Addr) (k : Nat) (w : World) (hl : Sl w 1 intC l (.slice p l.length k)) :
    Calls Tryz.prog 91 #[.slice p l.length k, .int .i64 x] w fun e w' => e = .returned (.bool (decide (x ∈ l))) ∧ Kept w w' := by
  have H := Lib.hid hl
  clear hl
  go_enter Tryz.func91, Tryz.ntmps91
  go_wp2_with fail
  refine (index_any l x p k _ (H.out.kept (by repeat' (first | (with_reducible exact Below.refl _ _) | (with_reducible assumption) | (with_reducible refine kept_alloc ?_ _) | (with_reducible refine kept_drewN ?_ _) | (with_reducible refine Below.drew ?_) | (with_reducible refine Below.setCell ?_ (by first | omega | (simp; omega) | (simp; done)) _) | (refine kept_trans ?_ (by with_reducible assumption)))))).mono ?_
  rintro e w1 ⟨rfl, hg1⟩
  go_wp2
  go_ret
  exact ⟨ret_contains, by repeat' (first | (with_reducible exact Below.refl _ _) | (with_reducible assumption) | (with_reducible refine kept_alloc ?_ _) | (with_reducible refine kept_drewN ?_ _) | (with_reducible refine Below.drew ?_) | (with_reducible refine Below.setCell ?_ (by first | omega | (simp; omega) | (simp; done)) _) | (refine kept_trans ?_ (by with_reducible assumption)))⟩

/-! ### A closure that tells of a number -/
/-- What a function value (function g, what it captured lb) tells of each number, in each world that keeps w. -/
def Tells (g : Nat) (lb : Array Value) (f : Int → Bool) (w : World) : Prop := ∀ (W : World) (x : Int), Below w.heap.size w W → Calls Tryz.prog g (#[.int .i64 x] ++ lb) W fun e W' => e = .returned (.bool (f x)) ∧ Kept W W'
theorem Tells.kept {g : Nat} {lb : Array Value} {f : Int → Bool} {w w' : World} (h : Tells g lb f w) (hk : Below w.heap.size w w') : Tells g lb f w' := fun W x hW => h W x (kept_trans hk hW)

theorem findIdx_take {l : List Int} {f : Int → Bool} {j : Nat} (hj : j < l.length) (hf : f l[j] = false) (h : (l.take j).any f = false) : (l.take (j + 1)).any f = false := by
  rw [List.take_succ_eq_append_getElem hj, List.any_append, h]
  simp [hf]

set_option maxHeartbeats 1000000 in
/-- Where the first one lies of which f holds: at or above 0, just if there is one. -/
theorem indexFunc_any (l : List Int) (f : Int → Bool) (g : Nat) (lb : Array Value) (eg : ∀ args w, (callFunc g args).run Tryz.prog w = .ok (.enter g args) w) (p : Option Addr) (k : Nat) (w : World) (hl : Sl w 1 intC l (.slice p l.length k)) (hg : Tells g lb f w) :
    Calls Tryz.prog 78 #[.slice p l.length k, .func (.func g) #[] lb] w fun e w' => ∃ r : Int, e = .returned (.int .i64 r) ∧ decide (0 ≤ r) = l.any f ∧ Kept w w' := by
  have H := Lib.hid hl
  obtain ⟨_, _, e1, hlk, hkm, _, hne⟩ := hl.is
  cases e1
  have hbig : l.length ≤ 9223372036854775807 := by unfold maxLen at hkm; omega
  clear hl hkm
  obtain ⟨N, hN⟩ : ∃ N, l.length = N := ⟨_, rfl⟩
  rw [hN] at hbig hlk ⊢
  have HN := Lib.hid hN
  have HNE := Lib.hid hne
  have HG := Lib.hid hg
  clear hN hne hg
  go_enter Tryz.func78, Tryz.ntmps78
  go_wp2
  go_loopw [5, 8] (fun _ s8 wr => ∃ j : Nat, j ≤ N ∧ s8 = .int .i64 j ∧ Hid ((l.take j).any f = false) ∧ Below w.heap.size w wr) (fun _ s8 _ => N - (intOf s8).toNat)
  case atStart => exact ⟨0, by omega, rfl, Lib.hid (by simp), Below.refl _ _⟩
  case round =>
    obtain ⟨j, hj, rfl, T, hB⟩ := hrel
    by_cases hlt : j < N
    · have hlt' : j < l.length := by rw [HN.out]; exact hlt
      obtain ⟨b, o, rfl, hb, -⟩ := HNE.out (by intro h; subst h; simp at hlt')
      have c1 := (hB.cell (p := ⟨b, o + j, none⟩) hb).trans (sli_at H.out hlt')
      have hbw : b < wr.heap.size := Nat.lt_of_lt_of_le hb hB.size
      have i1 : (0 : Int) ≤ (j : Int) := by omega
      have i2 : (j : Int) < (N : Int) := by omega
      have Hh : Hid (f l[j] = true → l.any f = true) := fun h => List.any_eq_true.2 ⟨_, List.getElem_mem hlt', h⟩
      have Hn : Hid (f l[j] = false → (l.take (j + 1)).any f = false) := fun h => findIdx_take hlt' h T.out
      have hcall := HG.out wr l[j] hB
      generalize l[j] = y at *
      cases hxy : f y
      · have hn := Lib.hid (Hn.out hxy)
        rw [hxy] at hcall
        clear Hh Hn hxy
        go_wp2_with (go_at_fn g; refine hcall.mono ?_; rintro e w1 ⟨rfl, hg1⟩)
        exact ⟨⟨j + 1, by omega, by go_num, hn.out, by repeat' (first | (with_reducible exact Below.refl _ _) | (with_reducible assumption) | (with_reducible refine kept_alloc ?_ _) | (with_reducible refine kept_drewN ?_ _) | (with_reducible refine Below.drew ?_) | (with_reducible refine Below.setCell ?_ (by first | omega | (simp; omega) | (simp; done)) _) | (refine kept_trans ?_ (by with_reducible assumption)))⟩, by simp [intOf]; omega⟩
      · have hn := Lib.hid (Hh.out hxy)
        rw [hxy] at hcall
        clear Hh Hn hxy
        go_wp2_with (go_at_fn g; refine hcall.mono ?_; rintro e w1 ⟨rfl, hg1⟩)
        go_ret
        exact ⟨j, rfl, by rw [hn.out]; simp, by repeat' (first | (with_reducible exact Below.refl _ _) | (with_reducible assumption) | (with_reducible refine kept_alloc ?_ _) | (with_reducible refine kept_drewN ?_ _) | (with_reducible refine Below.drew ?_) | (with_reducible refine Below.setCell ?_ (by first | omega | (simp; omega) | (simp; done)) _) | (refine kept_trans ?_ (by with_reducible assumption)))⟩
    · have : j = N := by omega
      subst this
      have hn : Hid (l.any f = false) := Lib.hid (by have := T.out; rw [← HN.out, List.take_length] at this; exact this)
      clear T
      go_wp2
      go_ret
      exact ⟨-1, rfl, by rw [hn.out]; rfl, by repeat' (first | (with_reducible exact Below.refl _ _) | (with_reducible assumption) | (with_reducible refine kept_alloc ?_ _) | (with_reducible refine kept_drewN ?_ _) | (with_reducible refine Below.drew ?_) | (with_reducible refine Below.setCell ?_ (by first | omega | (simp; omega) | (simp; done)) _) | (refine kept_trans ?_ (by with_reducible assumption)))⟩

theorem containsFunc_any (l : List Int) (f : Int → Bool) (g : Nat) (lb : Array Value) (eg : ∀ args w, (callFunc g args).run Tryz.prog w = .ok (.enter g args) w) (p : Option Addr) (k : Nat) (w : World) (hl : Sl w 1 intC l (.slice p l.length k)) (hg : Tells g lb f w) :
    Calls Tryz.prog 51 #[.slice p l.length k, .func (.func g) #[] lb] w fun e w' => e = .returned (.bool (l.any f)) ∧ Kept w w' := by
  have H := Lib.hid hl
  have HG := Lib.hid hg
  clear hl hg
  go_enter Tryz.func51, Tryz.ntmps51
  go_wp2_with fail
  refine (indexFunc_any l f g lb eg p k _ (H.out.kept (by repeat' (first | (with_reducible exact Below.refl _ _) | (with_reducible assumption) | (with_reducible refine kept_alloc ?_ _) | (with_reducible refine kept_drewN ?_ _) | (with_reducible refine Below.drew ?_) | (with_reducible refine Below.setCell ?_ (by first | omega | (simp; omega) | (simp; done)) _) | (refine kept_trans ?_ (by with_reducible assumption))))) (HG.out.kept (by repeat' (first | (with_reducible exact Below.refl _ _) | (with_reducible assumption) | (with_reducible refine kept_alloc ?_ _) | (with_reducible refine kept_drewN ?_ _) | (with_reducible refine Below.drew ?_) | (with_reducible refine Below.setCell ?_ (by first | omega | (simp; omega) | (simp; done)) _) | (refine kept_trans ?_ (by with_reducible assumption)))))).mono ?_
  rintro e w1 ⟨r, rfl, hr, hg1⟩
  have HR := Lib.hid hr
  clear hr
  go_wp2
  go_ret
  exact ⟨ret_bool HR.out, by repeat' (first | (with_reducible exact Below.refl _ _) | (with_reducible assumption) | (with_reducible refine kept_alloc ?_ _) | (with_reducible refine kept_drewN ?_ _) | (with_reducible refine Below.drew ?_) | (with_reducible refine Below.setCell ?_ (by first | omega | (simp; omega) | (simp; done)) _) | (refine kept_trans ?_ (by with_reducible assumption)))⟩
end Go.Proofs.YtcakapmpifnfpaaGreat

/- Layer 5: who is none (a closure), who is unlike, a line copied; Check, Place, First. -/
namespace Go.Proofs.YtcakapmpifnfpaaGreat
set_option linter.unusedVariables false
set_option linter.unusedSimpArgs false
open Go.ChangeShapes Go.WideShapes Go.ChangeAt Go.RowKit

theorem none_enters : ∀ args w, (callFunc 90 args).run Tryz.prog w = .ok (.enter 90 args) w := enters_of Tryz.func90 (by kernel_rfl) rfl
theorem none1_tells (th : Int) (b : Nat) (w : World) (hb : b < w.heap.size) (hc : w.cell? ⟨b, 0, none⟩ = some (.int .i64 th)) : Tells 90 #[.pointer (some ⟨b, 0, none⟩)] (noneB th) w := by
  intro W x hW
  have c1 := (hW.cell (p := ⟨b, 0, none⟩) hb).trans hc
  show Calls Tryz.prog 90 #[.int .i64 x, .pointer (some ⟨b, 0, none⟩)] W _
  go_enter Tryz.func90, Tryz.ntmps90
  go_wp2
  all_goals (go_ret; exact ⟨ret_bool (by simp [noneB, *]), by repeat' (first | (with_reducible exact Below.refl _ _) | (with_reducible assumption) | (with_reducible refine kept_alloc ?_ _) | (with_reducible refine kept_drewN ?_ _) | (with_reducible refine Below.drew ?_) | (with_reducible refine Below.setCell ?_ (by first | omega | (simp; omega) | (simp; done)) _) | (refine kept_trans ?_ (by with_reducible assumption)))⟩)
def RetNone (th : Int) (w : World) (e : Ending) (w' : World) : Prop := ∃ lb, e = .returned (.func (.func 90) #[] lb) ∧ Tells 90 lb (noneB th) w' ∧ Kept w w'
theorem lnone_any (th : Int) (w : World) : Calls Tryz.prog 76 #[.int .i64 th] w (RetNone th w) := by
  go_enter Tryz.func76, Tryz.ntmps76
  go_wp2
  go_ret
  exact ⟨_, rfl, none1_tells th w.heap.size _ (by simp) (by simp), by repeat' (first | (with_reducible exact Below.refl _ _) | (with_reducible assumption) | (with_reducible refine kept_alloc ?_ _) | (with_reducible refine kept_drewN ?_ _) | (with_reducible refine Below.drew ?_) | (with_reducible refine Below.setCell ?_ (by first | omega | (simp; omega) | (simp; done)) _) | (refine kept_trans ?_ (by with_reducible assumption)))⟩

theorem Sl.take {α : Type} {W : World} {k : Nat} {enc : α → List Value} {xs : List α} {p : Option Addr} {n c i : Nat} (h : Sl W k enc xs (.slice p n c)) (hi : i ≤ xs.length) : Sl W k enc (xs.take i) (.slice p i c) := by
  obtain ⟨q, cap, hv, h1, h2, h3, h4⟩ := h.is
  cases hv
  refine ⟨p, c, by simp; omega, by simp; omega, h2, h3, fun hne => ?_⟩
  obtain ⟨b, o, hp, hb, hc⟩ := h4 (by intro h; subst h; simp at hne)
  refine ⟨b, o, hp, hb, fun j x hx m hm => hc j x ?_ m hm⟩
  rw [List.getElem?_take] at hx
  split at hx
  · exact hx
  · cases hx

set_option maxHeartbeats 1000000 in
theorem unlike_any (l : List Int) (p : Option Addr) (k : Nat) (w : World) (hl : Sl w 1 intC l (.slice p l.length k)) :
    Calls Tryz.prog 77 #[.slice p l.length k] w fun e w' => e = .returned (.bool (decide l.Nodup)) ∧ Kept w w' := by
  have H := Lib.hid hl
  obtain ⟨_, _, e1, hlk, hkm, _, hne⟩ := hl.is
  cases e1
  have hbig : l.length ≤ 9223372036854775807 := by unfold maxLen at hkm; omega
  clear hl hkm
  obtain ⟨N, hN⟩ : ∃ N, l.length = N := ⟨_, rfl⟩
  rw [hN] at hbig hlk ⊢
  have HN := Lib.hid hN
  have HNE := Lib.hid hne
  clear hN hne
  go_enter Tryz.func77, Tryz.ntmps77
  go_wp2
  go_loopw [3, 4, 7] (fun _ _ s7 wr => ∃ j : Nat, j ≤ N ∧ s7 = .int .i64 j ∧ Hid ((l.take j).Nodup) ∧ Below w.heap.size w wr) (fun _ _ s7 _ => N - (intOf s7).toNat)
  case atStart => exact ⟨0, by omega, rfl, Lib.hid (by simp), Below.refl _ _⟩
  case round =>
    obtain ⟨j, hj, rfl, T, hB⟩ := hrel
    by_cases hlt : j < N
    · have hlt' : j < l.length := by rw [HN.out]; exact hlt
      obtain ⟨b, o, rfl, hb, -⟩ := HNE.out (by intro h; subst h; simp at hlt')
      have c1 := (hB.cell (p := ⟨b, o + j, none⟩) hb).trans (sli_at H.out hlt')
      have hbw : b < wr.heap.size := Nat.lt_of_lt_of_le hb hB.size
      have i1 : (0 : Int) ≤ (j : Int) := by omega
      have i2 : (j : Int) < (N : Int) := by omega
      have i3 : j ≤ k := by omega
      have Hh : Hid (decide (l[j] ∈ l.take j) = true → decide l.Nodup = false) := fun h => decide_eq_false (not_nodup_of_take hlt' (of_decide_eq_true h))
      have Hn : Hid (decide (l[j] ∈ l.take j) = false → (l.take (j + 1)).Nodup) := fun h => (nodup_take_succ hlt').2 ⟨T.out, of_decide_eq_false h⟩
      have HT : Hid (Sl wr 1 intC (l.take j) (.slice (some ⟨b, o, none⟩) j k)) := Lib.hid (Sl.take (H.out.kept hB) (by omega))
      have HL : Hid ((l.take j).length = j) := Lib.hid (by simp; omega)
      generalize l[j] = y at *
      generalize l.take j = t at *
      obtain ⟨D, hD⟩ : ∃ D, decide (y ∈ t) = D := ⟨_, rfl⟩
      have HD := Lib.hid hD
      rw [hD] at Hh Hn
      clear hD
      go_wp2_with fail
      refine ((HL.out ▸ contains_any t y (some ⟨b, o, none⟩) k _ (HL.out.symm ▸ HT.out.kept (by repeat' (first | (with_reducible exact Below.refl _ _) | (with_reducible assumption) | (with_reducible refine kept_alloc ?_ _) | (with_reducible refine kept_drewN ?_ _) | (with_reducible refine Below.drew ?_) | (with_reducible refine Below.setCell ?_ (by first | omega | (simp; omega) | (simp; done)) _) | (refine kept_trans ?_ (by with_reducible assumption))))) : Calls Tryz.prog 91 #[.slice (some ⟨b, o, none⟩) j k, .int .i64 y] _ _)).mono ?_
      rintro e w1 ⟨rfl, hg1⟩
      rw [HD.out]
      cases D
      · have hn := Lib.hid (Hn.out rfl)
        clear Hh Hn
        go_wp2
        exact ⟨⟨j + 1, by omega, by go_num, hn.out, by repeat' (first | (with_reducible exact Below.refl _ _) | (with_reducible assumption) | (with_reducible refine kept_alloc ?_ _) | (with_reducible refine kept_drewN ?_ _) | (with_reducible refine Below.drew ?_) | (with_reducible refine Below.setCell ?_ (by first | omega | (simp; omega) | (simp; done)) _) | (refine kept_trans ?_ (by with_reducible assumption)))⟩, by simp [intOf]; omega⟩
      · have hn := Lib.hid (Hh.out rfl)
        clear Hh Hn
        go_wp2
        go_ret
        exact ⟨ret_bool hn.out.symm, by repeat' (first | (with_reducible exact Below.refl _ _) | (with_reducible assumption) | (with_reducible refine kept_alloc ?_ _) | (with_reducible refine kept_drewN ?_ _) | (with_reducible refine Below.drew ?_) | (with_reducible refine Below.setCell ?_ (by first | omega | (simp; omega) | (simp; done)) _) | (refine kept_trans ?_ (by with_reducible assumption)))⟩
    · have : j = N := by omega
      subst this
      have hn : Hid (l.Nodup) := Lib.hid (by have := T.out; rw [← HN.out, List.take_length] at this; exact this)
      clear T
      go_wp2
      go_ret
      exact ⟨ret_bool (by simp [hn.out]), by repeat' (first | (with_reducible exact Below.refl _ _) | (with_reducible assumption) | (with_reducible refine kept_alloc ?_ _) | (with_reducible refine kept_drewN ?_ _) | (with_reducible refine Below.drew ?_) | (with_reducible refine Below.setCell ?_ (by first | omega | (simp; omega) | (simp; done)) _) | (refine kept_trans ?_ (by with_reducible assumption)))⟩

theorem ok_any {l : List Int} (h : l.any (noneB 16) = true) : okLn l = false := by simp [okLn, h]
theorem ok_all {l : List Int} (h : l.any (noneB 16) = false) : okLn l = decide l.Nodup := by simp [okLn, h]
theorem lcheck_any (l : List Int) (p : Option Addr) (k : Nat) (w : World) (hl : Sl w 1 intC l (.slice p l.length k)) :
    Calls Tryz.prog 50 #[.slice p l.length k] w fun e w' => e = .returned (.bool (okLn l)) ∧ Kept w w' := by
  have H := Lib.hid hl
  clear hl
  obtain ⟨A, hA⟩ : ∃ A, l.any (noneB 16) = A := ⟨_, rfl⟩
  have HA := Lib.hid hA
  cases A
  · rw [ok_all hA]
    clear hA
    go_enter Tryz.func50, Tryz.ntmps50
    go_wp2_with fail
    refine (lnone_any 16 _).mono ?_
    rintro e w1 ⟨lb, rfl, hT, hg1⟩
    go_wp2_with fail
    refine (containsFunc_any l _ _ lb none_enters p k _ (H.out.kept (by repeat' (first | (with_reducible exact Below.refl _ _) | (with_reducible assumption) | (with_reducible refine kept_alloc ?_ _) | (with_reducible refine kept_drewN ?_ _) | (with_reducible refine Below.drew ?_) | (with_reducible refine Below.setCell ?_ (by first | omega | (simp; omega) | (simp; done)) _) | (refine kept_trans ?_ (by with_reducible assumption))))) hT).mono ?_
    rintro e w2 ⟨rfl, hg2⟩
    rw [HA.out]
    go_wp2_with fail
    refine (unlike_any l p k _ (H.out.kept (by repeat' (first | (with_reducible exact Below.refl _ _) | (with_reducible assumption) | (with_reducible refine kept_alloc ?_ _) | (with_reducible refine kept_drewN ?_ _) | (with_reducible refine Below.drew ?_) | (with_reducible refine Below.setCell ?_ (by first | omega | (simp; omega) | (simp; done)) _) | (refine kept_trans ?_ (by with_reducible assumption)))))).mono ?_
    rintro e w3 ⟨rfl, hg3⟩
    go_wp2
    all_goals (go_ret; exact ⟨rfl, by repeat' (first | (with_reducible exact Below.refl _ _) | (with_reducible assumption) | (with_reducible refine kept_alloc ?_ _) | (with_reducible refine kept_drewN ?_ _) | (with_reducible refine Below.drew ?_) | (with_reducible refine Below.setCell ?_ (by first | omega | (simp; omega) | (simp; done)) _) | (refine kept_trans ?_ (by with_reducible assumption)))⟩)
  · rw [ok_any hA]
    clear hA
    go_enter Tryz.func50, Tryz.ntmps50
    go_wp2_with fail
    refine (lnone_any 16 _).mono ?_
    rintro e w1 ⟨lb, rfl, hT, hg1⟩
    go_wp2_with fail
    refine (containsFunc_any l _ _ lb none_enters p k _ (H.out.kept (by repeat' (first | (with_reducible exact Below.refl _ _) | (with_reducible assumption) | (with_reducible refine kept_alloc ?_ _) | (with_reducible refine kept_drewN ?_ _) | (with_reducible refine Below.drew ?_) | (with_reducible refine Below.setCell ?_ (by first | omega | (simp; omega) | (simp; done)) _) | (refine kept_trans ?_ (by with_reducible assumption))))) hT).mono ?_
    rintro e w2 ⟨rfl, hg2⟩
    rw [HA.out]
    go_wp2
    go_ret
    exact ⟨rfl, by repeat' (first | (with_reducible exact Below.refl _ _) | (with_reducible assumption) | (with_reducible refine kept_alloc ?_ _) | (with_reducible refine kept_drewN ?_ _) | (with_reducible refine Below.drew ?_) | (with_reducible refine Below.setCell ?_ (by first | omega | (simp; omega) | (simp; done)) _) | (refine kept_trans ?_ (by with_reducible assumption)))⟩

theorem lplace_any (l : List Int) (i : Int) (p : Option Addr) (k : Nat) (w : World) (hl : Sl w 1 intC l (.slice p l.length k)) :
    Calls Tryz.prog 167 #[.slice p l.length k, .int .i64 i] w fun e w' => e = .returned (.int .i64 (plI l i)) ∧ Kept w w' := by
  have H := Lib.hid hl
  clear hl
  unfold plI
  cases hok : okLn l
  all_goals
    have HO := Lib.hid hok
    clear hok
    go_enter Tryz.func167, Tryz.ntmps167
    go_wp2_with fail
    refine (lcheck_any l p k _ (H.out.kept (by repeat' (first | (with_reducible exact Below.refl _ _) | (with_reducible assumption) | (with_reducible refine kept_alloc ?_ _) | (with_reducible refine kept_drewN ?_ _) | (with_reducible refine Below.drew ?_) | (with_reducible refine Below.setCell ?_ (by first | omega | (simp; omega) | (simp; done)) _) | (refine kept_trans ?_ (by with_reducible assumption)))))).mono ?_
    rintro e w1 ⟨rfl, hg1⟩
    rw [HO.out]
  · go_wp2
    go_ret
    exact ⟨rfl, by repeat' (first | (with_reducible exact Below.refl _ _) | (with_reducible assumption) | (with_reducible refine kept_alloc ?_ _) | (with_reducible refine kept_drewN ?_ _) | (with_reducible refine Below.drew ?_) | (with_reducible refine Below.setCell ?_ (by first | omega | (simp; omega) | (simp; done)) _) | (refine kept_trans ?_ (by with_reducible assumption)))⟩
  · go_wp2_with fail
    refine (index_any l i p k _ (H.out.kept (by repeat' (first | (with_reducible exact Below.refl _ _) | (with_reducible assumption) | (with_reducible refine kept_alloc ?_ _) | (with_reducible refine kept_drewN ?_ _) | (with_reducible refine Below.drew ?_) | (with_reducible refine Below.setCell ?_ (by first | omega | (simp; omega) | (simp; done)) _) | (refine kept_trans ?_ (by with_reducible assumption)))))).mono ?_
    rintro e w2 ⟨rfl, hg2⟩
    go_wp2
    go_ret
    exact ⟨rfl, by repeat' (first | (with_reducible exact Below.refl _ _) | (with_reducible assumption) | (with_reducible refine kept_alloc ?_ _) | (with_reducible refine kept_drewN ?_ _) | (with_reducible refine Below.drew ?_) | (with_reducible refine Below.setCell ?_ (by first | omega | (simp; omega) | (simp; done)) _) | (refine kept_trans ?_ (by with_reducible assumption)))⟩
end Go.Proofs.YtcakapmpifnfpaaGreat

/- Layer 5: a line copied, one taken out; Enter, Leave, Next. -/
namespace Go.Proofs.YtcakapmpifnfpaaGreat
set_option linter.unusedVariables false
set_option linter.unusedSimpArgs false
open Go.ChangeShapes Go.WideShapes Go.ChangeAt Go.RowKit

theorem owi_nil {W : World} {base : Nat} : Ow W base 3 1 intC [] (.slice none 0 0) := ⟨by simp, .inl ⟨rfl, rfl⟩⟩
theorem Ow.mono {α : Type} {W : World} {base base' k : Nat} {e : TypeId} {enc : α → List Value} {xs : List α} {v : Value} (h : Ow W base e k enc xs v) (hb : base' ≤ base) : Ow W base' e k enc xs v := by
  obtain ⟨h0, h1 | ⟨g, cap, cur, hv, hbg, hr⟩⟩ := h
  · exact ⟨h0, .inl h1⟩
  · exact ⟨h0, .inr ⟨g, cap, cur, hv, Nat.le_trans hb hbg, hr⟩⟩
theorem sli_one (w : World) (x : Int) {g : Nat} (hg : w.heap.size = g) : Sl (w.alloc (.cells #[.int .i64 x] 3)) 1 intC [x] (.slice (some ⟨g, 0, none⟩) 1 1) :=
  Ow.sl intEnc (Ow.made (base := 0) (e := 3) (W := w) intEnc [x] #[.int .i64 x] rfl (Nat.zero_le _) (by show 1 ≤ maxLen; decide) hg rfl)
/-- What a copy of a line leaves: a slice of the call's own. -/
def RetO (w : World) (r : List Int) (e : Ending) (w' : World) : Prop :=
  ∃ (p : Option Addr) (k : Nat), e = .returned (.slice p r.length k) ∧ Ow w' w.heap.size 3 1 intC r (.slice p r.length k) ∧ Kept w w'
theorem lkept_any (l : List Int) (p : Option Addr) (k : Nat) (w : World) (hl : Sl w 1 intC l (.slice p l.length k)) (hm : l.length ≤ 1000000) : Calls Tryz.prog 166 #[.slice p l.length k] w (RetO w l) := by
  have H := Lib.hid hl
  clear hl
  go_enter Tryz.func166, Tryz.ntmps166
  go_wp2_with ((at_builtin; refine wpList_app' (wb := w) rfl _ _ 27 rfl (.int .i64 0) 8 Tryz.underlying27 int_info rfl (by decide) intEnc rfl rfl (xs := []) (ys := l) owi_nil H.out (Below.refl _ _) (by simp only [List.length_append, List.length_nil, List.length_cons]; unfold maxLen; omega) (by simp only [List.length_append, List.length_nil, List.length_cons]; omega) ?_); intro v1 w1 h1 hb1)
  obtain ⟨p1, k1, rfl, -⟩ := (Ow.sl intEnc h1).is
  go_ret
  exact ⟨p1, k1, rfl, h1, hb1⟩

def lineDel_ren : Go.Shelf.Ren := ⟨fun | 23 => 181 | n => n, fun | 22 => 27 | 3 => 3 | 4 => 4 | 0 => 0 | n => n, fun | n => n⟩
theorem lineDel : Go.Proofs.Lays2.n23 Tryz.prog lineDel_ren := {
  mixed := by kernel_rfl
  f23 := Tryz.func181.trans (congrArg some (by kernel_rfl))
  t0 := Tryz.underlying0
  a0 := Tryz.isAgg0
  z0 := Tryz.sizeOf0
  v0 := Tryz.zeroValue0
  t3 := Tryz.underlying3
  a3 := Tryz.isAgg3
  z3 := Tryz.sizeOf3
  v3 := Tryz.zeroValue3
  t4 := Tryz.underlying4
  a4 := Tryz.isAgg4
  z4 := Tryz.sizeOf4
  v4 := Tryz.zeroValue4
  t22 := Tryz.underlying27
  a22 := Tryz.isAgg27
  z22 := Tryz.sizeOf27
  v22 := Tryz.zeroValue27
  i3 := by kernel_rfl }

theorem flat_intC (l : List Int) : l.flatMap intC = l.map (.int .i64) := by induction l <;> simp_all [intC]
/-- One taken out of a slice of the call's own. -/
theorem delete_any (l : List Int) (i : Nat) (p : Option Addr) (k base : Nat) (w : World) (ho : Ow w base 3 1 intC l (.slice p l.length k)) (hi : i < l.length) :
    Calls Tryz.prog 181 #[.slice p l.length k, .int .i64 i, .int .i64 (i + 1 : Nat)] w fun e w' => e = .returned (.slice p (l.length - 1) k) ∧ Ow w' base 3 1 intC (l.eraseIdx i) (.slice p (l.length - 1) k) ∧ Below base w w' := by
  obtain ⟨hlen, ⟨h1, h2⟩ | ⟨g, cap, cur, h1, hb, hg, hl, hm, hs, ht⟩⟩ := ho
  · omega
  · cases h1
    have hcell : ∀ j, j < l.length → cur[j]? = some (.int .i64 l.toArray[j]!) := by
      intro j hj
      have h3 : cur.toList[j]? = some (.int .i64 l[j]) := by
        have h4 : (cur.toList.take (l.length * 1))[j]? = cur.toList[j]? := List.getElem?_take_of_lt (by omega)
        rw [← h4, ht, flat_intC]
        simp [hj]
      rw [← Array.getElem?_toList, h3]
      simp [hj]
    have hH : Go.Sort.Holds (Value.int .i64) w g 0 l.toArray := by
      intro j hj
      have hj' : j < l.length := by simpa using hj
      refine ⟨?_, by simp [World.frozen?, hg]⟩
      simp only [World.cell?, hg, Nat.zero_add]
      simpa using hcell j hj'
    refine (Go.Proofs.Any.slices_Delete_int lineDel g 0 k i (i + 1) l w hH hl hm (by omega) (by omega)).mono ?_
    rintro e w' ⟨rfl, q, rfl⟩
    have hsz : (l.take i ++ l.drop (i + 1) ++ List.replicate (i + 1 - i) (0 : Int)).toArray.size = l.length := by simp; omega
    have her : l.take i ++ l.drop (i + 1) = l.eraseIdx i := (List.eraseIdx_eq_take_drop_succ l i).symm
    have hel : (l.eraseIdx i).length = l.length - 1 := List.length_eraseIdx_of_lt hi
    rw [her] at hsz ⊢
    obtain ⟨D, hD⟩ : ∃ D, (l.eraseIdx i ++ List.replicate (i + 1 - i) (0 : Int)).toArray = D := ⟨_, rfl⟩
    rw [hD] at hsz ⊢
    have hDl : D.toList.take (l.length - 1) = l.eraseIdx i := by rw [← hD, ← hel]; simp
    have hheap : (Go.Sort.putRow (Value.int .i64) (Go.Sort.ahead w q) g 0 D).heap[g]? = some (.cells (Go.Sort.putCells (Value.int .i64) 0 D cur) 3 (0, 0)) := by
      simp [Go.Sort.putRow, Go.Sort.mapBlock, Go.Sort.ahead, Array.getElem?_modify, hg, Go.Sort.onCells]
    refine ⟨by rw [show l.length - (i + 1 - i) = l.length - 1 by omega], ⟨by rw [flat_len intEnc, hel], .inr ⟨g, k, _, by rw [hel], hb, hheap, by omega, hm, by simpa [Go.Sort.putCells] using hs, ?_⟩⟩, ?_⟩
    · apply List.ext_getElem?
      intro j
      rw [List.getElem?_take, flat_intC, hel, ← hDl]
      split
      · rename_i hj
        have hjD : j < D.size := by omega
        have hjc : j < cur.size := by omega
        have h5 : (D.toList.take (l.length - 1))[j]? = some D[j] := by rw [List.getElem?_take_of_lt (by omega)]; simp [hjD]
        rw [List.getElem?_map, h5]
        simp [Go.Sort.putCells, hjD, hjc]
      · rename_i hj
        rw [List.getElem?_eq_none (by simp; omega)]
    · refine ⟨rfl, rfl, rfl, by simp [Go.Sort.ahead], fun j hj => ?_⟩
      simp [Go.Sort.putRow, Go.Sort.mapBlock, Go.Sort.ahead, Array.getElem?_modify]
      intro e; omega

theorem RetO.of {W w' : World} {r : List Int} {p : Option Addr} {k : Nat} (h : Ow w' W.heap.size 3 1 intC r (.slice p r.length k)) : Sl w' 1 intC r (.slice p r.length k) := Ow.sl intEnc h

/-- The same, where the line is of the call's own. -/
def RetLO (w : World) (r : List Int) (c : Int) (e : Ending) (w' : World) : Prop :=
  ∃ (p : Option Addr) (k : Nat), e = .returned (.tuple #[.slice p r.length k, .int .i64 c]) ∧ Ow w' w.heap.size 3 1 intC r (.slice p r.length k) ∧ Kept w w'
set_option maxHeartbeats 2000000 in
theorem lenter_own (l : List Int) (i : Int) (p : Option Addr) (k : Nat) (w : World) (hl : Sl w 1 intC l (.slice p l.length k)) (hm : l.length ≤ 999999) :
    Calls Tryz.prog 136 #[.slice p l.length k, .int .i64 i] w (RetLO w (entL l i) (entE l i)) := by
  have H := Lib.hid hl
  clear hl
  cases hok : okLn l
  · have e1 : entE l i = 40 := by simp [entE, hok]
    have e2 : entL l i = l := ent_no (by rw [e1]; decide)
    rw [e1, e2]
    have HO := Lib.hid hok
    clear hok e1 e2
    go_enter Tryz.func136, Tryz.ntmps136
    go_wp2_with fail
    refine (lnone_any 16 _).mono ?_
    rintro e w1 ⟨lb, rfl, hT, hg1⟩
    go_wp2_with fail
    refine (lcheck_any l p k _ (H.out.kept (by repeat' (first | (with_reducible exact Below.refl _ _) | (with_reducible assumption) | (with_reducible refine kept_alloc ?_ _) | (with_reducible refine kept_drewN ?_ _) | (with_reducible refine Below.drew ?_) | (with_reducible refine Below.setCell ?_ (by first | omega | (simp; omega) | (simp; done)) _) | (refine kept_trans ?_ (by with_reducible assumption)))))).mono ?_
    rintro e w2 ⟨rfl, hg2⟩
    rw [HO.out]
    go_wp2_with fail
    refine (lkept_any l p k _ (H.out.kept (by repeat' (first | (with_reducible exact Below.refl _ _) | (with_reducible assumption) | (with_reducible refine kept_alloc ?_ _) | (with_reducible refine kept_drewN ?_ _) | (with_reducible refine Below.drew ?_) | (with_reducible refine Below.setCell ?_ (by first | omega | (simp; omega) | (simp; done)) _) | (refine kept_trans ?_ (by with_reducible assumption))))) (by omega)).mono ?_
    rintro e w3 ⟨p3, k3, rfl, hO3, hg3⟩
    have hS3 := Ow.mono hO3 (kept_trans hg1 hg2).size
    clear hO3
    go_wp2
    go_ret2
    exact ⟨p3, k3, rfl, hS3, by repeat' (first | (with_reducible exact Below.refl _ _) | (with_reducible assumption) | (with_reducible refine kept_alloc ?_ _) | (with_reducible refine kept_drewN ?_ _) | (with_reducible refine Below.drew ?_) | (with_reducible refine Below.setCell ?_ (by first | omega | (simp; omega) | (simp; done)) _) | (refine kept_trans ?_ (by with_reducible assumption)))⟩
  · have HO := Lib.hid hok
    obtain ⟨I, hI⟩ : ∃ I, noneB 16 i = I := ⟨_, rfl⟩
    have HI := Lib.hid hI
    cases I
    · obtain ⟨T, hT⟩ : ∃ T, decide (i ∈ l) = T := ⟨_, rfl⟩
      have HT := Lib.hid hT
      cases T
      · have e1 : entE l i = 0 := by rw [decide_eq_false_iff_not] at hT; simp [entE, hok, hI, hT]
        have e2 : entL l i = l ++ [i] := ent_yes e1
        rw [e1, e2]
        clear hok hI hT e1 e2
        go_enter Tryz.func136, Tryz.ntmps136
        go_wp2_with fail
        refine (lnone_any 16 _).mono ?_
        rintro e w1 ⟨lb, rfl, hT, hg1⟩
        have HL := Lib.hid hT
        clear hT
        go_wp2_with fail
        refine (lcheck_any l p k _ (H.out.kept (by repeat' (first | (with_reducible exact Below.refl _ _) | (with_reducible assumption) | (with_reducible refine kept_alloc ?_ _) | (with_reducible refine kept_drewN ?_ _) | (with_reducible refine Below.drew ?_) | (with_reducible refine Below.setCell ?_ (by first | omega | (simp; omega) | (simp; done)) _) | (refine kept_trans ?_ (by with_reducible assumption)))))).mono ?_
        rintro e w2 ⟨rfl, hg2⟩
        rw [HO.out]
        go_wp2_with fail
        refine (HL.out _ i (by repeat' (first | (with_reducible exact Below.refl _ _) | (with_reducible assumption) | (with_reducible refine kept_alloc ?_ _) | (with_reducible refine kept_drewN ?_ _) | (with_reducible refine Below.drew ?_) | (with_reducible refine Below.setCell ?_ (by first | omega | (simp; omega) | (simp; done)) _) | (refine kept_trans ?_ (by with_reducible assumption))))).mono ?_
        rintro e w3 ⟨rfl, hg3⟩
        rw [HI.out]
        go_wp2_with fail
        refine (contains_any l i p k _ (H.out.kept (by repeat' (first | (with_reducible exact Below.refl _ _) | (with_reducible assumption) | (with_reducible refine kept_alloc ?_ _) | (with_reducible refine kept_drewN ?_ _) | (with_reducible refine Below.drew ?_) | (with_reducible refine Below.setCell ?_ (by first | omega | (simp; omega) | (simp; done)) _) | (refine kept_trans ?_ (by with_reducible assumption)))))).mono ?_
        rintro e w4 ⟨rfl, hg4⟩
        rw [HT.out]
        go_wp2_with fail
        refine (lkept_any l p k _ (H.out.kept (by repeat' (first | (with_reducible exact Below.refl _ _) | (with_reducible assumption) | (with_reducible refine kept_alloc ?_ _) | (with_reducible refine kept_drewN ?_ _) | (with_reducible refine Below.drew ?_) | (with_reducible refine Below.setCell ?_ (by first | omega | (simp; omega) | (simp; done)) _) | (refine kept_trans ?_ (by with_reducible assumption))))) (by omega)).mono ?_
        rintro e w5 ⟨p5, k5, rfl, hO5, hg5⟩
        have hB4 : Below w.heap.size w w4 := by repeat' (first | (with_reducible exact Below.refl _ _) | (with_reducible assumption) | (with_reducible refine kept_alloc ?_ _) | (with_reducible refine kept_drewN ?_ _) | (with_reducible refine Below.drew ?_) | (with_reducible refine Below.setCell ?_ (by first | omega | (simp; omega) | (simp; done)) _) | (refine kept_trans ?_ (by with_reducible assumption)))
        have hB5 : Below w.heap.size w w5 := kept_trans hB4 hg5
        have HW := Lib.hid (Ow.mono hO5 hB4.size)
        clear hO5 hg1 hg2 hg3 hg4 hg5
        go_wp2_with ((at_builtin; refine wpList_app' (wb := w) rfl _ _ 27 rfl (.int .i64 0) 8 Tryz.underlying27 int_info rfl (by decide) intEnc rfl rfl (xs := l) (ys := [i]) (HW.out.kept ((Below.refl _ _).alloc (Nat.le_refl _) _)) (sli_one w5 i rfl) (kept_alloc hB5 _) (by simp only [List.length_append, List.length_nil, List.length_cons]; unfold maxLen; omega) (by simp only [List.length_append, List.length_nil, List.length_cons]; omega) ?_); intro v6 w6 h6 hb6)
        obtain ⟨p6, k6, rfl, -⟩ := (Ow.sl intEnc h6).is
        have hS6 := h6
        clear h6
        go_ret2
        exact ⟨p6, k6, rfl, hS6, hb6⟩
      · have e1 : entE l i = 60 := by rw [decide_eq_true_iff] at hT; simp [entE, hok, hI, hT]
        have e2 : entL l i = l := ent_no (by rw [e1]; decide)
        rw [e1, e2]
        clear hok hI hT e1 e2
        go_enter Tryz.func136, Tryz.ntmps136
        go_wp2_with fail
        refine (lnone_any 16 _).mono ?_
        rintro e w1 ⟨lb, rfl, hT, hg1⟩
        have HL := Lib.hid hT
        clear hT
        go_wp2_with fail
        refine (lcheck_any l p k _ (H.out.kept (by repeat' (first | (with_reducible exact Below.refl _ _) | (with_reducible assumption) | (with_reducible refine kept_alloc ?_ _) | (with_reducible refine kept_drewN ?_ _) | (with_reducible refine Below.drew ?_) | (with_reducible refine Below.setCell ?_ (by first | omega | (simp; omega) | (simp; done)) _) | (refine kept_trans ?_ (by with_reducible assumption)))))).mono ?_
        rintro e w2 ⟨rfl, hg2⟩
        rw [HO.out]
        go_wp2_with fail
        refine (HL.out _ i (by repeat' (first | (with_reducible exact Below.refl _ _) | (with_reducible assumption) | (with_reducible refine kept_alloc ?_ _) | (with_reducible refine kept_drewN ?_ _) | (with_reducible refine Below.drew ?_) | (with_reducible refine Below.setCell ?_ (by first | omega | (simp; omega) | (simp; done)) _) | (refine kept_trans ?_ (by with_reducible assumption))))).mono ?_
        rintro e w3 ⟨rfl, hg3⟩
        rw [HI.out]
        go_wp2_with fail
        refine (contains_any l i p k _ (H.out.kept (by repeat' (first | (with_reducible exact Below.refl _ _) | (with_reducible assumption) | (with_reducible refine kept_alloc ?_ _) | (with_reducible refine kept_drewN ?_ _) | (with_reducible refine Below.drew ?_) | (with_reducible refine Below.setCell ?_ (by first | omega | (simp; omega) | (simp; done)) _) | (refine kept_trans ?_ (by with_reducible assumption)))))).mono ?_
        rintro e w4 ⟨rfl, hg4⟩
        rw [HT.out]
        go_wp2_with fail
        refine (lkept_any l p k _ (H.out.kept (by repeat' (first | (with_reducible exact Below.refl _ _) | (with_reducible assumption) | (with_reducible refine kept_alloc ?_ _) | (with_reducible refine kept_drewN ?_ _) | (with_reducible refine Below.drew ?_) | (with_reducible refine Below.setCell ?_ (by first | omega | (simp; omega) | (simp; done)) _) | (refine kept_trans ?_ (by with_reducible assumption))))) (by omega)).mono ?_
        rintro e w5 ⟨p5, k5, rfl, hO5, hg5⟩
        have hS5 := Ow.mono hO5 (kept_trans (kept_trans (kept_trans hg1 hg2) hg3) hg4).size
        clear hO5
        go_wp2
        go_ret2
        exact ⟨p5, k5, rfl, hS5, by repeat' (first | (with_reducible exact Below.refl _ _) | (with_reducible assumption) | (with_reducible refine kept_alloc ?_ _) | (with_reducible refine kept_drewN ?_ _) | (with_reducible refine Below.drew ?_) | (with_reducible refine Below.setCell ?_ (by first | omega | (simp; omega) | (simp; done)) _) | (refine kept_trans ?_ (by with_reducible assumption)))⟩
    · have e1 : entE l i = 40 := by simp [entE, hI]
      have e2 : entL l i = l := ent_no (by rw [e1]; decide)
      rw [e1, e2]
      clear hok hI e1 e2
      go_enter Tryz.func136, Tryz.ntmps136
      go_wp2_with fail
      refine (lnone_any 16 _).mono ?_
      rintro e w1 ⟨lb, rfl, hT, hg1⟩
      have HL := Lib.hid hT
      clear hT
      go_wp2_with fail
      refine (lcheck_any l p k _ (H.out.kept (by repeat' (first | (with_reducible exact Below.refl _ _) | (with_reducible assumption) | (with_reducible refine kept_alloc ?_ _) | (with_reducible refine kept_drewN ?_ _) | (with_reducible refine Below.drew ?_) | (with_reducible refine Below.setCell ?_ (by first | omega | (simp; omega) | (simp; done)) _) | (refine kept_trans ?_ (by with_reducible assumption)))))).mono ?_
      rintro e w2 ⟨rfl, hg2⟩
      rw [HO.out]
      go_wp2_with fail
      refine (HL.out _ i (by repeat' (first | (with_reducible exact Below.refl _ _) | (with_reducible assumption) | (with_reducible refine kept_alloc ?_ _) | (with_reducible refine kept_drewN ?_ _) | (with_reducible refine Below.drew ?_) | (with_reducible refine Below.setCell ?_ (by first | omega | (simp; omega) | (simp; done)) _) | (refine kept_trans ?_ (by with_reducible assumption))))).mono ?_
      rintro e w3 ⟨rfl, hg3⟩
      rw [HI.out]
      go_wp2_with fail
      refine (lkept_any l p k _ (H.out.kept (by repeat' (first | (with_reducible exact Below.refl _ _) | (with_reducible assumption) | (with_reducible refine kept_alloc ?_ _) | (with_reducible refine kept_drewN ?_ _) | (with_reducible refine Below.drew ?_) | (with_reducible refine Below.setCell ?_ (by first | omega | (simp; omega) | (simp; done)) _) | (refine kept_trans ?_ (by with_reducible assumption))))) (by omega)).mono ?_
      rintro e w5 ⟨p5, k5, rfl, hO5, hg5⟩
      have hS5 := Ow.mono hO5 (kept_trans (kept_trans hg1 hg2) hg3).size
      clear hO5
      go_wp2
      go_ret2
      exact ⟨p5, k5, rfl, hS5, by repeat' (first | (with_reducible exact Below.refl _ _) | (with_reducible assumption) | (with_reducible refine kept_alloc ?_ _) | (with_reducible refine kept_drewN ?_ _) | (with_reducible refine Below.drew ?_) | (with_reducible refine Below.setCell ?_ (by first | omega | (simp; omega) | (simp; done)) _) | (refine kept_trans ?_ (by with_reducible assumption)))⟩
theorem lv_neg {l : List Int} {i : Int} (h : plI l i < 0) : lvE l i = 40 ∧ lvL l i = l := by simp [lvE, lvL, h]
theorem lv_pos {l : List Int} {i : Int} (h : ¬ plI l i < 0) : ∃ n : Nat, plI l i = n ∧ n < l.length ∧ lvE l i = 0 ∧ lvL l i = l.eraseIdx n := by
  have h1 := pl_ge (l := l) (i := i)
  exact ⟨(plI l i).toNat, by omega, by omega, by simp [lvE, h], by simp [lvL, h]⟩
set_option maxHeartbeats 2000000 in
theorem lleave_own (l : List Int) (i : Int) (p : Option Addr) (k : Nat) (w : World) (hl : Sl w 1 intC l (.slice p l.length k)) (hm : l.length ≤ 999999) :
    Calls Tryz.prog 150 #[.slice p l.length k, .int .i64 i] w (RetLO w (lvL l i) (lvE l i)) := by
  have H := Lib.hid hl
  clear hl
  by_cases hn : plI l i < 0
  · obtain ⟨e1, e2⟩ := lv_neg hn
    rw [e1, e2]
    clear e1 e2
    go_enter Tryz.func150, Tryz.ntmps150
    go_wp2_with fail
    refine (lplace_any l i p k _ (H.out.kept (by repeat' (first | (with_reducible exact Below.refl _ _) | (with_reducible assumption) | (with_reducible refine kept_alloc ?_ _) | (with_reducible refine kept_drewN ?_ _) | (with_reducible refine Below.drew ?_) | (with_reducible refine Below.setCell ?_ (by first | omega | (simp; omega) | (simp; done)) _) | (refine kept_trans ?_ (by with_reducible assumption)))))).mono ?_
    rintro e w1 ⟨rfl, hg1⟩
    go_wp2_with fail
    refine (lkept_any l p k _ (H.out.kept (by repeat' (first | (with_reducible exact Below.refl _ _) | (with_reducible assumption) | (with_reducible refine kept_alloc ?_ _) | (with_reducible refine kept_drewN ?_ _) | (with_reducible refine Below.drew ?_) | (with_reducible refine Below.setCell ?_ (by first | omega | (simp; omega) | (simp; done)) _) | (refine kept_trans ?_ (by with_reducible assumption))))) (by omega)).mono ?_
    rintro e w3 ⟨p3, k3, rfl, hO3, hg3⟩
    have hS3 := Ow.mono hO3 hg1.size
    clear hO3
    go_wp2
    go_ret2
    exact ⟨p3, k3, rfl, hS3, by repeat' (first | (with_reducible exact Below.refl _ _) | (with_reducible assumption) | (with_reducible refine kept_alloc ?_ _) | (with_reducible refine kept_drewN ?_ _) | (with_reducible refine Below.drew ?_) | (with_reducible refine Below.setCell ?_ (by first | omega | (simp; omega) | (simp; done)) _) | (refine kept_trans ?_ (by with_reducible assumption)))⟩
  · obtain ⟨n, h1, h2, e1, e2⟩ := lv_pos hn
    rw [e1, e2]
    have HP := Lib.hid h1
    have hel : (l.eraseIdx n).length = l.length - 1 := List.length_eraseIdx_of_lt h2
    have HE := Lib.hid hel
    clear e1 e2 hn h1 hel
    have i1 : ¬ (n : Int) < 0 := by omega
    have i2 : IntKind.i64.wrap ((n : Int) + 1) = (n : Int) + 1 := IntWalk.i64_in _ (by omega)
    go_enter Tryz.func150, Tryz.ntmps150
    go_wp2_with fail
    refine (lplace_any l i p k _ (H.out.kept (by repeat' (first | (with_reducible exact Below.refl _ _) | (with_reducible assumption) | (with_reducible refine kept_alloc ?_ _) | (with_reducible refine kept_drewN ?_ _) | (with_reducible refine Below.drew ?_) | (with_reducible refine Below.setCell ?_ (by first | omega | (simp; omega) | (simp; done)) _) | (refine kept_trans ?_ (by with_reducible assumption)))))).mono ?_
    rintro e w1 ⟨rfl, hg1⟩
    rw [HP.out]
    go_wp2_with fail
    refine (lkept_any l p k _ (H.out.kept (by repeat' (first | (with_reducible exact Below.refl _ _) | (with_reducible assumption) | (with_reducible refine kept_alloc ?_ _) | (with_reducible refine kept_drewN ?_ _) | (with_reducible refine Below.drew ?_) | (with_reducible refine Below.setCell ?_ (by first | omega | (simp; omega) | (simp; done)) _) | (refine kept_trans ?_ (by with_reducible assumption))))) (by omega)).mono ?_
    rintro e w3 ⟨p3, k3, rfl, hO3, hg3⟩
    have HO := Lib.hid (delete_any l n p3 k3 w1.heap.size w3 hO3 h2)
    clear hO3
    go_wp2_with fail
    refine HO.out.mono ?_
    rintro e w4 ⟨rfl, hO4, hg4⟩
    have hS4 := Ow.mono (HE.out.symm ▸ hO4 : Ow w4 w1.heap.size 3 1 intC (l.eraseIdx n) (.slice p3 (l.eraseIdx n).length k3)) hg1.size
    have hB4 : Below w.heap.size w w4 := hg1.trans ((hg3.trans hg4).mono hg1.size)
    clear hO4 hg1 hg3 hg4
    go_wp2
    go_ret2
    exact ⟨p3, k3, by rw [HE.out]; rfl, hS4, hB4⟩
end Go.Proofs.YtcakapmpifnfpaaGreat

/- Layer 5: Next. -/
namespace Go.Proofs.YtcakapmpifnfpaaGreat
set_option linter.unusedVariables false
set_option linter.unusedSimpArgs false
open Go.ChangeShapes Go.WideShapes Go.ChangeAt Go.RowKit

/-- What 'Next' leaves: the others are in a slice of the call's own. -/
def RetNO (w : World) (x : Int) (r : List Int) (b : Bool) (e : Ending) (w' : World) : Prop :=
  ∃ (p : Option Addr) (k : Nat), e = .returned (.tuple #[.int .i64 x, .slice p r.length k, .bool b]) ∧ Ow w' w.heap.size 3 1 intC r (.slice p r.length k) ∧ Kept w w'
theorem nx_no {l : List Int} (h : nxB l = false) : nxI l = 0 ∧ nxL l = l := by simp [nxI, nxL, h]
theorem nx_yes {l : List Int} (h : nxB l = true) : ∃ hl : 0 < l.length, nxI l = l[0] ∧ nxL l = l.drop 1 ∧ okLn l = true := by
  cases l with
  | nil => simp [nxB] at h
  | cons x r => exact ⟨by simp, by simp [nxI, h], by simp [nxL, h], by simpa [nxB] using h⟩

theorem lcheck_n {l : List Int} {N : Nat} (hN : l.length = N) (p : Option Addr) (k : Nat) (w : World) (hl : Sl w 1 intC l (.slice p N k)) : Calls Tryz.prog 50 #[.slice p N k] w fun e w' => e = .returned (.bool (okLn l)) ∧ Kept w w' := by
  subst hN; exact lcheck_any l p k w hl
def RetOn (w : World) (r : List Int) (N : Nat) (e : Ending) (w' : World) : Prop :=
  ∃ (p : Option Addr) (k : Nat), e = .returned (.slice p N k) ∧ Ow w' w.heap.size 3 1 intC r (.slice p N k) ∧ Kept w w'
theorem lkept_n {l : List Int} {N : Nat} (hN : l.length = N) (p : Option Addr) (k : Nat) (w : World) (hl : Sl w 1 intC l (.slice p N k)) (hm : N ≤ 1000000) : Calls Tryz.prog 166 #[.slice p N k] w (RetOn w l N) := by
  subst hN
  refine (lkept_any l p k w hl hm).mono ?_
  rintro e w' ⟨p1, k1, rfl, h1, h2⟩
  exact ⟨p1, k1, rfl, h1, h2⟩

set_option maxHeartbeats 2000000 in
theorem lnext_own (l : List Int) (p : Option Addr) (k : Nat) (w : World) (hl : Sl w 1 intC l (.slice p l.length k)) (hm : l.length ≤ 999999) :
    Calls Tryz.prog 196 #[.slice p l.length k] w (RetNO w (nxI l) (nxL l) (nxB l)) := by
  have H := Lib.hid hl
  cases hb : nxB l
  · obtain ⟨e1, e2⟩ := nx_no hb
    rw [e1, e2]
    cases l with
    | nil =>
      go_enter Tryz.func196, Tryz.ntmps196
      go_wp2_with fail
      refine (lkept_any [] p k _ (H.out.kept (by repeat' (first | (with_reducible exact Below.refl _ _) | (with_reducible assumption) | (with_reducible refine kept_alloc ?_ _) | (with_reducible refine kept_drewN ?_ _) | (with_reducible refine Below.drew ?_) | (with_reducible refine Below.setCell ?_ (by first | omega | (simp; omega) | (simp; done)) _) | (refine kept_trans ?_ (by with_reducible assumption))))) (by simp)).mono ?_
      rintro e w3 ⟨p3, k3, rfl, hO3, hg3⟩
      have hS3 := hO3
      clear hO3
      go_wp2
      refine bodyPost_ret (v := .tuple #[.int .i64 0, .slice p3 ([] : List Int).length k3, .bool false]) (by simp [results, Tryz.results196, go_sem]) rfl ⟨p3, k3, rfl, hS3, by repeat' (first | (with_reducible exact Below.refl _ _) | (with_reducible assumption) | (with_reducible refine kept_alloc ?_ _) | (with_reducible refine kept_drewN ?_ _) | (with_reducible refine Below.drew ?_) | (with_reducible refine Below.setCell ?_ (by first | omega | (simp; omega) | (simp; done)) _) | (refine kept_trans ?_ (by with_reducible assumption)))⟩
    | cons x r =>
      have hok : okLn (x :: r) = false := by simpa [nxB] using hb
      have HO := Lib.hid hok
      obtain ⟨N, hN⟩ : ∃ N, (x :: r).length = N := ⟨_, rfl⟩
      have HN := Lib.hid hN
      have hN0 : 0 < N := by rw [← hN]; simp
      generalize x :: r = l at *
      clear hl hb e1 e2 hok
      rw [hN] at hm ⊢
      have i1 : ((N : Int) == 0) = false := by simp; omega
      have HS : Hid (Sl w 1 intC l (.slice p N k)) := HN.out ▸ H
      clear H hN
      go_enter Tryz.func196, Tryz.ntmps196
      go_wp2_with fail
      refine (lcheck_n HN.out p k _ (HS.out.kept (by repeat' (first | (with_reducible exact Below.refl _ _) | (with_reducible assumption) | (with_reducible refine kept_alloc ?_ _) | (with_reducible refine kept_drewN ?_ _) | (with_reducible refine Below.drew ?_) | (with_reducible refine Below.setCell ?_ (by first | omega | (simp; omega) | (simp; done)) _) | (refine kept_trans ?_ (by with_reducible assumption)))))).mono ?_
      rintro e w1 ⟨rfl, hg1⟩
      rw [HO.out]
      go_wp2_with fail
      refine (lkept_n HN.out p k _ (HS.out.kept (by repeat' (first | (with_reducible exact Below.refl _ _) | (with_reducible assumption) | (with_reducible refine kept_alloc ?_ _) | (with_reducible refine kept_drewN ?_ _) | (with_reducible refine Below.drew ?_) | (with_reducible refine Below.setCell ?_ (by first | omega | (simp; omega) | (simp; done)) _) | (refine kept_trans ?_ (by with_reducible assumption))))) (by omega)).mono ?_
      rintro e w3 ⟨p3, k3, rfl, hO3, hg3⟩
      have hS3 := Ow.mono hO3 hg1.size
      clear hO3
      go_wp2
      refine bodyPost_ret (v := .tuple #[.int .i64 0, .slice p3 N k3, .bool false]) (by simp [results, Tryz.results196, go_sem]) rfl ⟨p3, k3, by rw [HN.out], HN.out.symm ▸ hS3, by repeat' (first | (with_reducible exact Below.refl _ _) | (with_reducible assumption) | (with_reducible refine kept_alloc ?_ _) | (with_reducible refine kept_drewN ?_ _) | (with_reducible refine Below.drew ?_) | (with_reducible refine Below.setCell ?_ (by first | omega | (simp; omega) | (simp; done)) _) | (refine kept_trans ?_ (by with_reducible assumption)))⟩
  · obtain ⟨h0, e1, e2, hok⟩ := nx_yes hb
    rw [e1, e2]
    have HO := Lib.hid hok
    obtain ⟨N, hN⟩ : ∃ N, l.length = N := ⟨_, rfl⟩
    have HN := Lib.hid hN
    obtain ⟨p', k', e3, hk1, hk2, _, hne⟩ := hl.is
    cases e3
    obtain ⟨b, o, rfl, hb, -⟩ := hne (by intro h; subst h; simp at h0)
    have hc := sli_at hl h0
    rw [Nat.add_zero] at hc
    have hdl : (l.drop 1).length = N - 1 := by simp [hN]
    have HL := Lib.hid hdl
    rw [hN] at hl hm hk1 h0 ⊢
    obtain ⟨a, ha, hTa⟩ : ∃ a, (if k = 1 then (some ⟨b, o, none⟩ : Option Addr) else some ⟨b, o + 1, none⟩) = some a ∧ Sl w 1 intC (l.drop 1) (.slice (some a) (N - 1) (k - 1)) := by
      by_cases hk : k = 1
      · exact ⟨⟨b, o, none⟩, by simp [hk], Sl.drop 1 hl (by omega) (by omega) rfl rfl⟩
      · exact ⟨⟨b, o + 1, none⟩, by simp [hk], Sl.drop 1 hl (by omega) (fun _ => rfl) rfl rfl⟩
    have HT := Lib.hid hTa
    have HS := Lib.hid hl
    generalize hy : l[0] = y at *
    clear hl hne hok e1 e2 hy hdl hTa hN
    have i1 : ((N : Int) == 0) = false := by simp; omega
    have i2 : (1 : Int) ≤ (N : Int) := by omega
    by_cases hk : k = 1
    · have ha' : a = ⟨b, o, none⟩ := by simpa [hk] using ha.symm
      subst ha'
      subst hk
      have hN1 : N = 1 := by omega
      subst hN1
      clear ha
      have HL' : Hid ((l.drop 1).length = 0) := HL
      have HT' : Hid (Sl w 1 intC (l.drop 1) (.slice (some ⟨b, o, none⟩) 0 0)) := HT
      go_enter Tryz.func196, Tryz.ntmps196; go_wp2_with fail; refine (lcheck_n HN.out (some ⟨b, o, none⟩) 1 _ (HS.out.kept (by repeat' (first | (with_reducible exact Below.refl _ _) | (with_reducible assumption) | (with_reducible refine kept_alloc ?_ _) | (with_reducible refine kept_drewN ?_ _) | (with_reducible refine Below.drew ?_) | (with_reducible refine Below.setCell ?_ (by first | omega | (simp; omega) | (simp; done)) _) | (refine kept_trans ?_ (by with_reducible assumption)))))).mono ?_; rintro e w1 ⟨rfl, hg1⟩; rw [HO.out]; have c1 := ((bcell hg1).1 b o hb).trans hc; have hb1 : b < w1.heap.size := Nat.lt_of_lt_of_le hb hg1.size; have HT1 := Lib.hid (HT'.out.kept hg1); clear hc; go_wp2_with fail; go_region_held3 (fun w' => w'.cell? ⟨b, o, none⟩ = some (.int .i64 y)) (first | ((refine (hgy.cell (p := ⟨_, _, none⟩) (by show b < w1.heap.size; omega)).trans ?_); assumption) | go_keep) ((first | (go_at_call 166; refine (lkept_n HL'.out _ _ _ (HT1.out.kept (by repeat' (first | (with_reducible exact Below.refl _ _) | (with_reducible assumption) | (with_reducible refine kept_alloc ?_ _) | (with_reducible refine kept_drewN ?_ _) | (with_reducible refine Below.drew ?_) | (with_reducible refine Below.setCell ?_ (by first | omega | (simp; omega) | (simp; done)) _) | (refine kept_trans ?_ (by with_reducible assumption))))) (by omega)).mono ?_; rintro e wy ⟨p4, k4, rfl, hS4, hgy⟩)))
      have hS4' := Ow.mono hS4 (base' := w.heap.size) (by have := hg1.size; simp; omega)
      have hB : Below w.heap.size w wy := kept_trans hg1 (kept_trans (A := w1) (B := w1.drew) (by repeat' (first | (with_reducible exact Below.refl _ _) | (with_reducible assumption) | (with_reducible refine kept_alloc ?_ _) | (with_reducible refine kept_drewN ?_ _) | (with_reducible refine Below.drew ?_) | (with_reducible refine Below.setCell ?_ (by first | omega | (simp; omega) | (simp; done)) _) | (refine kept_trans ?_ (by with_reducible assumption)))) hgy)
      go_wp2
      go_ret3
      exact ⟨p4, k4, by rw [HL'.out]; rfl, HL'.out.symm ▸ hS4', hB⟩
    · have ha' : a = ⟨b, o + 1, none⟩ := by simpa [hk] using ha.symm
      subst ha'
      clear ha
      go_enter Tryz.func196, Tryz.ntmps196; go_wp2_with fail; refine (lcheck_n HN.out (some ⟨b, o, none⟩) k _ (HS.out.kept (by repeat' (first | (with_reducible exact Below.refl _ _) | (with_reducible assumption) | (with_reducible refine kept_alloc ?_ _) | (with_reducible refine kept_drewN ?_ _) | (with_reducible refine Below.drew ?_) | (with_reducible refine Below.setCell ?_ (by first | omega | (simp; omega) | (simp; done)) _) | (refine kept_trans ?_ (by with_reducible assumption)))))).mono ?_; rintro e w1 ⟨rfl, hg1⟩; rw [HO.out]; have c1 := ((bcell hg1).1 b o hb).trans hc; have hb1 : b < w1.heap.size := Nat.lt_of_lt_of_le hb hg1.size; have HT1 := Lib.hid (HT.out.kept hg1); clear hc; go_wp2_with fail; go_region_held3 (fun w' => w'.cell? ⟨b, o, none⟩ = some (.int .i64 y)) (first | ((refine (hgy.cell (p := ⟨_, _, none⟩) (by show b < w1.heap.size; omega)).trans ?_); assumption) | go_keep) ((first | (go_at_call 166; refine (lkept_n HL.out _ _ _ (HT1.out.kept (by repeat' (first | (with_reducible exact Below.refl _ _) | (with_reducible assumption) | (with_reducible refine kept_alloc ?_ _) | (with_reducible refine kept_drewN ?_ _) | (with_reducible refine Below.drew ?_) | (with_reducible refine Below.setCell ?_ (by first | omega | (simp; omega) | (simp; done)) _) | (refine kept_trans ?_ (by with_reducible assumption))))) (by omega)).mono ?_; rintro e wy ⟨p4, k4, rfl, hS4, hgy⟩)))
      have hS4' := Ow.mono hS4 (base' := w.heap.size) (by have := hg1.size; simp; omega)
      have hB : Below w.heap.size w wy := kept_trans hg1 (kept_trans (A := w1) (B := w1.drew) (by repeat' (first | (with_reducible exact Below.refl _ _) | (with_reducible assumption) | (with_reducible refine kept_alloc ?_ _) | (with_reducible refine kept_drewN ?_ _) | (with_reducible refine Below.drew ?_) | (with_reducible refine Below.setCell ?_ (by first | omega | (simp; omega) | (simp; done)) _) | (refine kept_trans ?_ (by with_reducible assumption)))) hgy)
      go_wp2
      go_ret3
      exact ⟨p4, k4, by rw [HL.out]; rfl, HL.out.symm ▸ hS4', hB⟩
end Go.Proofs.YtcakapmpifnfpaaGreat

/- Layer 5: the document's own answers: at, Check, Place, Enter. -/
namespace Go.Proofs.YtcakapmpifnfpaaGreat
set_option linter.unusedVariables false
set_option linter.unusedSimpArgs false
open Go.ChangeShapes Go.WideShapes Go.ChangeAt Go.RowKit

end Go.Proofs.YtcakapmpifnfpaaGreat

/- Layer 5: the document's own answers: Enter, Leave, Next. -/
namespace Go.Proofs.YtcakapmpifnfpaaGreat
set_option linter.unusedVariables false
set_option linter.unusedSimpArgs false
open Go.ChangeShapes Go.WideShapes Go.ChangeAt Go.RowKit

end Go.Proofs.YtcakapmpifnfpaaGreat

/- Layer 5: First. -/
namespace Go.Proofs.YtcakapmpifnfpaaGreat
set_option linter.unusedVariables false
set_option linter.unusedSimpArgs false
open Go.ChangeShapes Go.WideShapes Go.ChangeAt Go.RowKit

theorem lfirst_any (l : List Int) (i : Int) (p : Option Addr) (k : Nat) (w : World) (hl : Sl w 1 intC l (.slice p l.length k)) :
    Calls Tryz.prog 138 #[.slice p l.length k, .int .i64 i] w fun e w' => e = .returned (.bool (plI l i == 0)) ∧ Kept w w' := by
  have H := Lib.hid hl
  clear hl
  go_enter Tryz.func138, Tryz.ntmps138
  go_wp2_with fail
  refine (lplace_any l i p k _ (H.out.kept (by repeat' (first | (with_reducible exact Below.refl _ _) | (with_reducible assumption) | (with_reducible refine kept_alloc ?_ _) | (with_reducible refine kept_drewN ?_ _) | (with_reducible refine Below.drew ?_) | (with_reducible refine Below.setCell ?_ (by first | omega | (simp; omega) | (simp; done)) _) | (refine kept_trans ?_ (by with_reducible assumption)))))).mono ?_
  rintro e w1 ⟨rfl, hg1⟩
  go_wp2
  go_ret
  exact ⟨rfl, by repeat' (first | (with_reducible exact Below.refl _ _) | (with_reducible assumption) | (with_reducible refine kept_alloc ?_ _) | (with_reducible refine kept_drewN ?_ _) | (with_reducible refine Below.drew ?_) | (with_reducible refine Below.setCell ?_ (by first | omega | (simp; omega) | (simp; done)) _) | (refine kept_trans ?_ (by with_reducible assumption)))⟩
end Go.Proofs.YtcakapmpifnfpaaGreat

/- The document's look whether two lists of integers are one (sakiaref03.Ints). -/
namespace Go.Proofs.YtcakapmpifnfpaaGreat
set_option linter.unusedVariables false
set_option linter.unusedSimpArgs false
open Go.ChangeShapes Go.WideShapes Go.ChangeAt Go.RowKit

set_option maxHeartbeats 1000000 in
theorem rints_any (l m : List Int) (p q : Option Addr) (k k' : Nat) (w : World) (hl : Sl w 1 intC l (.slice p l.length k)) (hm : Sl w 1 intC m (.slice q m.length k')) (hlm : l.length ≤ 9223372036854775806) :
    Calls Tryz.prog 18 #[.slice p l.length k, .slice q m.length k'] w fun e w' => e = .returned (.bool (decide (l = m))) ∧ Kept w w' := by
  obtain ⟨_, _, e1, _, _, _, hlc⟩ := hl.is
  obtain ⟨_, _, e2, _, _, _, hmc⟩ := hm.is
  cases e1
  cases e2
  clear hl hm
  by_cases hlen : l.length = m.length
  · have hbe : ((l.length : Int) == (m.length : Int)) = true := by simp [hlen]
    have hbn : ((l.length : Int) != (m.length : Int)) = false := by simp [hlen]
    have hL := Lib.hid hlen
    clear hlen
    go_enter Tryz.func18, Tryz.ntmps18
    go_wp2
    go_loopw [5] (fun i wr => ∃ j : Nat, j ≤ l.length ∧ i = .int .i64 j ∧ l.take j = m.take j ∧ Below w.heap.size w wr) (fun i _ => l.length - (intOf i).toNat)
    case atStart => exact ⟨0, by omega, rfl, rfl, Below.refl _ _⟩
    case round =>
      obtain ⟨j, hj, rfl, ht, hB⟩ := hrel
      have hT := Lib.hid ht
      clear ht
      by_cases hlt : j < l.length
      · have hlt' : j < m.length := by rw [← hL.out]; exact hlt
        obtain ⟨b, o, rfl, hb, hc⟩ := hlc (by intro h; subst h; simp at hlt)
        obtain ⟨b', o', rfl, hb', hc'⟩ := hmc (by intro h; subst h; simp at hlt')
        have c1 := (hB.cell (p := ⟨b, _, none⟩) hb).trans (hc j l[j] (List.getElem?_eq_getElem hlt) 0 (by omega))
        have c2 := (hB.cell (p := ⟨b', _, none⟩) hb').trans (hc' j m[j] (List.getElem?_eq_getElem hlt') 0 (by omega))
        simp only [intC, Nat.mul_one, Nat.add_zero, List.getElem?_cons_zero] at c1 c2
        clear hc hc' hlc hmc
        have hbw : b < wr.heap.size := Nat.lt_of_lt_of_le hb hB.size
        have hbw' : b' < wr.heap.size := Nat.lt_of_lt_of_le hb' hB.size
        have hts := fun h => Lib.hid (take_snoc_eq hL.out hlt hT.out h)
        have hne : Hid (l[j] ≠ m[j] → l ≠ m) := fun h h' => h (by subst h'; rfl)
        generalize l[j] = x at *
        generalize m[j] = y at *
        have i1 : (0 : Int) ≤ (j : Int) := by omega
        have i2 : (j : Int) < (l.length : Int) := by omega
        have i3 : (j : Int) < (m.length : Int) := by omega
        cases hxy : (x != y)
        · have he : x = y := by simpa using hxy
          have hn := hts he
          clear hts hne he
          go_wp2
          (refine wp_region_kept (w := w) [(b, o + j, .int .i64 x), (b', o' + j, .int .i64 y)] (by kernel_rfl) (by kernel_rfl) (by repeat' (first | (with_reducible exact Below.refl _ _) | (with_reducible assumption) | (with_reducible refine kept_alloc ?_ _) | (with_reducible refine kept_drewN ?_ _) | (with_reducible refine Below.drew ?_) | (with_reducible refine Below.setCell ?_ (by first | omega | (simp; omega) | (simp; done)) _) | (refine kept_trans ?_ (by with_reducible assumption)))) (by first | (simp [CellsAt, *, World.cell?_alloc_past, World.cell?_alloc_at]; done) | (simp [CellsAt, *, World.cell?_alloc_past, World.cell?_alloc_at]; omega)) (fun hne => ?_); (have hq0 : ∀ xwd : Wd w [(b, o + j, .int .i64 x), (b', o' + j, .int .i64 y)], xwd.at.cell? ⟨b, o + j, none⟩ = some (.int .i64 x) := fun xwd => xwd.cells.1.2; have hq1 : ∀ xwd : Wd w [(b, o + j, .int .i64 x), (b', o' + j, .int .i64 y)], xwd.at.cell? ⟨b', o' + j, none⟩ = some (.int .i64 y) := fun xwd => xwd.cells.2.1.2); (try simp only [List.append_eq, List.cons_append, List.nil_append]); (repeat (go_big_quiet_step ((first | fail)))); (refine wpQuiet_nil ?_); intro wq hwq; obtain ⟨xwd, hxwd⟩ := hwq; have hgx : Below w.heap.size w wq := (by rw [hxwd]; exact xwd.kept); have hcs := (show CellsAt wq [(b, o + j, .int .i64 x), (b', o' + j, .int .i64 y)] by rw [hxwd]; exact xwd.cells); clear hxwd xwd hne)
          go_wp2
          exact ⟨⟨j + 1, by omega, by go_num, hn.out, by repeat' (first | (with_reducible exact Below.refl _ _) | (with_reducible assumption) | (with_reducible refine kept_alloc ?_ _) | (with_reducible refine kept_drewN ?_ _) | (with_reducible refine Below.drew ?_) | (with_reducible refine Below.setCell ?_ (by first | omega | (simp; omega) | (simp; done)) _) | (refine kept_trans ?_ (by with_reducible assumption)))⟩, by simp [intOf]; omega⟩
        · have he : x ≠ y := by simpa using hxy
          have hn := Lib.hid (hne.out he)
          clear hts hne he
          go_wp2
          (refine wp_region_kept (w := w) [(b, o + j, .int .i64 x), (b', o' + j, .int .i64 y)] (by kernel_rfl) (by kernel_rfl) (by repeat' (first | (with_reducible exact Below.refl _ _) | (with_reducible assumption) | (with_reducible refine kept_alloc ?_ _) | (with_reducible refine kept_drewN ?_ _) | (with_reducible refine Below.drew ?_) | (with_reducible refine Below.setCell ?_ (by first | omega | (simp; omega) | (simp; done)) _) | (refine kept_trans ?_ (by with_reducible assumption)))) (by first | (simp [CellsAt, *, World.cell?_alloc_past, World.cell?_alloc_at]; done) | (simp [CellsAt, *, World.cell?_alloc_past, World.cell?_alloc_at]; omega)) (fun hne => ?_); (have hq0 : ∀ xwd : Wd w [(b, o + j, .int .i64 x), (b', o' + j, .int .i64 y)], xwd.at.cell? ⟨b, o + j, none⟩ = some (.int .i64 x) := fun xwd => xwd.cells.1.2; have hq1 : ∀ xwd : Wd w [(b, o + j, .int .i64 x), (b', o' + j, .int .i64 y)], xwd.at.cell? ⟨b', o' + j, none⟩ = some (.int .i64 y) := fun xwd => xwd.cells.2.1.2); (try simp only [List.append_eq, List.cons_append, List.nil_append]); (repeat (go_big_quiet_step ((first | fail)))); (refine wpQuiet_nil ?_); intro wq hwq; obtain ⟨xwd, hxwd⟩ := hwq; have hgx : Below w.heap.size w wq := (by rw [hxwd]; exact xwd.kept); have hcs := (show CellsAt wq [(b, o + j, .int .i64 x), (b', o' + j, .int .i64 y)] by rw [hxwd]; exact xwd.cells); clear hxwd xwd hne)
          go_wp2
          go_ret
          exact ⟨ret_bool (by simp [hn.out]), by repeat' (first | (with_reducible exact Below.refl _ _) | (with_reducible assumption) | (with_reducible refine kept_alloc ?_ _) | (with_reducible refine kept_drewN ?_ _) | (with_reducible refine Below.drew ?_) | (with_reducible refine Below.setCell ?_ (by first | omega | (simp; omega) | (simp; done)) _) | (refine kept_trans ?_ (by with_reducible assumption)))⟩
      · have : j = l.length := by omega
        subst this
        have he : Hid (l = m) := Lib.hid (by have := hT.out; rw [List.take_length, hL.out, List.take_length] at this; exact this)
        clear hT hlc hmc
        go_wp2
        go_ret
        exact ⟨ret_bool (by simp [he.out]), by repeat' (first | (with_reducible exact Below.refl _ _) | (with_reducible assumption) | (with_reducible refine kept_alloc ?_ _) | (with_reducible refine kept_drewN ?_ _) | (with_reducible refine Below.drew ?_) | (with_reducible refine Below.setCell ?_ (by first | omega | (simp; omega) | (simp; done)) _) | (refine kept_trans ?_ (by with_reducible assumption)))⟩
  · have hn : Hid (l ≠ m) := Lib.hid (fun h => hlen (by rw [h]))
    have hbn : ((l.length : Int) != (m.length : Int)) = true := by simp; omega
    clear hlen hlc hmc
    go_enter Tryz.func18, Tryz.ntmps18
    go_wp2
    go_ret
    exact ⟨ret_bool (by simp [hn.out]), by repeat' (first | (with_reducible exact Below.refl _ _) | (with_reducible assumption) | (with_reducible refine kept_alloc ?_ _) | (with_reducible refine kept_drewN ?_ _) | (with_reducible refine Below.drew ?_) | (with_reducible refine Below.setCell ?_ (by first | omega | (simp; omega) | (simp; done)) _) | (refine kept_trans ?_ (by with_reducible assumption)))⟩
end Go.Proofs.YtcakapmpifnfpaaGreat

/- Layer 5: what every statement asks first; arguments opened. -/
namespace Go.Proofs.YtcakapmpifnfpaaGreat
set_option linter.unusedVariables false
set_option linter.unusedSimpArgs false
open Go.ChangeShapes Go.WideShapes Go.ChangeAt Go.RowKit

/-! ### A slice of integers as an argument -/
end Go.Proofs.YtcakapmpifnfpaaGreat

/- Layer 6: Check, Prepare, a copy of an event, how many are enough (a closure). -/
namespace Go.Proofs.YtcakapmpifnfpaaGreat
set_option linter.unusedVariables false
set_option linter.unusedSimpArgs false
open Go.ChangeShapes Go.WideShapes Go.ChangeAt Go.RowKit

/-! ### How many are enough -/
end Go.Proofs.YtcakapmpifnfpaaGreat

/- Layer 13: lists copied; the library's looks at threads; whether lines may stand, the ring may be, threads may be. -/
namespace Go.Proofs.YtcakapmpifnfpaaGreat
set_option linter.unusedVariables false
set_option linter.unusedSimpArgs false
open Go.ChangeShapes Go.WideShapes Go.ChangeAt Go.RowKit

/-! ### Threads in a list -/
/-- What a function value tells of each thread, in each world that keeps w. -/
def TellsT (g : Nat) (lb : Array Value) (f : Th → Bool) (w : World) : Prop := ∀ (W : World) (t : Th), Below w.heap.size w W → Calls Tryz.prog g (#[.agg #[.int .i64 t.st, .int .i64 t.ki, .int .i64 t.va, .int .i64 t.un, .int .i64 t.pc, .int .i64 t.re, .int .i64 t.se, .int .i64 t.tr, .bool t.la, .int .i64 t.rs, .int .i64 t.go]] ++ lb) W fun e W' => e = .returned (.bool (f t)) ∧ Kept W W'
theorem TellsT.kept {g : Nat} {lb : Array Value} {f : Th → Bool} {w w' : World} (h : TellsT g lb f w) (hk : Below w.heap.size w w') : TellsT g lb f w' := fun W x hW => h W x (kept_trans hk hW)
/-! ### Lines that stand -/
/-- A line, and where it lies. -/
structure Ln where
  p : Option Addr
  k : Nat
  l : List Int
def Ln.cells (x : Ln) : List Value := [.slice x.p x.l.length x.k]
theorem Ln.enc : Enc 1 Ln.cells := ⟨fun _ => rfl, fun x c hc => by simp [Ln.cells] at hc; subst hc; rfl⟩
end Go.Proofs.YtcakapmpifnfpaaGreat

/- A WORLD FORGOTTEN AT A REGION's HEAD: what is known of it goes on alone. -/
namespace Go.Proofs.YtcakapmpifnfpaaGreat
set_option linter.unusedVariables false
set_option linter.unusedSimpArgs false
open Go.ChangeShapes Go.WideShapes Go.ChangeAt Go.RowKit
end Go.Proofs.YtcakapmpifnfpaaGreat

/- Layer 13: whether a state may be; whether it has a thread; what lies at a position. -/
namespace Go.Proofs.YtcakapmpifnfpaaGreat
set_option linter.unusedVariables false
set_option linter.unusedSimpArgs false
open Go.ChangeShapes Go.WideShapes Go.ChangeAt Go.RowKit

theorem room_in (c : Cf) : In64 (cfR c) := by have := cf_bd c; exact ⟨by omega, by omega⟩
theorem ccheck_val {c : Cf} {b : Bool} (h : Hid (cfB c = b)) (w : World) : Calls Tryz.prog 26 #[.agg #[.int .i64 c.lg, .int .i64 c.th, .int .i64 c.po, .int .i64 c.wt, .int .i64 c.sp, .int .i64 c.yi, .bool c.si]] w fun e w' => e = .returned (.int .i64 (if b = true then 0 else 20)) ∧ Kept w w' := by
  have e : ckI c.lg c.th c.po c.wt c.sp c.yi = if b = true then 0 else 20 := by
    have h' := h.out
    cases b
    · exact ck_no h'
    · exact ck_yes h'
  rw [← e]
  exact ccheck_any _ _ _ _ _ _ _ _
end Go.Proofs.YtcakapmpifnfpaaGreat
