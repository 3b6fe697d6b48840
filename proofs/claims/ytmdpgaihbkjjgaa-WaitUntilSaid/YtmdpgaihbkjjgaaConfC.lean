/- Contracts of layer 2's functions and of the document's: what each call returns, as the plain functions say; what was there is kept. -/
import Derived.Test.YtmdpgaihbkjjgaaConfB
namespace Go.Proofs.Ytmdpgaihbkjjgaa
set_option linter.unusedVariables false
set_option linter.unusedSimpArgs false
open Go.ChangeShapes Go.WideShapes Go.ChangeAt Go.RowKit Go.Shelf
attribute [local go_sem] Oper.semAt_some

theorem inB_mk (n low high : Int) : Bd.inB ⟨n, low, high⟩ = inB n low high := rfl

set_option maxRecDepth 100000 in
set_option maxHeartbeats 4000000 in
theorem ccheck_any (lg th po wt sp yi : Int) (si : Bool) (w : World) :
    Calls Try.prog 20 #[.agg #[.int .i64 lg, .int .i64 th, .int .i64 po, .int .i64 wt, .int .i64 sp, .int .i64 yi, .bool si]] w fun e w' => e = .returned (.int .i64 (ckI lg th po wt sp yi)) ∧ Kept w w' := by
  refine (callsIn_wide (n := 20)).1 ?_
  refine callsIn_of_wp_marks Try.func20 rfl trivial ?_
  simp only [Try.ntmps20, List.size_toArray, List.length_cons, List.length_nil, Nat.reduceAdd, Nat.reduceSub, Array.replicate_succ, Array.replicate_zero, List.push_toArray, List.append_toArray, List.nil_append, List.cons_append]
  gi_wp2
  have hc0 : ((w.alloc (.cells #[.int .i64 lg, .int .i64 th, .int .i64 po, .int .i64 wt, .int .i64 sp, .int .i64 yi, .bool si] 23)).alloc (.cells #[.int .i64 0] 39)).cell? ⟨w.heap.size + 1, 0, none⟩ = some (.int .i64 0) := by simp
  have hf0 : ((w.alloc (.cells #[.int .i64 lg, .int .i64 th, .int .i64 po, .int .i64 wt, .int .i64 sp, .int .i64 yi, .bool si] 23)).alloc (.cells #[.int .i64 0] 39)).frozen? ⟨w.heap.size + 1, 0, none⟩ = false := by simp
  have hB0 : Below w.heap.size w ((w.alloc (.cells #[.int .i64 lg, .int .i64 th, .int .i64 po, .int .i64 wt, .int .i64 sp, .int .i64 yi, .bool si] 23)).alloc (.cells #[.int .i64 0] 39)) := ((Below.refl _ _).alloc (Nat.le_refl _) _).alloc (by simp) _
  have hs0 : ((w.alloc (.cells #[.int .i64 lg, .int .i64 th, .int .i64 po, .int .i64 wt, .int .i64 sp, .int .i64 yi, .bool si] 23)).alloc (.cells #[.int .i64 0] 39)).heap.size = w.heap.size + 2 := by simp
  revert hc0 hf0 hB0 hs0
  generalize ((w.alloc (.cells #[.int .i64 lg, .int .i64 th, .int .i64 po, .int .i64 wt, .int .i64 sp, .int .i64 yi, .bool si] 23)).alloc (.cells #[.int .i64 0] 39)) = V
  intro hc0 hf0 hB0 hs0
  refine wpIn_over (gf := 27) (bd := #[.agg #[.int .i64 lg, .int .i64 th, .int .i64 po, .int .i64 wt, .int .i64 sp, .int .i64 yi, .bool si]]) (lb := #[]) rfl (enters_of Try.func27 (by kernel_rfl) rfl) (bounds_iter lg th po wt sp yi si w.heap.size V) (by omega) rfl
    (fun pre A => A.cell? ⟨w.heap.size + 1, 0, none⟩ = some (.int .i64 0) ∧ A.frozen? ⟨w.heap.size + 1, 0, none⟩ = false ∧ Below w.heap.size w A ∧ okL pre = true)
    (fun c pre A => c = .ret ∧ A.cell? ⟨w.heap.size + 1, 0, none⟩ = some (.int .i64 20) ∧ Below w.heap.size w A ∧ mayB lg th po wt sp yi = false)
    (fun s A C hs ht => ⟨ht.cell hs.1, (ht.frozen hs.1).trans hs.2.1, ht.below (by omega) hs.2.2.1, hs.2.2.2⟩)
    (fun c s A C hs ht => ⟨hs.1, ht.cell hs.2.1, ht.below (by omega) hs.2.2.1, hs.2.2.2⟩)
    ⟨hc0, hf0, hB0, rfl⟩ ?round ?done ?stop
  case round =>
    rintro m l pre suf ⟨n, low, high⟩ A hm hxs hsz ⟨hc, hf, hB, hp⟩
    simp only [Bd.val]
    have hbl : (⟨w.heap.size + 1, 0, none⟩ : Addr).block < A.heap.size := by show w.heap.size + 1 < A.heap.size; omega
    gi_wp2
    refine ⟨(Below.refl _ _).alloc (Nat.le_refl _) _, fun C ht hsC => ?_⟩
    have h1m : 1 ≤ m := by omega
    have hn0 : C.cell? ⟨A.heap.size, 0, none⟩ = some (.int .i64 n) := ht.cell (by simp)
    have hn1 : C.cell? ⟨A.heap.size, 1, none⟩ = some (.int .i64 low) := ht.cell (by simp)
    have hn2 : C.cell? ⟨A.heap.size, 2, none⟩ = some (.int .i64 high) := ht.cell (by simp)
    have hA1 : Below A.heap.size A (A.alloc (.cells #[.int .i64 n, .int .i64 low, .int .i64 high] 54)) := (Below.refl _ _).alloc (Nat.le_refl _) _
    have hcC := ht.cell ((hA1.cell (p := ⟨w.heap.size + 1, 0, none⟩) hbl).trans hc)
    have hfC := (ht.frozen ((hA1.cell (p := ⟨w.heap.size + 1, 0, none⟩) hbl).trans hc)).trans ((hA1.frozen (p := ⟨w.heap.size + 1, 0, none⟩) hbl).trans hf)
    have hBC : Below w.heap.size w C := ht.below (by omega) (hB.trans (hA1.mono hB.size))
    clear ht hc hf hA1
    cases hx : inB n low high
    · gi_wp2_with (refine ⟨trivial, ?_⟩; gi_at_call 28; refine (CallsIn.inRound l (callsIn_wide.2 (within_any _ _ _ _))).mono ?_; rintro e D ⟨rfl, hD⟩; have hcD := (hD.cell (p := ⟨w.heap.size + 1, 0, none⟩) (by show w.heap.size + 1 < C.heap.size; omega)).trans hcC; have hfD := (hD.frozen (p := ⟨w.heap.size + 1, 0, none⟩) (by show w.heap.size + 1 < C.heap.size; omega)).trans hfC)
      refine ⟨(Rnd.of_below hD (by omega) (by omega)).setCell (by simp) (by simp) _, rfl, World.cell?_setCell_same' _ _ _ (by rw [hcD]; rfl), (hBC.trans (hD.mono (by omega))).setCell (by simp) _, may_not hxs hx⟩
    · gi_wp2_with (refine ⟨trivial, ?_⟩; gi_at_call 28; refine (CallsIn.inRound l (callsIn_wide.2 (within_any _ _ _ _))).mono ?_; rintro e D ⟨rfl, hD⟩; have hcD := (hD.cell (p := ⟨w.heap.size + 1, 0, none⟩) (by show w.heap.size + 1 < C.heap.size; omega)).trans hcC; have hfD := (hD.frozen (p := ⟨w.heap.size + 1, 0, none⟩) (by show w.heap.size + 1 < C.heap.size; omega)).trans hfC)
      exact ⟨Rnd.of_below hD (by omega) (by omega), hcD, hfD, hBC.trans (hD.mono (by omega)), okL_snoc hp hx⟩
  case done =>
    rintro D W hD ⟨hc, hf, hB, hp⟩ hK
    gi_wp2
    have hK1 := (Below.heap_setCell W ⟨w.heap.size + 1, 0, none⟩ (.int .i64 0) D (by show D ≠ w.heap.size + 1; omega)).trans hK
    have hT : Turn (w.heap.size + 2) (W.setCell ⟨w.heap.size + 1, 0, none⟩ (.int .i64 0)) ((W.setCell ⟨w.heap.size + 1, 0, none⟩ (.int .i64 0)).putObj D (.deferred none)) := Turn.putObj hK1 rfl (by omega) _
    have hW := hT.cell (p := ⟨w.heap.size + 1, 0, none⟩) (World.cell?_setCell_same' _ _ _ (by rw [hc]; rfl))
    have hBW := hT.below (by omega) (hB.setCell (p := ⟨w.heap.size + 1, 0, none⟩) (by simp) (.int .i64 0))
    refine ⟨by simp, .inl ⟨_, _, rfl, run_takeDeferred hK1, ?_⟩⟩
    revert hW hBW
    generalize ((W.setCell ⟨w.heap.size + 1, 0, none⟩ (.int .i64 0)).putObj D (.deferred none)) = X
    intro hW hBW
    exact ⟨.int .i64 0, by simp [results, Try.results20, go_sem, hW], ret_int (by rw [ckI, if_pos (show mayB lg th po wt sp yi = true from hp)]), hBW⟩
  case stop =>
    rintro D c pre W hD ⟨rfl, hc, hB, hm⟩ hK
    gi_wp2
    have hT : Turn (w.heap.size + 2) W (W.putObj D (.deferred none)) := Turn.putObj hK rfl (by omega) _
    have hW := hT.cell hc
    have hBW := hT.below (by omega) hB
    refine ⟨by simp, .inl ⟨_, _, rfl, run_takeDeferred hK, ?_⟩⟩
    revert hW hBW
    generalize (W.putObj D (.deferred none)) = X
    intro hW hBW
    exact ⟨.int .i64 20, by simp [results, Try.results20, go_sem, hW], ret_int (by rw [ckI, hm]; rfl), hBW⟩
end Go.Proofs.Ytmdpgaihbkjjgaa
