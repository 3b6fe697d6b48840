/- Layer 11: the ends of a kind, in a map of closures; whether a kind may end so. -/
import Derived.Test.YthlgijmpkpmibaaOpC
import Derived.Test.YthlgijmpkpmibaaMap
namespace Go.Proofs.Ythlgijmpkpmibaa
set_option linter.unusedVariables false
set_option linter.unusedSimpArgs false
open Go.ChangeShapes Go.WideShapes Go.ChangeAt Go.RowKit

section
variable {P : Program} {mty kt et : TypeId}
/-- 'v, is := m[i]', where it is. -/
theorem imap_hit (hu : P.underlying mty = some (.map kt et)) (hd : P.underlying kt = some (.int .i64)) {w : World} {mb : Nat} {l : List (Int × Value)} (h : IMap w mb l) (hn : (l.map (·.1)).Nodup) {i : Int} {v : Value} (hi : (i, v) ∈ l) :
    (Instr.lookup mty (.map (some mb)) (.int .i64 i) true).run P w = .ok (.tuple #[v, .bool true]) w := by
  obtain ⟨es, ck, h⟩ := h
  have hg := MapKept.run_getObj_map (P := P) h.obj
  have hc := MapKept.run_checkKey (P := P) (w := w) (k := .int .i64 i) hd rfl es.isEmpty 9999
  rcases h.find i with ⟨h1, h2⟩ | ⟨j, d, h1, h2, h3, h4⟩
  · exact absurd rfl (h2 _ hi)
  · have hf := MapKept.run_findKey (P := P) (w := w) hd h1
    have hdv : d = (i, v) := by
      obtain ⟨j', hj'⟩ := List.getElem?_of_mem hi
      have e1 : (l.map (·.1))[j]? = some i := by simp [h2, h3]
      have e2 : (l.map (·.1))[j']? = some i := by simp [hj']
      have hl : j < (l.map (·.1)).length := (List.getElem?_eq_some_iff.1 e1).1
      have : j = j' := (List.getElem?_inj hl hn).1 (e1.trans e2.symm)
      subst this
      rw [h2] at hj'; cases hj'; rfl
    subst hdv
    simp [Instr.lookup, run_underlying hu, hg, hc, hf, Result.andThen]
/-- 'v, is := m[i]', where it is not. -/
theorem imap_miss (hu : P.underlying mty = some (.map kt et)) (hd : P.underlying kt = some (.int .i64)) {w : World} {mb : Nat} {l : List (Int × Value)} (h : IMap w mb l) {i : Int} {z : Value} (hz : (zeroValue et).run P w = .ok z w) (hi : ∀ d ∈ l, d.1 ≠ i) :
    (Instr.lookup mty (.map (some mb)) (.int .i64 i) true).run P w = .ok (.tuple #[z, .bool false]) w := by
  obtain ⟨es, ck, h⟩ := h
  have hg := MapKept.run_getObj_map (P := P) h.obj
  have hc := MapKept.run_checkKey (P := P) (w := w) (k := .int .i64 i) hd rfl es.isEmpty 9999
  rcases h.find i with ⟨h1, h2⟩ | ⟨j, d, h1, h2, h3, h4⟩
  · have hf := MapKept.run_findKey (P := P) (w := w) hd h1
    simp [Instr.lookup, run_underlying hu, hg, hc, hf, hz, Result.andThen]
  · exact absurd h3 (hi _ (List.mem_of_getElem? h2))
end

/-! ### The closures -/
theorem oe1_any (w : World) : Calls Try.prog 28 #[] w fun e w' => e = .returned (.bool true) ∧ Kept w w' := by
  go_enter Try.func28, Try.ntmps28
  go_wp2
  go_ret
  exact ⟨rfl, by repeat' (first | (with_reducible exact Below.refl _ _) | (with_reducible assumption) | (with_reducible refine kept_alloc ?_ _) | (with_reducible refine kept_drewN ?_ _) | (with_reducible refine Below.drew ?_) | (with_reducible refine Below.setCell ?_ (by first | omega | (simp; omega) | (simp; done)) _) | (refine kept_trans ?_ (by with_reducible assumption)))⟩
theorem oe2_any (k : Int) (b : Nat) (w : World) (hb : b < w.heap.size) (c0 : w.cell? ⟨b, 0, none⟩ = some (.int .i64 k)) : Calls Try.prog 29 #[.pointer (some ⟨b, 0, none⟩)] w fun e w' => e = .returned (.bool (k == 2)) ∧ Kept w w' := by
  go_enter Try.func29, Try.ntmps29
  go_wp2
  go_ret
  exact ⟨rfl, by repeat' (first | (with_reducible exact Below.refl _ _) | (with_reducible assumption) | (with_reducible refine kept_alloc ?_ _) | (with_reducible refine kept_drewN ?_ _) | (with_reducible refine Below.drew ?_) | (with_reducible refine Below.setCell ?_ (by first | omega | (simp; omega) | (simp; done)) _) | (refine kept_trans ?_ (by with_reducible assumption)))⟩
theorem oe3_any (k : Int) (b : Nat) (w : World) (hb : b < w.heap.size) (c0 : w.cell? ⟨b, 0, none⟩ = some (.int .i64 k)) : Calls Try.prog 30 #[.pointer (some ⟨b, 0, none⟩)] w fun e w' => e = .returned (.bool (opSide k == 1)) ∧ Kept w w' := by
  go_enter Try.func30, Try.ntmps30
  go_wp2_with (first | (go_at_call 11; refine (oside_any _ _).mono ?_; rintro e wx ⟨rfl, hgx⟩))
  go_ret
  exact ⟨rfl, by repeat' (first | (with_reducible exact Below.refl _ _) | (with_reducible assumption) | (with_reducible refine kept_alloc ?_ _) | (with_reducible refine kept_drewN ?_ _) | (with_reducible refine Below.drew ?_) | (with_reducible refine Below.setCell ?_ (by first | omega | (simp; omega) | (simp; done)) _) | (refine kept_trans ?_ (by with_reducible assumption)))⟩
theorem oe4_any (k : Int) (b : Nat) (w : World) (hb : b < w.heap.size) (c0 : w.cell? ⟨b, 0, none⟩ = some (.int .i64 k)) : Calls Try.prog 31 #[.pointer (some ⟨b, 0, none⟩)] w fun e w' => e = .returned (.bool (k == 5)) ∧ Kept w w' := by
  go_enter Try.func31, Try.ntmps31
  go_wp2
  go_ret
  exact ⟨rfl, by repeat' (first | (with_reducible exact Below.refl _ _) | (with_reducible assumption) | (with_reducible refine kept_alloc ?_ _) | (with_reducible refine kept_drewN ?_ _) | (with_reducible refine Below.drew ?_) | (with_reducible refine Below.setCell ?_ (by first | omega | (simp; omega) | (simp; done)) _) | (refine kept_trans ?_ (by with_reducible assumption)))⟩
theorem oe5_any (k : Int) (b : Nat) (w : World) (hb : b < w.heap.size) (c0 : w.cell? ⟨b, 0, none⟩ = some (.int .i64 k)) : Calls Try.prog 32 #[.pointer (some ⟨b, 0, none⟩)] w fun e w' => e = .returned (.bool (opTimed k)) ∧ Kept w w' := by
  go_enter Try.func32, Try.ntmps32
  go_wp2_with (first | (go_at_call 13; refine (otimed_any _ _).mono ?_; rintro e wx ⟨rfl, hgx⟩))
  go_ret
  exact ⟨rfl, by repeat' (first | (with_reducible exact Below.refl _ _) | (with_reducible assumption) | (with_reducible refine kept_alloc ?_ _) | (with_reducible refine kept_drewN ?_ _) | (with_reducible refine Below.drew ?_) | (with_reducible refine Below.setCell ?_ (by first | omega | (simp; omega) | (simp; done)) _) | (refine kept_trans ?_ (by with_reducible assumption)))⟩

/-! ### The table -/
def oAlw : Value := .func (.func 28) #[] #[]
def oFn (f b : Nat) : Value := .func (.func f) #[] #[.pointer (some ⟨b, 0, none⟩)]
def oTabW (b : Nat) : List (Int × Value) := [(2, oFn 29 b), (3, oFn 30 b), (4, oFn 31 b), (5, oFn 32 b), (6, oAlw), (7, oAlw), (1, oAlw)]
def oTab (s : Int) (b : Nat) : List (Int × Value) := if s = 1 ∨ s = 2 then oTabW b else if s = 3 then [(1, oAlw)] else []
def RetOE (k : Int) (w : World) (e : Ending) (w' : World) : Prop := ∃ mb bb, e = .returned (.map (some mb)) ∧ IMap w' mb (oTab (opSide k) bb) ∧ bb < w'.heap.size ∧ w'.cell? ⟨bb, 0, none⟩ = some (.int .i64 k) ∧ Kept w w'

theorem cells_keep_lt {n : Nat} {W w1 : World} (hg : Below n W w1) : ∀ {l : List (Nat × Nat × Value)}, (∀ x ∈ l, x.1 < n) → CellsAt W l → CellsAt w1 l
  | [], _, _ => trivial
  | y :: _, hn, h => ⟨⟨Nat.lt_of_lt_of_le h.1.1 hg.size, (hg.cell (p := ⟨y.1, y.2.1, none⟩) (hn y (by simp))).trans h.1.2⟩, cells_keep_lt hg (fun x hx => hn x (by simp [hx])) h.2⟩
theorem oside_val {k s : Int} (h : opSide k = s) (w : World) : Calls Try.prog 11 #[.int .i64 k] w fun e w' => e = .returned (.int .i64 s) ∧ Kept w w' := h ▸ oside_any k w

theorem omade_any (k : Int) (w : World) : Calls Try.prog 24 #[.int .i64 k] w (RetOE k w) := by
  have hmm := @run_makeMap Try.prog
  have hs12 : opSide k = 1 ∨ opSide k = 2 ∨ opSide k = 3 ∨ opSide k = 0 := by have := side_is k; omega
  unfold RetOE
  rcases hs12 with hs | hs | hs | hs
  case inr.inr.inl =>
    rw [hs]
    go_enter Try.func24, Try.ntmps24
    go_wp2_with fail; refine (oside_val hs _).mono ?_; rintro e wx ⟨rfl, hgx⟩; have hM0 : IMap ((w.alloc (.cells #[.int .i64 k] 3)).alloc (.map #[] 0)) (w.heap.size + 1) [] := (by simpa using IMap.made (w.alloc (.cells #[.int .i64 k] 3))); have hM := hM0.kept hgx; clear hM0; have hcs : CellsAt wx [(w.heap.size, 0, .int .i64 k)] := cells_keep hgx (by (simp only [CellsAt]; (repeat' (first | exact trivial | (refine And.intro ?_ ?_))); all_goals (first | (focus ((try simp only [World.size_setCell, World.size_alloc]); omega)) | (repeat (first | rfl | assumption | (refine (World.cell?_alloc_past _ _ _ ?_).trans ?_; focus ((try simp only [World.size_setCell, World.size_alloc]); omega)) | (refine (World.cell?_alloc_at _ _ _ _ ?_).trans ?_; focus ((try simp only [World.size_setCell, World.size_alloc]); done)) | (refine (World.cell?_setCell_other _ _ _ _ ?_).trans ?_; focus (simp; done)) | (refine (World.cell?_setCell_other _ _ _ _ ?_).trans ?_; focus (simp; omega)) | (refine World.cell?_setCell_same' _ _ _ ?_; focus (simp; done))))))); have hB : Below w.heap.size w wx := kept_trans (by repeat' (first | (with_reducible exact Below.refl _ _) | (with_reducible assumption) | (with_reducible refine kept_alloc ?_ _) | (with_reducible refine kept_drewN ?_ _) | (with_reducible refine Below.drew ?_) | (with_reducible refine Below.setCell ?_ (by first | omega | (simp; omega) | (simp; done)) _) | (refine kept_trans ?_ (by with_reducible assumption)))) hgx; have hu := Try.underlying40; have hd := Try.underlying3
    obtain ⟨w1, uw1, mw1, sw1, bw1⟩ := imap_put hu hd hM (1) (.func (.func 28) #[] #[]) (by simp)
    have hM1 : IMap w1 (w.heap.size + 1) (oTab 3 w.heap.size) := mw1
    have hc1 : CellsAt w1 [(w.heap.size, 0, .int .i64 k)] := cells_keep_lt (bw1 (w.heap.size + 1) (Nat.le_refl _)) (by simp) hcs
    have hB1 : Below w.heap.size w w1 := hB.trans (bw1 _ (by omega))
    clear hmm hu hd
    have HE := Lib.hid (And.intro hM1 (And.intro hc1 hB1))
    clear hM hcs hB mw1 sw1 bw1 hM1 hc1 hB1
    go_wp2
    go_ret
    exact ⟨_, _, rfl, HE.out.1, HE.out.2.1.1.1, HE.out.2.1.1.2, HE.out.2.2⟩
  case inr.inr.inr =>
    rw [hs]
    go_enter Try.func24, Try.ntmps24
    go_wp2_with fail; refine (oside_val hs _).mono ?_; rintro e wx ⟨rfl, hgx⟩; have hM0 : IMap ((w.alloc (.cells #[.int .i64 k] 3)).alloc (.map #[] 0)) (w.heap.size + 1) [] := (by simpa using IMap.made (w.alloc (.cells #[.int .i64 k] 3))); have hM := hM0.kept hgx; clear hM0; have hcs : CellsAt wx [(w.heap.size, 0, .int .i64 k)] := cells_keep hgx (by (simp only [CellsAt]; (repeat' (first | exact trivial | (refine And.intro ?_ ?_))); all_goals (first | (focus ((try simp only [World.size_setCell, World.size_alloc]); omega)) | (repeat (first | rfl | assumption | (refine (World.cell?_alloc_past _ _ _ ?_).trans ?_; focus ((try simp only [World.size_setCell, World.size_alloc]); omega)) | (refine (World.cell?_alloc_at _ _ _ _ ?_).trans ?_; focus ((try simp only [World.size_setCell, World.size_alloc]); done)) | (refine (World.cell?_setCell_other _ _ _ _ ?_).trans ?_; focus (simp; done)) | (refine (World.cell?_setCell_other _ _ _ _ ?_).trans ?_; focus (simp; omega)) | (refine World.cell?_setCell_same' _ _ _ ?_; focus (simp; done))))))); have hB : Below w.heap.size w wx := kept_trans (by repeat' (first | (with_reducible exact Below.refl _ _) | (with_reducible assumption) | (with_reducible refine kept_alloc ?_ _) | (with_reducible refine kept_drewN ?_ _) | (with_reducible refine Below.drew ?_) | (with_reducible refine Below.setCell ?_ (by first | omega | (simp; omega) | (simp; done)) _) | (refine kept_trans ?_ (by with_reducible assumption)))) hgx; have hu := Try.underlying40; have hd := Try.underlying3
    clear hmm hu hd
    have HE := Lib.hid (And.intro hM (And.intro hcs hB))
    clear hM hcs hB
    go_wp2
    go_ret
    exact ⟨_, _, rfl, HE.out.1, HE.out.2.1.1.1, HE.out.2.1.1.2, HE.out.2.2⟩
  all_goals
    rw [hs]
    go_enter Try.func24, Try.ntmps24
    go_wp2_with fail; refine (oside_val hs _).mono ?_; rintro e wx ⟨rfl, hgx⟩; have hM0 : IMap ((w.alloc (.cells #[.int .i64 k] 3)).alloc (.map #[] 0)) (w.heap.size + 1) [] := (by simpa using IMap.made (w.alloc (.cells #[.int .i64 k] 3))); have hM := hM0.kept hgx; clear hM0; have hcs : CellsAt wx [(w.heap.size, 0, .int .i64 k)] := cells_keep hgx (by (simp only [CellsAt]; (repeat' (first | exact trivial | (refine And.intro ?_ ?_))); all_goals (first | (focus ((try simp only [World.size_setCell, World.size_alloc]); omega)) | (repeat (first | rfl | assumption | (refine (World.cell?_alloc_past _ _ _ ?_).trans ?_; focus ((try simp only [World.size_setCell, World.size_alloc]); omega)) | (refine (World.cell?_alloc_at _ _ _ _ ?_).trans ?_; focus ((try simp only [World.size_setCell, World.size_alloc]); done)) | (refine (World.cell?_setCell_other _ _ _ _ ?_).trans ?_; focus (simp; done)) | (refine (World.cell?_setCell_other _ _ _ _ ?_).trans ?_; focus (simp; omega)) | (refine World.cell?_setCell_same' _ _ _ ?_; focus (simp; done))))))); have hB : Below w.heap.size w wx := kept_trans (by repeat' (first | (with_reducible exact Below.refl _ _) | (with_reducible assumption) | (with_reducible refine kept_alloc ?_ _) | (with_reducible refine kept_drewN ?_ _) | (with_reducible refine Below.drew ?_) | (with_reducible refine Below.setCell ?_ (by first | omega | (simp; omega) | (simp; done)) _) | (refine kept_trans ?_ (by with_reducible assumption)))) hgx; have hu := Try.underlying40; have hd := Try.underlying3
    obtain ⟨w1, uw1, mw1, sw1, bw1⟩ := imap_put hu hd hM (2) (.func (.func 29) #[] #[.pointer (some ⟨w.heap.size, 0, none⟩)]) (by simp)
    obtain ⟨w2, uw2, mw2, sw2, bw2⟩ := imap_put hu hd mw1 (3) (.func (.func 30) #[] #[.pointer (some ⟨w.heap.size, 0, none⟩)]) (by simp)
    obtain ⟨w3, uw3, mw3, sw3, bw3⟩ := imap_put hu hd mw2 (4) (.func (.func 31) #[] #[.pointer (some ⟨w.heap.size, 0, none⟩)]) (by simp)
    obtain ⟨w4, uw4, mw4, sw4, bw4⟩ := imap_put hu hd mw3 (5) (.func (.func 32) #[] #[.pointer (some ⟨w.heap.size, 0, none⟩)]) (by simp)
    obtain ⟨w5, uw5, mw5, sw5, bw5⟩ := imap_put hu hd mw4 (6) (.func (.func 28) #[] #[]) (by simp)
    obtain ⟨w6, uw6, mw6, sw6, bw6⟩ := imap_put hu hd mw5 (7) (.func (.func 28) #[] #[]) (by simp)
    obtain ⟨w7, uw7, mw7, sw7, bw7⟩ := imap_put hu hd mw6 (1) (.func (.func 28) #[] #[]) (by simp)
    have hB7 : Below (w.heap.size + 1) wx w7 := (bw1 _ (Nat.le_refl _)).trans ((bw2 _ (Nat.le_refl _)).trans ((bw3 _ (Nat.le_refl _)).trans ((bw4 _ (Nat.le_refl _)).trans ((bw5 _ (Nat.le_refl _)).trans ((bw6 _ (Nat.le_refl _)).trans (bw7 _ (Nat.le_refl _)))))))
    have HE := Lib.hid (And.intro mw7 (And.intro (cells_keep_lt hB7 (by simp) hcs) (hB.trans (hB7.mono (by omega)))))
    clear hmm hu hd hB7 hM hcs hB mw1 mw2 mw3 mw4 mw5 mw6 mw7 sw1 sw2 sw3 sw4 sw5 sw6 sw7 bw1 bw2 bw3 bw4 bw5 bw6 bw7
    go_wp2
    go_ret
    exact ⟨_, _, rfl, HE.out.1, HE.out.2.1.1.1, HE.out.2.1.1.2, HE.out.2.2⟩

theorem oTab_nodup (s : Int) (b : Nat) : ((oTab s b).map (·.1)).Nodup := by
  unfold oTab
  split
  · simp [oTabW]
  · split <;> simp
theorem oEnds_none {k r : Int} (h : (opSide k = 0) ∨ (opSide k = 3 ∧ r ≠ 1) ∨ (r < 1 ∨ 7 < r)) : opEnds k r = false := by
  have := side_is k
  rw [Bool.eq_false_iff]
  intro he
  unfold opEnds at he
  (repeat' split at he) <;> simp [opB, opTimed] at he <;> omega
theorem oTab_none {k r : Int} {b : Nat} (h : (opSide k = 0) ∨ (opSide k = 3 ∧ r ≠ 1) ∨ (r < 1 ∨ 7 < r)) : ∀ d ∈ oTab (opSide k) b, d.1 ≠ r := by
  intro d hd
  unfold oTab at hd
  split at hd
  · simp [oTabW] at hd
    rcases hd with rfl | rfl | rfl | rfl | rfl | rfl | rfl <;> (show _ ≠ r; omega)
  · split at hd
    · simp at hd; subst hd; show 1 ≠ r; omega
    · simp at hd

set_option maxHeartbeats 1000000 in
theorem oends_any (k r : Int) (w : World) : Calls Try.prog 19 #[.int .i64 k, .int .i64 r] w fun e w' => e = .returned (.bool (opEnds k r)) ∧ Kept w w' := by
  have hu := Try.underlying40
  have hd := Try.underlying3
  have hz : ∀ W, (zeroValue 24).run Try.prog W = .ok .nilFunc W := fun _ => by kernel_rfl
  by_cases hno : (opSide k = 0) ∨ (opSide k = 3 ∧ r ≠ 1) ∨ (r < 1 ∨ 7 < r)
  · have e0 := oEnds_none hno
    go_enter Try.func19, Try.ntmps19
    go_wp2_with fail
    refine (omade_any k _).mono ?_
    rintro e wy ⟨mb, bb, rfl, hM, hb, hc, hgy⟩
    have hlk := imap_miss hu hd hM (hz _) (oTab_none hno)
    clear hM hu hd hz hno
    go_wp2
    go_ret
    exact ⟨ret_bool (by first | rfl | exact e0.symm), by repeat' (first | (with_reducible exact Below.refl _ _) | (with_reducible assumption) | (with_reducible refine kept_alloc ?_ _) | (with_reducible refine kept_drewN ?_ _) | (with_reducible refine Below.drew ?_) | (with_reducible refine Below.setCell ?_ (by first | omega | (simp; omega) | (simp; done)) _) | (refine kept_trans ?_ (by with_reducible assumption)))⟩
  have hsd := side_is k
  rcases (by omega : (opSide k = 3 ∧ r = 1) ∨ ((opSide k = 1 ∨ opSide k = 2) ∧ 1 ≤ r ∧ r ≤ 7)) with ⟨hs, rfl⟩ | ⟨hs, hr⟩
  · go_enter Try.func19, Try.ntmps19
    go_wp2_with fail
    refine (omade_any k _).mono ?_
    rintro e wy ⟨mb, bb, rfl, hM, hb, hc, hgy⟩
    rw [hs] at hM
    have hlk := imap_hit hu hd hM (oTab_nodup _ _) (i := 1) (v := oAlw) (by simp [oTab])
    unfold oAlw at hlk
    have e0 : opEnds k 1 = true := by simp [opEnds, opB]; omega
    clear hM hu hd hz hno hsd hs
    go_wp2_with (first | (go_at_call 28; refine (oe1_any _).mono ?_; rintro e wx ⟨rfl, hgx⟩) | (go_at_call 29; refine (oe2_any k bb _ hb hc).mono ?_; rintro e wx ⟨rfl, hgx⟩) | (go_at_call 30; refine (oe3_any k bb _ hb hc).mono ?_; rintro e wx ⟨rfl, hgx⟩) | (go_at_call 31; refine (oe4_any k bb _ hb hc).mono ?_; rintro e wx ⟨rfl, hgx⟩) | (go_at_call 32; refine (oe5_any k bb _ hb hc).mono ?_; rintro e wx ⟨rfl, hgx⟩))
    go_ret
    exact ⟨ret_bool (by first | rfl | exact e0.symm), by repeat' (first | (with_reducible exact Below.refl _ _) | (with_reducible assumption) | (with_reducible refine kept_alloc ?_ _) | (with_reducible refine kept_drewN ?_ _) | (with_reducible refine Below.drew ?_) | (with_reducible refine Below.setCell ?_ (by first | omega | (simp; omega) | (simp; done)) _) | (refine kept_trans ?_ (by with_reducible assumption)))⟩
  · have hT : oTab (opSide k) = oTabW := by funext b; unfold oTab; rw [if_pos hs]
    have hL : ∀ b, ∃ v, (r, v) ∈ oTabW b ∧ ((v = oAlw ∧ opEnds k r = true) ∨ (v = oFn 29 b ∧ opEnds k r = (k == 2)) ∨ (v = oFn 30 b ∧ opEnds k r = (opSide k == 1)) ∨ (v = oFn 31 b ∧ opEnds k r = (k == 5)) ∨ (v = oFn 32 b ∧ opEnds k r = opTimed k)) := by
      intro b
      obtain rfl | rfl | rfl | rfl | rfl | rfl | rfl : r = 1 ∨ r = 2 ∨ r = 3 ∨ r = 4 ∨ r = 5 ∨ r = 6 ∨ r = 7 := by omega
      · exact ⟨oAlw, by simp [oTabW], .inl ⟨rfl, by simp [opEnds, opB]; omega⟩⟩
      · exact ⟨oFn 29 b, by simp [oTabW], .inr (.inl ⟨rfl, rfl⟩)⟩
      · exact ⟨oFn 30 b, by simp [oTabW], .inr (.inr (.inl ⟨rfl, rfl⟩))⟩
      · exact ⟨oFn 31 b, by simp [oTabW], .inr (.inr (.inr (.inl ⟨rfl, rfl⟩)))⟩
      · exact ⟨oFn 32 b, by simp [oTabW], .inr (.inr (.inr (.inr ⟨rfl, rfl⟩)))⟩
      · exact ⟨oAlw, by simp [oTabW], .inl ⟨rfl, by simp [opEnds]; omega⟩⟩
      · exact ⟨oAlw, by simp [oTabW], .inl ⟨rfl, by simp [opEnds]; omega⟩⟩
    go_enter Try.func19, Try.ntmps19
    go_wp2_with fail
    refine (omade_any k _).mono ?_
    rintro e wy ⟨mb, bb, rfl, hM, hb, hc, hgy⟩
    have hn := oTab_nodup (opSide k) bb
    rw [hT] at hM hn
    obtain ⟨v, hv, hvs⟩ := hL bb
    have hlk := imap_hit hu hd hM hn hv
    clear hM hu hd hz hno hsd hs hT hL hn hv hr
    rcases hvs with ⟨rfl, e0⟩ | ⟨rfl, e0⟩ | ⟨rfl, e0⟩ | ⟨rfl, e0⟩ | ⟨rfl, e0⟩
    all_goals
      (try unfold oAlw at hlk)
      (try unfold oFn at hlk)
      go_wp2_with (first | (go_at_call 28; refine (oe1_any _).mono ?_; rintro e wx ⟨rfl, hgx⟩) | (go_at_call 29; refine (oe2_any k bb _ hb hc).mono ?_; rintro e wx ⟨rfl, hgx⟩) | (go_at_call 30; refine (oe3_any k bb _ hb hc).mono ?_; rintro e wx ⟨rfl, hgx⟩) | (go_at_call 31; refine (oe4_any k bb _ hb hc).mono ?_; rintro e wx ⟨rfl, hgx⟩) | (go_at_call 32; refine (oe5_any k bb _ hb hc).mono ?_; rintro e wx ⟨rfl, hgx⟩))
      go_ret
      exact ⟨ret_bool (by first | rfl | exact e0.symm), by repeat' (first | (with_reducible exact Below.refl _ _) | (with_reducible assumption) | (with_reducible refine kept_alloc ?_ _) | (with_reducible refine kept_drewN ?_ _) | (with_reducible refine Below.drew ?_) | (with_reducible refine Below.setCell ?_ (by first | omega | (simp; omega) | (simp; done)) _) | (refine kept_trans ?_ (by with_reducible assumption)))⟩
end Go.Proofs.Ythlgijmpkpmibaa
