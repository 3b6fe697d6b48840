/- Layer 5: a line copied, one taken out; Enter, Leave, Next. -/
import Derived.Test.YtlgldniepcjfoaaLineH
import Derived.Deep.RegionHeld3
import Derived.IntWalk
namespace Go.Proofs.Ytlgldniepcjfoaa
set_option linter.unusedVariables false
set_option linter.unusedSimpArgs false
open Go.ChangeShapes Go.WideShapes Go.ChangeAt Go.RowKit

theorem owi_nil {W : World} {base : Nat} : Ow W base 3 1 intC [] (.slice none 0 0) := ⟨by simp, .inl ⟨rfl, rfl⟩⟩
theorem Ow.mono {α : Type} {W : World} {base base' k : Nat} {e : TypeId} {enc : α → List Value} {xs : List α} {v : Value} (h : Ow W base e k enc xs v) (hb : base' ≤ base) : Ow W base' e k enc xs v := by
  obtain ⟨h0, h1 | ⟨g, cap, cur, hv, hbg, hr⟩⟩ := h
  · exact ⟨h0, .inl h1⟩
  · exact ⟨h0, .inr ⟨g, cap, cur, hv, Nat.le_trans hb hbg, hr⟩⟩
theorem sli_one (w : World) (x : Int) {g : Nat} (hg : w.heap.size = g) : Sl (w.alloc (.cells #[.int .i64 x] 3)) 1 intC [x] (.slice (some ⟨g, 0, none⟩) 1 1) :=
  Ow.sl intEnc (Ow.made (base := 0) (e := 3) (W := w) intEnc [x] #[.int .i64 x] rfl (Nat.zero_le _) (by show 1 ≤ maxLen; decide) hg rfl)
theorem sli_nil (w : World) : Sl w 1 intC [] (.slice none 0 0) := ⟨none, 0, rfl, by simp, by simp, fun _ => rfl, fun h => absurd rfl h⟩
/-- What a copy of a line leaves: a slice of the call's own. -/
def RetO (w : World) (r : List Int) (e : Ending) (w' : World) : Prop :=
  ∃ (p : Option Addr) (k : Nat), e = .returned (.slice p r.length k) ∧ Ow w' w.heap.size 3 1 intC r (.slice p r.length k) ∧ Kept w w'
theorem lkept_any (l : List Int) (p : Option Addr) (k : Nat) (w : World) (hl : Sl w 1 intC l (.slice p l.length k)) (hm : l.length ≤ 1000000) : Calls Try.prog 27 #[.slice p l.length k] w (RetO w l) := by
  have H := Lib.hid hl
  clear hl
  go_enter Try.func27, Try.ntmps27
  go_wp2_with ((at_builtin; refine wpList_app' (wb := w) rfl _ _ 22 rfl (.int .i64 0) 8 Try.underlying22 int_info rfl (by decide) intEnc rfl rfl (xs := []) (ys := l) owi_nil H.out (Below.refl _ _) (by simp only [List.length_append, List.length_nil, List.length_cons]; unfold maxLen; omega) (by simp only [List.length_append, List.length_nil, List.length_cons]; omega) ?_); intro v1 w1 h1 hb1)
  obtain ⟨p1, k1, rfl, -⟩ := (Ow.sl intEnc h1).is
  go_ret
  exact ⟨p1, k1, rfl, h1, hb1⟩

def lineDel_ren : Go.Shelf.Ren := ⟨fun | 23 => 32 | n => n, fun | 22 => 22 | 3 => 3 | 4 => 4 | 0 => 0 | n => n, fun | n => n⟩
theorem lineDel : Go.Proofs.Lays2.n23 Try.prog lineDel_ren := {
  mixed := by kernel_rfl
  f23 := Try.func32.trans (congrArg some (by kernel_rfl))
  t0 := Try.underlying0
  a0 := Try.isAgg0
  z0 := Try.sizeOf0
  v0 := Try.zeroValue0
  t3 := Try.underlying3
  a3 := Try.isAgg3
  z3 := Try.sizeOf3
  v3 := Try.zeroValue3
  t4 := Try.underlying4
  a4 := Try.isAgg4
  z4 := Try.sizeOf4
  v4 := Try.zeroValue4
  t22 := Try.underlying22
  a22 := Try.isAgg22
  z22 := Try.sizeOf22
  v22 := Try.zeroValue22
  i3 := by kernel_rfl }

theorem flat_intC (l : List Int) : l.flatMap intC = l.map (.int .i64) := by induction l <;> simp_all [intC]
/-- One taken out of a slice of the call's own. -/
theorem delete_any (l : List Int) (i : Nat) (p : Option Addr) (k base : Nat) (w : World) (ho : Ow w base 3 1 intC l (.slice p l.length k)) (hi : i < l.length) :
    Calls Try.prog 32 #[.slice p l.length k, .int .i64 i, .int .i64 (i + 1 : Nat)] w fun e w' => e = .returned (.slice p (l.length - 1) k) ∧ Ow w' base 3 1 intC (l.eraseIdx i) (.slice p (l.length - 1) k) ∧ Below base w w' := by
  obtain ⟨hlen, ⟨h1, h2⟩ | ⟨g, cap, cur, h1, hb, hg, hl, hm, hs, ht⟩⟩ := ho
  · omega
  · cases h1
    have hcell : ∀ j, j < l.length → cur[j]? = some (.int .i64 l.toArray[j]!) := by
      intro j hj
      have h3 : cur.toList[j]? = some (.int .i64 l[j]) := by
        have h4 : (cur.toList.take (l.length * 1))[j]? = cur.toList[j]? := List.getElem?_take_of_lt (by omega)
        rw [← h4, ht, flat_intC]
        simp [hj]
      rw [← Array.getElem?_toList, h3]
      simp [hj]
    have hH : Go.Sort.Holds (Value.int .i64) w g 0 l.toArray := by
      intro j hj
      have hj' : j < l.length := by simpa using hj
      refine ⟨?_, by simp [World.frozen?, hg]⟩
      simp only [World.cell?, hg, Nat.zero_add]
      simpa using hcell j hj'
    refine (Go.Proofs.Any.slices_Delete_int lineDel g 0 k i (i + 1) l w hH hl hm (by omega) (by omega)).mono ?_
    rintro e w' ⟨rfl, q, rfl⟩
    have hsz : (l.take i ++ l.drop (i + 1) ++ List.replicate (i + 1 - i) (0 : Int)).toArray.size = l.length := by simp; omega
    have her : l.take i ++ l.drop (i + 1) = l.eraseIdx i := (List.eraseIdx_eq_take_drop_succ l i).symm
    have hel : (l.eraseIdx i).length = l.length - 1 := List.length_eraseIdx_of_lt hi
    rw [her] at hsz ⊢
    obtain ⟨D, hD⟩ : ∃ D, (l.eraseIdx i ++ List.replicate (i + 1 - i) (0 : Int)).toArray = D := ⟨_, rfl⟩
    rw [hD] at hsz ⊢
    have hDl : D.toList.take (l.length - 1) = l.eraseIdx i := by rw [← hD, ← hel]; simp
    have hheap : (Go.Sort.putRow (Value.int .i64) (Go.Sort.ahead w q) g 0 D).heap[g]? = some (.cells (Go.Sort.putCells (Value.int .i64) 0 D cur) 3 (0, 0)) := by
      simp [Go.Sort.putRow, Go.Sort.mapBlock, Go.Sort.ahead, Array.getElem?_modify, hg, Go.Sort.onCells]
    refine ⟨by rw [show l.length - (i + 1 - i) = l.length - 1 by omega], ⟨by rw [flat_len intEnc, hel], .inr ⟨g, k, _, by rw [hel], hb, hheap, by omega, hm, by simpa [Go.Sort.putCells] using hs, ?_⟩⟩, ?_⟩
    · apply List.ext_getElem?
      intro j
      rw [List.getElem?_take, flat_intC, hel, ← hDl]
      split
      · rename_i hj
        have hjD : j < D.size := by omega
        have hjc : j < cur.size := by omega
        have h5 : (D.toList.take (l.length - 1))[j]? = some D[j] := by rw [List.getElem?_take_of_lt (by omega)]; simp [hjD]
        rw [List.getElem?_map, h5]
        simp [Go.Sort.putCells, hjD, hjc]
      · rename_i hj
        rw [List.getElem?_eq_none (by simp; omega)]
    · refine ⟨rfl, rfl, rfl, by simp [Go.Sort.ahead], fun j hj => ?_⟩
      simp [Go.Sort.putRow, Go.Sort.mapBlock, Go.Sort.ahead, Array.getElem?_modify]
      intro e; omega

/-- What a call that hands back a line and an error leaves. -/
def RetLE (w : World) (r : List Int) (c : Int) (e : Ending) (w' : World) : Prop :=
  ∃ (p : Option Addr) (k : Nat), e = .returned (.tuple #[.slice p r.length k, .int .i64 c]) ∧ Sl w' 1 intC r (.slice p r.length k) ∧ Kept w w'
theorem RetO.of {W w' : World} {r : List Int} {p : Option Addr} {k : Nat} (h : Ow w' W.heap.size 3 1 intC r (.slice p r.length k)) : Sl w' 1 intC r (.slice p r.length k) := Ow.sl intEnc h

/-- The same, where the line is of the call's own. -/
def RetLO (w : World) (r : List Int) (c : Int) (e : Ending) (w' : World) : Prop :=
  ∃ (p : Option Addr) (k : Nat), e = .returned (.tuple #[.slice p r.length k, .int .i64 c]) ∧ Ow w' w.heap.size 3 1 intC r (.slice p r.length k) ∧ Kept w w'
set_option maxHeartbeats 2000000 in
theorem lenter_own (l : List Int) (i : Int) (p : Option Addr) (k : Nat) (w : World) (hl : Sl w 1 intC l (.slice p l.length k)) (hm : l.length ≤ 999999) :
    Calls Try.prog 19 #[.slice p l.length k, .int .i64 i] w (RetLO w (entL l i) (entE l i)) := by
  have H := Lib.hid hl
  clear hl
  cases hok : okLn l
  · have e1 : entE l i = 40 := by simp [entE, hok]
    have e2 : entL l i = l := ent_no (by rw [e1]; decide)
    rw [e1, e2]
    have HO := Lib.hid hok
    clear hok e1 e2
    go_enter Try.func19, Try.ntmps19
    go_wp2_with fail
    refine (lnone_any 16 _).mono ?_
    rintro e w1 ⟨lb, rfl, hT, hg1⟩
    go_wp2_with fail
    refine (lcheck_any l p k _ (H.out.kept (by repeat' (first | (with_reducible exact Below.refl _ _) | (with_reducible assumption) | (with_reducible refine kept_alloc ?_ _) | (with_reducible refine kept_drewN ?_ _) | (with_reducible refine Below.drew ?_) | (with_reducible refine Below.setCell ?_ (by first | omega | (simp; omega) | (simp; done)) _) | (refine kept_trans ?_ (by with_reducible assumption)))))).mono ?_
    rintro e w2 ⟨rfl, hg2⟩
    rw [HO.out]
    go_wp2_with fail
    refine (lkept_any l p k _ (H.out.kept (by repeat' (first | (with_reducible exact Below.refl _ _) | (with_reducible assumption) | (with_reducible refine kept_alloc ?_ _) | (with_reducible refine kept_drewN ?_ _) | (with_reducible refine Below.drew ?_) | (with_reducible refine Below.setCell ?_ (by first | omega | (simp; omega) | (simp; done)) _) | (refine kept_trans ?_ (by with_reducible assumption))))) (by omega)).mono ?_
    rintro e w3 ⟨p3, k3, rfl, hO3, hg3⟩
    have hS3 := Ow.mono hO3 (kept_trans hg1 hg2).size
    clear hO3
    go_wp2
    go_ret2
    exact ⟨p3, k3, rfl, hS3, by repeat' (first | (with_reducible exact Below.refl _ _) | (with_reducible assumption) | (with_reducible refine kept_alloc ?_ _) | (with_reducible refine kept_drewN ?_ _) | (with_reducible refine Below.drew ?_) | (with_reducible refine Below.setCell ?_ (by first | omega | (simp; omega) | (simp; done)) _) | (refine kept_trans ?_ (by with_reducible assumption)))⟩
  · have HO := Lib.hid hok
    obtain ⟨I, hI⟩ : ∃ I, noneB 16 i = I := ⟨_, rfl⟩
    have HI := Lib.hid hI
    cases I
    · obtain ⟨T, hT⟩ : ∃ T, decide (i ∈ l) = T := ⟨_, rfl⟩
      have HT := Lib.hid hT
      cases T
      · have e1 : entE l i = 0 := by rw [decide_eq_false_iff_not] at hT; simp [entE, hok, hI, hT]
        have e2 : entL l i = l ++ [i] := ent_yes e1
        rw [e1, e2]
        clear hok hI hT e1 e2
        go_enter Try.func19, Try.ntmps19
        go_wp2_with fail
        refine (lnone_any 16 _).mono ?_
        rintro e w1 ⟨lb, rfl, hT, hg1⟩
        have HL := Lib.hid hT
        clear hT
        go_wp2_with fail
        refine (lcheck_any l p k _ (H.out.kept (by repeat' (first | (with_reducible exact Below.refl _ _) | (with_reducible assumption) | (with_reducible refine kept_alloc ?_ _) | (with_reducible refine kept_drewN ?_ _) | (with_reducible refine Below.drew ?_) | (with_reducible refine Below.setCell ?_ (by first | omega | (simp; omega) | (simp; done)) _) | (refine kept_trans ?_ (by with_reducible assumption)))))).mono ?_
        rintro e w2 ⟨rfl, hg2⟩
        rw [HO.out]
        go_wp2_with fail
        refine (HL.out _ i (by repeat' (first | (with_reducible exact Below.refl _ _) | (with_reducible assumption) | (with_reducible refine kept_alloc ?_ _) | (with_reducible refine kept_drewN ?_ _) | (with_reducible refine Below.drew ?_) | (with_reducible refine Below.setCell ?_ (by first | omega | (simp; omega) | (simp; done)) _) | (refine kept_trans ?_ (by with_reducible assumption))))).mono ?_
        rintro e w3 ⟨rfl, hg3⟩
        rw [HI.out]
        go_wp2_with fail
        refine (contains_any l i p k _ (H.out.kept (by repeat' (first | (with_reducible exact Below.refl _ _) | (with_reducible assumption) | (with_reducible refine kept_alloc ?_ _) | (with_reducible refine kept_drewN ?_ _) | (with_reducible refine Below.drew ?_) | (with_reducible refine Below.setCell ?_ (by first | omega | (simp; omega) | (simp; done)) _) | (refine kept_trans ?_ (by with_reducible assumption)))))).mono ?_
        rintro e w4 ⟨rfl, hg4⟩
        rw [HT.out]
        go_wp2_with fail
        refine (lkept_any l p k _ (H.out.kept (by repeat' (first | (with_reducible exact Below.refl _ _) | (with_reducible assumption) | (with_reducible refine kept_alloc ?_ _) | (with_reducible refine kept_drewN ?_ _) | (with_reducible refine Below.drew ?_) | (with_reducible refine Below.setCell ?_ (by first | omega | (simp; omega) | (simp; done)) _) | (refine kept_trans ?_ (by with_reducible assumption))))) (by omega)).mono ?_
        rintro e w5 ⟨p5, k5, rfl, hO5, hg5⟩
        have hB4 : Below w.heap.size w w4 := by repeat' (first | (with_reducible exact Below.refl _ _) | (with_reducible assumption) | (with_reducible refine kept_alloc ?_ _) | (with_reducible refine kept_drewN ?_ _) | (with_reducible refine Below.drew ?_) | (with_reducible refine Below.setCell ?_ (by first | omega | (simp; omega) | (simp; done)) _) | (refine kept_trans ?_ (by with_reducible assumption)))
        have hB5 : Below w.heap.size w w5 := kept_trans hB4 hg5
        have HW := Lib.hid (Ow.mono hO5 hB4.size)
        clear hO5 hg1 hg2 hg3 hg4 hg5
        go_wp2_with ((at_builtin; refine wpList_app' (wb := w) rfl _ _ 22 rfl (.int .i64 0) 8 Try.underlying22 int_info rfl (by decide) intEnc rfl rfl (xs := l) (ys := [i]) (HW.out.kept ((Below.refl _ _).alloc (Nat.le_refl _) _)) (sli_one w5 i rfl) (kept_alloc hB5 _) (by simp only [List.length_append, List.length_nil, List.length_cons]; unfold maxLen; omega) (by simp only [List.length_append, List.length_nil, List.length_cons]; omega) ?_); intro v6 w6 h6 hb6)
        obtain ⟨p6, k6, rfl, -⟩ := (Ow.sl intEnc h6).is
        have hS6 := h6
        clear h6
        go_ret2
        exact ⟨p6, k6, rfl, hS6, hb6⟩
      · have e1 : entE l i = 60 := by rw [decide_eq_true_iff] at hT; simp [entE, hok, hI, hT]
        have e2 : entL l i = l := ent_no (by rw [e1]; decide)
        rw [e1, e2]
        clear hok hI hT e1 e2
        go_enter Try.func19, Try.ntmps19
        go_wp2_with fail
        refine (lnone_any 16 _).mono ?_
        rintro e w1 ⟨lb, rfl, hT, hg1⟩
        have HL := Lib.hid hT
        clear hT
        go_wp2_with fail
        refine (lcheck_any l p k _ (H.out.kept (by repeat' (first | (with_reducible exact Below.refl _ _) | (with_reducible assumption) | (with_reducible refine kept_alloc ?_ _) | (with_reducible refine kept_drewN ?_ _) | (with_reducible refine Below.drew ?_) | (with_reducible refine Below.setCell ?_ (by first | omega | (simp; omega) | (simp; done)) _) | (refine kept_trans ?_ (by with_reducible assumption)))))).mono ?_
        rintro e w2 ⟨rfl, hg2⟩
        rw [HO.out]
        go_wp2_with fail
        refine (HL.out _ i (by repeat' (first | (with_reducible exact Below.refl _ _) | (with_reducible assumption) | (with_reducible refine kept_alloc ?_ _) | (with_reducible refine kept_drewN ?_ _) | (with_reducible refine Below.drew ?_) | (with_reducible refine Below.setCell ?_ (by first | omega | (simp; omega) | (simp; done)) _) | (refine kept_trans ?_ (by with_reducible assumption))))).mono ?_
        rintro e w3 ⟨rfl, hg3⟩
        rw [HI.out]
        go_wp2_with fail
        refine (contains_any l i p k _ (H.out.kept (by repeat' (first | (with_reducible exact Below.refl _ _) | (with_reducible assumption) | (with_reducible refine kept_alloc ?_ _) | (with_reducible refine kept_drewN ?_ _) | (with_reducible refine Below.drew ?_) | (with_reducible refine Below.setCell ?_ (by first | omega | (simp; omega) | (simp; done)) _) | (refine kept_trans ?_ (by with_reducible assumption)))))).mono ?_
        rintro e w4 ⟨rfl, hg4⟩
        rw [HT.out]
        go_wp2_with fail
        refine (lkept_any l p k _ (H.out.kept (by repeat' (first | (with_reducible exact Below.refl _ _) | (with_reducible assumption) | (with_reducible refine kept_alloc ?_ _) | (with_reducible refine kept_drewN ?_ _) | (with_reducible refine Below.drew ?_) | (with_reducible refine Below.setCell ?_ (by first | omega | (simp; omega) | (simp; done)) _) | (refine kept_trans ?_ (by with_reducible assumption))))) (by omega)).mono ?_
        rintro e w5 ⟨p5, k5, rfl, hO5, hg5⟩
        have hS5 := Ow.mono hO5 (kept_trans (kept_trans (kept_trans hg1 hg2) hg3) hg4).size
        clear hO5
        go_wp2
        go_ret2
        exact ⟨p5, k5, rfl, hS5, by repeat' (first | (with_reducible exact Below.refl _ _) | (with_reducible assumption) | (with_reducible refine kept_alloc ?_ _) | (with_reducible refine kept_drewN ?_ _) | (with_reducible refine Below.drew ?_) | (with_reducible refine Below.setCell ?_ (by first | omega | (simp; omega) | (simp; done)) _) | (refine kept_trans ?_ (by with_reducible assumption)))⟩
    · have e1 : entE l i = 40 := by simp [entE, hI]
      have e2 : entL l i = l := ent_no (by rw [e1]; decide)
      rw [e1, e2]
      clear hok hI e1 e2
      go_enter Try.func19, Try.ntmps19
      go_wp2_with fail
      refine (lnone_any 16 _).mono ?_
      rintro e w1 ⟨lb, rfl, hT, hg1⟩
      have HL := Lib.hid hT
      clear hT
      go_wp2_with fail
      refine (lcheck_any l p k _ (H.out.kept (by repeat' (first | (with_reducible exact Below.refl _ _) | (with_reducible assumption) | (with_reducible refine kept_alloc ?_ _) | (with_reducible refine kept_drewN ?_ _) | (with_reducible refine Below.drew ?_) | (with_reducible refine Below.setCell ?_ (by first | omega | (simp; omega) | (simp; done)) _) | (refine kept_trans ?_ (by with_reducible assumption)))))).mono ?_
      rintro e w2 ⟨rfl, hg2⟩
      rw [HO.out]
      go_wp2_with fail
      refine (HL.out _ i (by repeat' (first | (with_reducible exact Below.refl _ _) | (with_reducible assumption) | (with_reducible refine kept_alloc ?_ _) | (with_reducible refine kept_drewN ?_ _) | (with_reducible refine Below.drew ?_) | (with_reducible refine Below.setCell ?_ (by first | omega | (simp; omega) | (simp; done)) _) | (refine kept_trans ?_ (by with_reducible assumption))))).mono ?_
      rintro e w3 ⟨rfl, hg3⟩
      rw [HI.out]
      go_wp2_with fail
      refine (lkept_any l p k _ (H.out.kept (by repeat' (first | (with_reducible exact Below.refl _ _) | (with_reducible assumption) | (with_reducible refine kept_alloc ?_ _) | (with_reducible refine kept_drewN ?_ _) | (with_reducible refine Below.drew ?_) | (with_reducible refine Below.setCell ?_ (by first | omega | (simp; omega) | (simp; done)) _) | (refine kept_trans ?_ (by with_reducible assumption))))) (by omega)).mono ?_
      rintro e w5 ⟨p5, k5, rfl, hO5, hg5⟩
      have hS5 := Ow.mono hO5 (kept_trans (kept_trans hg1 hg2) hg3).size
      clear hO5
      go_wp2
      go_ret2
      exact ⟨p5, k5, rfl, hS5, by repeat' (first | (with_reducible exact Below.refl _ _) | (with_reducible assumption) | (with_reducible refine kept_alloc ?_ _) | (with_reducible refine kept_drewN ?_ _) | (with_reducible refine Below.drew ?_) | (with_reducible refine Below.setCell ?_ (by first | omega | (simp; omega) | (simp; done)) _) | (refine kept_trans ?_ (by with_reducible assumption)))⟩
theorem lenter_any (l : List Int) (i : Int) (p : Option Addr) (k : Nat) (w : World) (hl : Sl w 1 intC l (.slice p l.length k)) (hm : l.length ≤ 999999) :
    Calls Try.prog 19 #[.slice p l.length k, .int .i64 i] w (RetLE w (entL l i) (entE l i)) := by
  refine (lenter_own l i p k w hl hm).mono ?_
  rintro e w' ⟨p1, k1, rfl, h1, h2⟩
  exact ⟨p1, k1, rfl, Ow.sl intEnc h1, h2⟩

theorem lv_neg {l : List Int} {i : Int} (h : plI l i < 0) : lvE l i = 40 ∧ lvL l i = l := by simp [lvE, lvL, h]
theorem lv_pos {l : List Int} {i : Int} (h : ¬ plI l i < 0) : ∃ n : Nat, plI l i = n ∧ n < l.length ∧ lvE l i = 0 ∧ lvL l i = l.eraseIdx n := by
  have h1 := pl_ge (l := l) (i := i)
  exact ⟨(plI l i).toNat, by omega, by omega, by simp [lvE, h], by simp [lvL, h]⟩
set_option maxHeartbeats 2000000 in
theorem lleave_own (l : List Int) (i : Int) (p : Option Addr) (k : Nat) (w : World) (hl : Sl w 1 intC l (.slice p l.length k)) (hm : l.length ≤ 999999) :
    Calls Try.prog 23 #[.slice p l.length k, .int .i64 i] w (RetLO w (lvL l i) (lvE l i)) := by
  have H := Lib.hid hl
  clear hl
  by_cases hn : plI l i < 0
  · obtain ⟨e1, e2⟩ := lv_neg hn
    rw [e1, e2]
    clear e1 e2
    go_enter Try.func23, Try.ntmps23
    go_wp2_with fail
    refine (lplace_any l i p k _ (H.out.kept (by repeat' (first | (with_reducible exact Below.refl _ _) | (with_reducible assumption) | (with_reducible refine kept_alloc ?_ _) | (with_reducible refine kept_drewN ?_ _) | (with_reducible refine Below.drew ?_) | (with_reducible refine Below.setCell ?_ (by first | omega | (simp; omega) | (simp; done)) _) | (refine kept_trans ?_ (by with_reducible assumption)))))).mono ?_
    rintro e w1 ⟨rfl, hg1⟩
    go_wp2_with fail
    refine (lkept_any l p k _ (H.out.kept (by repeat' (first | (with_reducible exact Below.refl _ _) | (with_reducible assumption) | (with_reducible refine kept_alloc ?_ _) | (with_reducible refine kept_drewN ?_ _) | (with_reducible refine Below.drew ?_) | (with_reducible refine Below.setCell ?_ (by first | omega | (simp; omega) | (simp; done)) _) | (refine kept_trans ?_ (by with_reducible assumption))))) (by omega)).mono ?_
    rintro e w3 ⟨p3, k3, rfl, hO3, hg3⟩
    have hS3 := Ow.mono hO3 hg1.size
    clear hO3
    go_wp2
    go_ret2
    exact ⟨p3, k3, rfl, hS3, by repeat' (first | (with_reducible exact Below.refl _ _) | (with_reducible assumption) | (with_reducible refine kept_alloc ?_ _) | (with_reducible refine kept_drewN ?_ _) | (with_reducible refine Below.drew ?_) | (with_reducible refine Below.setCell ?_ (by first | omega | (simp; omega) | (simp; done)) _) | (refine kept_trans ?_ (by with_reducible assumption)))⟩
  · obtain ⟨n, h1, h2, e1, e2⟩ := lv_pos hn
    rw [e1, e2]
    have HP := Lib.hid h1
    have hel : (l.eraseIdx n).length = l.length - 1 := List.length_eraseIdx_of_lt h2
    have HE := Lib.hid hel
    clear e1 e2 hn h1 hel
    have i1 : ¬ (n : Int) < 0 := by omega
    have i2 : IntKind.i64.wrap ((n : Int) + 1) = (n : Int) + 1 := IntWalk.i64_in _ (by omega)
    go_enter Try.func23, Try.ntmps23
    go_wp2_with fail
    refine (lplace_any l i p k _ (H.out.kept (by repeat' (first | (with_reducible exact Below.refl _ _) | (with_reducible assumption) | (with_reducible refine kept_alloc ?_ _) | (with_reducible refine kept_drewN ?_ _) | (with_reducible refine Below.drew ?_) | (with_reducible refine Below.setCell ?_ (by first | omega | (simp; omega) | (simp; done)) _) | (refine kept_trans ?_ (by with_reducible assumption)))))).mono ?_
    rintro e w1 ⟨rfl, hg1⟩
    rw [HP.out]
    go_wp2_with fail
    refine (lkept_any l p k _ (H.out.kept (by repeat' (first | (with_reducible exact Below.refl _ _) | (with_reducible assumption) | (with_reducible refine kept_alloc ?_ _) | (with_reducible refine kept_drewN ?_ _) | (with_reducible refine Below.drew ?_) | (with_reducible refine Below.setCell ?_ (by first | omega | (simp; omega) | (simp; done)) _) | (refine kept_trans ?_ (by with_reducible assumption))))) (by omega)).mono ?_
    rintro e w3 ⟨p3, k3, rfl, hO3, hg3⟩
    have HO := Lib.hid (delete_any l n p3 k3 w1.heap.size w3 hO3 h2)
    clear hO3
    go_wp2_with fail
    refine HO.out.mono ?_
    rintro e w4 ⟨rfl, hO4, hg4⟩
    have hS4 := Ow.mono (HE.out.symm ▸ hO4 : Ow w4 w1.heap.size 3 1 intC (l.eraseIdx n) (.slice p3 (l.eraseIdx n).length k3)) hg1.size
    have hB4 : Below w.heap.size w w4 := hg1.trans ((hg3.trans hg4).mono hg1.size)
    clear hO4 hg1 hg3 hg4
    go_wp2
    go_ret2
    exact ⟨p3, k3, by rw [HE.out]; rfl, hS4, hB4⟩
theorem lleave_any (l : List Int) (i : Int) (p : Option Addr) (k : Nat) (w : World) (hl : Sl w 1 intC l (.slice p l.length k)) (hm : l.length ≤ 999999) :
    Calls Try.prog 23 #[.slice p l.length k, .int .i64 i] w (RetLE w (lvL l i) (lvE l i)) := by
  refine (lleave_own l i p k w hl hm).mono ?_
  rintro e w' ⟨p1, k1, rfl, h1, h2⟩
  exact ⟨p1, k1, rfl, Ow.sl intEnc h1, h2⟩
end Go.Proofs.Ytlgldniepcjfoaa
