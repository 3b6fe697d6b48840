/- Texts merged: LineHP, LineIP, LineJP, LineKP, LineLP, LineNP, IntsP, LineMP, EventGP, ConfBP, ConfCP, ConfDP, CopyP, SlotCP. -/
import Derived.Test.YtjbcfjfnobklkaaGreatZa4
import Derived.Deep.RegionHeld3
import Derived.IntWalk
import Derived.Test.YtjbcfjfnobklkaaGreatZa3
import Derived.LoopTactic
import Derived.Lib.Hide
import Derived.Laws.CopyOwn
import Derived.Laws.OwnMore
/- Layer 5: who is none (a closure), who is unlike, a line copied; Check, Place, First. -/
namespace Go.Proofs.YtjbcfjfnobklkaaGreat
set_option linter.unusedVariables false
set_option linter.unusedSimpArgs false
open Go.ChangeShapes Go.WideShapes Go.ChangeAt Go.RowKit

theorem none_enters : ∀ args w, (callFunc 222 args).run Tryz.prog w = .ok (.enter 222 args) w := enters_of Tryz.func222 (by kernel_rfl) rfl
theorem none1_tells (th : Int) (b : Nat) (w : World) (hb : b < w.heap.size) (hc : w.cell? ⟨b, 0, none⟩ = some (.int .i64 th)) : Tells 222 #[.pointer (some ⟨b, 0, none⟩)] (noneB th) w := by
  intro W x hW
  have c1 := (hW.cell (p := ⟨b, 0, none⟩) hb).trans hc
  show Calls Tryz.prog 222 #[.int .i64 x, .pointer (some ⟨b, 0, none⟩)] W _
  go_enter Tryz.func222, Tryz.ntmps222
  go_wp2
  all_goals (go_ret; exact ⟨ret_bool (by simp [noneB, *]), by repeat' (first | (with_reducible exact Below.refl _ _) | (with_reducible assumption) | (with_reducible refine kept_alloc ?_ _) | (with_reducible refine kept_drewN ?_ _) | (with_reducible refine Below.drew ?_) | (with_reducible refine Below.setCell ?_ (by first | omega | (simp; omega) | (simp; done)) _) | (refine kept_trans ?_ (by with_reducible assumption)))⟩)
def RetNone (th : Int) (w : World) (e : Ending) (w' : World) : Prop := ∃ lb, e = .returned (.func (.func 222) #[] lb) ∧ Tells 222 lb (noneB th) w' ∧ Kept w w'
theorem lnone_any (th : Int) (w : World) : Calls Tryz.prog 171 #[.int .i64 th] w (RetNone th w) := by
  go_enter Tryz.func171, Tryz.ntmps171
  go_wp2
  go_ret
  exact ⟨_, rfl, none1_tells th w.heap.size _ (by simp) (by simp), by repeat' (first | (with_reducible exact Below.refl _ _) | (with_reducible assumption) | (with_reducible refine kept_alloc ?_ _) | (with_reducible refine kept_drewN ?_ _) | (with_reducible refine Below.drew ?_) | (with_reducible refine Below.setCell ?_ (by first | omega | (simp; omega) | (simp; done)) _) | (refine kept_trans ?_ (by with_reducible assumption)))⟩

theorem Sl.take {α : Type} {W : World} {k : Nat} {enc : α → List Value} {xs : List α} {p : Option Addr} {n c i : Nat} (h : Sl W k enc xs (.slice p n c)) (hi : i ≤ xs.length) : Sl W k enc (xs.take i) (.slice p i c) := by
  obtain ⟨q, cap, hv, h1, h2, h3, h4⟩ := h.is
  cases hv
  refine ⟨p, c, by simp; omega, by simp; omega, h2, h3, fun hne => ?_⟩
  obtain ⟨b, o, hp, hb, hc⟩ := h4 (by intro h; subst h; simp at hne)
  refine ⟨b, o, hp, hb, fun j x hx m hm => hc j x ?_ m hm⟩
  rw [List.getElem?_take] at hx
  split at hx
  · exact hx
  · cases hx

set_option maxHeartbeats 1000000 in
theorem unlike_any (l : List Int) (p : Option Addr) (k : Nat) (w : World) (hl : Sl w 1 intC l (.slice p l.length k)) :
    Calls Tryz.prog 172 #[.slice p l.length k] w fun e w' => e = .returned (.bool (decide l.Nodup)) ∧ Kept w w' := by
  have H := Lib.hid hl
  obtain ⟨_, _, e1, hlk, hkm, _, hne⟩ := hl.is
  cases e1
  have hbig : l.length ≤ 9223372036854775807 := by unfold maxLen at hkm; omega
  clear hl hkm
  obtain ⟨N, hN⟩ : ∃ N, l.length = N := ⟨_, rfl⟩
  rw [hN] at hbig hlk ⊢
  have HN := Lib.hid hN
  have HNE := Lib.hid hne
  clear hN hne
  go_enter Tryz.func172, Tryz.ntmps172
  go_wp2
  go_loopw [3, 4, 7] (fun _ _ s7 wr => ∃ j : Nat, j ≤ N ∧ s7 = .int .i64 j ∧ Hid ((l.take j).Nodup) ∧ Below w.heap.size w wr) (fun _ _ s7 _ => N - (intOf s7).toNat)
  case atStart => exact ⟨0, by omega, rfl, Lib.hid (by simp), Below.refl _ _⟩
  case round =>
    obtain ⟨j, hj, rfl, T, hB⟩ := hrel
    by_cases hlt : j < N
    · have hlt' : j < l.length := by rw [HN.out]; exact hlt
      obtain ⟨b, o, rfl, hb, -⟩ := HNE.out (by intro h; subst h; simp at hlt')
      have c1 := (hB.cell (p := ⟨b, o + j, none⟩) hb).trans (sli_at H.out hlt')
      have hbw : b < wr.heap.size := Nat.lt_of_lt_of_le hb hB.size
      have i1 : (0 : Int) ≤ (j : Int) := by omega
      have i2 : (j : Int) < (N : Int) := by omega
      have i3 : j ≤ k := by omega
      have Hh : Hid (decide (l[j] ∈ l.take j) = true → decide l.Nodup = false) := fun h => decide_eq_false (not_nodup_of_take hlt' (of_decide_eq_true h))
      have Hn : Hid (decide (l[j] ∈ l.take j) = false → (l.take (j + 1)).Nodup) := fun h => (nodup_take_succ hlt').2 ⟨T.out, of_decide_eq_false h⟩
      have HT : Hid (Sl wr 1 intC (l.take j) (.slice (some ⟨b, o, none⟩) j k)) := Lib.hid (Sl.take (H.out.kept hB) (by omega))
      have HL : Hid ((l.take j).length = j) := Lib.hid (by simp; omega)
      generalize l[j] = y at *
      generalize l.take j = t at *
      obtain ⟨D, hD⟩ : ∃ D, decide (y ∈ t) = D := ⟨_, rfl⟩
      have HD := Lib.hid hD
      rw [hD] at Hh Hn
      clear hD
      go_wp2_with fail
      refine ((HL.out ▸ contains_any t y (some ⟨b, o, none⟩) k _ (HL.out.symm ▸ HT.out.kept (by repeat' (first | (with_reducible exact Below.refl _ _) | (with_reducible assumption) | (with_reducible refine kept_alloc ?_ _) | (with_reducible refine kept_drewN ?_ _) | (with_reducible refine Below.drew ?_) | (with_reducible refine Below.setCell ?_ (by first | omega | (simp; omega) | (simp; done)) _) | (refine kept_trans ?_ (by with_reducible assumption))))) : Calls Tryz.prog 198 #[.slice (some ⟨b, o, none⟩) j k, .int .i64 y] _ _)).mono ?_
      rintro e w1 ⟨rfl, hg1⟩
      rw [HD.out]
      cases D
      · have hn := Lib.hid (Hn.out rfl)
        clear Hh Hn
        go_wp2
        exact ⟨⟨j + 1, by omega, by go_num, hn.out, by repeat' (first | (with_reducible exact Below.refl _ _) | (with_reducible assumption) | (with_reducible refine kept_alloc ?_ _) | (with_reducible refine kept_drewN ?_ _) | (with_reducible refine Below.drew ?_) | (with_reducible refine Below.setCell ?_ (by first | omega | (simp; omega) | (simp; done)) _) | (refine kept_trans ?_ (by with_reducible assumption)))⟩, by simp [intOf]; omega⟩
      · have hn := Lib.hid (Hh.out rfl)
        clear Hh Hn
        go_wp2
        go_ret
        exact ⟨ret_bool hn.out.symm, by repeat' (first | (with_reducible exact Below.refl _ _) | (with_reducible assumption) | (with_reducible refine kept_alloc ?_ _) | (with_reducible refine kept_drewN ?_ _) | (with_reducible refine Below.drew ?_) | (with_reducible refine Below.setCell ?_ (by first | omega | (simp; omega) | (simp; done)) _) | (refine kept_trans ?_ (by with_reducible assumption)))⟩
    · have : j = N := by omega
      subst this
      have hn : Hid (l.Nodup) := Lib.hid (by have := T.out; rw [← HN.out, List.take_length] at this; exact this)
      clear T
      go_wp2
      go_ret
      exact ⟨ret_bool (by simp [hn.out]), by repeat' (first | (with_reducible exact Below.refl _ _) | (with_reducible assumption) | (with_reducible refine kept_alloc ?_ _) | (with_reducible refine kept_drewN ?_ _) | (with_reducible refine Below.drew ?_) | (with_reducible refine Below.setCell ?_ (by first | omega | (simp; omega) | (simp; done)) _) | (refine kept_trans ?_ (by with_reducible assumption)))⟩

theorem ok_any {l : List Int} (h : l.any (noneB 16) = true) : okLn l = false := by simp [okLn, h]
theorem ok_all {l : List Int} (h : l.any (noneB 16) = false) : okLn l = decide l.Nodup := by simp [okLn, h]
theorem lcheck_any (l : List Int) (p : Option Addr) (k : Nat) (w : World) (hl : Sl w 1 intC l (.slice p l.length k)) :
    Calls Tryz.prog 111 #[.slice p l.length k] w fun e w' => e = .returned (.bool (okLn l)) ∧ Kept w w' := by
  have H := Lib.hid hl
  clear hl
  obtain ⟨A, hA⟩ : ∃ A, l.any (noneB 16) = A := ⟨_, rfl⟩
  have HA := Lib.hid hA
  cases A
  · rw [ok_all hA]
    clear hA
    go_enter Tryz.func111, Tryz.ntmps111
    go_wp2_with fail
    refine (lnone_any 16 _).mono ?_
    rintro e w1 ⟨lb, rfl, hT, hg1⟩
    go_wp2_with fail
    refine (containsFunc_any l _ _ lb none_enters p k _ (H.out.kept (by repeat' (first | (with_reducible exact Below.refl _ _) | (with_reducible assumption) | (with_reducible refine kept_alloc ?_ _) | (with_reducible refine kept_drewN ?_ _) | (with_reducible refine Below.drew ?_) | (with_reducible refine Below.setCell ?_ (by first | omega | (simp; omega) | (simp; done)) _) | (refine kept_trans ?_ (by with_reducible assumption))))) hT).mono ?_
    rintro e w2 ⟨rfl, hg2⟩
    rw [HA.out]
    go_wp2_with fail
    refine (unlike_any l p k _ (H.out.kept (by repeat' (first | (with_reducible exact Below.refl _ _) | (with_reducible assumption) | (with_reducible refine kept_alloc ?_ _) | (with_reducible refine kept_drewN ?_ _) | (with_reducible refine Below.drew ?_) | (with_reducible refine Below.setCell ?_ (by first | omega | (simp; omega) | (simp; done)) _) | (refine kept_trans ?_ (by with_reducible assumption)))))).mono ?_
    rintro e w3 ⟨rfl, hg3⟩
    go_wp2
    all_goals (go_ret; exact ⟨rfl, by repeat' (first | (with_reducible exact Below.refl _ _) | (with_reducible assumption) | (with_reducible refine kept_alloc ?_ _) | (with_reducible refine kept_drewN ?_ _) | (with_reducible refine Below.drew ?_) | (with_reducible refine Below.setCell ?_ (by first | omega | (simp; omega) | (simp; done)) _) | (refine kept_trans ?_ (by with_reducible assumption)))⟩)
  · rw [ok_any hA]
    clear hA
    go_enter Tryz.func111, Tryz.ntmps111
    go_wp2_with fail
    refine (lnone_any 16 _).mono ?_
    rintro e w1 ⟨lb, rfl, hT, hg1⟩
    go_wp2_with fail
    refine (containsFunc_any l _ _ lb none_enters p k _ (H.out.kept (by repeat' (first | (with_reducible exact Below.refl _ _) | (with_reducible assumption) | (with_reducible refine kept_alloc ?_ _) | (with_reducible refine kept_drewN ?_ _) | (with_reducible refine Below.drew ?_) | (with_reducible refine Below.setCell ?_ (by first | omega | (simp; omega) | (simp; done)) _) | (refine kept_trans ?_ (by with_reducible assumption))))) hT).mono ?_
    rintro e w2 ⟨rfl, hg2⟩
    rw [HA.out]
    go_wp2
    go_ret
    exact ⟨rfl, by repeat' (first | (with_reducible exact Below.refl _ _) | (with_reducible assumption) | (with_reducible refine kept_alloc ?_ _) | (with_reducible refine kept_drewN ?_ _) | (with_reducible refine Below.drew ?_) | (with_reducible refine Below.setCell ?_ (by first | omega | (simp; omega) | (simp; done)) _) | (refine kept_trans ?_ (by with_reducible assumption)))⟩

theorem lplace_any (l : List Int) (i : Int) (p : Option Addr) (k : Nat) (w : World) (hl : Sl w 1 intC l (.slice p l.length k)) :
    Calls Tryz.prog 199 #[.slice p l.length k, .int .i64 i] w fun e w' => e = .returned (.int .i64 (plI l i)) ∧ Kept w w' := by
  have H := Lib.hid hl
  clear hl
  unfold plI
  cases hok : okLn l
  all_goals
    have HO := Lib.hid hok
    clear hok
    go_enter Tryz.func199, Tryz.ntmps199
    go_wp2_with fail
    refine (lcheck_any l p k _ (H.out.kept (by repeat' (first | (with_reducible exact Below.refl _ _) | (with_reducible assumption) | (with_reducible refine kept_alloc ?_ _) | (with_reducible refine kept_drewN ?_ _) | (with_reducible refine Below.drew ?_) | (with_reducible refine Below.setCell ?_ (by first | omega | (simp; omega) | (simp; done)) _) | (refine kept_trans ?_ (by with_reducible assumption)))))).mono ?_
    rintro e w1 ⟨rfl, hg1⟩
    rw [HO.out]
  · go_wp2
    go_ret
    exact ⟨rfl, by repeat' (first | (with_reducible exact Below.refl _ _) | (with_reducible assumption) | (with_reducible refine kept_alloc ?_ _) | (with_reducible refine kept_drewN ?_ _) | (with_reducible refine Below.drew ?_) | (with_reducible refine Below.setCell ?_ (by first | omega | (simp; omega) | (simp; done)) _) | (refine kept_trans ?_ (by with_reducible assumption)))⟩
  · go_wp2_with fail
    refine (index_any l i p k _ (H.out.kept (by repeat' (first | (with_reducible exact Below.refl _ _) | (with_reducible assumption) | (with_reducible refine kept_alloc ?_ _) | (with_reducible refine kept_drewN ?_ _) | (with_reducible refine Below.drew ?_) | (with_reducible refine Below.setCell ?_ (by first | omega | (simp; omega) | (simp; done)) _) | (refine kept_trans ?_ (by with_reducible assumption)))))).mono ?_
    rintro e w2 ⟨rfl, hg2⟩
    go_wp2
    go_ret
    exact ⟨rfl, by repeat' (first | (with_reducible exact Below.refl _ _) | (with_reducible assumption) | (with_reducible refine kept_alloc ?_ _) | (with_reducible refine kept_drewN ?_ _) | (with_reducible refine Below.drew ?_) | (with_reducible refine Below.setCell ?_ (by first | omega | (simp; omega) | (simp; done)) _) | (refine kept_trans ?_ (by with_reducible assumption)))⟩
end Go.Proofs.YtjbcfjfnobklkaaGreat

/- Layer 5: a line copied, one taken out; Enter, Leave, Next. -/
namespace Go.Proofs.YtjbcfjfnobklkaaGreat
set_option linter.unusedVariables false
set_option linter.unusedSimpArgs false
open Go.ChangeShapes Go.WideShapes Go.ChangeAt Go.RowKit

theorem owi_nil {W : World} {base : Nat} : Ow W base 3 1 intC [] (.slice none 0 0) := ⟨by simp, .inl ⟨rfl, rfl⟩⟩
theorem Ow.mono {α : Type} {W : World} {base base' k : Nat} {e : TypeId} {enc : α → List Value} {xs : List α} {v : Value} (h : Ow W base e k enc xs v) (hb : base' ≤ base) : Ow W base' e k enc xs v := by
  obtain ⟨h0, h1 | ⟨g, cap, cur, hv, hbg, hr⟩⟩ := h
  · exact ⟨h0, .inl h1⟩
  · exact ⟨h0, .inr ⟨g, cap, cur, hv, Nat.le_trans hb hbg, hr⟩⟩
theorem sli_one (w : World) (x : Int) {g : Nat} (hg : w.heap.size = g) : Sl (w.alloc (.cells #[.int .i64 x] 3)) 1 intC [x] (.slice (some ⟨g, 0, none⟩) 1 1) :=
  Ow.sl intEnc (Ow.made (base := 0) (e := 3) (W := w) intEnc [x] #[.int .i64 x] rfl (Nat.zero_le _) (by show 1 ≤ maxLen; decide) hg rfl)
/-- What a copy of a line leaves: a slice of the call's own. -/
def RetO (w : World) (r : List Int) (e : Ending) (w' : World) : Prop :=
  ∃ (p : Option Addr) (k : Nat), e = .returned (.slice p r.length k) ∧ Ow w' w.heap.size 3 1 intC r (.slice p r.length k) ∧ Kept w w'
theorem lkept_any (l : List Int) (p : Option Addr) (k : Nat) (w : World) (hl : Sl w 1 intC l (.slice p l.length k)) (hm : l.length ≤ 1000000) : Calls Tryz.prog 197 #[.slice p l.length k] w (RetO w l) := by
  have H := Lib.hid hl
  clear hl
  go_enter Tryz.func197, Tryz.ntmps197
  go_wp2_with ((at_builtin; refine wpList_app' (wb := w) rfl _ _ 27 rfl (.int .i64 0) 8 Tryz.underlying27 int_info rfl (by decide) intEnc rfl rfl (xs := []) (ys := l) owi_nil H.out (Below.refl _ _) (by simp only [List.length_append, List.length_nil, List.length_cons]; unfold maxLen; omega) (by simp only [List.length_append, List.length_nil, List.length_cons]; omega) ?_); intro v1 w1 h1 hb1)
  obtain ⟨p1, k1, rfl, -⟩ := (Ow.sl intEnc h1).is
  go_ret
  exact ⟨p1, k1, rfl, h1, hb1⟩

def lineDel_ren : Go.Shelf.Ren := ⟨fun | 23 => 216 | n => n, fun | 22 => 27 | 3 => 3 | 4 => 4 | 0 => 0 | n => n, fun | n => n⟩
theorem lineDel : Go.Proofs.Lays2.n23 Tryz.prog lineDel_ren := {
  mixed := by kernel_rfl
  f23 := Tryz.func216.trans (congrArg some (by kernel_rfl))
  t0 := Tryz.underlying0
  a0 := Tryz.isAgg0
  z0 := Tryz.sizeOf0
  v0 := Tryz.zeroValue0
  t3 := Tryz.underlying3
  a3 := Tryz.isAgg3
  z3 := Tryz.sizeOf3
  v3 := Tryz.zeroValue3
  t4 := Tryz.underlying4
  a4 := Tryz.isAgg4
  z4 := Tryz.sizeOf4
  v4 := Tryz.zeroValue4
  t22 := Tryz.underlying27
  a22 := Tryz.isAgg27
  z22 := Tryz.sizeOf27
  v22 := Tryz.zeroValue27
  i3 := by kernel_rfl }

theorem flat_intC (l : List Int) : l.flatMap intC = l.map (.int .i64) := by induction l <;> simp_all [intC]
/-- One taken out of a slice of the call's own. -/
theorem delete_any (l : List Int) (i : Nat) (p : Option Addr) (k base : Nat) (w : World) (ho : Ow w base 3 1 intC l (.slice p l.length k)) (hi : i < l.length) :
    Calls Tryz.prog 216 #[.slice p l.length k, .int .i64 i, .int .i64 (i + 1 : Nat)] w fun e w' => e = .returned (.slice p (l.length - 1) k) ∧ Ow w' base 3 1 intC (l.eraseIdx i) (.slice p (l.length - 1) k) ∧ Below base w w' := by
  obtain ⟨hlen, ⟨h1, h2⟩ | ⟨g, cap, cur, h1, hb, hg, hl, hm, hs, ht⟩⟩ := ho
  · omega
  · cases h1
    have hcell : ∀ j, j < l.length → cur[j]? = some (.int .i64 l.toArray[j]!) := by
      intro j hj
      have h3 : cur.toList[j]? = some (.int .i64 l[j]) := by
        have h4 : (cur.toList.take (l.length * 1))[j]? = cur.toList[j]? := List.getElem?_take_of_lt (by omega)
        rw [← h4, ht, flat_intC]
        simp [hj]
      rw [← Array.getElem?_toList, h3]
      simp [hj]
    have hH : Go.Sort.Holds (Value.int .i64) w g 0 l.toArray := by
      intro j hj
      have hj' : j < l.length := by simpa using hj
      refine ⟨?_, by simp [World.frozen?, hg]⟩
      simp only [World.cell?, hg, Nat.zero_add]
      simpa using hcell j hj'
    refine (Go.Proofs.Any.slices_Delete_int lineDel g 0 k i (i + 1) l w hH hl hm (by omega) (by omega)).mono ?_
    rintro e w' ⟨rfl, q, rfl⟩
    have hsz : (l.take i ++ l.drop (i + 1) ++ List.replicate (i + 1 - i) (0 : Int)).toArray.size = l.length := by simp; omega
    have her : l.take i ++ l.drop (i + 1) = l.eraseIdx i := (List.eraseIdx_eq_take_drop_succ l i).symm
    have hel : (l.eraseIdx i).length = l.length - 1 := List.length_eraseIdx_of_lt hi
    rw [her] at hsz ⊢
    obtain ⟨D, hD⟩ : ∃ D, (l.eraseIdx i ++ List.replicate (i + 1 - i) (0 : Int)).toArray = D := ⟨_, rfl⟩
    rw [hD] at hsz ⊢
    have hDl : D.toList.take (l.length - 1) = l.eraseIdx i := by rw [← hD, ← hel]; simp
    have hheap : (Go.Sort.putRow (Value.int .i64) (Go.Sort.ahead w q) g 0 D).heap[g]? = some (.cells (Go.Sort.putCells (Value.int .i64) 0 D cur) 3 (0, 0)) := by
      simp [Go.Sort.putRow, Go.Sort.mapBlock, Go.Sort.ahead, Array.getElem?_modify, hg, Go.Sort.onCells]
    refine ⟨by rw [show l.length - (i + 1 - i) = l.length - 1 by omega], ⟨by rw [flat_len intEnc, hel], .inr ⟨g, k, _, by rw [hel], hb, hheap, by omega, hm, by simpa [Go.Sort.putCells] using hs, ?_⟩⟩, ?_⟩
    · apply List.ext_getElem?
      intro j
      rw [List.getElem?_take, flat_intC, hel, ← hDl]
      split
      · rename_i hj
        have hjD : j < D.size := by omega
        have hjc : j < cur.size := by omega
        have h5 : (D.toList.take (l.length - 1))[j]? = some D[j] := by rw [List.getElem?_take_of_lt (by omega)]; simp [hjD]
        rw [List.getElem?_map, h5]
        simp [Go.Sort.putCells, hjD, hjc]
      · rename_i hj
        rw [List.getElem?_eq_none (by simp; omega)]
    · refine ⟨rfl, rfl, rfl, by simp [Go.Sort.ahead], fun j hj => ?_⟩
      simp [Go.Sort.putRow, Go.Sort.mapBlock, Go.Sort.ahead, Array.getElem?_modify]
      intro e; omega

theorem RetO.of {W w' : World} {r : List Int} {p : Option Addr} {k : Nat} (h : Ow w' W.heap.size 3 1 intC r (.slice p r.length k)) : Sl w' 1 intC r (.slice p r.length k) := Ow.sl intEnc h

/-- The same, where the line is of the call's own. -/
def RetLO (w : World) (r : List Int) (c : Int) (e : Ending) (w' : World) : Prop :=
  ∃ (p : Option Addr) (k : Nat), e = .returned (.tuple #[.slice p r.length k, .int .i64 c]) ∧ Ow w' w.heap.size 3 1 intC r (.slice p r.length k) ∧ Kept w w'
set_option maxHeartbeats 2000000 in
theorem lenter_own (l : List Int) (i : Int) (p : Option Addr) (k : Nat) (w : World) (hl : Sl w 1 intC l (.slice p l.length k)) (hm : l.length ≤ 999999) :
    Calls Tryz.prog 148 #[.slice p l.length k, .int .i64 i] w (RetLO w (entL l i) (entE l i)) := by
  have H := Lib.hid hl
  clear hl
  cases hok : okLn l
  · have e1 : entE l i = 40 := by simp [entE, hok]
    have e2 : entL l i = l := ent_no (by rw [e1]; decide)
    rw [e1, e2]
    have HO := Lib.hid hok
    clear hok e1 e2
    go_enter Tryz.func148, Tryz.ntmps148
    go_wp2_with fail
    refine (lnone_any 16 _).mono ?_
    rintro e w1 ⟨lb, rfl, hT, hg1⟩
    go_wp2_with fail
    refine (lcheck_any l p k _ (H.out.kept (by repeat' (first | (with_reducible exact Below.refl _ _) | (with_reducible assumption) | (with_reducible refine kept_alloc ?_ _) | (with_reducible refine kept_drewN ?_ _) | (with_reducible refine Below.drew ?_) | (with_reducible refine Below.setCell ?_ (by first | omega | (simp; omega) | (simp; done)) _) | (refine kept_trans ?_ (by with_reducible assumption)))))).mono ?_
    rintro e w2 ⟨rfl, hg2⟩
    rw [HO.out]
    go_wp2_with fail
    refine (lkept_any l p k _ (H.out.kept (by repeat' (first | (with_reducible exact Below.refl _ _) | (with_reducible assumption) | (with_reducible refine kept_alloc ?_ _) | (with_reducible refine kept_drewN ?_ _) | (with_reducible refine Below.drew ?_) | (with_reducible refine Below.setCell ?_ (by first | omega | (simp; omega) | (simp; done)) _) | (refine kept_trans ?_ (by with_reducible assumption))))) (by omega)).mono ?_
    rintro e w3 ⟨p3, k3, rfl, hO3, hg3⟩
    have hS3 := Ow.mono hO3 (kept_trans hg1 hg2).size
    clear hO3
    go_wp2
    go_ret2
    exact ⟨p3, k3, rfl, hS3, by repeat' (first | (with_reducible exact Below.refl _ _) | (with_reducible assumption) | (with_reducible refine kept_alloc ?_ _) | (with_reducible refine kept_drewN ?_ _) | (with_reducible refine Below.drew ?_) | (with_reducible refine Below.setCell ?_ (by first | omega | (simp; omega) | (simp; done)) _) | (refine kept_trans ?_ (by with_reducible assumption)))⟩
  · have HO := Lib.hid hok
    obtain ⟨I, hI⟩ : ∃ I, noneB 16 i = I := ⟨_, rfl⟩
    have HI := Lib.hid hI
    cases I
    · obtain ⟨T, hT⟩ : ∃ T, decide (i ∈ l) = T := ⟨_, rfl⟩
      have HT := Lib.hid hT
      cases T
      · have e1 : entE l i = 0 := by rw [decide_eq_false_iff_not] at hT; simp [entE, hok, hI, hT]
        have e2 : entL l i = l ++ [i] := ent_yes e1
        rw [e1, e2]
        clear hok hI hT e1 e2
        go_enter Tryz.func148, Tryz.ntmps148
        go_wp2_with fail
        refine (lnone_any 16 _).mono ?_
        rintro e w1 ⟨lb, rfl, hT, hg1⟩
        have HL := Lib.hid hT
        clear hT
        go_wp2_with fail
        refine (lcheck_any l p k _ (H.out.kept (by repeat' (first | (with_reducible exact Below.refl _ _) | (with_reducible assumption) | (with_reducible refine kept_alloc ?_ _) | (with_reducible refine kept_drewN ?_ _) | (with_reducible refine Below.drew ?_) | (with_reducible refine Below.setCell ?_ (by first | omega | (simp; omega) | (simp; done)) _) | (refine kept_trans ?_ (by with_reducible assumption)))))).mono ?_
        rintro e w2 ⟨rfl, hg2⟩
        rw [HO.out]
        go_wp2_with fail
        refine (HL.out _ i (by repeat' (first | (with_reducible exact Below.refl _ _) | (with_reducible assumption) | (with_reducible refine kept_alloc ?_ _) | (with_reducible refine kept_drewN ?_ _) | (with_reducible refine Below.drew ?_) | (with_reducible refine Below.setCell ?_ (by first | omega | (simp; omega) | (simp; done)) _) | (refine kept_trans ?_ (by with_reducible assumption))))).mono ?_
        rintro e w3 ⟨rfl, hg3⟩
        rw [HI.out]
        go_wp2_with fail
        refine (contains_any l i p k _ (H.out.kept (by repeat' (first | (with_reducible exact Below.refl _ _) | (with_reducible assumption) | (with_reducible refine kept_alloc ?_ _) | (with_reducible refine kept_drewN ?_ _) | (with_reducible refine Below.drew ?_) | (with_reducible refine Below.setCell ?_ (by first | omega | (simp; omega) | (simp; done)) _) | (refine kept_trans ?_ (by with_reducible assumption)))))).mono ?_
        rintro e w4 ⟨rfl, hg4⟩
        rw [HT.out]
        go_wp2_with fail
        refine (lkept_any l p k _ (H.out.kept (by repeat' (first | (with_reducible exact Below.refl _ _) | (with_reducible assumption) | (with_reducible refine kept_alloc ?_ _) | (with_reducible refine kept_drewN ?_ _) | (with_reducible refine Below.drew ?_) | (with_reducible refine Below.setCell ?_ (by first | omega | (simp; omega) | (simp; done)) _) | (refine kept_trans ?_ (by with_reducible assumption))))) (by omega)).mono ?_
        rintro e w5 ⟨p5, k5, rfl, hO5, hg5⟩
        have hB4 : Below w.heap.size w w4 := by repeat' (first | (with_reducible exact Below.refl _ _) | (with_reducible assumption) | (with_reducible refine kept_alloc ?_ _) | (with_reducible refine kept_drewN ?_ _) | (with_reducible refine Below.drew ?_) | (with_reducible refine Below.setCell ?_ (by first | omega | (simp; omega) | (simp; done)) _) | (refine kept_trans ?_ (by with_reducible assumption)))
        have hB5 : Below w.heap.size w w5 := kept_trans hB4 hg5
        have HW := Lib.hid (Ow.mono hO5 hB4.size)
        clear hO5 hg1 hg2 hg3 hg4 hg5
        go_wp2_with ((at_builtin; refine wpList_app' (wb := w) rfl _ _ 27 rfl (.int .i64 0) 8 Tryz.underlying27 int_info rfl (by decide) intEnc rfl rfl (xs := l) (ys := [i]) (HW.out.kept ((Below.refl _ _).alloc (Nat.le_refl _) _)) (sli_one w5 i rfl) (kept_alloc hB5 _) (by simp only [List.length_append, List.length_nil, List.length_cons]; unfold maxLen; omega) (by simp only [List.length_append, List.length_nil, List.length_cons]; omega) ?_); intro v6 w6 h6 hb6)
        obtain ⟨p6, k6, rfl, -⟩ := (Ow.sl intEnc h6).is
        have hS6 := h6
        clear h6
        go_ret2
        exact ⟨p6, k6, rfl, hS6, hb6⟩
      · have e1 : entE l i = 60 := by rw [decide_eq_true_iff] at hT; simp [entE, hok, hI, hT]
        have e2 : entL l i = l := ent_no (by rw [e1]; decide)
        rw [e1, e2]
        clear hok hI hT e1 e2
        go_enter Tryz.func148, Tryz.ntmps148
        go_wp2_with fail
        refine (lnone_any 16 _).mono ?_
        rintro e w1 ⟨lb, rfl, hT, hg1⟩
        have HL := Lib.hid hT
        clear hT
        go_wp2_with fail
        refine (lcheck_any l p k _ (H.out.kept (by repeat' (first | (with_reducible exact Below.refl _ _) | (with_reducible assumption) | (with_reducible refine kept_alloc ?_ _) | (with_reducible refine kept_drewN ?_ _) | (with_reducible refine Below.drew ?_) | (with_reducible refine Below.setCell ?_ (by first | omega | (simp; omega) | (simp; done)) _) | (refine kept_trans ?_ (by with_reducible assumption)))))).mono ?_
        rintro e w2 ⟨rfl, hg2⟩
        rw [HO.out]
        go_wp2_with fail
        refine (HL.out _ i (by repeat' (first | (with_reducible exact Below.refl _ _) | (with_reducible assumption) | (with_reducible refine kept_alloc ?_ _) | (with_reducible refine kept_drewN ?_ _) | (with_reducible refine Below.drew ?_) | (with_reducible refine Below.setCell ?_ (by first | omega | (simp; omega) | (simp; done)) _) | (refine kept_trans ?_ (by with_reducible assumption))))).mono ?_
        rintro e w3 ⟨rfl, hg3⟩
        rw [HI.out]
        go_wp2_with fail
        refine (contains_any l i p k _ (H.out.kept (by repeat' (first | (with_reducible exact Below.refl _ _) | (with_reducible assumption) | (with_reducible refine kept_alloc ?_ _) | (with_reducible refine kept_drewN ?_ _) | (with_reducible refine Below.drew ?_) | (with_reducible refine Below.setCell ?_ (by first | omega | (simp; omega) | (simp; done)) _) | (refine kept_trans ?_ (by with_reducible assumption)))))).mono ?_
        rintro e w4 ⟨rfl, hg4⟩
        rw [HT.out]
        go_wp2_with fail
        refine (lkept_any l p k _ (H.out.kept (by repeat' (first | (with_reducible exact Below.refl _ _) | (with_reducible assumption) | (with_reducible refine kept_alloc ?_ _) | (with_reducible refine kept_drewN ?_ _) | (with_reducible refine Below.drew ?_) | (with_reducible refine Below.setCell ?_ (by first | omega | (simp; omega) | (simp; done)) _) | (refine kept_trans ?_ (by with_reducible assumption))))) (by omega)).mono ?_
        rintro e w5 ⟨p5, k5, rfl, hO5, hg5⟩
        have hS5 := Ow.mono hO5 (kept_trans (kept_trans (kept_trans hg1 hg2) hg3) hg4).size
        clear hO5
        go_wp2
        go_ret2
        exact ⟨p5, k5, rfl, hS5, by repeat' (first | (with_reducible exact Below.refl _ _) | (with_reducible assumption) | (with_reducible refine kept_alloc ?_ _) | (with_reducible refine kept_drewN ?_ _) | (with_reducible refine Below.drew ?_) | (with_reducible refine Below.setCell ?_ (by first | omega | (simp; omega) | (simp; done)) _) | (refine kept_trans ?_ (by with_reducible assumption)))⟩
    · have e1 : entE l i = 40 := by simp [entE, hI]
      have e2 : entL l i = l := ent_no (by rw [e1]; decide)
      rw [e1, e2]
      clear hok hI e1 e2
      go_enter Tryz.func148, Tryz.ntmps148
      go_wp2_with fail
      refine (lnone_any 16 _).mono ?_
      rintro e w1 ⟨lb, rfl, hT, hg1⟩
      have HL := Lib.hid hT
      clear hT
      go_wp2_with fail
      refine (lcheck_any l p k _ (H.out.kept (by repeat' (first | (with_reducible exact Below.refl _ _) | (with_reducible assumption) | (with_reducible refine kept_alloc ?_ _) | (with_reducible refine kept_drewN ?_ _) | (with_reducible refine Below.drew ?_) | (with_reducible refine Below.setCell ?_ (by first | omega | (simp; omega) | (simp; done)) _) | (refine kept_trans ?_ (by with_reducible assumption)))))).mono ?_
      rintro e w2 ⟨rfl, hg2⟩
      rw [HO.out]
      go_wp2_with fail
      refine (HL.out _ i (by repeat' (first | (with_reducible exact Below.refl _ _) | (with_reducible assumption) | (with_reducible refine kept_alloc ?_ _) | (with_reducible refine kept_drewN ?_ _) | (with_reducible refine Below.drew ?_) | (with_reducible refine Below.setCell ?_ (by first | omega | (simp; omega) | (simp; done)) _) | (refine kept_trans ?_ (by with_reducible assumption))))).mono ?_
      rintro e w3 ⟨rfl, hg3⟩
      rw [HI.out]
      go_wp2_with fail
      refine (lkept_any l p k _ (H.out.kept (by repeat' (first | (with_reducible exact Below.refl _ _) | (with_reducible assumption) | (with_reducible refine kept_alloc ?_ _) | (with_reducible refine kept_drewN ?_ _) | (with_reducible refine Below.drew ?_) | (with_reducible refine Below.setCell ?_ (by first | omega | (simp; omega) | (simp; done)) _) | (refine kept_trans ?_ (by with_reducible assumption))))) (by omega)).mono ?_
      rintro e w5 ⟨p5, k5, rfl, hO5, hg5⟩
      have hS5 := Ow.mono hO5 (kept_trans (kept_trans hg1 hg2) hg3).size
      clear hO5
      go_wp2
      go_ret2
      exact ⟨p5, k5, rfl, hS5, by repeat' (first | (with_reducible exact Below.refl _ _) | (with_reducible assumption) | (with_reducible refine kept_alloc ?_ _) | (with_reducible refine kept_drewN ?_ _) | (with_reducible refine Below.drew ?_) | (with_reducible refine Below.setCell ?_ (by first | omega | (simp; omega) | (simp; done)) _) | (refine kept_trans ?_ (by with_reducible assumption)))⟩
theorem lv_neg {l : List Int} {i : Int} (h : plI l i < 0) : lvE l i = 40 ∧ lvL l i = l := by simp [lvE, lvL, h]
theorem lv_pos {l : List Int} {i : Int} (h : ¬ plI l i < 0) : ∃ n : Nat, plI l i = n ∧ n < l.length ∧ lvE l i = 0 ∧ lvL l i = l.eraseIdx n := by
  have h1 := pl_ge (l := l) (i := i)
  exact ⟨(plI l i).toNat, by omega, by omega, by simp [lvE, h], by simp [lvL, h]⟩
set_option maxHeartbeats 2000000 in
theorem lleave_own (l : List Int) (i : Int) (p : Option Addr) (k : Nat) (w : World) (hl : Sl w 1 intC l (.slice p l.length k)) (hm : l.length ≤ 999999) :
    Calls Tryz.prog 162 #[.slice p l.length k, .int .i64 i] w (RetLO w (lvL l i) (lvE l i)) := by
  have H := Lib.hid hl
  clear hl
  by_cases hn : plI l i < 0
  · obtain ⟨e1, e2⟩ := lv_neg hn
    rw [e1, e2]
    clear e1 e2
    go_enter Tryz.func162, Tryz.ntmps162
    go_wp2_with fail
    refine (lplace_any l i p k _ (H.out.kept (by repeat' (first | (with_reducible exact Below.refl _ _) | (with_reducible assumption) | (with_reducible refine kept_alloc ?_ _) | (with_reducible refine kept_drewN ?_ _) | (with_reducible refine Below.drew ?_) | (with_reducible refine Below.setCell ?_ (by first | omega | (simp; omega) | (simp; done)) _) | (refine kept_trans ?_ (by with_reducible assumption)))))).mono ?_
    rintro e w1 ⟨rfl, hg1⟩
    go_wp2_with fail
    refine (lkept_any l p k _ (H.out.kept (by repeat' (first | (with_reducible exact Below.refl _ _) | (with_reducible assumption) | (with_reducible refine kept_alloc ?_ _) | (with_reducible refine kept_drewN ?_ _) | (with_reducible refine Below.drew ?_) | (with_reducible refine Below.setCell ?_ (by first | omega | (simp; omega) | (simp; done)) _) | (refine kept_trans ?_ (by with_reducible assumption))))) (by omega)).mono ?_
    rintro e w3 ⟨p3, k3, rfl, hO3, hg3⟩
    have hS3 := Ow.mono hO3 hg1.size
    clear hO3
    go_wp2
    go_ret2
    exact ⟨p3, k3, rfl, hS3, by repeat' (first | (with_reducible exact Below.refl _ _) | (with_reducible assumption) | (with_reducible refine kept_alloc ?_ _) | (with_reducible refine kept_drewN ?_ _) | (with_reducible refine Below.drew ?_) | (with_reducible refine Below.setCell ?_ (by first | omega | (simp; omega) | (simp; done)) _) | (refine kept_trans ?_ (by with_reducible assumption)))⟩
  · obtain ⟨n, h1, h2, e1, e2⟩ := lv_pos hn
    rw [e1, e2]
    have HP := Lib.hid h1
    have hel : (l.eraseIdx n).length = l.length - 1 := List.length_eraseIdx_of_lt h2
    have HE := Lib.hid hel
    clear e1 e2 hn h1 hel
    have i1 : ¬ (n : Int) < 0 := by omega
    have i2 : IntKind.i64.wrap ((n : Int) + 1) = (n : Int) + 1 := IntWalk.i64_in _ (by omega)
    go_enter Tryz.func162, Tryz.ntmps162
    go_wp2_with fail
    refine (lplace_any l i p k _ (H.out.kept (by repeat' (first | (with_reducible exact Below.refl _ _) | (with_reducible assumption) | (with_reducible refine kept_alloc ?_ _) | (with_reducible refine kept_drewN ?_ _) | (with_reducible refine Below.drew ?_) | (with_reducible refine Below.setCell ?_ (by first | omega | (simp; omega) | (simp; done)) _) | (refine kept_trans ?_ (by with_reducible assumption)))))).mono ?_
    rintro e w1 ⟨rfl, hg1⟩
    rw [HP.out]
    go_wp2_with fail
    refine (lkept_any l p k _ (H.out.kept (by repeat' (first | (with_reducible exact Below.refl _ _) | (with_reducible assumption) | (with_reducible refine kept_alloc ?_ _) | (with_reducible refine kept_drewN ?_ _) | (with_reducible refine Below.drew ?_) | (with_reducible refine Below.setCell ?_ (by first | omega | (simp; omega) | (simp; done)) _) | (refine kept_trans ?_ (by with_reducible assumption))))) (by omega)).mono ?_
    rintro e w3 ⟨p3, k3, rfl, hO3, hg3⟩
    have HO := Lib.hid (delete_any l n p3 k3 w1.heap.size w3 hO3 h2)
    clear hO3
    go_wp2_with fail
    refine HO.out.mono ?_
    rintro e w4 ⟨rfl, hO4, hg4⟩
    have hS4 := Ow.mono (HE.out.symm ▸ hO4 : Ow w4 w1.heap.size 3 1 intC (l.eraseIdx n) (.slice p3 (l.eraseIdx n).length k3)) hg1.size
    have hB4 : Below w.heap.size w w4 := hg1.trans ((hg3.trans hg4).mono hg1.size)
    clear hO4 hg1 hg3 hg4
    go_wp2
    go_ret2
    exact ⟨p3, k3, by rw [HE.out]; rfl, hS4, hB4⟩
end Go.Proofs.YtjbcfjfnobklkaaGreat

/- Layer 5: Next. -/
namespace Go.Proofs.YtjbcfjfnobklkaaGreat
set_option linter.unusedVariables false
set_option linter.unusedSimpArgs false
open Go.ChangeShapes Go.WideShapes Go.ChangeAt Go.RowKit

/-- What 'Next' leaves: the others are in a slice of the call's own. -/
def RetNO (w : World) (x : Int) (r : List Int) (b : Bool) (e : Ending) (w' : World) : Prop :=
  ∃ (p : Option Addr) (k : Nat), e = .returned (.tuple #[.int .i64 x, .slice p r.length k, .bool b]) ∧ Ow w' w.heap.size 3 1 intC r (.slice p r.length k) ∧ Kept w w'
theorem nx_no {l : List Int} (h : nxB l = false) : nxI l = 0 ∧ nxL l = l := by simp [nxI, nxL, h]
theorem nx_yes {l : List Int} (h : nxB l = true) : ∃ hl : 0 < l.length, nxI l = l[0] ∧ nxL l = l.drop 1 ∧ okLn l = true := by
  cases l with
  | nil => simp [nxB] at h
  | cons x r => exact ⟨by simp, by simp [nxI, h], by simp [nxL, h], by simpa [nxB] using h⟩

theorem lcheck_n {l : List Int} {N : Nat} (hN : l.length = N) (p : Option Addr) (k : Nat) (w : World) (hl : Sl w 1 intC l (.slice p N k)) : Calls Tryz.prog 111 #[.slice p N k] w fun e w' => e = .returned (.bool (okLn l)) ∧ Kept w w' := by
  subst hN; exact lcheck_any l p k w hl
def RetOn (w : World) (r : List Int) (N : Nat) (e : Ending) (w' : World) : Prop :=
  ∃ (p : Option Addr) (k : Nat), e = .returned (.slice p N k) ∧ Ow w' w.heap.size 3 1 intC r (.slice p N k) ∧ Kept w w'
theorem lkept_n {l : List Int} {N : Nat} (hN : l.length = N) (p : Option Addr) (k : Nat) (w : World) (hl : Sl w 1 intC l (.slice p N k)) (hm : N ≤ 1000000) : Calls Tryz.prog 197 #[.slice p N k] w (RetOn w l N) := by
  subst hN
  refine (lkept_any l p k w hl hm).mono ?_
  rintro e w' ⟨p1, k1, rfl, h1, h2⟩
  exact ⟨p1, k1, rfl, h1, h2⟩

set_option maxHeartbeats 2000000 in
theorem lnext_own (l : List Int) (p : Option Addr) (k : Nat) (w : World) (hl : Sl w 1 intC l (.slice p l.length k)) (hm : l.length ≤ 999999) :
    Calls Tryz.prog 250 #[.slice p l.length k] w (RetNO w (nxI l) (nxL l) (nxB l)) := by
  have H := Lib.hid hl
  cases hb : nxB l
  · obtain ⟨e1, e2⟩ := nx_no hb
    rw [e1, e2]
    cases l with
    | nil =>
      go_enter Tryz.func250, Tryz.ntmps250
      go_wp2_with fail
      refine (lkept_any [] p k _ (H.out.kept (by repeat' (first | (with_reducible exact Below.refl _ _) | (with_reducible assumption) | (with_reducible refine kept_alloc ?_ _) | (with_reducible refine kept_drewN ?_ _) | (with_reducible refine Below.drew ?_) | (with_reducible refine Below.setCell ?_ (by first | omega | (simp; omega) | (simp; done)) _) | (refine kept_trans ?_ (by with_reducible assumption))))) (by simp)).mono ?_
      rintro e w3 ⟨p3, k3, rfl, hO3, hg3⟩
      have hS3 := hO3
      clear hO3
      go_wp2
      refine bodyPost_ret (v := .tuple #[.int .i64 0, .slice p3 ([] : List Int).length k3, .bool false]) (by simp [results, Tryz.results250, go_sem]) rfl ⟨p3, k3, rfl, hS3, by repeat' (first | (with_reducible exact Below.refl _ _) | (with_reducible assumption) | (with_reducible refine kept_alloc ?_ _) | (with_reducible refine kept_drewN ?_ _) | (with_reducible refine Below.drew ?_) | (with_reducible refine Below.setCell ?_ (by first | omega | (simp; omega) | (simp; done)) _) | (refine kept_trans ?_ (by with_reducible assumption)))⟩
    | cons x r =>
      have hok : okLn (x :: r) = false := by simpa [nxB] using hb
      have HO := Lib.hid hok
      obtain ⟨N, hN⟩ : ∃ N, (x :: r).length = N := ⟨_, rfl⟩
      have HN := Lib.hid hN
      have hN0 : 0 < N := by rw [← hN]; simp
      generalize x :: r = l at *
      clear hl hb e1 e2 hok
      rw [hN] at hm ⊢
      have i1 : ((N : Int) == 0) = false := by simp; omega
      have HS : Hid (Sl w 1 intC l (.slice p N k)) := HN.out ▸ H
      clear H hN
      go_enter Tryz.func250, Tryz.ntmps250
      go_wp2_with fail
      refine (lcheck_n HN.out p k _ (HS.out.kept (by repeat' (first | (with_reducible exact Below.refl _ _) | (with_reducible assumption) | (with_reducible refine kept_alloc ?_ _) | (with_reducible refine kept_drewN ?_ _) | (with_reducible refine Below.drew ?_) | (with_reducible refine Below.setCell ?_ (by first | omega | (simp; omega) | (simp; done)) _) | (refine kept_trans ?_ (by with_reducible assumption)))))).mono ?_
      rintro e w1 ⟨rfl, hg1⟩
      rw [HO.out]
      go_wp2_with fail
      refine (lkept_n HN.out p k _ (HS.out.kept (by repeat' (first | (with_reducible exact Below.refl _ _) | (with_reducible assumption) | (with_reducible refine kept_alloc ?_ _) | (with_reducible refine kept_drewN ?_ _) | (with_reducible refine Below.drew ?_) | (with_reducible refine Below.setCell ?_ (by first | omega | (simp; omega) | (simp; done)) _) | (refine kept_trans ?_ (by with_reducible assumption))))) (by omega)).mono ?_
      rintro e w3 ⟨p3, k3, rfl, hO3, hg3⟩
      have hS3 := Ow.mono hO3 hg1.size
      clear hO3
      go_wp2
      refine bodyPost_ret (v := .tuple #[.int .i64 0, .slice p3 N k3, .bool false]) (by simp [results, Tryz.results250, go_sem]) rfl ⟨p3, k3, by rw [HN.out], HN.out.symm ▸ hS3, by repeat' (first | (with_reducible exact Below.refl _ _) | (with_reducible assumption) | (with_reducible refine kept_alloc ?_ _) | (with_reducible refine kept_drewN ?_ _) | (with_reducible refine Below.drew ?_) | (with_reducible refine Below.setCell ?_ (by first | omega | (simp; omega) | (simp; done)) _) | (refine kept_trans ?_ (by with_reducible assumption)))⟩
  · obtain ⟨h0, e1, e2, hok⟩ := nx_yes hb
    rw [e1, e2]
    have HO := Lib.hid hok
    obtain ⟨N, hN⟩ : ∃ N, l.length = N := ⟨_, rfl⟩
    have HN := Lib.hid hN
    obtain ⟨p', k', e3, hk1, hk2, _, hne⟩ := hl.is
    cases e3
    obtain ⟨b, o, rfl, hb, -⟩ := hne (by intro h; subst h; simp at h0)
    have hc := sli_at hl h0
    rw [Nat.add_zero] at hc
    have hdl : (l.drop 1).length = N - 1 := by simp [hN]
    have HL := Lib.hid hdl
    rw [hN] at hl hm hk1 h0 ⊢
    obtain ⟨a, ha, hTa⟩ : ∃ a, (if k = 1 then (some ⟨b, o, none⟩ : Option Addr) else some ⟨b, o + 1, none⟩) = some a ∧ Sl w 1 intC (l.drop 1) (.slice (some a) (N - 1) (k - 1)) := by
      by_cases hk : k = 1
      · exact ⟨⟨b, o, none⟩, by simp [hk], Sl.drop 1 hl (by omega) (by omega) rfl rfl⟩
      · exact ⟨⟨b, o + 1, none⟩, by simp [hk], Sl.drop 1 hl (by omega) (fun _ => rfl) rfl rfl⟩
    have HT := Lib.hid hTa
    have HS := Lib.hid hl
    generalize hy : l[0] = y at *
    clear hl hne hok e1 e2 hy hdl hTa hN
    have i1 : ((N : Int) == 0) = false := by simp; omega
    have i2 : (1 : Int) ≤ (N : Int) := by omega
    by_cases hk : k = 1
    · have ha' : a = ⟨b, o, none⟩ := by simpa [hk] using ha.symm
      subst ha'
      subst hk
      have hN1 : N = 1 := by omega
      subst hN1
      clear ha
      have HL' : Hid ((l.drop 1).length = 0) := HL
      have HT' : Hid (Sl w 1 intC (l.drop 1) (.slice (some ⟨b, o, none⟩) 0 0)) := HT
      go_enter Tryz.func250, Tryz.ntmps250; go_wp2_with fail; refine (lcheck_n HN.out (some ⟨b, o, none⟩) 1 _ (HS.out.kept (by repeat' (first | (with_reducible exact Below.refl _ _) | (with_reducible assumption) | (with_reducible refine kept_alloc ?_ _) | (with_reducible refine kept_drewN ?_ _) | (with_reducible refine Below.drew ?_) | (with_reducible refine Below.setCell ?_ (by first | omega | (simp; omega) | (simp; done)) _) | (refine kept_trans ?_ (by with_reducible assumption)))))).mono ?_; rintro e w1 ⟨rfl, hg1⟩; rw [HO.out]; have c1 := ((bcell hg1).1 b o hb).trans hc; have hb1 : b < w1.heap.size := Nat.lt_of_lt_of_le hb hg1.size; have HT1 := Lib.hid (HT'.out.kept hg1); clear hc; go_wp2_with fail; go_region_held3 (fun w' => w'.cell? ⟨b, o, none⟩ = some (.int .i64 y)) (first | ((refine (hgy.cell (p := ⟨_, _, none⟩) (by show b < w1.heap.size; omega)).trans ?_); assumption) | go_keep) ((first | (go_at_call 197; refine (lkept_n HL'.out _ _ _ (HT1.out.kept (by repeat' (first | (with_reducible exact Below.refl _ _) | (with_reducible assumption) | (with_reducible refine kept_alloc ?_ _) | (with_reducible refine kept_drewN ?_ _) | (with_reducible refine Below.drew ?_) | (with_reducible refine Below.setCell ?_ (by first | omega | (simp; omega) | (simp; done)) _) | (refine kept_trans ?_ (by with_reducible assumption))))) (by omega)).mono ?_; rintro e wy ⟨p4, k4, rfl, hS4, hgy⟩)))
      have hS4' := Ow.mono hS4 (base' := w.heap.size) (by have := hg1.size; simp; omega)
      have hB : Below w.heap.size w wy := kept_trans hg1 (kept_trans (A := w1) (B := w1.drew) (by repeat' (first | (with_reducible exact Below.refl _ _) | (with_reducible assumption) | (with_reducible refine kept_alloc ?_ _) | (with_reducible refine kept_drewN ?_ _) | (with_reducible refine Below.drew ?_) | (with_reducible refine Below.setCell ?_ (by first | omega | (simp; omega) | (simp; done)) _) | (refine kept_trans ?_ (by with_reducible assumption)))) hgy)
      go_wp2
      go_ret3
      exact ⟨p4, k4, by rw [HL'.out]; rfl, HL'.out.symm ▸ hS4', hB⟩
    · have ha' : a = ⟨b, o + 1, none⟩ := by simpa [hk] using ha.symm
      subst ha'
      clear ha
      go_enter Tryz.func250, Tryz.ntmps250; go_wp2_with fail; refine (lcheck_n HN.out (some ⟨b, o, none⟩) k _ (HS.out.kept (by repeat' (first | (with_reducible exact Below.refl _ _) | (with_reducible assumption) | (with_reducible refine kept_alloc ?_ _) | (with_reducible refine kept_drewN ?_ _) | (with_reducible refine Below.drew ?_) | (with_reducible refine Below.setCell ?_ (by first | omega | (simp; omega) | (simp; done)) _) | (refine kept_trans ?_ (by with_reducible assumption)))))).mono ?_; rintro e w1 ⟨rfl, hg1⟩; rw [HO.out]; have c1 := ((bcell hg1).1 b o hb).trans hc; have hb1 : b < w1.heap.size := Nat.lt_of_lt_of_le hb hg1.size; have HT1 := Lib.hid (HT.out.kept hg1); clear hc; go_wp2_with fail; go_region_held3 (fun w' => w'.cell? ⟨b, o, none⟩ = some (.int .i64 y)) (first | ((refine (hgy.cell (p := ⟨_, _, none⟩) (by show b < w1.heap.size; omega)).trans ?_); assumption) | go_keep) ((first | (go_at_call 197; refine (lkept_n HL.out _ _ _ (HT1.out.kept (by repeat' (first | (with_reducible exact Below.refl _ _) | (with_reducible assumption) | (with_reducible refine kept_alloc ?_ _) | (with_reducible refine kept_drewN ?_ _) | (with_reducible refine Below.drew ?_) | (with_reducible refine Below.setCell ?_ (by first | omega | (simp; omega) | (simp; done)) _) | (refine kept_trans ?_ (by with_reducible assumption))))) (by omega)).mono ?_; rintro e wy ⟨p4, k4, rfl, hS4, hgy⟩)))
      have hS4' := Ow.mono hS4 (base' := w.heap.size) (by have := hg1.size; simp; omega)
      have hB : Below w.heap.size w wy := kept_trans hg1 (kept_trans (A := w1) (B := w1.drew) (by repeat' (first | (with_reducible exact Below.refl _ _) | (with_reducible assumption) | (with_reducible refine kept_alloc ?_ _) | (with_reducible refine kept_drewN ?_ _) | (with_reducible refine Below.drew ?_) | (with_reducible refine Below.setCell ?_ (by first | omega | (simp; omega) | (simp; done)) _) | (refine kept_trans ?_ (by with_reducible assumption)))) hgy)
      go_wp2
      go_ret3
      exact ⟨p4, k4, by rw [HL.out]; rfl, HL.out.symm ▸ hS4', hB⟩
end Go.Proofs.YtjbcfjfnobklkaaGreat

/- Layer 5: the document's own answers: at, Check, Place, Enter. -/
namespace Go.Proofs.YtjbcfjfnobklkaaGreat
set_option linter.unusedVariables false
set_option linter.unusedSimpArgs false
open Go.ChangeShapes Go.WideShapes Go.ChangeAt Go.RowKit

set_option maxHeartbeats 1000000 in
theorem rat_any (l : List Int) (x : Int) (p : Option Addr) (k : Nat) (w : World) (hl : Sl w 1 intC l (.slice p l.length k)) :
    Calls Tryz.prog 89 #[.slice p l.length k, .int .i64 x] w fun e w' => e = .returned (.int .i64 (ixI l x)) ∧ Kept w w' := by
  have H := Lib.hid hl
  obtain ⟨_, _, e1, hlk, hkm, _, hne⟩ := hl.is
  cases e1
  have hbig : l.length ≤ 9223372036854775807 := by unfold maxLen at hkm; omega
  clear hl hkm
  obtain ⟨N, hN⟩ : ∃ N, l.length = N := ⟨_, rfl⟩
  rw [hN] at hbig hlk ⊢
  have HN := Lib.hid hN
  have HNE := Lib.hid hne
  clear hN hne
  go_enter Tryz.func89, Tryz.ntmps89
  go_wp2
  go_loopw [5] (fun s5 wr => ∃ j : Nat, j ≤ N ∧ s5 = .int .i64 j ∧ Hid (x ∉ l.take j) ∧ Below w.heap.size w wr) (fun s5 _ => N - (intOf s5).toNat)
  case atStart => exact ⟨0, by omega, rfl, Lib.hid (by simp), Below.refl _ _⟩
  case round =>
    obtain ⟨j, hj, rfl, T, hB⟩ := hrel
    by_cases hlt : j < N
    · have hlt' : j < l.length := by rw [HN.out]; exact hlt
      obtain ⟨b, o, rfl, hb, -⟩ := HNE.out (by intro h; subst h; simp at hlt')
      have c1 := (hB.cell (p := ⟨b, o + j, none⟩) hb).trans (sli_at H.out hlt')
      have hbw : b < wr.heap.size := Nat.lt_of_lt_of_le hb hB.size
      have i1 : (0 : Int) ≤ (j : Int) := by omega
      have i2 : (j : Int) < (N : Int) := by omega
      have Hh : Hid (l[j] = x → ixI l x = j) := fun h => ix_hit hlt' h T.out
      have Hn : Hid (l[j] ≠ x → x ∉ l.take (j + 1)) := fun h => not_take_succ hlt' h T.out
      generalize l[j] = y at *
      cases hxy : (y == x)
      · have hn := Lib.hid (Hn.out (by simpa using hxy))
        clear Hh Hn
        go_wp2
        exact ⟨⟨j + 1, by omega, by go_num, hn.out, by repeat' (first | (with_reducible exact Below.refl _ _) | (with_reducible assumption) | (with_reducible refine kept_alloc ?_ _) | (with_reducible refine kept_drewN ?_ _) | (with_reducible refine Below.drew ?_) | (with_reducible refine Below.setCell ?_ (by first | omega | (simp; omega) | (simp; done)) _) | (refine kept_trans ?_ (by with_reducible assumption)))⟩, by simp [intOf]; omega⟩
      · have hn := Lib.hid (Hh.out (by simpa using hxy))
        clear Hh Hn
        go_wp2
        go_ret
        exact ⟨ret_int hn.out.symm, by repeat' (first | (with_reducible exact Below.refl _ _) | (with_reducible assumption) | (with_reducible refine kept_alloc ?_ _) | (with_reducible refine kept_drewN ?_ _) | (with_reducible refine Below.drew ?_) | (with_reducible refine Below.setCell ?_ (by first | omega | (simp; omega) | (simp; done)) _) | (refine kept_trans ?_ (by with_reducible assumption)))⟩
    · have : j = N := by omega
      subst this
      have hn : Hid (x ∉ l) := Lib.hid (by have := T.out; rw [← HN.out, List.take_length] at this; exact this)
      clear T
      go_wp2
      go_ret
      exact ⟨ret_int (ix_miss hn.out).symm, by repeat' (first | (with_reducible exact Below.refl _ _) | (with_reducible assumption) | (with_reducible refine kept_alloc ?_ _) | (with_reducible refine kept_drewN ?_ _) | (with_reducible refine Below.drew ?_) | (with_reducible refine Below.setCell ?_ (by first | omega | (simp; omega) | (simp; done)) _) | (refine kept_trans ?_ (by with_reducible assumption)))⟩
theorem rat_n {l : List Int} {N : Nat} (hN : l.length = N) (x : Int) (p : Option Addr) (k : Nat) (w : World) (hl : Sl w 1 intC l (.slice p N k)) :
    Calls Tryz.prog 89 #[.slice p N k, .int .i64 x] w fun e w' => e = .returned (.int .i64 (ixI l x)) ∧ Kept w w' := by subst hN; exact rat_any l x p k w hl

set_option maxHeartbeats 2000000 in
theorem rlcheck_any (l : List Int) (p : Option Addr) (k : Nat) (w : World) (hl : Sl w 1 intC l (.slice p l.length k)) :
    Calls Tryz.prog 88 #[.slice p l.length k] w fun e w' => e = .returned (.bool (okLn l)) ∧ Kept w w' := by
  have H := Lib.hid hl
  obtain ⟨_, _, e1, hlk, hkm, _, hne⟩ := hl.is
  cases e1
  have hbig : l.length ≤ 9223372036854775807 := by unfold maxLen at hkm; omega
  clear hl hkm
  obtain ⟨N, hN⟩ : ∃ N, l.length = N := ⟨_, rfl⟩
  have HS : Hid (Sl w 1 intC l (.slice p N k)) := hN ▸ H
  rw [hN] at hbig hlk ⊢
  have HN := Lib.hid hN
  have HNE := Lib.hid hne
  clear hN hne
  go_enter Tryz.func88, Tryz.ntmps88
  go_wp2
  go_loopw [3] (fun s3 wr => ∃ j : Nat, j ≤ N ∧ s3 = .int .i64 j ∧ Hid (okLn (l.take j) = true) ∧ Below w.heap.size w wr) (fun s3 _ => N - (intOf s3).toNat)
  case atStart => exact ⟨0, by omega, rfl, Lib.hid (by simp [okLn]), Below.refl _ _⟩
  case round =>
    obtain ⟨j, hj, rfl, T, hB⟩ := hrel
    by_cases hlt : j < N
    · have hlt' : j < l.length := by rw [HN.out]; exact hlt
      obtain ⟨b, o, rfl, hb, -⟩ := HNE.out (by intro h; subst h; simp at hlt')
      have c1 := (hB.cell (p := ⟨b, o + j, none⟩) hb).trans (sli_at H.out hlt')
      have hbw : b < wr.heap.size := Nat.lt_of_lt_of_le hb hB.size
      have i1 : (0 : Int) ≤ (j : Int) := by omega
      have i2 : (j : Int) < (N : Int) := by omega
      have Hno : Hid (noneB 16 l[j] = true → okLn l = false) := fun h => ok_false_none hlt' h
      have Hdup : Hid (ixI l l[j] ≠ j → okLn l = false) := fun h => ok_false_dup hlt' (Classical.byContradiction fun hx => h ((ix_self hlt').2 hx))
      have Hgo : Hid (noneB 16 l[j] = false → ixI l l[j] = j → okLn (l.take (j + 1)) = true) := fun h1 h2 => ok_take_succ hlt' T.out h1 ((ix_self hlt').1 h2)
      generalize l[j] = y at *
      clear T
      by_cases h1 : y < 0
      · have hn := Lib.hid (Hno.out (by simp [noneB, h1]))
        clear Hno Hdup Hgo
        go_wp2
        go_ret
        exact ⟨ret_bool hn.out.symm, by repeat' (first | (with_reducible exact Below.refl _ _) | (with_reducible assumption) | (with_reducible refine kept_alloc ?_ _) | (with_reducible refine kept_drewN ?_ _) | (with_reducible refine Below.drew ?_) | (with_reducible refine Below.setCell ?_ (by first | omega | (simp; omega) | (simp; done)) _) | (refine kept_trans ?_ (by with_reducible assumption)))⟩
      · by_cases h2 : 15 < y
        · have hn := Lib.hid (Hno.out (by simp [noneB]; omega))
          clear Hno Hdup Hgo
          go_wp2
          go_ret
          exact ⟨ret_bool hn.out.symm, by repeat' (first | (with_reducible exact Below.refl _ _) | (with_reducible assumption) | (with_reducible refine kept_alloc ?_ _) | (with_reducible refine kept_drewN ?_ _) | (with_reducible refine Below.drew ?_) | (with_reducible refine Below.setCell ?_ (by first | omega | (simp; omega) | (simp; done)) _) | (refine kept_trans ?_ (by with_reducible assumption)))⟩
        · have Hgo2 := Lib.hid (Hgo.out (by simp [noneB]; omega))
          obtain ⟨I, hI⟩ : ∃ I, ixI l y = I := ⟨_, rfl⟩
          have HI := Lib.hid hI
          rw [hI] at Hgo2 Hdup
          clear hI Hno Hgo
          go_wp2_with fail
          refine (rat_n HN.out y (some ⟨b, o, none⟩) k _ (HS.out.kept (by repeat' (first | (with_reducible exact Below.refl _ _) | (with_reducible assumption) | (with_reducible refine kept_alloc ?_ _) | (with_reducible refine kept_drewN ?_ _) | (with_reducible refine Below.drew ?_) | (with_reducible refine Below.setCell ?_ (by first | omega | (simp; omega) | (simp; done)) _) | (refine kept_trans ?_ (by with_reducible assumption)))))).mono ?_
          rintro e w1 ⟨rfl, hg1⟩
          rw [HI.out]
          cases hb2 : (I != (j : Int))
          · have hn := Lib.hid (Hgo2.out (by simpa using hb2))
            clear Hgo2 Hdup
            go_wp2
            exact ⟨⟨j + 1, by omega, by go_num, hn.out, by repeat' (first | (with_reducible exact Below.refl _ _) | (with_reducible assumption) | (with_reducible refine kept_alloc ?_ _) | (with_reducible refine kept_drewN ?_ _) | (with_reducible refine Below.drew ?_) | (with_reducible refine Below.setCell ?_ (by first | omega | (simp; omega) | (simp; done)) _) | (refine kept_trans ?_ (by with_reducible assumption)))⟩, by simp [intOf]; omega⟩
          · have hn := Lib.hid (Hdup.out (by simpa using hb2))
            clear Hgo2 Hdup
            go_wp2
            go_ret
            exact ⟨ret_bool hn.out.symm, by repeat' (first | (with_reducible exact Below.refl _ _) | (with_reducible assumption) | (with_reducible refine kept_alloc ?_ _) | (with_reducible refine kept_drewN ?_ _) | (with_reducible refine Below.drew ?_) | (with_reducible refine Below.setCell ?_ (by first | omega | (simp; omega) | (simp; done)) _) | (refine kept_trans ?_ (by with_reducible assumption)))⟩
    · have : j = N := by omega
      subst this
      have hn : Hid (okLn l = true) := Lib.hid (by have := T.out; rw [← HN.out, List.take_length] at this; exact this)
      clear T
      go_wp2
      go_ret
      exact ⟨ret_bool hn.out.symm, by repeat' (first | (with_reducible exact Below.refl _ _) | (with_reducible assumption) | (with_reducible refine kept_alloc ?_ _) | (with_reducible refine kept_drewN ?_ _) | (with_reducible refine Below.drew ?_) | (with_reducible refine Below.setCell ?_ (by first | omega | (simp; omega) | (simp; done)) _) | (refine kept_trans ?_ (by with_reducible assumption)))⟩

theorem rlplace_any (l : List Int) (i : Int) (p : Option Addr) (k : Nat) (w : World) (hl : Sl w 1 intC l (.slice p l.length k)) :
    Calls Tryz.prog 90 #[.slice p l.length k, .int .i64 i] w fun e w' => e = .returned (.int .i64 (plI l i)) ∧ Kept w w' := by
  have H := Lib.hid hl
  clear hl
  unfold plI
  cases hok : okLn l
  all_goals
    have HO := Lib.hid hok
    clear hok
    go_enter Tryz.func90, Tryz.ntmps90
    go_wp2_with fail
    refine (rlcheck_any l p k _ (H.out.kept (by repeat' (first | (with_reducible exact Below.refl _ _) | (with_reducible assumption) | (with_reducible refine kept_alloc ?_ _) | (with_reducible refine kept_drewN ?_ _) | (with_reducible refine Below.drew ?_) | (with_reducible refine Below.setCell ?_ (by first | omega | (simp; omega) | (simp; done)) _) | (refine kept_trans ?_ (by with_reducible assumption)))))).mono ?_
    rintro e w1 ⟨rfl, hg1⟩
    rw [HO.out]
  · go_wp2
    go_ret
    exact ⟨rfl, by repeat' (first | (with_reducible exact Below.refl _ _) | (with_reducible assumption) | (with_reducible refine kept_alloc ?_ _) | (with_reducible refine kept_drewN ?_ _) | (with_reducible refine Below.drew ?_) | (with_reducible refine Below.setCell ?_ (by first | omega | (simp; omega) | (simp; done)) _) | (refine kept_trans ?_ (by with_reducible assumption)))⟩
  · go_wp2_with fail
    refine (rat_any l i p k _ (H.out.kept (by repeat' (first | (with_reducible exact Below.refl _ _) | (with_reducible assumption) | (with_reducible refine kept_alloc ?_ _) | (with_reducible refine kept_drewN ?_ _) | (with_reducible refine Below.drew ?_) | (with_reducible refine Below.setCell ?_ (by first | omega | (simp; omega) | (simp; done)) _) | (refine kept_trans ?_ (by with_reducible assumption)))))).mono ?_
    rintro e w2 ⟨rfl, hg2⟩
    go_wp2
    go_ret
    exact ⟨rfl, by repeat' (first | (with_reducible exact Below.refl _ _) | (with_reducible assumption) | (with_reducible refine kept_alloc ?_ _) | (with_reducible refine kept_drewN ?_ _) | (with_reducible refine Below.drew ?_) | (with_reducible refine Below.setCell ?_ (by first | omega | (simp; omega) | (simp; done)) _) | (refine kept_trans ?_ (by with_reducible assumption)))⟩
end Go.Proofs.YtjbcfjfnobklkaaGreat

/- Layer 5: the document's own answers: Enter, Leave, Next. -/
namespace Go.Proofs.YtjbcfjfnobklkaaGreat
set_option linter.unusedVariables false
set_option linter.unusedSimpArgs false
open Go.ChangeShapes Go.WideShapes Go.ChangeAt Go.RowKit

end Go.Proofs.YtjbcfjfnobklkaaGreat

/- Layer 5: First. -/
namespace Go.Proofs.YtjbcfjfnobklkaaGreat
set_option linter.unusedVariables false
set_option linter.unusedSimpArgs false
open Go.ChangeShapes Go.WideShapes Go.ChangeAt Go.RowKit

theorem lfirst_any (l : List Int) (i : Int) (p : Option Addr) (k : Nat) (w : World) (hl : Sl w 1 intC l (.slice p l.length k)) :
    Calls Tryz.prog 149 #[.slice p l.length k, .int .i64 i] w fun e w' => e = .returned (.bool (plI l i == 0)) ∧ Kept w w' := by
  have H := Lib.hid hl
  clear hl
  go_enter Tryz.func149, Tryz.ntmps149
  go_wp2_with fail
  refine (lplace_any l i p k _ (H.out.kept (by repeat' (first | (with_reducible exact Below.refl _ _) | (with_reducible assumption) | (with_reducible refine kept_alloc ?_ _) | (with_reducible refine kept_drewN ?_ _) | (with_reducible refine Below.drew ?_) | (with_reducible refine Below.setCell ?_ (by first | omega | (simp; omega) | (simp; done)) _) | (refine kept_trans ?_ (by with_reducible assumption)))))).mono ?_
  rintro e w1 ⟨rfl, hg1⟩
  go_wp2
  go_ret
  exact ⟨rfl, by repeat' (first | (with_reducible exact Below.refl _ _) | (with_reducible assumption) | (with_reducible refine kept_alloc ?_ _) | (with_reducible refine kept_drewN ?_ _) | (with_reducible refine Below.drew ?_) | (with_reducible refine Below.setCell ?_ (by first | omega | (simp; omega) | (simp; done)) _) | (refine kept_trans ?_ (by with_reducible assumption)))⟩
end Go.Proofs.YtjbcfjfnobklkaaGreat

/- The document's look whether two lists of integers are one (sakiaref03.Ints). -/
namespace Go.Proofs.YtjbcfjfnobklkaaGreat
set_option linter.unusedVariables false
set_option linter.unusedSimpArgs false
open Go.ChangeShapes Go.WideShapes Go.ChangeAt Go.RowKit

set_option maxHeartbeats 1000000 in
theorem rints_any (l m : List Int) (p q : Option Addr) (k k' : Nat) (w : World) (hl : Sl w 1 intC l (.slice p l.length k)) (hm : Sl w 1 intC m (.slice q m.length k')) (hlm : l.length ≤ 9223372036854775806) :
    Calls Tryz.prog 33 #[.slice p l.length k, .slice q m.length k'] w fun e w' => e = .returned (.bool (decide (l = m))) ∧ Kept w w' := by
  obtain ⟨_, _, e1, _, _, _, hlc⟩ := hl.is
  obtain ⟨_, _, e2, _, _, _, hmc⟩ := hm.is
  cases e1
  cases e2
  clear hl hm
  by_cases hlen : l.length = m.length
  · have hbe : ((l.length : Int) == (m.length : Int)) = true := by simp [hlen]
    have hbn : ((l.length : Int) != (m.length : Int)) = false := by simp [hlen]
    have hL := Lib.hid hlen
    clear hlen
    go_enter Tryz.func33, Tryz.ntmps33
    go_wp2
    go_loopw [5] (fun i wr => ∃ j : Nat, j ≤ l.length ∧ i = .int .i64 j ∧ l.take j = m.take j ∧ Below w.heap.size w wr) (fun i _ => l.length - (intOf i).toNat)
    case atStart => exact ⟨0, by omega, rfl, rfl, Below.refl _ _⟩
    case round =>
      obtain ⟨j, hj, rfl, ht, hB⟩ := hrel
      have hT := Lib.hid ht
      clear ht
      by_cases hlt : j < l.length
      · have hlt' : j < m.length := by rw [← hL.out]; exact hlt
        obtain ⟨b, o, rfl, hb, hc⟩ := hlc (by intro h; subst h; simp at hlt)
        obtain ⟨b', o', rfl, hb', hc'⟩ := hmc (by intro h; subst h; simp at hlt')
        have c1 := (hB.cell (p := ⟨b, _, none⟩) hb).trans (hc j l[j] (List.getElem?_eq_getElem hlt) 0 (by omega))
        have c2 := (hB.cell (p := ⟨b', _, none⟩) hb').trans (hc' j m[j] (List.getElem?_eq_getElem hlt') 0 (by omega))
        simp only [intC, Nat.mul_one, Nat.add_zero, List.getElem?_cons_zero] at c1 c2
        clear hc hc' hlc hmc
        have hbw : b < wr.heap.size := Nat.lt_of_lt_of_le hb hB.size
        have hbw' : b' < wr.heap.size := Nat.lt_of_lt_of_le hb' hB.size
        have hts := fun h => Lib.hid (take_snoc_eq hL.out hlt hT.out h)
        have hne : Hid (l[j] ≠ m[j] → l ≠ m) := fun h h' => h (by subst h'; rfl)
        generalize l[j] = x at *
        generalize m[j] = y at *
        have i1 : (0 : Int) ≤ (j : Int) := by omega
        have i2 : (j : Int) < (l.length : Int) := by omega
        have i3 : (j : Int) < (m.length : Int) := by omega
        cases hxy : (x != y)
        · have he : x = y := by simpa using hxy
          have hn := hts he
          clear hts hne he
          go_wp2
          (refine wp_region_kept (w := w) [(b, o + j, .int .i64 x), (b', o' + j, .int .i64 y)] (by kernel_rfl) (by kernel_rfl) (by repeat' (first | (with_reducible exact Below.refl _ _) | (with_reducible assumption) | (with_reducible refine kept_alloc ?_ _) | (with_reducible refine kept_drewN ?_ _) | (with_reducible refine Below.drew ?_) | (with_reducible refine Below.setCell ?_ (by first | omega | (simp; omega) | (simp; done)) _) | (refine kept_trans ?_ (by with_reducible assumption)))) (by first | (simp [CellsAt, *, World.cell?_alloc_past, World.cell?_alloc_at]; done) | (simp [CellsAt, *, World.cell?_alloc_past, World.cell?_alloc_at]; omega)) (fun hne => ?_); (have hq0 : ∀ xwd : Wd w [(b, o + j, .int .i64 x), (b', o' + j, .int .i64 y)], xwd.at.cell? ⟨b, o + j, none⟩ = some (.int .i64 x) := fun xwd => xwd.cells.1.2; have hq1 : ∀ xwd : Wd w [(b, o + j, .int .i64 x), (b', o' + j, .int .i64 y)], xwd.at.cell? ⟨b', o' + j, none⟩ = some (.int .i64 y) := fun xwd => xwd.cells.2.1.2); (try simp only [List.append_eq, List.cons_append, List.nil_append]); (repeat (go_big_quiet_step ((first | fail)))); (refine wpQuiet_nil ?_); intro wq hwq; obtain ⟨xwd, hxwd⟩ := hwq; have hgx : Below w.heap.size w wq := (by rw [hxwd]; exact xwd.kept); have hcs := (show CellsAt wq [(b, o + j, .int .i64 x), (b', o' + j, .int .i64 y)] by rw [hxwd]; exact xwd.cells); clear hxwd xwd hne)
          go_wp2
          exact ⟨⟨j + 1, by omega, by go_num, hn.out, by repeat' (first | (with_reducible exact Below.refl _ _) | (with_reducible assumption) | (with_reducible refine kept_alloc ?_ _) | (with_reducible refine kept_drewN ?_ _) | (with_reducible refine Below.drew ?_) | (with_reducible refine Below.setCell ?_ (by first | omega | (simp; omega) | (simp; done)) _) | (refine kept_trans ?_ (by with_reducible assumption)))⟩, by simp [intOf]; omega⟩
        · have he : x ≠ y := by simpa using hxy
          have hn := Lib.hid (hne.out he)
          clear hts hne he
          go_wp2
          (refine wp_region_kept (w := w) [(b, o + j, .int .i64 x), (b', o' + j, .int .i64 y)] (by kernel_rfl) (by kernel_rfl) (by repeat' (first | (with_reducible exact Below.refl _ _) | (with_reducible assumption) | (with_reducible refine kept_alloc ?_ _) | (with_reducible refine kept_drewN ?_ _) | (with_reducible refine Below.drew ?_) | (with_reducible refine Below.setCell ?_ (by first | omega | (simp; omega) | (simp; done)) _) | (refine kept_trans ?_ (by with_reducible assumption)))) (by first | (simp [CellsAt, *, World.cell?_alloc_past, World.cell?_alloc_at]; done) | (simp [CellsAt, *, World.cell?_alloc_past, World.cell?_alloc_at]; omega)) (fun hne => ?_); (have hq0 : ∀ xwd : Wd w [(b, o + j, .int .i64 x), (b', o' + j, .int .i64 y)], xwd.at.cell? ⟨b, o + j, none⟩ = some (.int .i64 x) := fun xwd => xwd.cells.1.2; have hq1 : ∀ xwd : Wd w [(b, o + j, .int .i64 x), (b', o' + j, .int .i64 y)], xwd.at.cell? ⟨b', o' + j, none⟩ = some (.int .i64 y) := fun xwd => xwd.cells.2.1.2); (try simp only [List.append_eq, List.cons_append, List.nil_append]); (repeat (go_big_quiet_step ((first | fail)))); (refine wpQuiet_nil ?_); intro wq hwq; obtain ⟨xwd, hxwd⟩ := hwq; have hgx : Below w.heap.size w wq := (by rw [hxwd]; exact xwd.kept); have hcs := (show CellsAt wq [(b, o + j, .int .i64 x), (b', o' + j, .int .i64 y)] by rw [hxwd]; exact xwd.cells); clear hxwd xwd hne)
          go_wp2
          go_ret
          exact ⟨ret_bool (by simp [hn.out]), by repeat' (first | (with_reducible exact Below.refl _ _) | (with_reducible assumption) | (with_reducible refine kept_alloc ?_ _) | (with_reducible refine kept_drewN ?_ _) | (with_reducible refine Below.drew ?_) | (with_reducible refine Below.setCell ?_ (by first | omega | (simp; omega) | (simp; done)) _) | (refine kept_trans ?_ (by with_reducible assumption)))⟩
      · have : j = l.length := by omega
        subst this
        have he : Hid (l = m) := Lib.hid (by have := hT.out; rw [List.take_length, hL.out, List.take_length] at this; exact this)
        clear hT hlc hmc
        go_wp2
        go_ret
        exact ⟨ret_bool (by simp [he.out]), by repeat' (first | (with_reducible exact Below.refl _ _) | (with_reducible assumption) | (with_reducible refine kept_alloc ?_ _) | (with_reducible refine kept_drewN ?_ _) | (with_reducible refine Below.drew ?_) | (with_reducible refine Below.setCell ?_ (by first | omega | (simp; omega) | (simp; done)) _) | (refine kept_trans ?_ (by with_reducible assumption)))⟩
  · have hn : Hid (l ≠ m) := Lib.hid (fun h => hlen (by rw [h]))
    have hbn : ((l.length : Int) != (m.length : Int)) = true := by simp; omega
    clear hlen hlc hmc
    go_enter Tryz.func33, Tryz.ntmps33
    go_wp2
    go_ret
    exact ⟨ret_bool (by simp [hn.out]), by repeat' (first | (with_reducible exact Below.refl _ _) | (with_reducible assumption) | (with_reducible refine kept_alloc ?_ _) | (with_reducible refine kept_drewN ?_ _) | (with_reducible refine Below.drew ?_) | (with_reducible refine Below.setCell ?_ (by first | omega | (simp; omega) | (simp; done)) _) | (refine kept_trans ?_ (by with_reducible assumption)))⟩
end Go.Proofs.YtjbcfjfnobklkaaGreat

/- Layer 5: what every statement asks first; arguments opened. -/
namespace Go.Proofs.YtjbcfjfnobklkaaGreat
set_option linter.unusedVariables false
set_option linter.unusedSimpArgs false
open Go.ChangeShapes Go.WideShapes Go.ChangeAt Go.RowKit

/-! ### A slice of integers as an argument -/
end Go.Proofs.YtjbcfjfnobklkaaGreat

/- Layer 6: Check, Prepare, a copy of an event, how many are enough (a closure). -/
namespace Go.Proofs.YtjbcfjfnobklkaaGreat
set_option linter.unusedVariables false
set_option linter.unusedSimpArgs false
open Go.ChangeShapes Go.WideShapes Go.ChangeAt Go.RowKit

set_option maxHeartbeats 1000000 in
theorem echeck_any (ep : Int) (l : List Int) (p : Option Addr) (k : Nat) (w : World) (hl : Sl w 1 intC l (.slice p l.length k)) :
    Calls Tryz.prog 55 #[.agg #[.int .i64 ep, .slice p l.length k]] w fun e w' => e = .returned (.bool (okE ep l)) ∧ Kept w w' := by
  have H := Lib.hid hl
  clear hl
  unfold okE
  cases b1 : decide (0 ≤ ep)
  · go_enter Tryz.func55, Tryz.ntmps55
    go_wp2
    go_ret
    exact ⟨ret_bool (by simp), by repeat' (first | (with_reducible exact Below.refl _ _) | (with_reducible assumption) | (with_reducible refine kept_alloc ?_ _) | (with_reducible refine kept_drewN ?_ _) | (with_reducible refine Below.drew ?_) | (with_reducible refine Below.setCell ?_ (by first | omega | (simp; omega) | (simp; done)) _) | (refine kept_trans ?_ (by with_reducible assumption)))⟩
  · cases b2 : decide (ep ≤ 1099511627776)
    · go_enter Tryz.func55, Tryz.ntmps55
      go_wp2
      go_ret
      exact ⟨ret_bool (by simp), by repeat' (first | (with_reducible exact Below.refl _ _) | (with_reducible assumption) | (with_reducible refine kept_alloc ?_ _) | (with_reducible refine kept_drewN ?_ _) | (with_reducible refine Below.drew ?_) | (with_reducible refine Below.setCell ?_ (by first | omega | (simp; omega) | (simp; done)) _) | (refine kept_trans ?_ (by with_reducible assumption)))⟩
    · go_enter Tryz.func55, Tryz.ntmps55
      go_wp2_with fail
      refine (lcheck_any l p k _ (H.out.kept (by repeat' (first | (with_reducible exact Below.refl _ _) | (with_reducible assumption) | (with_reducible refine kept_alloc ?_ _) | (with_reducible refine kept_drewN ?_ _) | (with_reducible refine Below.drew ?_) | (with_reducible refine Below.setCell ?_ (by first | omega | (simp; omega) | (simp; done)) _) | (refine kept_trans ?_ (by with_reducible assumption)))))).mono ?_
      rintro e w1 ⟨rfl, hg1⟩
      go_wp2
      go_ret
      exact ⟨ret_bool (by simp), by repeat' (first | (with_reducible exact Below.refl _ _) | (with_reducible assumption) | (with_reducible refine kept_alloc ?_ _) | (with_reducible refine kept_drewN ?_ _) | (with_reducible refine Below.drew ?_) | (with_reducible refine Below.setCell ?_ (by first | omega | (simp; omega) | (simp; done)) _) | (refine kept_trans ?_ (by with_reducible assumption)))⟩
theorem echeck_val {ep : Int} {l : List Int} {b : Bool} (hb : okE ep l = b) (p : Option Addr) (k : Nat) (w : World) (hl : Sl w 1 intC l (.slice p l.length k)) :
    Calls Tryz.prog 55 #[.agg #[.int .i64 ep, .slice p l.length k]] w fun e w' => e = .returned (.bool b) ∧ Kept w w' := hb ▸ echeck_any ep l p k w hl

theorem eprep_any (ep : Int) (l : List Int) (p : Option Addr) (k : Nat) (w : World) (hl : Sl w 1 intC l (.slice p l.length k)) :
    Calls Tryz.prog 158 #[.agg #[.int .i64 ep, .slice p l.length k]] w fun e w' => e = .returned (.int .i64 (prE ep l)) ∧ Kept w w' := by
  have H := Lib.hid hl
  clear hl
  unfold prE
  cases hok : okE ep l
  all_goals
    have HO := Lib.hid hok
    clear hok
    go_enter Tryz.func158, Tryz.ntmps158
    go_wp2_with fail
    refine (echeck_val HO.out p k _ (H.out.kept (by repeat' (first | (with_reducible exact Below.refl _ _) | (with_reducible assumption) | (with_reducible refine kept_alloc ?_ _) | (with_reducible refine kept_drewN ?_ _) | (with_reducible refine Below.drew ?_) | (with_reducible refine Below.setCell ?_ (by first | omega | (simp; omega) | (simp; done)) _) | (refine kept_trans ?_ (by with_reducible assumption)))))).mono ?_
    rintro e w1 ⟨rfl, hg1⟩
    have hcs : CellsAt w1 [(w.heap.size, 0, .int .i64 ep), (w.heap.size, 1, .slice p l.length k)] := cells_keep hg1 (by (simp only [CellsAt]; (repeat' (first | exact trivial | (refine And.intro ?_ ?_))); all_goals (first | (focus ((try simp only [World.size_setCell, World.size_alloc]); omega)) | (repeat (first | rfl | assumption | (refine (World.cell?_alloc_past _ _ _ ?_).trans ?_; focus ((try simp only [World.size_setCell, World.size_alloc]); omega)) | (refine (World.cell?_alloc_at _ _ _ _ ?_).trans ?_; focus ((try simp only [World.size_setCell, World.size_alloc]); done)) | (refine (World.cell?_setCell_other _ _ _ _ ?_).trans ?_; focus (simp; done)) | (refine (World.cell?_setCell_other _ _ _ _ ?_).trans ?_; focus (simp; omega)) | (refine World.cell?_setCell_same' _ _ _ ?_; focus (simp; done)))))))
    have hq0 := hcs.1.2; have hq1 := hcs.2.1.2; have hz0 := hcs.1.1
    go_wp2
    go_ret
    exact ⟨rfl, by repeat' (first | (with_reducible exact Below.refl _ _) | (with_reducible assumption) | (with_reducible refine kept_alloc ?_ _) | (with_reducible refine kept_drewN ?_ _) | (with_reducible refine Below.drew ?_) | (with_reducible refine Below.setCell ?_ (by first | omega | (simp; omega) | (simp; done)) _) | (refine kept_trans ?_ (by with_reducible assumption)))⟩
/-- What a call that hands back an event alone leaves: its line is of the call's own. -/
def RetEO (w : World) (ep : Int) (r : List Int) (e : Ending) (w' : World) : Prop :=
  ∃ (p : Option Addr) (k : Nat), e = .returned (.agg #[.int .i64 ep, .slice p r.length k]) ∧ Ow w' w.heap.size 3 1 intC r (.slice p r.length k) ∧ Kept w w'
set_option maxHeartbeats 2000000 in
theorem ekept_any (ep : Int) (l : List Int) (p : Option Addr) (k : Nat) (w : World) (hl : Sl w 1 intC l (.slice p l.length k)) (hm : l.length ≤ 999999) :
    Calls Tryz.prog 215 #[.agg #[.int .i64 ep, .slice p l.length k]] w (RetEO w ep l) := by
  have H := Lib.hid hl
  clear hl
  go_enter Tryz.func215, Tryz.ntmps215
  go_wp2
  obtain ⟨V, hV⟩ : ∃ V, (w.alloc (.cells #[.int .i64 ep, .slice p l.length k] 29)).alloc (.cells #[.int .i64 0, .slice none 0 0] 29) = V := ⟨_, rfl⟩
  have hcs : CellsAt V [(w.heap.size, 0, .int .i64 ep), (w.heap.size, 1, .slice p l.length k), (w.heap.size + 1, 0, .int .i64 0), (w.heap.size + 1, 1, .slice none 0 0)] := by rw [← hV]; (simp only [CellsAt]; (repeat' (first | exact trivial | (refine And.intro ?_ ?_))); all_goals (first | (focus ((try simp only [World.size_setCell, World.size_alloc]); omega)) | (repeat (first | rfl | assumption | (refine (World.cell?_alloc_past _ _ _ ?_).trans ?_; focus ((try simp only [World.size_setCell, World.size_alloc]); omega)) | (refine (World.cell?_alloc_at _ _ _ _ ?_).trans ?_; focus ((try simp only [World.size_setCell, World.size_alloc]); done)) | (refine (World.cell?_setCell_other _ _ _ _ ?_).trans ?_; focus (simp; done)) | (refine (World.cell?_setCell_other _ _ _ _ ?_).trans ?_; focus (simp; omega)) | (refine World.cell?_setCell_same' _ _ _ ?_; focus (simp; done))))))
  have hB : Below w.heap.size w V := by rw [← hV]; repeat' (first | (with_reducible exact Below.refl _ _) | (with_reducible assumption) | (with_reducible refine kept_alloc ?_ _) | (with_reducible refine kept_drewN ?_ _) | (with_reducible refine Below.drew ?_) | (with_reducible refine Below.setCell ?_ (by first | omega | (simp; omega) | (simp; done)) _) | (refine kept_trans ?_ (by with_reducible assumption)))
  have hz : V.heap.size = w.heap.size + 2 := by rw [← hV]; simp
  have hfr : ∀ j, V.frozen? ⟨w.heap.size + 1, j, none⟩ = false := by intro j; rw [← hV]; exact World.frozen?_alloc_at _ _ _ _ (by simp)
  rw [hV]
  clear hV
  have HL := Lib.hid (H.out.kept hB)
  have hsz : w.heap.size < V.heap.size := by omega
  have hsz1 : w.heap.size + 1 < V.heap.size := by omega
  have hq0 := hcs.1.2; have hq1 := hcs.2.1.2; have hq2 := hcs.2.2.1.2; have hq3 := hcs.2.2.2.1.2; have hz0 := hcs.1.1; have hz1 := hcs.2.2.1.1
  have hzz := Lib.hid hz
  clear hz
  go_region_held3 (fun w' => w'.cell? ⟨w.heap.size, 0, none⟩ = some (.int .i64 ep) ∧ w'.cell? ⟨w.heap.size, 1, none⟩ = some (.slice p l.length k))
    (first
      | (go_split_ands; refine ⟨?_, ?_⟩ <;> (refine (hb1.cell (p := ⟨_, _, none⟩) (by show w.heap.size < V.heap.size; omega)).trans ?_; assumption))
      | go_keep)
    ((first
      | (refine step_app (wb := V) (by rfl) _ _ 27 (by rfl) (.int .i64 0) 8 Tryz.underlying27 int_info (by rfl) (by decide) intEnc (by rfl) (by rfl) (xs := []) (ys := l) owi_nil (HL.out.kept (by repeat' (first | (with_reducible exact Below.refl _ _) | (with_reducible assumption) | (with_reducible refine kept_alloc ?_ _) | (with_reducible refine kept_drewN ?_ _) | (with_reducible refine Below.drew ?_) | (with_reducible refine Below.setCell ?_ (by first | omega | (simp; omega) | (simp; done)) _) | (refine kept_trans ?_ (by with_reducible assumption))))) (by repeat' (first | (with_reducible exact Below.refl _ _) | (with_reducible assumption) | (with_reducible refine kept_alloc ?_ _) | (with_reducible refine kept_drewN ?_ _) | (with_reducible refine Below.drew ?_) | (with_reducible refine Below.setCell ?_ (by first | omega | (simp; omega) | (simp; done)) _) | (refine kept_trans ?_ (by with_reducible assumption)))) (by simp; unfold maxLen; omega) (by simp; omega) ?_; intro v1 w1 how1 hb1 hg1; obtain ⟨p1, k1, rfl, hs1, hs2, hs3, hs4⟩ := (Ow.sl intEnc how1).is; clear hs1 hs2 hs3 hs4; have hcs := cells_keep hb1 hcs; have hq0 := hcs.1.2; have hq1 := hcs.2.1.2; have hq2 := hcs.2.2.1.2; have hq3 := hcs.2.2.2.1.2; have hz0 := hcs.1.1; have hz1 := hcs.2.2.1.1; have hfx : ∀ j, w1.frozen? ⟨w.heap.size + 1, j, none⟩ = false := fun j => (hb1.frozen (p := ⟨w.heap.size + 1, j, none⟩) hsz1).trans (hfr j))))
  all_goals go_wp2
  all_goals
    simp only [List.nil_append] at how1
    refine bodyPost_ret (v := .agg #[.int .i64 ep, .slice p1 l.length k1]) (by simp [results, Tryz.results215, go_sem, *]) rfl ?_
    have h0 : Below w.heap.size w w1 := hB.trans (hb1.mono hB.size)
    exact ⟨p1, k1, rfl, Ow.mono ((how1.setCell (p := ⟨_, _, none⟩) hsz1 _).setCell (p := ⟨_, _, none⟩) hsz1 _) hB.size, (h0.setCell (p := ⟨_, _, none⟩) (Nat.le_succ _) _).setCell (p := ⟨_, _, none⟩) (Nat.le_succ _) _⟩

/-! ### How many are enough -/
theorem upTo1_tells (m : Int) (b : Nat) (w : World) (hb : b < w.heap.size) (hc : w.cell? ⟨b, 0, none⟩ = some (.int .i64 m)) : Tells 241 #[.pointer (some ⟨b, 0, none⟩)] (fun x => decide (x < m)) w := by
  intro W x hW
  have c1 := (hW.cell (p := ⟨b, 0, none⟩) hb).trans hc
  show Calls Tryz.prog 241 #[.int .i64 x, .pointer (some ⟨b, 0, none⟩)] W _
  go_enter Tryz.func241, Tryz.ntmps241
  go_wp2
  all_goals (go_ret; exact ⟨rfl, by repeat' (first | (with_reducible exact Below.refl _ _) | (with_reducible assumption) | (with_reducible refine kept_alloc ?_ _) | (with_reducible refine kept_drewN ?_ _) | (with_reducible refine Below.drew ?_) | (with_reducible refine Below.setCell ?_ (by first | omega | (simp; omega) | (simp; done)) _) | (refine kept_trans ?_ (by with_reducible assumption)))⟩)
def RetUp (m : Int) (w : World) (e : Ending) (w' : World) : Prop := ∃ lb, e = .returned (.func (.func 241) #[] lb) ∧ Tells 241 lb (fun x => decide (x < m)) w' ∧ Kept w w'
theorem eupto_any (m : Int) (w : World) : Calls Tryz.prog 214 #[.int .i64 m] w (RetUp m w) := by
  go_enter Tryz.func214, Tryz.ntmps214
  go_wp2
  go_ret
  exact ⟨_, rfl, upTo1_tells m w.heap.size _ (by simp) (by simp), by repeat' (first | (with_reducible exact Below.refl _ _) | (with_reducible assumption) | (with_reducible refine kept_alloc ?_ _) | (with_reducible refine kept_drewN ?_ _) | (with_reducible refine Below.drew ?_) | (with_reducible refine Below.setCell ?_ (by first | omega | (simp; omega) | (simp; done)) _) | (refine kept_trans ?_ (by with_reducible assumption)))⟩
end Go.Proofs.YtjbcfjfnobklkaaGreat

/- Layer 2: a bound, and the iterator that gives all of a layout's, one by one. -/
namespace Go.Proofs.YtjbcfjfnobklkaaGreat
set_option linter.unusedVariables false
set_option linter.unusedSimpArgs false
open Go.ChangeShapes Go.WideShapes Go.ChangeAt Go.RowKit Go.Shelf
attribute [local go_sem] Oper.semAt_some

theorem within_any (n low high : Int) (w : World) :
    Calls Tryz.prog 107 #[.agg #[.int .i64 n, .int .i64 low, .int .i64 high]] w fun e w' => e = .returned (.bool (inB n low high)) ∧ Kept w w' := by
  go_enter Tryz.func107, Tryz.ntmps107
  go_wp2
  all_goals (go_ret; exact ⟨ret_bool (by first | (rw [Bool.eq_iff_iff]; simp [inB]; omega) | (simp [inB, *]; done) | (simp [inB, *]; omega) | (simp [inB, *]; intros; omega)), by repeat' (first | (with_reducible exact Below.refl _ _) | (with_reducible assumption) | (with_reducible refine kept_alloc ?_ _) | (with_reducible refine kept_drewN ?_ _) | (with_reducible refine Below.drew ?_) | (with_reducible refine Below.setCell ?_ (by first | omega | (simp; omega) | (simp; done)) _) | (refine kept_trans ?_ (by with_reducible assumption)))⟩)

set_option maxRecDepth 100000 in
set_option maxHeartbeats 4000000 in
theorem bounds_iter (lg th po wt sp yi : Int) (si : Bool) (n₀ : Nat) (w : World) :
    Iter Tryz.prog 106 #[.agg #[.int .i64 lg, .int .i64 th, .int .i64 po, .int .i64 wt, .int .i64 sp, .int .i64 yi, .bool si]] #[] Bd.val n₀ (bdsL lg th po wt sp yi) w := by
  intro l J Jx W hW hJ hJx hY h0
  refine (callsIn_wide (n := 10)).1 ?_
  refine callsIn_of_wp Tryz.func106 rfl trivial ?_
  simp only [Tryz.ntmps106, List.size_toArray, List.length_cons, List.length_nil, Nat.reduceAdd, Nat.reduceSub, Array.replicate_succ, Array.replicate_zero, List.push_toArray, List.append_toArray, List.nil_append, List.cons_append]
  by_cases hwt : wt = 2
  · subst hwt
    (have hL : Hid (bdsL lg th po 2 sp yi = [⟨lg, 1, 6⟩, ⟨th, 1, 16⟩, ⟨po, 0, 2⟩, ⟨2, 0, 3⟩, ⟨sp, 0, 8⟩, ⟨yi, 0, 8⟩]) := Lib.hid (by simp [bdsL, triesI, triesI]); have x0 : ∀ w : World, (Instr.index 162 (.agg #[.int .i64 lg, .int .i64 1, .int .i64 6, .int .i64 th, .int .i64 1, .int .i64 16, .int .i64 po, .int .i64 0, .int .i64 2, .int .i64 2, .int .i64 0, .int .i64 3, .int .i64 sp, .int .i64 0, .int .i64 8, .int .i64 yi, .int .i64 0, .int .i64 8]) (.int .i64 0)).run Tryz.prog w = .ok (.agg #[.int .i64 lg, .int .i64 1, .int .i64 6]) w := fun _ => (by kernel_rfl); have x1 : ∀ w : World, (Instr.index 162 (.agg #[.int .i64 lg, .int .i64 1, .int .i64 6, .int .i64 th, .int .i64 1, .int .i64 16, .int .i64 po, .int .i64 0, .int .i64 2, .int .i64 2, .int .i64 0, .int .i64 3, .int .i64 sp, .int .i64 0, .int .i64 8, .int .i64 yi, .int .i64 0, .int .i64 8]) (.int .i64 1)).run Tryz.prog w = .ok (.agg #[.int .i64 th, .int .i64 1, .int .i64 16]) w := fun _ => (by kernel_rfl); have x2 : ∀ w : World, (Instr.index 162 (.agg #[.int .i64 lg, .int .i64 1, .int .i64 6, .int .i64 th, .int .i64 1, .int .i64 16, .int .i64 po, .int .i64 0, .int .i64 2, .int .i64 2, .int .i64 0, .int .i64 3, .int .i64 sp, .int .i64 0, .int .i64 8, .int .i64 yi, .int .i64 0, .int .i64 8]) (.int .i64 2)).run Tryz.prog w = .ok (.agg #[.int .i64 po, .int .i64 0, .int .i64 2]) w := fun _ => (by kernel_rfl); have x3 : ∀ w : World, (Instr.index 162 (.agg #[.int .i64 lg, .int .i64 1, .int .i64 6, .int .i64 th, .int .i64 1, .int .i64 16, .int .i64 po, .int .i64 0, .int .i64 2, .int .i64 2, .int .i64 0, .int .i64 3, .int .i64 sp, .int .i64 0, .int .i64 8, .int .i64 yi, .int .i64 0, .int .i64 8]) (.int .i64 3)).run Tryz.prog w = .ok (.agg #[.int .i64 2, .int .i64 0, .int .i64 3]) w := fun _ => (by kernel_rfl); have x4 : ∀ w : World, (Instr.index 162 (.agg #[.int .i64 lg, .int .i64 1, .int .i64 6, .int .i64 th, .int .i64 1, .int .i64 16, .int .i64 po, .int .i64 0, .int .i64 2, .int .i64 2, .int .i64 0, .int .i64 3, .int .i64 sp, .int .i64 0, .int .i64 8, .int .i64 yi, .int .i64 0, .int .i64 8]) (.int .i64 4)).run Tryz.prog w = .ok (.agg #[.int .i64 sp, .int .i64 0, .int .i64 8]) w := fun _ => (by kernel_rfl); have x5 : ∀ w : World, (Instr.index 162 (.agg #[.int .i64 lg, .int .i64 1, .int .i64 6, .int .i64 th, .int .i64 1, .int .i64 16, .int .i64 po, .int .i64 0, .int .i64 2, .int .i64 2, .int .i64 0, .int .i64 3, .int .i64 sp, .int .i64 0, .int .i64 8, .int .i64 yi, .int .i64 0, .int .i64 8]) (.int .i64 5)).run Tryz.prog w = .ok (.agg #[.int .i64 yi, .int .i64 0, .int .i64 8]) w := fun _ => (by kernel_rfl); gi_wp2; gi_loopw [31] (fun i wr => ∃ k : Nat, k ≤ 6 ∧ i = .int .i64 k ∧ J ((bdsL lg th po 2 sp yi).take k) wr) (fun i _ => 6 - (intOf i).toNat); (case atStart => exact ⟨0, by omega, rfl, hJ _ _ _ h0 ((Below.refl _ _).alloc (Nat.le_refl _) _)⟩); (case round => obtain ⟨k, hk, rfl, hj⟩ := hrel; rw [hL.out] at hj; obtain rfl | rfl | rfl | rfl | rfl | rfl | rfl : k = 0 ∨ k = 1 ∨ k = 2 ∨ k = 3 ∨ k = 4 ∨ k = 5 ∨ k = 6 := (by omega); ((obtain ⟨fn, tmps, assign, body, hy, hR⟩ := hY (10 - 1) [] ⟨lg, 1, 6⟩ [⟨th, 1, 16⟩, ⟨po, 0, 2⟩, ⟨2, 0, 3⟩, ⟨sp, 0, 8⟩, ⟨yi, 0, 8⟩] (wr.alloc (.cells #[.int .i64 (⟨lg, 1, 6⟩ : Bd).n, .int .i64 (⟨lg, 1, 6⟩ : Bd).low, .int .i64 (⟨lg, 1, 6⟩ : Bd).high] 128)) (by omega) hL.out (hJ _ _ _ hj ((Below.refl _ _).alloc (Nat.le_refl _) _)); simp only [Bd.val] at hy; gi_wp2; refine hR.mono ?_; rintro e C (⟨rfl, hj', hr⟩ | ⟨rfl, hx⟩); (gi_wp2; go_roundw; (case rel => exact ⟨1, by omega, rfl, by rw [hL.out]; exact hj'⟩); (case measure => simp [intOf])); (gi_wp2; refine bodyPost_ret (results_none rfl _ _ _) rfl ?_; exact ⟨⟨_, rfl⟩, .inr ⟨_, hx⟩⟩))); ((obtain ⟨fn, tmps, assign, body, hy, hR⟩ := hY (10 - 1) [⟨lg, 1, 6⟩] ⟨th, 1, 16⟩ [⟨po, 0, 2⟩, ⟨2, 0, 3⟩, ⟨sp, 0, 8⟩, ⟨yi, 0, 8⟩] (wr.alloc (.cells #[.int .i64 (⟨th, 1, 16⟩ : Bd).n, .int .i64 (⟨th, 1, 16⟩ : Bd).low, .int .i64 (⟨th, 1, 16⟩ : Bd).high] 128)) (by omega) hL.out (hJ _ _ _ hj ((Below.refl _ _).alloc (Nat.le_refl _) _)); simp only [Bd.val] at hy; gi_wp2; refine hR.mono ?_; rintro e C (⟨rfl, hj', hr⟩ | ⟨rfl, hx⟩); (gi_wp2; go_roundw; (case rel => exact ⟨2, by omega, rfl, by rw [hL.out]; exact hj'⟩); (case measure => simp [intOf])); (gi_wp2; refine bodyPost_ret (results_none rfl _ _ _) rfl ?_; exact ⟨⟨_, rfl⟩, .inr ⟨_, hx⟩⟩))); ((obtain ⟨fn, tmps, assign, body, hy, hR⟩ := hY (10 - 1) [⟨lg, 1, 6⟩, ⟨th, 1, 16⟩] ⟨po, 0, 2⟩ [⟨2, 0, 3⟩, ⟨sp, 0, 8⟩, ⟨yi, 0, 8⟩] (wr.alloc (.cells #[.int .i64 (⟨po, 0, 2⟩ : Bd).n, .int .i64 (⟨po, 0, 2⟩ : Bd).low, .int .i64 (⟨po, 0, 2⟩ : Bd).high] 128)) (by omega) hL.out (hJ _ _ _ hj ((Below.refl _ _).alloc (Nat.le_refl _) _)); simp only [Bd.val] at hy; gi_wp2; refine hR.mono ?_; rintro e C (⟨rfl, hj', hr⟩ | ⟨rfl, hx⟩); (gi_wp2; go_roundw; (case rel => exact ⟨3, by omega, rfl, by rw [hL.out]; exact hj'⟩); (case measure => simp [intOf])); (gi_wp2; refine bodyPost_ret (results_none rfl _ _ _) rfl ?_; exact ⟨⟨_, rfl⟩, .inr ⟨_, hx⟩⟩))); ((obtain ⟨fn, tmps, assign, body, hy, hR⟩ := hY (10 - 1) [⟨lg, 1, 6⟩, ⟨th, 1, 16⟩, ⟨po, 0, 2⟩] ⟨2, 0, 3⟩ [⟨sp, 0, 8⟩, ⟨yi, 0, 8⟩] (wr.alloc (.cells #[.int .i64 (⟨2, 0, 3⟩ : Bd).n, .int .i64 (⟨2, 0, 3⟩ : Bd).low, .int .i64 (⟨2, 0, 3⟩ : Bd).high] 128)) (by omega) hL.out (hJ _ _ _ hj ((Below.refl _ _).alloc (Nat.le_refl _) _)); simp only [Bd.val] at hy; gi_wp2; refine hR.mono ?_; rintro e C (⟨rfl, hj', hr⟩ | ⟨rfl, hx⟩); (gi_wp2; go_roundw; (case rel => exact ⟨4, by omega, rfl, by rw [hL.out]; exact hj'⟩); (case measure => simp [intOf])); (gi_wp2; refine bodyPost_ret (results_none rfl _ _ _) rfl ?_; exact ⟨⟨_, rfl⟩, .inr ⟨_, hx⟩⟩))); ((obtain ⟨fn, tmps, assign, body, hy, hR⟩ := hY (10 - 1) [⟨lg, 1, 6⟩, ⟨th, 1, 16⟩, ⟨po, 0, 2⟩, ⟨2, 0, 3⟩] ⟨sp, 0, 8⟩ [⟨yi, 0, 8⟩] (wr.alloc (.cells #[.int .i64 (⟨sp, 0, 8⟩ : Bd).n, .int .i64 (⟨sp, 0, 8⟩ : Bd).low, .int .i64 (⟨sp, 0, 8⟩ : Bd).high] 128)) (by omega) hL.out (hJ _ _ _ hj ((Below.refl _ _).alloc (Nat.le_refl _) _)); simp only [Bd.val] at hy; gi_wp2; refine hR.mono ?_; rintro e C (⟨rfl, hj', hr⟩ | ⟨rfl, hx⟩); (gi_wp2; go_roundw; (case rel => exact ⟨5, by omega, rfl, by rw [hL.out]; exact hj'⟩); (case measure => simp [intOf])); (gi_wp2; refine bodyPost_ret (results_none rfl _ _ _) rfl ?_; exact ⟨⟨_, rfl⟩, .inr ⟨_, hx⟩⟩))); ((obtain ⟨fn, tmps, assign, body, hy, hR⟩ := hY (10 - 1) [⟨lg, 1, 6⟩, ⟨th, 1, 16⟩, ⟨po, 0, 2⟩, ⟨2, 0, 3⟩, ⟨sp, 0, 8⟩] ⟨yi, 0, 8⟩ [] (wr.alloc (.cells #[.int .i64 (⟨yi, 0, 8⟩ : Bd).n, .int .i64 (⟨yi, 0, 8⟩ : Bd).low, .int .i64 (⟨yi, 0, 8⟩ : Bd).high] 128)) (by omega) hL.out (hJ _ _ _ hj ((Below.refl _ _).alloc (Nat.le_refl _) _)); simp only [Bd.val] at hy; gi_wp2; refine hR.mono ?_; rintro e C (⟨rfl, hj', hr⟩ | ⟨rfl, hx⟩); (gi_wp2; go_roundw; (case rel => exact ⟨6, by omega, rfl, by rw [hL.out]; exact hj'⟩); (case measure => simp [intOf])); (gi_wp2; refine bodyPost_ret (results_none rfl _ _ _) rfl ?_; exact ⟨⟨_, rfl⟩, .inr ⟨_, hx⟩⟩))); (gi_wp2; go_end0; exact ⟨⟨_, rfl⟩, .inl (by rw [hL.out]; exact hj)⟩)))
  · have hwb : (wt == 2) = false := by simpa using hwt
    (have hL : Hid (bdsL lg th po wt sp yi = [⟨lg, 1, 6⟩, ⟨th, 1, 16⟩, ⟨po, 0, 2⟩, ⟨wt, 0, 3⟩, ⟨sp, 0, 0⟩, ⟨yi, 0, 0⟩]) := Lib.hid (by simp [bdsL, triesI, hwt]); have x0 : ∀ w : World, (Instr.index 162 (.agg #[.int .i64 lg, .int .i64 1, .int .i64 6, .int .i64 th, .int .i64 1, .int .i64 16, .int .i64 po, .int .i64 0, .int .i64 2, .int .i64 wt, .int .i64 0, .int .i64 3, .int .i64 sp, .int .i64 0, .int .i64 0, .int .i64 yi, .int .i64 0, .int .i64 0]) (.int .i64 0)).run Tryz.prog w = .ok (.agg #[.int .i64 lg, .int .i64 1, .int .i64 6]) w := fun _ => (by kernel_rfl); have x1 : ∀ w : World, (Instr.index 162 (.agg #[.int .i64 lg, .int .i64 1, .int .i64 6, .int .i64 th, .int .i64 1, .int .i64 16, .int .i64 po, .int .i64 0, .int .i64 2, .int .i64 wt, .int .i64 0, .int .i64 3, .int .i64 sp, .int .i64 0, .int .i64 0, .int .i64 yi, .int .i64 0, .int .i64 0]) (.int .i64 1)).run Tryz.prog w = .ok (.agg #[.int .i64 th, .int .i64 1, .int .i64 16]) w := fun _ => (by kernel_rfl); have x2 : ∀ w : World, (Instr.index 162 (.agg #[.int .i64 lg, .int .i64 1, .int .i64 6, .int .i64 th, .int .i64 1, .int .i64 16, .int .i64 po, .int .i64 0, .int .i64 2, .int .i64 wt, .int .i64 0, .int .i64 3, .int .i64 sp, .int .i64 0, .int .i64 0, .int .i64 yi, .int .i64 0, .int .i64 0]) (.int .i64 2)).run Tryz.prog w = .ok (.agg #[.int .i64 po, .int .i64 0, .int .i64 2]) w := fun _ => (by kernel_rfl); have x3 : ∀ w : World, (Instr.index 162 (.agg #[.int .i64 lg, .int .i64 1, .int .i64 6, .int .i64 th, .int .i64 1, .int .i64 16, .int .i64 po, .int .i64 0, .int .i64 2, .int .i64 wt, .int .i64 0, .int .i64 3, .int .i64 sp, .int .i64 0, .int .i64 0, .int .i64 yi, .int .i64 0, .int .i64 0]) (.int .i64 3)).run Tryz.prog w = .ok (.agg #[.int .i64 wt, .int .i64 0, .int .i64 3]) w := fun _ => (by kernel_rfl); have x4 : ∀ w : World, (Instr.index 162 (.agg #[.int .i64 lg, .int .i64 1, .int .i64 6, .int .i64 th, .int .i64 1, .int .i64 16, .int .i64 po, .int .i64 0, .int .i64 2, .int .i64 wt, .int .i64 0, .int .i64 3, .int .i64 sp, .int .i64 0, .int .i64 0, .int .i64 yi, .int .i64 0, .int .i64 0]) (.int .i64 4)).run Tryz.prog w = .ok (.agg #[.int .i64 sp, .int .i64 0, .int .i64 0]) w := fun _ => (by kernel_rfl); have x5 : ∀ w : World, (Instr.index 162 (.agg #[.int .i64 lg, .int .i64 1, .int .i64 6, .int .i64 th, .int .i64 1, .int .i64 16, .int .i64 po, .int .i64 0, .int .i64 2, .int .i64 wt, .int .i64 0, .int .i64 3, .int .i64 sp, .int .i64 0, .int .i64 0, .int .i64 yi, .int .i64 0, .int .i64 0]) (.int .i64 5)).run Tryz.prog w = .ok (.agg #[.int .i64 yi, .int .i64 0, .int .i64 0]) w := fun _ => (by kernel_rfl); gi_wp2; gi_loopw [31] (fun i wr => ∃ k : Nat, k ≤ 6 ∧ i = .int .i64 k ∧ J ((bdsL lg th po wt sp yi).take k) wr) (fun i _ => 6 - (intOf i).toNat); (case atStart => exact ⟨0, by omega, rfl, hJ _ _ _ h0 ((Below.refl _ _).alloc (Nat.le_refl _) _)⟩); (case round => obtain ⟨k, hk, rfl, hj⟩ := hrel; rw [hL.out] at hj; obtain rfl | rfl | rfl | rfl | rfl | rfl | rfl : k = 0 ∨ k = 1 ∨ k = 2 ∨ k = 3 ∨ k = 4 ∨ k = 5 ∨ k = 6 := (by omega); ((obtain ⟨fn, tmps, assign, body, hy, hR⟩ := hY (10 - 1) [] ⟨lg, 1, 6⟩ [⟨th, 1, 16⟩, ⟨po, 0, 2⟩, ⟨wt, 0, 3⟩, ⟨sp, 0, 0⟩, ⟨yi, 0, 0⟩] (wr.alloc (.cells #[.int .i64 (⟨lg, 1, 6⟩ : Bd).n, .int .i64 (⟨lg, 1, 6⟩ : Bd).low, .int .i64 (⟨lg, 1, 6⟩ : Bd).high] 128)) (by omega) hL.out (hJ _ _ _ hj ((Below.refl _ _).alloc (Nat.le_refl _) _)); simp only [Bd.val] at hy; gi_wp2; refine hR.mono ?_; rintro e C (⟨rfl, hj', hr⟩ | ⟨rfl, hx⟩); (gi_wp2; go_roundw; (case rel => exact ⟨1, by omega, rfl, by rw [hL.out]; exact hj'⟩); (case measure => simp [intOf])); (gi_wp2; refine bodyPost_ret (results_none rfl _ _ _) rfl ?_; exact ⟨⟨_, rfl⟩, .inr ⟨_, hx⟩⟩))); ((obtain ⟨fn, tmps, assign, body, hy, hR⟩ := hY (10 - 1) [⟨lg, 1, 6⟩] ⟨th, 1, 16⟩ [⟨po, 0, 2⟩, ⟨wt, 0, 3⟩, ⟨sp, 0, 0⟩, ⟨yi, 0, 0⟩] (wr.alloc (.cells #[.int .i64 (⟨th, 1, 16⟩ : Bd).n, .int .i64 (⟨th, 1, 16⟩ : Bd).low, .int .i64 (⟨th, 1, 16⟩ : Bd).high] 128)) (by omega) hL.out (hJ _ _ _ hj ((Below.refl _ _).alloc (Nat.le_refl _) _)); simp only [Bd.val] at hy; gi_wp2; refine hR.mono ?_; rintro e C (⟨rfl, hj', hr⟩ | ⟨rfl, hx⟩); (gi_wp2; go_roundw; (case rel => exact ⟨2, by omega, rfl, by rw [hL.out]; exact hj'⟩); (case measure => simp [intOf])); (gi_wp2; refine bodyPost_ret (results_none rfl _ _ _) rfl ?_; exact ⟨⟨_, rfl⟩, .inr ⟨_, hx⟩⟩))); ((obtain ⟨fn, tmps, assign, body, hy, hR⟩ := hY (10 - 1) [⟨lg, 1, 6⟩, ⟨th, 1, 16⟩] ⟨po, 0, 2⟩ [⟨wt, 0, 3⟩, ⟨sp, 0, 0⟩, ⟨yi, 0, 0⟩] (wr.alloc (.cells #[.int .i64 (⟨po, 0, 2⟩ : Bd).n, .int .i64 (⟨po, 0, 2⟩ : Bd).low, .int .i64 (⟨po, 0, 2⟩ : Bd).high] 128)) (by omega) hL.out (hJ _ _ _ hj ((Below.refl _ _).alloc (Nat.le_refl _) _)); simp only [Bd.val] at hy; gi_wp2; refine hR.mono ?_; rintro e C (⟨rfl, hj', hr⟩ | ⟨rfl, hx⟩); (gi_wp2; go_roundw; (case rel => exact ⟨3, by omega, rfl, by rw [hL.out]; exact hj'⟩); (case measure => simp [intOf])); (gi_wp2; refine bodyPost_ret (results_none rfl _ _ _) rfl ?_; exact ⟨⟨_, rfl⟩, .inr ⟨_, hx⟩⟩))); ((obtain ⟨fn, tmps, assign, body, hy, hR⟩ := hY (10 - 1) [⟨lg, 1, 6⟩, ⟨th, 1, 16⟩, ⟨po, 0, 2⟩] ⟨wt, 0, 3⟩ [⟨sp, 0, 0⟩, ⟨yi, 0, 0⟩] (wr.alloc (.cells #[.int .i64 (⟨wt, 0, 3⟩ : Bd).n, .int .i64 (⟨wt, 0, 3⟩ : Bd).low, .int .i64 (⟨wt, 0, 3⟩ : Bd).high] 128)) (by omega) hL.out (hJ _ _ _ hj ((Below.refl _ _).alloc (Nat.le_refl _) _)); simp only [Bd.val] at hy; gi_wp2; refine hR.mono ?_; rintro e C (⟨rfl, hj', hr⟩ | ⟨rfl, hx⟩); (gi_wp2; go_roundw; (case rel => exact ⟨4, by omega, rfl, by rw [hL.out]; exact hj'⟩); (case measure => simp [intOf])); (gi_wp2; refine bodyPost_ret (results_none rfl _ _ _) rfl ?_; exact ⟨⟨_, rfl⟩, .inr ⟨_, hx⟩⟩))); ((obtain ⟨fn, tmps, assign, body, hy, hR⟩ := hY (10 - 1) [⟨lg, 1, 6⟩, ⟨th, 1, 16⟩, ⟨po, 0, 2⟩, ⟨wt, 0, 3⟩] ⟨sp, 0, 0⟩ [⟨yi, 0, 0⟩] (wr.alloc (.cells #[.int .i64 (⟨sp, 0, 0⟩ : Bd).n, .int .i64 (⟨sp, 0, 0⟩ : Bd).low, .int .i64 (⟨sp, 0, 0⟩ : Bd).high] 128)) (by omega) hL.out (hJ _ _ _ hj ((Below.refl _ _).alloc (Nat.le_refl _) _)); simp only [Bd.val] at hy; gi_wp2; refine hR.mono ?_; rintro e C (⟨rfl, hj', hr⟩ | ⟨rfl, hx⟩); (gi_wp2; go_roundw; (case rel => exact ⟨5, by omega, rfl, by rw [hL.out]; exact hj'⟩); (case measure => simp [intOf])); (gi_wp2; refine bodyPost_ret (results_none rfl _ _ _) rfl ?_; exact ⟨⟨_, rfl⟩, .inr ⟨_, hx⟩⟩))); ((obtain ⟨fn, tmps, assign, body, hy, hR⟩ := hY (10 - 1) [⟨lg, 1, 6⟩, ⟨th, 1, 16⟩, ⟨po, 0, 2⟩, ⟨wt, 0, 3⟩, ⟨sp, 0, 0⟩] ⟨yi, 0, 0⟩ [] (wr.alloc (.cells #[.int .i64 (⟨yi, 0, 0⟩ : Bd).n, .int .i64 (⟨yi, 0, 0⟩ : Bd).low, .int .i64 (⟨yi, 0, 0⟩ : Bd).high] 128)) (by omega) hL.out (hJ _ _ _ hj ((Below.refl _ _).alloc (Nat.le_refl _) _)); simp only [Bd.val] at hy; gi_wp2; refine hR.mono ?_; rintro e C (⟨rfl, hj', hr⟩ | ⟨rfl, hx⟩); (gi_wp2; go_roundw; (case rel => exact ⟨6, by omega, rfl, by rw [hL.out]; exact hj'⟩); (case measure => simp [intOf])); (gi_wp2; refine bodyPost_ret (results_none rfl _ _ _) rfl ?_; exact ⟨⟨_, rfl⟩, .inr ⟨_, hx⟩⟩))); (gi_wp2; go_end0; exact ⟨⟨_, rfl⟩, .inl (by rw [hL.out]; exact hj)⟩)))
end Go.Proofs.YtjbcfjfnobklkaaGreat

/- Contracts of layer 2's functions and of the document's: what each call returns, as the plain functions say; what was there is kept. -/
namespace Go.Proofs.YtjbcfjfnobklkaaGreat
set_option linter.unusedVariables false
set_option linter.unusedSimpArgs false
open Go.ChangeShapes Go.WideShapes Go.ChangeAt Go.RowKit Go.Shelf
attribute [local go_sem] Oper.semAt_some

set_option maxRecDepth 100000 in
set_option maxHeartbeats 4000000 in
theorem ccheck_any (lg th po wt sp yi : Int) (si : Bool) (w : World) :
    Calls Tryz.prog 52 #[.agg #[.int .i64 lg, .int .i64 th, .int .i64 po, .int .i64 wt, .int .i64 sp, .int .i64 yi, .bool si]] w fun e w' => e = .returned (.int .i64 (ckI lg th po wt sp yi)) ∧ Kept w w' := by
  refine (callsIn_wide (n := 20)).1 ?_
  refine callsIn_of_wp_marks Tryz.func52 rfl trivial ?_
  simp only [Tryz.ntmps52, List.size_toArray, List.length_cons, List.length_nil, Nat.reduceAdd, Nat.reduceSub, Array.replicate_succ, Array.replicate_zero, List.push_toArray, List.append_toArray, List.nil_append, List.cons_append]
  gi_wp2
  have hc0 : ((w.alloc (.cells #[.int .i64 lg, .int .i64 th, .int .i64 po, .int .i64 wt, .int .i64 sp, .int .i64 yi, .bool si] 23)).alloc (.cells #[.int .i64 0] 51)).cell? ⟨w.heap.size + 1, 0, none⟩ = some (.int .i64 0) := by simp
  have hf0 : ((w.alloc (.cells #[.int .i64 lg, .int .i64 th, .int .i64 po, .int .i64 wt, .int .i64 sp, .int .i64 yi, .bool si] 23)).alloc (.cells #[.int .i64 0] 51)).frozen? ⟨w.heap.size + 1, 0, none⟩ = false := by simp
  have hB0 : Below w.heap.size w ((w.alloc (.cells #[.int .i64 lg, .int .i64 th, .int .i64 po, .int .i64 wt, .int .i64 sp, .int .i64 yi, .bool si] 23)).alloc (.cells #[.int .i64 0] 51)) := ((Below.refl _ _).alloc (Nat.le_refl _) _).alloc (by simp) _
  have hs0 : ((w.alloc (.cells #[.int .i64 lg, .int .i64 th, .int .i64 po, .int .i64 wt, .int .i64 sp, .int .i64 yi, .bool si] 23)).alloc (.cells #[.int .i64 0] 51)).heap.size = w.heap.size + 2 := by simp
  revert hc0 hf0 hB0 hs0
  generalize ((w.alloc (.cells #[.int .i64 lg, .int .i64 th, .int .i64 po, .int .i64 wt, .int .i64 sp, .int .i64 yi, .bool si] 23)).alloc (.cells #[.int .i64 0] 51)) = V
  intro hc0 hf0 hB0 hs0
  refine wpIn_over (gf := 106) (bd := #[.agg #[.int .i64 lg, .int .i64 th, .int .i64 po, .int .i64 wt, .int .i64 sp, .int .i64 yi, .bool si]]) (lb := #[]) rfl (enters_of Tryz.func106 (by kernel_rfl) rfl) (bounds_iter lg th po wt sp yi si w.heap.size V) (by omega) rfl
    (fun pre A => A.cell? ⟨w.heap.size + 1, 0, none⟩ = some (.int .i64 0) ∧ A.frozen? ⟨w.heap.size + 1, 0, none⟩ = false ∧ Below w.heap.size w A ∧ okL pre = true)
    (fun c pre A => c = .ret ∧ A.cell? ⟨w.heap.size + 1, 0, none⟩ = some (.int .i64 20) ∧ Below w.heap.size w A ∧ mayB lg th po wt sp yi = false)
    (fun s A C hs ht => ⟨ht.cell hs.1, (ht.frozen hs.1).trans hs.2.1, ht.below (by omega) hs.2.2.1, hs.2.2.2⟩)
    (fun c s A C hs ht => ⟨hs.1, ht.cell hs.2.1, ht.below (by omega) hs.2.2.1, hs.2.2.2⟩)
    ⟨hc0, hf0, hB0, rfl⟩ ?round ?done ?stop
  case round =>
    rintro m l pre suf ⟨n, low, high⟩ A hm hxs hsz ⟨hc, hf, hB, hp⟩
    simp only [Bd.val]
    have hbl : (⟨w.heap.size + 1, 0, none⟩ : Addr).block < A.heap.size := by show w.heap.size + 1 < A.heap.size; omega
    gi_wp2
    refine ⟨(Below.refl _ _).alloc (Nat.le_refl _) _, fun C ht hsC => ?_⟩
    have h1m : 1 ≤ m := by omega
    have hn0 : C.cell? ⟨A.heap.size, 0, none⟩ = some (.int .i64 n) := ht.cell (by simp)
    have hn1 : C.cell? ⟨A.heap.size, 1, none⟩ = some (.int .i64 low) := ht.cell (by simp)
    have hn2 : C.cell? ⟨A.heap.size, 2, none⟩ = some (.int .i64 high) := ht.cell (by simp)
    have hA1 : Below A.heap.size A (A.alloc (.cells #[.int .i64 n, .int .i64 low, .int .i64 high] 128)) := (Below.refl _ _).alloc (Nat.le_refl _) _
    have hcC := ht.cell ((hA1.cell (p := ⟨w.heap.size + 1, 0, none⟩) hbl).trans hc)
    have hfC := (ht.frozen ((hA1.cell (p := ⟨w.heap.size + 1, 0, none⟩) hbl).trans hc)).trans ((hA1.frozen (p := ⟨w.heap.size + 1, 0, none⟩) hbl).trans hf)
    have hBC : Below w.heap.size w C := ht.below (by omega) (hB.trans (hA1.mono hB.size))
    clear ht hc hf hA1
    cases hx : inB n low high
    · gi_wp2_with (refine ⟨trivial, ?_⟩; gi_at_call 107; refine (CallsIn.inRound l (callsIn_wide.2 (within_any _ _ _ _))).mono ?_; rintro e D ⟨rfl, hD⟩; have hcD := (hD.cell (p := ⟨w.heap.size + 1, 0, none⟩) (by show w.heap.size + 1 < C.heap.size; omega)).trans hcC; have hfD := (hD.frozen (p := ⟨w.heap.size + 1, 0, none⟩) (by show w.heap.size + 1 < C.heap.size; omega)).trans hfC)
      refine ⟨(Rnd.of_below hD (by omega) (by omega)).setCell (by simp) (by simp) _, rfl, World.cell?_setCell_same' _ _ _ (by rw [hcD]; rfl), (hBC.trans (hD.mono (by omega))).setCell (by simp) _, may_not hxs hx⟩
    · gi_wp2_with (refine ⟨trivial, ?_⟩; gi_at_call 107; refine (CallsIn.inRound l (callsIn_wide.2 (within_any _ _ _ _))).mono ?_; rintro e D ⟨rfl, hD⟩; have hcD := (hD.cell (p := ⟨w.heap.size + 1, 0, none⟩) (by show w.heap.size + 1 < C.heap.size; omega)).trans hcC; have hfD := (hD.frozen (p := ⟨w.heap.size + 1, 0, none⟩) (by show w.heap.size + 1 < C.heap.size; omega)).trans hfC)
      exact ⟨Rnd.of_below hD (by omega) (by omega), hcD, hfD, hBC.trans (hD.mono (by omega)), okL_snoc hp hx⟩
  case done =>
    rintro D W hD ⟨hc, hf, hB, hp⟩ hK
    gi_wp2
    have hK1 := (Below.heap_setCell W ⟨w.heap.size + 1, 0, none⟩ (.int .i64 0) D (by show D ≠ w.heap.size + 1; omega)).trans hK
    have hT : Turn (w.heap.size + 2) (W.setCell ⟨w.heap.size + 1, 0, none⟩ (.int .i64 0)) ((W.setCell ⟨w.heap.size + 1, 0, none⟩ (.int .i64 0)).putObj D (.deferred none)) := Turn.putObj hK1 rfl (by omega) _
    have hW := hT.cell (p := ⟨w.heap.size + 1, 0, none⟩) (World.cell?_setCell_same' _ _ _ (by rw [hc]; rfl))
    have hBW := hT.below (by omega) (hB.setCell (p := ⟨w.heap.size + 1, 0, none⟩) (by simp) (.int .i64 0))
    refine ⟨by simp, .inl ⟨_, _, rfl, run_takeDeferred hK1, ?_⟩⟩
    revert hW hBW
    generalize ((W.setCell ⟨w.heap.size + 1, 0, none⟩ (.int .i64 0)).putObj D (.deferred none)) = X
    intro hW hBW
    exact ⟨.int .i64 0, by simp [results, Tryz.results52, go_sem, hW], ret_int (by rw [ckI, if_pos (show mayB lg th po wt sp yi = true from hp)]), hBW⟩
  case stop =>
    rintro D c pre W hD ⟨rfl, hc, hB, hm⟩ hK
    gi_wp2
    have hT : Turn (w.heap.size + 2) W (W.putObj D (.deferred none)) := Turn.putObj hK rfl (by omega) _
    have hW := hT.cell hc
    have hBW := hT.below (by omega) hB
    refine ⟨by simp, .inl ⟨_, _, rfl, run_takeDeferred hK, ?_⟩⟩
    revert hW hBW
    generalize (W.putObj D (.deferred none)) = X
    intro hW hBW
    exact ⟨.int .i64 20, by simp [results, Tryz.results52, go_sem, hW], ret_int (by rw [ckI, hm]; rfl), hBW⟩
end Go.Proofs.YtjbcfjfnobklkaaGreat

/- Contracts of layer 2's other functions, and of the document's: a configuration by value. -/
namespace Go.Proofs.YtjbcfjfnobklkaaGreat
set_option linter.unusedVariables false
set_option linter.unusedSimpArgs false
open Go.ChangeShapes Go.WideShapes Go.ChangeAt Go.RowKit

theorem cmay_any (lg th po wt sp yi : Int) (si : Bool) (w : World) : Calls Tryz.prog 129 #[.agg #[.int .i64 lg, .int .i64 th, .int .i64 po, .int .i64 wt, .int .i64 sp, .int .i64 yi, .bool si]] w fun e w' => e = .returned (.bool (mayB lg th po wt sp yi)) ∧ Kept w w' := by
  cases hm : mayB lg th po wt sp yi
  · have hk := ck_no hm
    go_enter Tryz.func129, Tryz.ntmps129
    go_wp2_with (first | (go_at_call 52; refine (ccheck_any _ _ _ _ _ _ _ _).mono ?_; rintro e wx ⟨rfl, hgx⟩; obtain ⟨hcx, hfx⟩ := bcell hgx; have hz0 : w.heap.size < wx.heap.size := (by have := hgx.size; (try simp at this); omega)))
    go_ret
    exact ⟨rfl, by repeat' (first | (with_reducible exact Below.refl _ _) | (with_reducible assumption) | (with_reducible refine kept_alloc ?_ _) | (with_reducible refine kept_drewN ?_ _) | (with_reducible refine Below.drew ?_) | (with_reducible refine Below.setCell ?_ (by first | omega | (simp; omega) | (simp; done)) _) | (refine kept_trans ?_ (by with_reducible assumption)))⟩
  · have hk := ck_yes hm
    go_enter Tryz.func129, Tryz.ntmps129
    go_wp2_with (first | (go_at_call 52; refine (ccheck_any _ _ _ _ _ _ _ _).mono ?_; rintro e wx ⟨rfl, hgx⟩; obtain ⟨hcx, hfx⟩ := bcell hgx; have hz0 : w.heap.size < wx.heap.size := (by have := hgx.size; (try simp at this); omega)))
    go_ret
    exact ⟨rfl, by repeat' (first | (with_reducible exact Below.refl _ _) | (with_reducible assumption) | (with_reducible refine kept_alloc ?_ _) | (with_reducible refine kept_drewN ?_ _) | (with_reducible refine Below.drew ?_) | (with_reducible refine Below.setCell ?_ (by first | omega | (simp; omega) | (simp; done)) _) | (refine kept_trans ?_ (by with_reducible assumption)))⟩

theorem croom_any (lg th po wt sp yi : Int) (si : Bool) (w : World) : Calls Tryz.prog 64 #[.agg #[.int .i64 lg, .int .i64 th, .int .i64 po, .int .i64 wt, .int .i64 sp, .int .i64 yi, .bool si]] w fun e w' => e = .returned (.int .i64 (roomI lg th po wt sp yi)) ∧ Kept w w' := by
  cases hm : mayB lg th po wt sp yi
  · have hk := room_no hm
    go_enter Tryz.func64, Tryz.ntmps64
    go_wp2_with (first | (go_at_call 129; refine (cmay_any _ _ _ _ _ _ _ _).mono ?_; rintro e wx ⟨rfl, hgx⟩; obtain ⟨hcx, hfx⟩ := bcell hgx; have hz0 : w.heap.size < wx.heap.size := (by have := hgx.size; (try simp at this); omega)))
    go_ret
    exact ⟨ret_int (by rw [hk]), by repeat' (first | (with_reducible exact Below.refl _ _) | (with_reducible assumption) | (with_reducible refine kept_alloc ?_ _) | (with_reducible refine kept_drewN ?_ _) | (with_reducible refine Below.drew ?_) | (with_reducible refine Below.setCell ?_ (by first | omega | (simp; omega) | (simp; done)) _) | (refine kept_trans ?_ (by with_reducible assumption)))⟩
  · have hk := room_yes hm
    have hp := may_iff.1 hm
    obtain rfl | rfl | rfl | rfl | rfl | rfl : lg = 1 ∨ lg = 2 ∨ lg = 3 ∨ lg = 4 ∨ lg = 5 ∨ lg = 6 := by omega
    all_goals
      clear hp
      go_enter Tryz.func64, Tryz.ntmps64
      go_wp2_with (first | (go_at_call 129; refine (cmay_any _ _ _ _ _ _ _ _).mono ?_; rintro e wx ⟨rfl, hgx⟩; obtain ⟨hcx, hfx⟩ := bcell hgx; have hz0 : w.heap.size < wx.heap.size := (by have := hgx.size; (try simp at this); omega)))
      go_ret
      exact ⟨ret_int (by rw [hk]; rfl), by repeat' (first | (with_reducible exact Below.refl _ _) | (with_reducible assumption) | (with_reducible refine kept_alloc ?_ _) | (with_reducible refine kept_drewN ?_ _) | (with_reducible refine Below.drew ?_) | (with_reducible refine Below.setCell ?_ (by first | omega | (simp; omega) | (simp; done)) _) | (refine kept_trans ?_ (by with_reducible assumption)))⟩

set_option maxHeartbeats 4000000 in
set_option maxRecDepth 100000 in
theorem rccheck_any (lg th po wt sp yi : Int) (si : Bool) (w : World) : Calls Tryz.prog 166 #[.agg #[.int .i64 lg, .int .i64 th, .int .i64 po, .int .i64 wt, .int .i64 sp, .int .i64 yi, .bool si]] w fun e w' => e = .returned (.int .i64 (ckI lg th po wt sp yi)) ∧ Kept w w' := by
  go_enter Tryz.func166, Tryz.ntmps166
  go_wp2
  all_goals (go_ret; exact ⟨ret_int (by (try simp only [bne_eq_false_iff_eq, beq_eq_false_iff_ne, ne_eq, bne_iff_ne, beq_iff_eq] at *); first | rw [ck_yes (may_iff.2 (by omega))] | rw [ck_no (may_f (by omega))]), by repeat' (first | (with_reducible exact Below.refl _ _) | (with_reducible assumption) | (with_reducible refine kept_alloc ?_ _) | (with_reducible refine kept_drewN ?_ _) | (with_reducible refine Below.drew ?_) | (with_reducible refine Below.setCell ?_ (by first | omega | (simp; omega) | (simp; done)) _) | (refine kept_trans ?_ (by with_reducible assumption)))⟩)

end Go.Proofs.YtjbcfjfnobklkaaGreat

/- 'copy' into a row of the call's own, of elements of whatever size, as lists. -/
namespace Go.Proofs.YtjbcfjfnobklkaaGreat
set_option linter.unusedVariables false
set_option linter.unusedSimpArgs false
open Go.ChangeShapes Go.WideShapes Go.ChangeAt Go.RowKit

theorem run_copy_wide {P : Program} (w : World) (dT sT ty elem : TypeId) (g dLen dCap sLen sCap k : Nat) (sp : Option Addr) (cur : Array Value) (t : TypeId) (cs : List Value)
    (hu : P.underlying dT = some (.slice elem)) (hs : (P.info? elem).map (·.size) = some k) (hg : w.heap[g]? = some (.cells cur t (0, 0))) (hn : cs.length = Nat.min sLen dLen * k)
    (hsrc : cs ≠ [] → ∃ a, sp = some a ∧ ∀ j v, cs[j]? = some v → w.cell? (a.add j) = some v) (hfit : cs.length ≤ cur.size) (h1 : ∀ v ∈ cs, v.oneCell' = true) :
    (Builtin.copy_ #[dT, sT] ty #[.slice (some ⟨g, 0, none⟩) dLen dCap, .slice sp sLen sCap]).run P w = .ok (goInt (Nat.min sLen dLen)) (w.setRow g (cs ++ cur.toList.drop cs.length).toArray) := by
  have hst := run_storeCells_at P g 0 t cs 0 cur w hg (by simpa using hfit) h1
  simp only [Nat.zero_add, List.take_zero, List.nil_append] at hst
  cases hq : P.info? elem with
  | none => simp [hq] at hs
  | some i =>
    have hi : i.size = k := by simpa [hq] using hs
    by_cases h0 : cs = []
    · subst h0
      have h2 : Nat.min sLen dLen * k = 0 := by simpa using hn.symm
      simp only [List.length_nil, List.drop_zero, List.nil_append, Array.toArray_toList] at hst ⊢
      cases sp with
      | none => simp [Builtin.copy_, run_underlying hu, Builtin.lenOf, Builtin.firstCells, sizeOf, typeInfo, hq, hi, h2, hst, loadCells, loadCellsFrom]
      | some a => simp [Builtin.copy_, run_underlying hu, Builtin.lenOf, Builtin.firstCells, sizeOf, typeInfo, hq, hi, h2, hst, loadCells, loadCellsFrom]
    · obtain ⟨a, rfl, hc⟩ := hsrc h0
      have hl := run_loadCells_list (P := P) w a cs hc
      simp [Builtin.copy_, run_underlying hu, Builtin.lenOf, Builtin.firstCells, sizeOf, typeInfo, hq, hi, ← hn, hl, hst]

theorem add_plain (b o j : Nat) : (⟨b, o, none⟩ : Addr).add j = ⟨b, o + j, none⟩ := by unfold Addr.add; split <;> simp_all

/-- What a slice's cells are, one by one. -/
theorem Sl.flat {α : Type} {W : World} {k : Nat} {enc : α → List Value} (he : Enc k enc) (hk : 0 < k) {xs : List α} {p : Option Addr} {n c : Nat} (h : Sl W k enc xs (.slice p n c)) (hne : xs ≠ []) :
    ∃ a, p = some a ∧ ∀ j v, (xs.flatMap enc)[j]? = some v → W.cell? (a.add j) = some v := by
  obtain ⟨_, _, e, _, _, _, h4⟩ := h.is
  cases e
  obtain ⟨b, off, rfl, _, hcell⟩ := h4 hne
  refine ⟨_, rfl, fun j v hj => ?_⟩
  have hj' := (List.getElem?_eq_some_iff.1 hj).1
  rw [flat_len he] at hj'
  have hd : j / k < xs.length := Nat.div_lt_of_lt_mul (by rw [Nat.mul_comm]; exact hj')
  have hmo := Nat.mod_lt j hk
  have hdm : j / k * k + j % k = j := by rw [Nat.mul_comm]; exact Nat.div_add_mod j k
  have h1 := hcell (j / k) xs[j / k] (List.getElem?_eq_getElem hd) (j % k) hmo
  have h2 := flat_get he xs (j / k) (j % k) xs[j / k] (List.getElem?_eq_getElem hd) hmo
  rw [hdm, hj] at h2
  rw [← h2, Nat.add_assoc, hdm] at h1
  rw [← h1, add_plain]

/-- 'copy(m, l)', m the call's own, as long as l. -/
theorem wpList_copy_all {P : Program} {w wb : World} {α : Type} {ops : Array Oper} {rest : List Oper} {o : Oper} {a : Act} {Q : Exit → Act → World → Prop} (hgd : o.guard = none) (d s : Operand) (dT sT : TypeId)
    (ho : o.op = .call { callee := .builtin .copy, args := #[d, s], argTypes := #[dT, sT] }) {elem e : TypeId} (hu : P.underlying dT = some (.slice elem)) {k : Nat} (hsz : (P.info? elem).map (·.size) = some k) (hk : 0 < k)
    {enc : α → List Value} (he : Enc k enc) {xs ys : List α} {g n c cap : Nat} {p : Option Addr} (hd : a.eval d = .slice (some ⟨g, 0, none⟩) n cap) (hs : a.eval s = .slice p n c) (hx : xs.length = n) (hy : ys.length = n)
    (hown : Ow w wb.heap.size e k enc xs (.slice (some ⟨g, 0, none⟩) n cap)) (hsl : Sl w k enc ys (.slice p n c)) (hB : Below wb.heap.size wb w)
    (h : ∀ w', Ow w' wb.heap.size e k enc ys (.slice (some ⟨g, 0, none⟩) n cap) → Below wb.heap.size wb w' → wpList P ops Q rest (a.put o.dst (goInt n)) w') : wpList P ops Q (o :: rest) a w := by
  obtain ⟨_, ⟨e1, _⟩ | ⟨_, _, cur, e1, hb, hg, hl, hm, hcs, ht⟩⟩ := hown
  · cases e1
  cases e1
  rw [← hy] at hsl h hs hd hl
  have hfl := flat_len he ys
  have hrun := run_copy_wide (P := P) w dT sT o.type elem g ys.length cap ys.length c k p cur e (ys.flatMap enc) hu hsz hg (by rw [hfl]; simp [Nat.min_def]) (fun hne => Sl.flat he hk hsl (by rintro rfl; simp at hne)) (by rw [hfl, hcs]; exact Nat.mul_le_mul_right k (by omega)) (fun v hv => by
    obtain ⟨y, _, hy⟩ := List.mem_flatMap.1 hv
    exact he.one y v hy)
  have hmin : Nat.min ys.length ys.length = ys.length := Nat.min_self _
  rw [hmin] at hrun
  obtain ⟨F, hF⟩ : ∃ F, ys.flatMap enc = F := ⟨_, rfl⟩
  rw [hF] at hrun hfl
  have hsz2 : (F ++ cur.toList.drop F.length).length = cap * k := by
    have : ys.length * k ≤ cap * k := Nat.mul_le_mul_right k (by omega)
    have h3 : cur.toList.length = cap * k := by simpa using hcs
    rw [List.length_append, List.length_drop, hfl, h3]; omega
  have htk : (F ++ cur.toList.drop F.length).take (ys.length * k) = F := by
    rw [List.take_append_of_le_length (by rw [hfl]; exact Nat.le_refl _), List.take_of_length_le (by rw [hfl]; exact Nat.le_refl _)]
  generalize F ++ cur.toList.drop F.length = G at *
  refine wpList_plain hgd fun K hK => ?_
  unfold Oper.wp
  simp [execOp, ho, resolve, invoke, builtin, hd, hs, hrun, Result.andThen]
  exact hK _ _ (h _ ⟨by rw [hF]; exact hfl, .inr ⟨g, cap, G.toArray, rfl, hb, setRow_heap w g cur _ e _ hg, hl, hm, by simpa using hsz2, by rw [hF]; exact htk⟩⟩ (below_setRow hB hb _))
end Go.Proofs.YtjbcfjfnobklkaaGreat

/- Layer 9: slots in memory; laid anew; the two closures; one changed. -/
namespace Go.Proofs.YtjbcfjfnobklkaaGreat
set_option linter.unusedVariables false
set_option linter.unusedSimpArgs false
open Go.ChangeShapes Go.WideShapes Go.ChangeAt Go.RowKit

theorem slo_info : (Tryz.prog.info? 64).map (fun i => (i.zero, i.size, i.bytes)) = some (some (.agg #[.int .i64 0, .int .i64 0]), 2, 16) := by kernel_rfl
theorem slo_size : (Tryz.prog.info? 64).map (·.size) = some 2 := by kernel_rfl
theorem ss_at {W : World} {l : List Slo} {b o n c : Nat} (h : Sl W 2 Slo.cells l (.slice (some ⟨b, o, none⟩) n c)) {j : Nat} (hj : j < l.length) : W.cell? ⟨b, o + j * 2, none⟩ = some (.int .i64 (gs l j).st) ∧ W.cell? ⟨b, o + j * 2 + 1, none⟩ = some (.int .i64 (gs l j).vl) := by
  obtain ⟨p, k, e, _, _, _, h4⟩ := h.is
  cases e
  obtain ⟨b', o', e, _, h5⟩ := h4 (by intro h; subst h; simp at hj)
  cases e
  have h6 := h5 j (gs l j) (gs_some hj)
  have h7 := h6 0 (by omega)
  have h8 := h6 1 (by omega)
  exact ⟨by simpa [Slo.cells] using h7, by simpa [Slo.cells] using h8⟩
theorem Ow.len {w : World} {base n cap : Nat} {p : Option Addr} {l : List Slo} (h : Ow w base 64 2 Slo.cells l (.slice p n cap)) : n = l.length := by
  obtain ⟨_, ⟨e, h0⟩ | ⟨_, _, cur, e, _⟩⟩ := h
  · cases e; exact h0.symm
  · cases e; rfl
theorem Ow.slots {w : World} {base g n cap : Nat} {l : List Slo} (h : Ow w base 64 2 Slo.cells l (.slice (some ⟨g, 0, none⟩) n cap)) {i : Nat} (hi : i < l.length) :
    w.cell? ⟨g, i * 2, none⟩ = some (.int .i64 (gs l i).st) ∧ w.cell? ⟨g, i * 2 + 1, none⟩ = some (.int .i64 (gs l i).vl) ∧ w.frozen? ⟨g, i * 2, none⟩ = false ∧ w.frozen? ⟨g, i * 2 + 1, none⟩ = false := by
  have h1 := ss_at (Ow.sl Slo.enc h) hi
  rw [Nat.zero_add] at h1
  obtain ⟨_, ⟨e, _⟩ | ⟨_, _, cur, e, _, hg, _⟩⟩ := h
  · cases e
  cases e
  exact ⟨h1.1, h1.2, by simp [World.frozen?, hg], by simp [World.frozen?, hg]⟩
theorem flat_setS : ∀ (l : List Slo) (i : Nat) (x : Int), (l.flatMap Slo.cells).set (i * 2) (.int .i64 x) = (l.set i ⟨x, (gs l i).vl⟩).flatMap Slo.cells
  | [], _, _ => rfl
  | _ :: _, 0, _ => rfl
  | e :: l, i + 1, x => by
    have ih := flat_setS l i x
    rw [show (i + 1) * 2 = i * 2 + 1 + 1 by omega]
    simp only [List.flatMap_cons, Slo.cells, List.cons_append, List.nil_append, List.set_cons_succ, gs, List.getD_cons_succ] at ih ⊢
    rw [ih]
theorem flat_setV : ∀ (l : List Slo) (i : Nat) (x : Int), (l.flatMap Slo.cells).set (i * 2 + 1) (.int .i64 x) = (l.set i ⟨(gs l i).st, x⟩).flatMap Slo.cells
  | [], _, _ => rfl
  | _ :: _, 0, _ => rfl
  | e :: l, i + 1, x => by
    have ih := flat_setV l i x
    rw [show (i + 1) * 2 + 1 = i * 2 + 1 + 1 + 1 by omega]
    simp only [List.flatMap_cons, Slo.cells, List.cons_append, List.nil_append, List.set_cons_succ, gs, List.getD_cons_succ] at ih ⊢
    rw [ih]
theorem Ow.setSt {w : World} {base g n cap : Nat} {l : List Slo} (h : Ow w base 64 2 Slo.cells l (.slice (some ⟨g, 0, none⟩) n cap)) (i : Nat) (x : Int) :
    Ow (w.setCell ⟨g, i * 2, none⟩ (.int .i64 x)) base 64 2 Slo.cells (l.set i ⟨x, (gs l i).vl⟩) (.slice (some ⟨g, 0, none⟩) n cap) := by
  obtain ⟨h0, ⟨h1, _⟩ | ⟨_, _, cur, h1, hb, hg, hl, hm, hs, ht⟩⟩ := h
  · cases h1
  cases h1
  refine ⟨flat_len Slo.enc _, .inr ⟨g, cap, cur.setIfInBounds (i * 2) (.int .i64 x), by rw [List.length_set], hb, ?_, by simpa using hl, hm, by simpa using hs, ?_⟩⟩
  · simp [World.setCell, Array.getElem?_modify, hg]
  · rw [← flat_setS l i x, ← ht, List.length_set]
    simp [List.take_set]
theorem Ow.setVl {w : World} {base g n cap : Nat} {l : List Slo} (h : Ow w base 64 2 Slo.cells l (.slice (some ⟨g, 0, none⟩) n cap)) (i : Nat) (x : Int) :
    Ow (w.setCell ⟨g, i * 2 + 1, none⟩ (.int .i64 x)) base 64 2 Slo.cells (l.set i ⟨(gs l i).st, x⟩) (.slice (some ⟨g, 0, none⟩) n cap) := by
  obtain ⟨h0, ⟨h1, _⟩ | ⟨_, _, cur, h1, hb, hg, hl, hm, hs, ht⟩⟩ := h
  · cases h1
  cases h1
  refine ⟨flat_len Slo.enc _, .inr ⟨g, cap, cur.setIfInBounds (i * 2 + 1) (.int .i64 x), by rw [List.length_set], hb, ?_, by simpa using hl, hm, by simpa using hs, ?_⟩⟩
  · simp [World.setCell, Array.getElem?_modify, hg]
  · rw [← flat_setV l i x, ← ht, List.length_set]
    simp [List.take_set]
theorem zero_slots (k : Nat) : (List.replicate k (⟨0, 0⟩ : Slo)).flatMap Slo.cells = List.replicate (k * 2) (.int .i64 0) := by
  induction k with
  | zero => rfl
  | succ k ih => rw [List.replicate_succ, List.flatMap_cons, ih, show (k + 1) * 2 = k * 2 + 1 + 1 by omega, List.replicate_succ, List.replicate_succ]; rfl
theorem made_slots (k : Nat) : (madeCells #[Value.int .i64 0, .int .i64 0] (k * 2)).toList = (List.replicate k (⟨0, 0⟩ : Slo)).flatMap Slo.cells := by
  rw [zero_slots]
  apply List.ext_getElem?
  intro j
  by_cases hj : j < k * 2
  · have : j % 2 = 0 ∨ j % 2 = 1 := by omega
    rcases this with e | e <;> simp [madeCells, hj, e]
  · rw [List.getElem?_eq_none (by simp [size_madeCells]; omega), List.getElem?_eq_none (by simp; omega)]
/-- A row of zeros. -/
theorem Ow.zeroS {w0 w : World} (k : Nat) (hk : k ≤ 1000) (hB : Below w0.heap.size w0 w) : Ow (w.alloc (.cells (madeCells #[Value.int .i64 0, .int .i64 0] (k * 2)) 64)) w0.heap.size 64 2 Slo.cells (List.replicate k ⟨0, 0⟩) (.slice (some ⟨w.heap.size, 0, none⟩) k k) := by
  have hl : (List.replicate k (⟨0, 0⟩ : Slo)).length = k := by simp
  exact Ow.made (W := w) (base := w0.heap.size) (e := 64) Slo.enc (List.replicate k ⟨0, 0⟩) (madeCells #[Value.int .i64 0, .int .i64 0] (k * 2)) (made_slots k) hB.size (by simp; unfold maxLen; omega) rfl hl
theorem mk_slots (c : Int) (k : Nat) (hc : c = (k : Int)) (hk : k ≤ 1000) (W : World) : (Instr.makeSlice 26 (.int .i64 c) (.int .i64 c)).run Tryz.prog W = .ok (.slice (some ⟨W.heap.size, 0, none⟩) k k) (W.alloc (.cells (madeCells #[Value.int .i64 0, .int .i64 0] (k * 2)) 64)) := by
  subst hc
  obtain ⟨i, hi, hz0, hz1, hz2⟩ := info_parts slo_info
  have := run_makeSlice (P := Tryz.prog) (w := W) 26 64 i (.agg #[.int .i64 0, .int .i64 0]) Tryz.underlying26 hi hz0 .i64 .i64 k k (by omega) (Int.le_refl _) (by rw [hz1]; simp; omega) (by rw [hz2]; omega) (by omega)
  rw [hz1] at this
  simpa [Value.cells] using this

/-- What a call that hands back slots of its own leaves. -/
def RetS (w : World) (r : List Slo) (e : Ending) (w' : World) : Prop :=
  ∃ g, e = .returned (.slice (some ⟨g, 0, none⟩) r.length r.length) ∧ w.heap.size ≤ g ∧ Ow w' w.heap.size 64 2 Slo.cells r (.slice (some ⟨g, 0, none⟩) r.length r.length) ∧ Kept w w'

theorem slaid_any (l : List Slo) (p : Option Addr) (k : Nat) (w : World) (hl : Sl w 2 Slo.cells l (.slice p l.length k)) (hm : l.length ≤ 1000) : Calls Tryz.prog 210 #[.slice p l.length k] w (RetS w l) := by
  have H := Lib.hid hl
  obtain ⟨N, hN⟩ : ∃ N, l.length = N := ⟨_, rfl⟩
  rw [hN] at hl hm
  unfold RetS
  rw [hN]
  have HN := Lib.hid hN
  have hmk := mk_slots N N rfl hm
  have HZ := Lib.hid (Ow.zeroS (w0 := w) (w := w) N hm (Below.refl _ _))
  have HL := Lib.hid (hl.kept (kept_alloc (Below.refl _ _) (.cells (madeCells #[Value.int .i64 0, .int .i64 0] (N * 2)) 64)))
  clear hN hl
  go_enter Tryz.func210, Tryz.ntmps210
  go_wp2_with (with_reducible refine wpList_copy_all (o := ⟨some 9, _, _, _, _, _⟩) (wb := w) rfl (.tmp 7) (.tmp 8) 26 26 rfl Tryz.underlying26 slo_size (by decide) Slo.enc rfl rfl (by simp) HN.out HZ.out HL.out (kept_alloc (Below.refl _ _) _) ?_; intro w1 ho1 hb1; have HO := Lib.hid ho1; clear ho1)
  go_ret
  exact ⟨w.heap.size, rfl, Nat.le_refl _, HO.out, hb1⟩
end Go.Proofs.YtjbcfjfnobklkaaGreat
