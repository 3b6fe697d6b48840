/- Texts merged: SlotDP, SlotEP, OpCP, ThCP, ThDP, FabCP, AbsP, FabDP, OutP, ObjP. -/
import Derived.Test.YtjbcfjfnobklkaaGreatZa5
import Derived.Shelf.Abstract
import Derived.Test.YtjbcfjfnobklkaaGreatZa4
import Derived.Test.YtjbcfjfnobklkaaGreatZa3
import Derived.Deep.RegionHeld3
import Derived.Lib.Hide
import Derived.Deep.Cut
import Derived.Deep.MidRow
import Derived.Laws.CopyRow
import Derived.Laws.Rows
/- Layer 9: what a closure does to a slot; one changed; whether slots may be; places at first. -/
namespace Go.Proofs.YtjbcfjfnobklkaaGreat
set_option linter.unusedVariables false
set_option linter.unusedSimpArgs false
open Go.ChangeShapes Go.WideShapes Go.ChangeAt Go.RowKit

theorem ow_mono {α : Type} {W : World} {a b k : Nat} {e : TypeId} {enc : α → List Value} {xs : List α} {v : Value} (h : Ow W b e k enc xs v) (hab : a ≤ b) : Ow W a e k enc xs v := by
  obtain ⟨h0, h1 | ⟨g, cap, cur, hv, hb, hg, hl, hm, hs, ht⟩⟩ := h
  · exact ⟨h0, .inl h1⟩
  · exact ⟨h0, .inr ⟨g, cap, cur, hv, by omega, hg, hl, hm, hs, ht⟩⟩
theorem place_val {p r c : Int} (hc : placeI p r = c) (hp : In64 p) (hr : In64 r) (w : World) :
    Calls Tryz.prog 131 #[.int .i64 p, .int .i64 r] w fun e w' => e = .returned (.int .i64 c) ∧ Kept w w' := hc ▸ place_any p r hp hr w
theorem rplace_val {p r c : Int} (hc : placeI p r = c) (hp : In64 p) (hr : In64 r) (w : World) :
    Calls Tryz.prog 98 #[.int .i64 p, .int .i64 r] w fun e w' => e = .returned (.int .i64 c) ∧ Kept w w' := hc ▸ place_ref ▸ rplace_any p r hp hr w

/-- What a function value does to the slot that it is handed, in each world that keeps w. -/
def Pokes (fn : Nat) (lb : Array Value) (f : Slo → Slo) (w : World) : Prop :=
  ∀ (W : World) (g n cap : Nat) (l : List Slo) (i : Nat), Below w.heap.size w W → i < l.length → Ow W w.heap.size 64 2 Slo.cells l (.slice (some ⟨g, 0, none⟩) n cap) →
    Calls Tryz.prog fn (#[.pointer (some ⟨g, i * 2, none⟩)] ++ lb) W fun e W' => e = .returned (.tuple #[]) ∧ Ow W' w.heap.size 64 2 Slo.cells (l.set i (f (gs l i))) (.slice (some ⟨g, 0, none⟩) n cap) ∧ Below w.heap.size w W'

theorem write1_pokes (v : Int) (b : Nat) (w : World) (hb : b < w.heap.size) (hc : w.cell? ⟨b, 0, none⟩ = some (.int .i64 v)) : Pokes 244 #[.pointer (some ⟨b, 0, none⟩)] (fun s => ⟨s.st, v⟩) w := by
  intro W g n cap l i hW hi hO
  have c1 := (hW.cell (p := ⟨b, 0, none⟩) hb).trans hc
  obtain ⟨-, c2, -, f2⟩ := Ow.slots hO hi
  have hg := (Ow.lt hO g rfl).1
  have HO := Lib.hid (Ow.setVl hO i v)
  clear hO
  show Calls Tryz.prog 244 #[.pointer (some ⟨g, i * 2, none⟩), .pointer (some ⟨b, 0, none⟩)] W _
  go_enter Tryz.func244, Tryz.ntmps244
  go_wp2
  go_end0
  exact ⟨rfl, HO.out, hW.setCell (p := ⟨_, _, none⟩) hg _⟩
theorem release1_pokes (q : Int) (N : Nat) (b c : Nat) (p : Option Addr) (k : Nat) (w : World) (hq : 0 ≤ q ∧ q ≤ 1099511627776) (hN : N ≤ 1000) (hb : b < w.heap.size) (hc : c < w.heap.size) (h1 : w.cell? ⟨b, 0, none⟩ = some (.int .i64 q)) (h2 : w.cell? ⟨c, 0, none⟩ = some (.slice p N k)) :
    Pokes 212 #[.pointer (some ⟨b, 0, none⟩), .pointer (some ⟨c, 0, none⟩)] (fun s => ⟨q + N, s.vl⟩) w := by
  intro W g n cap l i hW hi hO
  have c1 := (hW.cell (p := ⟨b, 0, none⟩) hb).trans h1
  have c3 := (hW.cell (p := ⟨c, 0, none⟩) hc).trans h2
  obtain ⟨c2, -, f2, -⟩ := Ow.slots hO hi
  have hg := (Ow.lt hO g rfl).1
  have hw : IntKind.i64.wrap (q + (N : Int)) = q + N := IntWalk.i64_in _ (by omega)
  have HO := Lib.hid (Ow.setSt hO i (q + N))
  clear hO
  show Calls Tryz.prog 212 #[.pointer (some ⟨g, i * 2, none⟩), .pointer (some ⟨b, 0, none⟩), .pointer (some ⟨c, 0, none⟩)] W _
  go_enter Tryz.func212, Tryz.ntmps212
  go_wp2
  go_end0
  exact ⟨rfl, HO.out, hW.setCell (p := ⟨_, _, none⟩) hg _⟩

set_option maxHeartbeats 1000000 in
theorem schanged_any (l : List Slo) (p : Int) (i : Nat) (fn : Nat) (lb : Array Value) (f : Slo → Slo) (a : Option Addr) (k : Nat) (w : World) (eg : ∀ args w, (callFunc fn args).run Tryz.prog w = .ok (.enter fn args) w)
    (hl : Sl w 2 Slo.cells l (.slice a l.length k)) (hm : l.length ≤ 1000) (hp : In64 p) (hpl : placeI p l.length = i) (hi : i < l.length) (hP : Pokes fn lb f w) :
    Calls Tryz.prog 211 #[.slice a l.length k, .int .i64 p, .func (.func fn) #[] lb] w (RetS w (l.set i (f (gs l i)))) := by
  have H := Lib.hid hl
  have HP := Lib.hid hP
  obtain ⟨N, hN⟩ : ∃ N, l.length = N := ⟨_, rfl⟩
  have HI := Lib.hid hi
  rw [hN] at hl hm hpl hi ⊢
  have HM := Lib.hid hpl
  have HN := Lib.hid hN
  unfold RetS
  rw [List.length_set, hN]
  have b1 : (0 : Int) ≤ (i : Int) := by omega
  have b2 : (i : Int) < (N : Int) := by omega
  clear hN hl hP hpl
  go_enter Tryz.func211, Tryz.ntmps211
  go_wp2_with fail
  have h0 := slaid_any l a k w H.out (by rw [HN.out]; exact hm)
  unfold RetS at h0
  rw [HN.out] at h0
  refine h0.mono ?_
  rintro e w1 ⟨g, rfl, hg, ho, hb1⟩
  have HO := Lib.hid ho
  clear ho h0
  go_wp2_with fail
  refine (place_val HM.out (by omega) (by omega) _).mono ?_
  rintro e w2 ⟨rfl, hb2⟩
  have hB : Below w.heap.size w w2 := kept_trans hb1 hb2
  have hcall := HP.out w2 g N N l i hB HI.out (Ow.kept HO.out hb2)
  clear HP
  go_wp2_with (go_at_fn fn; refine hcall.mono ?_; rintro e w3 ⟨rfl, ho3, hb3⟩; have HO3 := Lib.hid ho3; clear ho3)
  go_ret
  exact ⟨g, rfl, hg, HO3.out, hb3⟩

theorem sring_any (r : Int) (hr : In64 r) (w : World) : Calls Tryz.prog 170 #[.int .i64 r] w fun e w' => e = .returned (.bool (ringB r)) ∧ Kept w w' := by
  unfold ringB
  cases h1 : decide (1 ≤ r)
  · go_enter Tryz.func170, Tryz.ntmps170
    go_wp2
    go_ret
    exact ⟨rfl, by repeat' (first | (with_reducible exact Below.refl _ _) | (with_reducible assumption) | (with_reducible refine kept_alloc ?_ _) | (with_reducible refine kept_drewN ?_ _) | (with_reducible refine Below.drew ?_) | (with_reducible refine Below.setCell ?_ (by first | omega | (simp; omega) | (simp; done)) _) | (refine kept_trans ?_ (by with_reducible assumption)))⟩
  · go_enter Tryz.func170, Tryz.ntmps170
    go_wp2
    go_ret
    exact ⟨rfl, by repeat' (first | (with_reducible exact Below.refl _ _) | (with_reducible assumption) | (with_reducible refine kept_alloc ?_ _) | (with_reducible refine kept_drewN ?_ _) | (with_reducible refine Below.drew ?_) | (with_reducible refine Below.setCell ?_ (by first | omega | (simp; omega) | (simp; done)) _) | (refine kept_trans ?_ (by with_reducible assumption)))⟩
theorem sring_val {r : Int} {b : Bool} (hb : ringB r = b) (hr : In64 r) (w : World) : Calls Tryz.prog 170 #[.int .i64 r] w fun e w' => e = .returned (.bool b) ∧ Kept w w' := hb ▸ sring_any r hr w

/-- Stamps laid as far as place j. -/
def soFarS (k j : Nat) : List Slo := (List.range k).map fun (i : Nat) => (⟨if i < j then (i : Int) else 0, 0⟩ : Slo)
theorem soFarS_len (k j : Nat) : (soFarS k j).length = k := by simp [soFarS]
theorem soFarS_zero (k : Nat) : soFarS k 0 = List.replicate k ⟨0, 0⟩ := by
  apply List.ext_getElem
  · simp [soFarS]
  · intro i h1 h2; simp [soFarS]
theorem soFarS_all (k : Nat) : soFarS k k = (List.range k).map fun (i : Nat) => (⟨(i : Int), 0⟩ : Slo) := by
  unfold soFarS
  apply List.map_congr_left
  intro i hi
  rw [if_pos (List.mem_range.1 hi)]
theorem soFarS_set (k j : Nat) (hj : j < k) : (soFarS k j).set j ⟨(j : Int), (gs (soFarS k j) j).vl⟩ = soFarS k (j + 1) := by
  have hv : (gs (soFarS k j) j).vl = 0 := by rw [gs_eq (by rw [soFarS_len]; exact hj)]; simp [soFarS]
  rw [hv]
  apply List.ext_getElem
  · simp [soFarS]
  · intro i h1 h2
    simp only [soFarS, List.getElem_set, List.getElem_map, List.getElem_range]
    by_cases h : j = i
    · subst h; simp
    · rw [if_neg h]
      by_cases h3 : i < j
      · rw [if_pos h3, if_pos (by omega)]
      · rw [if_neg h3, if_neg (by omega)]

end Go.Proofs.YtjbcfjfnobklkaaGreat

/- Layer 9: places at first. -/
namespace Go.Proofs.YtjbcfjfnobklkaaGreat
set_option linter.unusedVariables false
set_option linter.unusedSimpArgs false
open Go.ChangeShapes Go.WideShapes Go.ChangeAt Go.RowKit
/-- What a call that hands back slots of its own, or none, leaves. -/
def RetN (w : World) (r : List Slo) (e : Ending) (w' : World) : Prop :=
  ∃ p k, e = .returned (.slice p r.length k) ∧ Ow w' w.heap.size 64 2 Slo.cells r (.slice p r.length k) ∧ Kept w w'
set_option maxHeartbeats 1000000 in
theorem snew_any (r : Int) (hr : In64 r) (w : World) : Calls Tryz.prog 116 #[.int .i64 r] w (RetN w (newL r)) := by
  unfold newL
  cases hb : ringB r
  · have HB := Lib.hid hb
    clear hb
    go_enter Tryz.func116, Tryz.ntmps116
    go_wp2_with fail
    refine (sring_val HB.out hr _).mono ?_
    rintro e w1 ⟨rfl, hg1⟩
    go_wp2
    go_ret
    exact ⟨none, 0, rfl, ⟨by simp, .inl ⟨rfl, rfl⟩⟩, by repeat' (first | (with_reducible exact Below.refl _ _) | (with_reducible assumption) | (with_reducible refine kept_alloc ?_ _) | (with_reducible refine kept_drewN ?_ _) | (with_reducible refine Below.drew ?_) | (with_reducible refine Below.setCell ?_ (by first | omega | (simp; omega) | (simp; done)) _) | (refine kept_trans ?_ (by with_reducible assumption)))⟩
  · obtain ⟨h1, h2⟩ := ring_iff.1 hb
    obtain ⟨k, hk⟩ : ∃ k : Nat, r = k := ⟨r.toNat, by omega⟩
    subst hk
    have HB := Lib.hid hb
    have hkm : k ≤ 1000 := by omega
    have hmk := mk_slots k k rfl hkm
    clear hb
    rw [if_pos rfl, Int.toNat_natCast, ← soFarS_all]
    go_enter Tryz.func116, Tryz.ntmps116
    go_wp2_with fail
    refine (sring_val HB.out hr _).mono ?_
    rintro e w1 ⟨rfl, hg1⟩
    have HZ := Lib.hid (Ow.zeroS (w0 := w) (w := w1) k hkm hg1)
    have hBz : Hid (Below w.heap.size w (w1.alloc (.cells (madeCells #[Value.int .i64 0, .int .i64 0] (k * 2)) 64))) := Lib.hid (by repeat' (first | (with_reducible exact Below.refl _ _) | (with_reducible assumption) | (with_reducible refine kept_alloc ?_ _) | (with_reducible refine kept_drewN ?_ _) | (with_reducible refine Below.drew ?_) | (with_reducible refine Below.setCell ?_ (by first | omega | (simp; omega) | (simp; done)) _) | (refine kept_trans ?_ (by with_reducible assumption))))
    go_wp2
    clear hmk
    go_loopw [4, 12] (fun _ i wr => ∃ j : Nat, j ≤ k ∧ i = .int .i64 j ∧ Ow wr w.heap.size 64 2 Slo.cells (soFarS k j) (.slice (some ⟨w1.heap.size, 0, none⟩) k k) ∧ Below w.heap.size w wr) (fun _ i _ => k - (intOf i).toNat)
    case atStart => exact ⟨0, by omega, rfl, by rw [soFarS_zero]; exact HZ.out, hBz.out⟩
    case round =>
      obtain ⟨j, hj, rfl, hO, hB⟩ := hrel
      have HO := Lib.hid hO
      clear hO HZ hBz
      by_cases hlt : j < k
      · have i1 : (0 : Int) ≤ (j : Int) := by omega
        have i2 : (j : Int) < (k : Int) := by omega
        have HS := Lib.hid (soFarS_len k j)
        obtain ⟨c2, -, f2, -⟩ := Ow.slots HO.out (i := j) (by rw [HS.out]; exact hlt)
        have hgb : w.heap.size ≤ w1.heap.size := (Ow.lt HO.out _ rfl).1
        go_wp2
        refine ⟨⟨j + 1, by omega, by go_num, ?_, ?_⟩, by simp [intOf]; omega⟩
        · rw [← soFarS_set k j hlt]; exact Ow.setSt HO.out j j
        · exact hB.setCell (p := ⟨w1.heap.size, j * 2, none⟩) hgb _
      · have hjk : j = k := by omega
        subst hjk
        go_wp2
        go_ret
        refine ⟨some ⟨w1.heap.size, 0, none⟩, j, by rw [soFarS_len]; rfl, ?_, by repeat' (first | (with_reducible exact Below.refl _ _) | (with_reducible assumption) | (with_reducible refine kept_alloc ?_ _) | (with_reducible refine kept_drewN ?_ _) | (with_reducible refine Below.drew ?_) | (with_reducible refine Below.setCell ?_ (by first | omega | (simp; omega) | (simp; done)) _) | (refine kept_trans ?_ (by with_reducible assumption)))⟩
        rw [soFarS_len]
        exact HO.out

theorem ok_falseS {l : List Slo} {j : Nat} (hj : j < l.length) (h : slotB l.length j (gs l j) = false) : okSl l = false := by
  cases hk : okSl l
  · rfl
  · rw [(ok_iff.1 hk).2 j hj] at h; cases h
theorem ok_ring {l : List Slo} (h : ringB l.length = false) : okSl l = false := by simp [okSl, h]
theorem ok_trueS {l : List Slo} (h : ringB l.length = true) (k : ∀ i, i < l.length → slotB l.length i (gs l i) = true) : okSl l = true := by
  rw [ok_iff]; exact ⟨by have := ring_iff.1 h; omega, k⟩
theorem below_succ {l : List Slo} {j n : Nat} (h : ∀ i, i < j → slotB n i (gs l i) = true) (k : slotB n j (gs l j) = true) : ∀ i, i < j + 1 → slotB n i (gs l i) = true := fun i hi => by
  by_cases e : i = j
  · subst e; exact k
  · exact h i (by omega)

set_option maxHeartbeats 2000000 in
theorem scheck_any (l : List Slo) (p : Option Addr) (k : Nat) (w : World) (hl : Sl w 2 Slo.cells l (.slice p l.length k)) (hm : l.length ≤ 1000) :
    Calls Tryz.prog 109 #[.slice p l.length k] w fun e w' => e = .returned (.bool (okSl l)) ∧ Kept w w' := by
  have H := Lib.hid hl
  obtain ⟨_, _, e1, _, _, _, hne⟩ := hl.is
  cases e1
  have HNE := Lib.hid hne
  cases hb : ringB l.length
  · rw [ok_ring hb]
    have HB := Lib.hid hb
    clear hl hne hb
    go_enter Tryz.func109, Tryz.ntmps109
    go_wp2_with fail
    refine (sring_val HB.out (by omega) _).mono ?_
    rintro e w1 ⟨rfl, hg1⟩
    go_wp2
    go_ret
    exact ⟨rfl, by repeat' (first | (with_reducible exact Below.refl _ _) | (with_reducible assumption) | (with_reducible refine kept_alloc ?_ _) | (with_reducible refine kept_drewN ?_ _) | (with_reducible refine Below.drew ?_) | (with_reducible refine Below.setCell ?_ (by first | omega | (simp; omega) | (simp; done)) _) | (refine kept_trans ?_ (by with_reducible assumption)))⟩
  · have HB := Lib.hid hb
    clear hl hne hb
    obtain ⟨N, hN⟩ : ∃ N, l.length = N := ⟨_, rfl⟩
    have HN := Lib.hid hN
    rw [hN] at hm ⊢
    have hbN : Hid (ringB N = true) := Lib.hid (by rw [← hN]; exact HB.out)
    clear hN
    go_enter Tryz.func109, Tryz.ntmps109
    go_wp2_with fail
    refine (sring_val hbN.out (by omega) _).mono ?_
    rintro e w1 ⟨rfl, hg1⟩
    go_wp2
    go_loopw [3, 4, 11] (fun _ _ i wr => ∃ j : Nat, j ≤ N ∧ i = .int .i64 j ∧ Hid (∀ i, i < j → slotB N i (gs l i) = true) ∧ Below w.heap.size w wr) (fun _ _ i _ => N - (intOf i).toNat)
    case atStart => exact ⟨0, by omega, rfl, Lib.hid (fun i hi => by omega), by repeat' (first | (with_reducible exact Below.refl _ _) | (with_reducible assumption) | (with_reducible refine kept_alloc ?_ _) | (with_reducible refine kept_drewN ?_ _) | (with_reducible refine Below.drew ?_) | (with_reducible refine Below.setCell ?_ (by first | omega | (simp; omega) | (simp; done)) _) | (refine kept_trans ?_ (by with_reducible assumption)))⟩
    case round =>
      obtain ⟨j, hj, rfl, T, hB⟩ := hrel
      clear hg1
      by_cases hlt : j < N
      · have hlt' : j < l.length := by rw [HN.out]; exact hlt
        have HX := Lib.hid hlt'
        obtain ⟨b, o, rfl, hb, -⟩ := HNE.out (by intro h; subst h; simp at hlt')
        obtain ⟨c1, c2⟩ := ss_at (H.out.kept hB) hlt'
        have hbw : b < wr.heap.size := Nat.lt_of_lt_of_le hb hB.size
        have i1 : (0 : Int) ≤ (j : Int) := by omega
        have i2 : (j : Int) < (N : Int) := by omega
        obtain ⟨z, hz⟩ : ∃ z, gs l j = z := ⟨_, rfl⟩
        rw [hz] at c1 c2
        have HZ := Lib.hid hz
        clear hz hlt'
        cases b1 : decide (z.st < 0)
        · cases b2 : decide (2199023255552 < z.st)
          · obtain ⟨P, hP⟩ : ∃ P, placeI z.st N = P := ⟨_, rfl⟩
            have HP := Lib.hid hP
            clear hP
            cases b3 : (P != (j : Int))
            · have hs : Hid (slotB N j (gs l j) = true) := Lib.hid (by
                rw [HZ.out, slot_iff, HP.out]; simp at b1 b2 b3; omega)
              go_wp2_with fail
              refine (place_val HP.out (by simp at b1 b2; omega) (by omega) _).mono ?_
              rintro e w2 ⟨rfl, hg2⟩
              go_wp2
              exact ⟨⟨j + 1, by omega, by go_num, Lib.hid (below_succ T.out hs.out), by repeat' (first | (with_reducible exact Below.refl _ _) | (with_reducible assumption) | (with_reducible refine kept_alloc ?_ _) | (with_reducible refine kept_drewN ?_ _) | (with_reducible refine Below.drew ?_) | (with_reducible refine Below.setCell ?_ (by first | omega | (simp; omega) | (simp; done)) _) | (refine kept_trans ?_ (by with_reducible assumption)))⟩, by simp [intOf]; omega⟩
            · have hs : Hid (slotB N j (gs l j) = false) := Lib.hid (by
                rw [← Bool.not_eq_true, HZ.out, slot_iff, HP.out]; simp at b3; omega)
              go_wp2_with fail
              refine (place_val HP.out (by simp at b1 b2; omega) (by omega) _).mono ?_
              rintro e w2 ⟨rfl, hg2⟩
              go_wp2; go_ret; exact ⟨ret_bool (ok_falseS HX.out (by rw [HN.out]; exact hs.out)).symm, by repeat' (first | (with_reducible exact Below.refl _ _) | (with_reducible assumption) | (with_reducible refine kept_alloc ?_ _) | (with_reducible refine kept_drewN ?_ _) | (with_reducible refine Below.drew ?_) | (with_reducible refine Below.setCell ?_ (by first | omega | (simp; omega) | (simp; done)) _) | (refine kept_trans ?_ (by with_reducible assumption)))⟩
          · have hs : Hid (slotB N j (gs l j) = false) := Lib.hid (by rw [← Bool.not_eq_true, HZ.out, slot_iff]; simp at b2; omega)
            go_wp2; go_ret; exact ⟨ret_bool (ok_falseS HX.out (by rw [HN.out]; exact hs.out)).symm, by repeat' (first | (with_reducible exact Below.refl _ _) | (with_reducible assumption) | (with_reducible refine kept_alloc ?_ _) | (with_reducible refine kept_drewN ?_ _) | (with_reducible refine Below.drew ?_) | (with_reducible refine Below.setCell ?_ (by first | omega | (simp; omega) | (simp; done)) _) | (refine kept_trans ?_ (by with_reducible assumption)))⟩
        · have hs : Hid (slotB N j (gs l j) = false) := Lib.hid (by rw [← Bool.not_eq_true, HZ.out, slot_iff]; simp at b1; omega)
          go_wp2; go_ret; exact ⟨ret_bool (ok_falseS HX.out (by rw [HN.out]; exact hs.out)).symm, by repeat' (first | (with_reducible exact Below.refl _ _) | (with_reducible assumption) | (with_reducible refine kept_alloc ?_ _) | (with_reducible refine kept_drewN ?_ _) | (with_reducible refine Below.drew ?_) | (with_reducible refine Below.setCell ?_ (by first | omega | (simp; omega) | (simp; done)) _) | (refine kept_trans ?_ (by with_reducible assumption)))⟩
      · have hjk : j = N := by omega
        subst hjk
        go_wp2
        go_ret
        exact ⟨ret_bool (ok_trueS HB.out (fun i hi => by rw [HN.out]; exact T.out i (by rw [← HN.out]; exact hi))).symm, by repeat' (first | (with_reducible exact Below.refl _ _) | (with_reducible assumption) | (with_reducible refine kept_alloc ?_ _) | (with_reducible refine kept_drewN ?_ _) | (with_reducible refine Below.drew ?_) | (with_reducible refine Below.setCell ?_ (by first | omega | (simp; omega) | (simp; done)) _) | (refine kept_trans ?_ (by with_reducible assumption)))⟩
theorem slies_any (l : List Slo) (q : Int) (p : Option Addr) (k : Nat) (w : World) (hl : Sl w 2 Slo.cells l (.slice p l.length k)) (hm : l.length ≤ 1000) :
    Calls Tryz.prog 238 #[.slice p l.length k, .int .i64 q] w fun e w' => e = .returned (.bool (liesS l q)) ∧ Kept w w' := by
  have H := Lib.hid hl
  unfold liesS
  clear hl
  cases h1 : decide (0 ≤ q)
  · go_enter Tryz.func238, Tryz.ntmps238
    go_wp2
    go_ret
    exact ⟨rfl, by repeat' (first | (with_reducible exact Below.refl _ _) | (with_reducible assumption) | (with_reducible refine kept_alloc ?_ _) | (with_reducible refine kept_drewN ?_ _) | (with_reducible refine Below.drew ?_) | (with_reducible refine Below.setCell ?_ (by first | omega | (simp; omega) | (simp; done)) _) | (refine kept_trans ?_ (by with_reducible assumption)))⟩
  · go_enter Tryz.func238, Tryz.ntmps238
    go_wp2_with fail
    refine (scheck_any l p k _ H.out hm).mono ?_
    rintro e w1 ⟨rfl, hg1⟩
    go_wp2
    go_ret
    exact ⟨ret_bool (by simp), by repeat' (first | (with_reducible exact Below.refl _ _) | (with_reducible assumption) | (with_reducible refine kept_alloc ?_ _) | (with_reducible refine kept_drewN ?_ _) | (with_reducible refine Below.drew ?_) | (with_reducible refine Below.setCell ?_ (by first | omega | (simp; omega) | (simp; done)) _) | (refine kept_trans ?_ (by with_reducible assumption)))⟩
theorem slies_val {l : List Slo} {q : Int} {b : Bool} (hb : liesS l q = b) (p : Option Addr) (k : Nat) (w : World) (hl : Sl w 2 Slo.cells l (.slice p l.length k)) (hm : l.length ≤ 1000) :
    Calls Tryz.prog 238 #[.slice p l.length k, .int .i64 q] w fun e w' => e = .returned (.bool b) ∧ Kept w w' := hb ▸ slies_any l q p k w hl hm

set_option maxHeartbeats 1000000 in
theorem sat_any (l : List Slo) (q : Int) (i : Nat) (p : Option Addr) (k : Nat) (w : World) (hl : Sl w 2 Slo.cells l (.slice p l.length k)) (hm : l.length ≤ 1000) (hq : In64 q) (hpl : placeI q l.length = i) (hi : i < l.length) :
    Calls Tryz.prog 209 #[.slice p l.length k, .int .i64 q] w fun e w' => e = .returned (.agg #[.int .i64 (gs l i).st, .int .i64 (gs l i).vl]) ∧ Kept w w' := by
  have H := Lib.hid hl
  obtain ⟨_, _, e1, _, _, _, hne⟩ := hl.is
  cases e1
  obtain ⟨b, o, rfl, hb, -⟩ := hne (by intro h; subst h; simp at hi)
  obtain ⟨c1, c2⟩ := ss_at hl hi
  have HM := Lib.hid hpl
  obtain ⟨N, hN⟩ : ∃ N, l.length = N := ⟨_, rfl⟩
  have HN := Lib.hid hN
  rw [hN] at hm hi ⊢
  have hM : Hid (placeI q N = i) := Lib.hid (by rw [← hN]; exact HM.out)
  have b1 : (0 : Int) ≤ (i : Int) := by omega
  have b2 : (i : Int) < (N : Int) := by omega
  clear hN hl hne hpl HM
  generalize gs l i = z at *
  go_enter Tryz.func209, Tryz.ntmps209
  go_wp2_with fail
  refine (place_val hM.out (by omega) (by omega) _).mono ?_
  rintro e w1 ⟨rfl, hg1⟩
  have hcs : CellsAt w1 [(w.heap.size, 0, .int .i64 0), (w.heap.size, 1, .int .i64 0)] := cells_keep hg1 (by (simp only [CellsAt]; (repeat' (first | exact trivial | (refine And.intro ?_ ?_))); all_goals (first | (focus ((try simp only [World.size_setCell, World.size_alloc]); omega)) | (repeat (first | rfl | assumption | (refine (World.cell?_alloc_past _ _ _ ?_).trans ?_; focus ((try simp only [World.size_setCell, World.size_alloc]); omega)) | (refine (World.cell?_alloc_at _ _ _ _ ?_).trans ?_; focus ((try simp only [World.size_setCell, World.size_alloc]); done)) | (refine (World.cell?_setCell_other _ _ _ _ ?_).trans ?_; focus (simp; done)) | (refine (World.cell?_setCell_other _ _ _ _ ?_).trans ?_; focus (simp; omega)) | (refine World.cell?_setCell_same' _ _ _ ?_; focus (simp; done)))))))
  have hq0 := hcs.1.2; have hq1 := hcs.2.1.2; have hz0 := hcs.1.1
  have hB1 : Below w.heap.size w w1 := by repeat' (first | (with_reducible exact Below.refl _ _) | (with_reducible assumption) | (with_reducible refine kept_alloc ?_ _) | (with_reducible refine kept_drewN ?_ _) | (with_reducible refine Below.drew ?_) | (with_reducible refine Below.setCell ?_ (by first | omega | (simp; omega) | (simp; done)) _) | (refine kept_trans ?_ (by with_reducible assumption)))
  have q5 := ((bcell hB1).1 _ (o + i * 2) hb).trans c1
  have q6 := ((bcell hB1).1 _ (o + i * 2 + 1) hb).trans c2
  have f1 : ∀ j, w1.frozen? ⟨w.heap.size, j, none⟩ = false := fun j => ((bcell hg1).2 _ j (by simp)).trans (World.frozen?_alloc_at _ _ _ _ rfl)
  go_wp2
  refine bodyPost_ret (v := .agg #[.int .i64 z.st, .int .i64 z.vl]) (by simp [results, Tryz.results209, go_sem, *]) rfl ⟨rfl, by repeat' (first | (with_reducible exact Below.refl _ _) | (with_reducible assumption) | (with_reducible refine kept_alloc ?_ _) | (with_reducible refine kept_drewN ?_ _) | (with_reducible refine Below.drew ?_) | (with_reducible refine Below.setCell ?_ (by first | omega | (simp; omega) | (simp; done)) _) | (refine kept_trans ?_ (by with_reducible assumption)))⟩
end Go.Proofs.YtjbcfjfnobklkaaGreat

/- Layer 11: what each small call returns, as the plain functions say; what was there is kept. -/
namespace Go.Proofs.YtjbcfjfnobklkaaGreat
set_option linter.unusedVariables false
set_option linter.unusedSimpArgs false
open Go.ChangeShapes Go.WideShapes Go.ChangeAt Go.RowKit

theorem oside_any (k : Int) (w : World) : Calls Tryz.prog 85 #[.int .i64 k] w fun e w' => e = .returned (.int .i64 (opSide k)) ∧ Kept w w' := by
  by_cases h : 1 ≤ k ∧ k ≤ 8
  · obtain rfl | rfl | rfl | rfl | rfl | rfl | rfl | rfl : k = 1 ∨ k = 2 ∨ k = 3 ∨ k = 4 ∨ k = 5 ∨ k = 6 ∨ k = 7 ∨ k = 8 := by omega
    all_goals
      go_enter Tryz.func85, Tryz.ntmps85
      go_wp2
      all_goals (go_ret; exact ⟨ret_int (by decide), by repeat' (first | (with_reducible exact Below.refl _ _) | (with_reducible assumption) | (with_reducible refine kept_alloc ?_ _) | (with_reducible refine kept_drewN ?_ _) | (with_reducible refine Below.drew ?_) | (with_reducible refine Below.setCell ?_ (by first | omega | (simp; omega) | (simp; done)) _) | (refine kept_trans ?_ (by with_reducible assumption)))⟩)
  · (have e1 : (k == 1) = false := by simp; omega); (have e2 : (k == 2) = false := by simp; omega); (have e3 : (k == 3) = false := by simp; omega); (have e4 : (k == 4) = false := by simp; omega); (have e5 : (k == 5) = false := by simp; omega); (have e6 : (k == 6) = false := by simp; omega); (have e7 : (k == 7) = false := by simp; omega); (have e8 : (k == 8) = false := by simp; omega)
    have e0 : opSide k = 0 := by have := side_is k; omega
    go_enter Tryz.func85, Tryz.ntmps85
    go_wp2
    all_goals (go_ret; exact ⟨ret_int (by first | rfl | exact e0.symm), by repeat' (first | (with_reducible exact Below.refl _ _) | (with_reducible assumption) | (with_reducible refine kept_alloc ?_ _) | (with_reducible refine kept_drewN ?_ _) | (with_reducible refine Below.drew ?_) | (with_reducible refine Below.setCell ?_ (by first | omega | (simp; omega) | (simp; done)) _) | (refine kept_trans ?_ (by with_reducible assumption)))⟩)
theorem roside_any (k : Int) (w : World) : Calls Tryz.prog 87 #[.int .i64 k] w fun e w' => e = .returned (.int .i64 (opSide k)) ∧ Kept w w' := by
  by_cases h : 1 ≤ k ∧ k ≤ 8
  · obtain rfl | rfl | rfl | rfl | rfl | rfl | rfl | rfl : k = 1 ∨ k = 2 ∨ k = 3 ∨ k = 4 ∨ k = 5 ∨ k = 6 ∨ k = 7 ∨ k = 8 := by omega
    all_goals
      go_enter Tryz.func87, Tryz.ntmps87
      go_wp2
      all_goals (go_ret; exact ⟨ret_int (by decide), by repeat' (first | (with_reducible exact Below.refl _ _) | (with_reducible assumption) | (with_reducible refine kept_alloc ?_ _) | (with_reducible refine kept_drewN ?_ _) | (with_reducible refine Below.drew ?_) | (with_reducible refine Below.setCell ?_ (by first | omega | (simp; omega) | (simp; done)) _) | (refine kept_trans ?_ (by with_reducible assumption)))⟩)
  · have e0 : opSide k = 0 := by have := side_is k; omega
    by_cases h1 : k < 1
    · go_enter Tryz.func87, Tryz.ntmps87
      go_wp2
      all_goals (go_ret; exact ⟨ret_int (by first | rfl | exact e0.symm), by repeat' (first | (with_reducible exact Below.refl _ _) | (with_reducible assumption) | (with_reducible refine kept_alloc ?_ _) | (with_reducible refine kept_drewN ?_ _) | (with_reducible refine Below.drew ?_) | (with_reducible refine Below.setCell ?_ (by first | omega | (simp; omega) | (simp; done)) _) | (refine kept_trans ?_ (by with_reducible assumption)))⟩)
    · have h2 : 8 < k := by omega
      go_enter Tryz.func87, Tryz.ntmps87
      go_wp2
      all_goals (go_ret; exact ⟨ret_int (by first | rfl | exact e0.symm), by repeat' (first | (with_reducible exact Below.refl _ _) | (with_reducible assumption) | (with_reducible refine kept_alloc ?_ _) | (with_reducible refine kept_drewN ?_ _) | (with_reducible refine Below.drew ?_) | (with_reducible refine Below.setCell ?_ (by first | omega | (simp; omega) | (simp; done)) _) | (refine kept_trans ?_ (by with_reducible assumption)))⟩)
theorem ocheck_any (k : Int) (w : World) : Calls Tryz.prog 125 #[.int .i64 k] w fun e w' => e = .returned (.bool (opB k)) ∧ Kept w w' := by
  go_enter Tryz.func125, Tryz.ntmps125
  go_wp2_with (first | (go_at_call 85; refine (oside_any _ _).mono ?_; rintro e wx ⟨rfl, hgx⟩))
  all_goals (go_ret; exact ⟨ret_bool (by rw [opB_side]; first | rfl | simp), by repeat' (first | (with_reducible exact Below.refl _ _) | (with_reducible assumption) | (with_reducible refine kept_alloc ?_ _) | (with_reducible refine kept_drewN ?_ _) | (with_reducible refine Below.drew ?_) | (with_reducible refine Below.setCell ?_ (by first | omega | (simp; omega) | (simp; done)) _) | (refine kept_trans ?_ (by with_reducible assumption)))⟩)
theorem otimed_any (k : Int) (w : World) : Calls Tryz.prog 127 #[.int .i64 k] w fun e w' => e = .returned (.bool (opTimed k)) ∧ Kept w w' := by
  go_enter Tryz.func127, Tryz.ntmps127
  go_wp2
  all_goals (go_ret; exact ⟨ret_bool (by first | (rw [Bool.eq_iff_iff]; simp [opTimed]; omega) | (simp [opTimed, *]; done) | (simp [opTimed, *]; omega) | (simp [opTimed, *]; intros; omega)), by repeat' (first | (with_reducible exact Below.refl _ _) | (with_reducible assumption) | (with_reducible refine kept_alloc ?_ _) | (with_reducible refine kept_drewN ?_ _) | (with_reducible refine Below.drew ?_) | (with_reducible refine Below.setCell ?_ (by first | omega | (simp; omega) | (simp; done)) _) | (refine kept_trans ?_ (by with_reducible assumption)))⟩)
theorem rotimed_any (k : Int) (w : World) : Calls Tryz.prog 242 #[.int .i64 k] w fun e w' => e = .returned (.bool (opTimed k)) ∧ Kept w w' := by
  go_enter Tryz.func242, Tryz.ntmps242
  go_wp2
  all_goals (go_ret; exact ⟨ret_bool (by first | (rw [Bool.eq_iff_iff]; simp [opTimed]; omega) | (simp [opTimed, *]; done) | (simp [opTimed, *]; omega) | (simp [opTimed, *]; intros; omega)), by repeat' (first | (with_reducible exact Below.refl _ _) | (with_reducible assumption) | (with_reducible refine kept_alloc ?_ _) | (with_reducible refine kept_drewN ?_ _) | (with_reducible refine Below.drew ?_) | (with_reducible refine Below.setCell ?_ (by first | omega | (simp; omega) | (simp; done)) _) | (refine kept_trans ?_ (by with_reducible assumption)))⟩)
theorem oonce_any (k : Int) (w : World) : Calls Tryz.prog 202 #[.int .i64 k] w fun e w' => e = .returned (.bool (opOnce k)) ∧ Kept w w' := by
  go_enter Tryz.func202, Tryz.ntmps202
  go_wp2
  all_goals (go_ret; exact ⟨ret_bool (by first | (rw [Bool.eq_iff_iff]; simp [opOnce]; omega) | (simp [opOnce, *]; done) | (simp [opOnce, *]; omega) | (simp [opOnce, *]; intros; omega)), by repeat' (first | (with_reducible exact Below.refl _ _) | (with_reducible assumption) | (with_reducible refine kept_alloc ?_ _) | (with_reducible refine kept_drewN ?_ _) | (with_reducible refine Below.drew ?_) | (with_reducible refine Below.setCell ?_ (by first | omega | (simp; omega) | (simp; done)) _) | (refine kept_trans ?_ (by with_reducible assumption)))⟩)
set_option maxHeartbeats 1000000 in
theorem omay_any (lg th po wt sp yi : Int) (si : Bool) (i k : Int) (w : World) : Calls Tryz.prog 60 #[.agg #[.int .i64 lg, .int .i64 th, .int .i64 po, .int .i64 wt, .int .i64 sp, .int .i64 yi, .bool si], .int .i64 i, .int .i64 k] w fun e w' => e = .returned (.int .i64 (opMay th si i k)) ∧ Kept w w' := by
  by_cases a1 : i < 0
  · have e0 : opMay th si i k = 123 := by unfold opMay; rw [if_pos (by omega)]
    go_enter Tryz.func60, Tryz.ntmps60
    go_wp2
    all_goals (go_ret; exact ⟨ret_int (by first | rfl | exact e0.symm), by repeat' (first | (with_reducible exact Below.refl _ _) | (with_reducible assumption) | (with_reducible refine kept_alloc ?_ _) | (with_reducible refine kept_drewN ?_ _) | (with_reducible refine Below.drew ?_) | (with_reducible refine Below.setCell ?_ (by first | omega | (simp; omega) | (simp; done)) _) | (refine kept_trans ?_ (by with_reducible assumption)))⟩)
  by_cases a2 : th ≤ i
  · have e0 : opMay th si i k = 123 := by unfold opMay; rw [if_pos (by omega)]
    go_enter Tryz.func60, Tryz.ntmps60
    go_wp2
    all_goals (go_ret; exact ⟨ret_int (by first | rfl | exact e0.symm), by repeat' (first | (with_reducible exact Below.refl _ _) | (with_reducible assumption) | (with_reducible refine kept_alloc ?_ _) | (with_reducible refine kept_drewN ?_ _) | (with_reducible refine Below.drew ?_) | (with_reducible refine Below.setCell ?_ (by first | omega | (simp; omega) | (simp; done)) _) | (refine kept_trans ?_ (by with_reducible assumption)))⟩)
  cases b1 : opB k
  · have e0 : opMay th si i k = 190 := by unfold opMay; rw [if_neg (by omega), if_pos b1]
    go_enter Tryz.func60, Tryz.ntmps60
    go_wp2_with (first | (go_at_call 125; refine (ocheck_any _ _).mono ?_; rintro e wx ⟨rfl, hgx⟩; obtain ⟨hcx, hfx⟩ := bcell hgx; have hz0 : w.heap.size < wx.heap.size := (by have := hgx.size; (try simp at this); omega)) | (go_at_call 85; refine (oside_any _ _).mono ?_; rintro e wx ⟨rfl, hgx⟩; obtain ⟨hcx, hfx⟩ := bcell hgx; have hz0 : w.heap.size < wx.heap.size := (by have := hgx.size; (try simp at this); omega)))
    all_goals (go_ret; exact ⟨ret_int (by first | rfl | exact e0.symm), by repeat' (first | (with_reducible exact Below.refl _ _) | (with_reducible assumption) | (with_reducible refine kept_alloc ?_ _) | (with_reducible refine kept_drewN ?_ _) | (with_reducible refine Below.drew ?_) | (with_reducible refine Below.setCell ?_ (by first | omega | (simp; omega) | (simp; done)) _) | (refine kept_trans ?_ (by with_reducible assumption)))⟩)
  cases si
  · have e0 : opMay th false i k = 0 := by unfold opMay; rw [if_neg (by omega), if_neg (by simp [b1])]; simp
    go_enter Tryz.func60, Tryz.ntmps60
    go_wp2_with (first | (go_at_call 125; refine (ocheck_any _ _).mono ?_; rintro e wx ⟨rfl, hgx⟩; obtain ⟨hcx, hfx⟩ := bcell hgx; have hz0 : w.heap.size < wx.heap.size := (by have := hgx.size; (try simp at this); omega)) | (go_at_call 85; refine (oside_any _ _).mono ?_; rintro e wx ⟨rfl, hgx⟩; obtain ⟨hcx, hfx⟩ := bcell hgx; have hz0 : w.heap.size < wx.heap.size := (by have := hgx.size; (try simp at this); omega)))
    all_goals (go_ret; exact ⟨ret_int (by first | rfl | exact e0.symm), by repeat' (first | (with_reducible exact Below.refl _ _) | (with_reducible assumption) | (with_reducible refine kept_alloc ?_ _) | (with_reducible refine kept_drewN ?_ _) | (with_reducible refine Below.drew ?_) | (with_reducible refine Below.setCell ?_ (by first | omega | (simp; omega) | (simp; done)) _) | (refine kept_trans ?_ (by with_reducible assumption)))⟩)
  cases b2 : opSide k == 2
  · have e0 : opMay th true i k = 0 := by unfold opMay; rw [if_neg (by omega), if_neg (by simp [b1])]; simp at b2; simp [b2]
    go_enter Tryz.func60, Tryz.ntmps60
    go_wp2_with (first | (go_at_call 125; refine (ocheck_any _ _).mono ?_; rintro e wx ⟨rfl, hgx⟩; obtain ⟨hcx, hfx⟩ := bcell hgx; have hz0 : w.heap.size < wx.heap.size := (by have := hgx.size; (try simp at this); omega)) | (go_at_call 85; refine (oside_any _ _).mono ?_; rintro e wx ⟨rfl, hgx⟩; obtain ⟨hcx, hfx⟩ := bcell hgx; have hz0 : w.heap.size < wx.heap.size := (by have := hgx.size; (try simp at this); omega)))
    all_goals (go_ret; exact ⟨ret_int (by first | rfl | exact e0.symm), by repeat' (first | (with_reducible exact Below.refl _ _) | (with_reducible assumption) | (with_reducible refine kept_alloc ?_ _) | (with_reducible refine kept_drewN ?_ _) | (with_reducible refine Below.drew ?_) | (with_reducible refine Below.setCell ?_ (by first | omega | (simp; omega) | (simp; done)) _) | (refine kept_trans ?_ (by with_reducible assumption)))⟩)
  by_cases b3 : i = 0
  · have e0 : opMay th true i k = 0 := by unfold opMay; rw [if_neg (by omega), if_neg (by simp [b1])]; simp [b3]
    subst b3
    go_enter Tryz.func60, Tryz.ntmps60
    go_wp2_with (first | (go_at_call 125; refine (ocheck_any _ _).mono ?_; rintro e wx ⟨rfl, hgx⟩; obtain ⟨hcx, hfx⟩ := bcell hgx; have hz0 : w.heap.size < wx.heap.size := (by have := hgx.size; (try simp at this); omega)) | (go_at_call 85; refine (oside_any _ _).mono ?_; rintro e wx ⟨rfl, hgx⟩; obtain ⟨hcx, hfx⟩ := bcell hgx; have hz0 : w.heap.size < wx.heap.size := (by have := hgx.size; (try simp at this); omega)))
    all_goals (go_ret; exact ⟨ret_int (by first | rfl | exact e0.symm), by repeat' (first | (with_reducible exact Below.refl _ _) | (with_reducible assumption) | (with_reducible refine kept_alloc ?_ _) | (with_reducible refine kept_drewN ?_ _) | (with_reducible refine Below.drew ?_) | (with_reducible refine Below.setCell ?_ (by first | omega | (simp; omega) | (simp; done)) _) | (refine kept_trans ?_ (by with_reducible assumption)))⟩)
  · have e0 : opMay th true i k = 123 := by unfold opMay; rw [if_neg (by omega), if_neg (by simp [b1]), if_pos ⟨rfl, by simpa using b2, b3⟩]
    have d3 : (i == 0) = false := by simpa using b3
    go_enter Tryz.func60, Tryz.ntmps60
    go_wp2_with (first | (go_at_call 125; refine (ocheck_any _ _).mono ?_; rintro e wx ⟨rfl, hgx⟩; obtain ⟨hcx, hfx⟩ := bcell hgx; have hz0 : w.heap.size < wx.heap.size := (by have := hgx.size; (try simp at this); omega)) | (go_at_call 85; refine (oside_any _ _).mono ?_; rintro e wx ⟨rfl, hgx⟩; obtain ⟨hcx, hfx⟩ := bcell hgx; have hz0 : w.heap.size < wx.heap.size := (by have := hgx.size; (try simp at this); omega)))
    all_goals (go_ret; exact ⟨ret_int (by first | rfl | exact e0.symm), by repeat' (first | (with_reducible exact Below.refl _ _) | (with_reducible assumption) | (with_reducible refine kept_alloc ?_ _) | (with_reducible refine kept_drewN ?_ _) | (with_reducible refine Below.drew ?_) | (with_reducible refine Below.setCell ?_ (by first | omega | (simp; omega) | (simp; done)) _) | (refine kept_trans ?_ (by with_reducible assumption)))⟩)

end Go.Proofs.YtjbcfjfnobklkaaGreat

/- Layer 12: what each small call returns, as the plain functions say; what was there is kept. -/
namespace Go.Proofs.YtjbcfjfnobklkaaGreat
set_option linter.unusedVariables false
set_option linter.unusedSimpArgs false
open Go.ChangeShapes Go.WideShapes Go.ChangeAt Go.RowKit

theorem twithin_any (n l h : Int) (w : World) : Calls Tryz.prog 128 #[.int .i64 n, .int .i64 l, .int .i64 h] w fun e w' => e = .returned (.bool (thIn n l h)) ∧ Kept w w' := by
  go_enter Tryz.func128, Tryz.ntmps128
  go_wp2
  all_goals (go_ret; exact ⟨ret_bool (by first | (rw [Bool.eq_iff_iff]; simp [thIn]; omega) | (simp [thIn, *]; done) | (simp [thIn, *]; omega) | (simp [thIn, *]; intros; omega)), by repeat' (first | (with_reducible exact Below.refl _ _) | (with_reducible assumption) | (with_reducible refine kept_alloc ?_ _) | (with_reducible refine kept_drewN ?_ _) | (with_reducible refine Below.drew ?_) | (with_reducible refine Below.setCell ?_ (by first | omega | (simp; omega) | (simp; done)) _) | (refine kept_trans ?_ (by with_reducible assumption)))⟩)
theorem tidle_any {st ki va un pc re se tr rs go : Int} {la : Bool} (w : World) : Calls Tryz.prog 126 #[.agg #[.int .i64 st, .int .i64 ki, .int .i64 va, .int .i64 un, .int .i64 pc, .int .i64 re, .int .i64 se, .int .i64 tr, .bool la, .int .i64 rs, .int .i64 go]] w fun e w' => e = .returned (.bool (st == 0)) ∧ Kept w w' := by
  go_enter Tryz.func126, Tryz.ntmps126
  go_wp2
  all_goals (go_ret; exact ⟨ret_bool (by first | rfl | simp), by repeat' (first | (with_reducible exact Below.refl _ _) | (with_reducible assumption) | (with_reducible refine kept_alloc ?_ _) | (with_reducible refine kept_drewN ?_ _) | (with_reducible refine Below.drew ?_) | (with_reducible refine Below.setCell ?_ (by first | omega | (simp; omega) | (simp; done)) _) | (refine kept_trans ?_ (by with_reducible assumption)))⟩)
theorem ttimed_any {st ki va un pc re se tr rs go : Int} {la : Bool} (w : World) : Calls Tryz.prog 223 #[.agg #[.int .i64 st, .int .i64 ki, .int .i64 va, .int .i64 un, .int .i64 pc, .int .i64 re, .int .i64 se, .int .i64 tr, .bool la, .int .i64 rs, .int .i64 go]] w fun e w' => e = .returned (.bool (opTimed ki)) ∧ Kept w w' := by
  go_enter Tryz.func223, Tryz.ntmps223
  go_wp2_with (first | (go_at_call 127; refine (otimed_any _ _).mono ?_; rintro e wx ⟨rfl, hgx⟩; obtain ⟨hcx, hfx⟩ := bcell hgx; have hz0 : w.heap.size < wx.heap.size := (by have := hgx.size; (try simp at this); omega)))
  all_goals (go_ret; exact ⟨ret_bool (by first | rfl | simp), by repeat' (first | (with_reducible exact Below.refl _ _) | (with_reducible assumption) | (with_reducible refine kept_alloc ?_ _) | (with_reducible refine kept_drewN ?_ _) | (with_reducible refine Below.drew ?_) | (with_reducible refine Below.setCell ?_ (by first | omega | (simp; omega) | (simp; done)) _) | (refine kept_trans ?_ (by with_reducible assumption)))⟩)
theorem tdoes_any {st ki va un pc re se tr rs go : Int} {la : Bool} (w : World) : Calls Tryz.prog 174 #[.agg #[.int .i64 st, .int .i64 ki, .int .i64 va, .int .i64 un, .int .i64 pc, .int .i64 re, .int .i64 se, .int .i64 tr, .bool la, .int .i64 rs, .int .i64 go]] w fun e w' => e = .returned (.bool (thDoes st ki)) ∧ Kept w w' := by
  have hcs : CellsAt (w.alloc (.cells #[.int .i64 st, .int .i64 ki, .int .i64 va, .int .i64 un, .int .i64 pc, .int .i64 re, .int .i64 se, .int .i64 tr, .bool la, .int .i64 rs, .int .i64 go] 147)) [(w.heap.size, 0, .int .i64 st), (w.heap.size, 1, .int .i64 ki), (w.heap.size, 2, .int .i64 va), (w.heap.size, 3, .int .i64 un), (w.heap.size, 4, .int .i64 pc), (w.heap.size, 5, .int .i64 re), (w.heap.size, 6, .int .i64 se), (w.heap.size, 7, .int .i64 tr), (w.heap.size, 8, .bool la), (w.heap.size, 9, .int .i64 rs), (w.heap.size, 10, .int .i64 go)] := by (simp only [CellsAt]; (repeat' (first | exact trivial | (refine And.intro ?_ ?_))); all_goals (first | (focus ((try simp only [World.size_setCell, World.size_alloc]); omega)) | (repeat (first | rfl | assumption | (refine (World.cell?_alloc_past _ _ _ ?_).trans ?_; focus ((try simp only [World.size_setCell, World.size_alloc]); omega)) | (refine (World.cell?_alloc_at _ _ _ _ ?_).trans ?_; focus ((try simp only [World.size_setCell, World.size_alloc]); done)) | (refine (World.cell?_setCell_other _ _ _ _ ?_).trans ?_; focus (simp; done)) | (refine (World.cell?_setCell_other _ _ _ _ ?_).trans ?_; focus (simp; omega)) | (refine World.cell?_setCell_same' _ _ _ ?_; focus (simp; done))))))
  go_enter Tryz.func174, Tryz.ntmps174
  go_wp2_with (first | (go_at_call 126; refine (tidle_any _).mono ?_; rintro e wx ⟨rfl, hgx⟩; try (have hcs := cells_keep hgx hcs; have hq0 := hcs.1.2; have hq1 := hcs.2.1.2; have hq2 := hcs.2.2.1.2; have hq3 := hcs.2.2.2.1.2; have hq4 := hcs.2.2.2.2.1.2; have hq5 := hcs.2.2.2.2.2.1.2; have hq6 := hcs.2.2.2.2.2.2.1.2; have hq7 := hcs.2.2.2.2.2.2.2.1.2; have hq8 := hcs.2.2.2.2.2.2.2.2.1.2; have hq9 := hcs.2.2.2.2.2.2.2.2.2.1.2; have hq10 := hcs.2.2.2.2.2.2.2.2.2.2.1.2; have hz0 := hcs.1.1)) | (go_at_call 128; refine (twithin_any _ _ _ _).mono ?_; rintro e wx ⟨rfl, hgx⟩; try (have hcs := cells_keep hgx hcs; have hq0 := hcs.1.2; have hq1 := hcs.2.1.2; have hq2 := hcs.2.2.1.2; have hq3 := hcs.2.2.2.1.2; have hq4 := hcs.2.2.2.2.1.2; have hq5 := hcs.2.2.2.2.2.1.2; have hq6 := hcs.2.2.2.2.2.2.1.2; have hq7 := hcs.2.2.2.2.2.2.2.1.2; have hq8 := hcs.2.2.2.2.2.2.2.2.1.2; have hq9 := hcs.2.2.2.2.2.2.2.2.2.1.2; have hq10 := hcs.2.2.2.2.2.2.2.2.2.2.1.2; have hz0 := hcs.1.1)) | (go_at_call 125; refine (ocheck_any _ _).mono ?_; rintro e wx ⟨rfl, hgx⟩; try (have hcs := cells_keep hgx hcs; have hq0 := hcs.1.2; have hq1 := hcs.2.1.2; have hq2 := hcs.2.2.1.2; have hq3 := hcs.2.2.2.1.2; have hq4 := hcs.2.2.2.2.1.2; have hq5 := hcs.2.2.2.2.2.1.2; have hq6 := hcs.2.2.2.2.2.2.1.2; have hq7 := hcs.2.2.2.2.2.2.2.1.2; have hq8 := hcs.2.2.2.2.2.2.2.2.1.2; have hq9 := hcs.2.2.2.2.2.2.2.2.2.1.2; have hq10 := hcs.2.2.2.2.2.2.2.2.2.2.1.2; have hz0 := hcs.1.1)))
  all_goals (go_ret; exact ⟨ret_bool (by simp [thDoes, *]), by repeat' (first | (with_reducible exact Below.refl _ _) | (with_reducible assumption) | (with_reducible refine kept_alloc ?_ _) | (with_reducible refine kept_drewN ?_ _) | (with_reducible refine Below.drew ?_) | (with_reducible refine Below.setCell ?_ (by first | omega | (simp; omega) | (simp; done)) _) | (refine kept_trans ?_ (by with_reducible assumption)))⟩)
theorem twaits_any {st ki va un pc re se tr rs go : Int} {la : Bool} (w : World) : Calls Tryz.prog 175 #[.agg #[.int .i64 st, .int .i64 ki, .int .i64 va, .int .i64 un, .int .i64 pc, .int .i64 re, .int .i64 se, .int .i64 tr, .bool la, .int .i64 rs, .int .i64 go]] w fun e w' => e = .returned (.bool (thWaits ki un la)) ∧ Kept w w' := by
  have hcs : CellsAt (w.alloc (.cells #[.int .i64 st, .int .i64 ki, .int .i64 va, .int .i64 un, .int .i64 pc, .int .i64 re, .int .i64 se, .int .i64 tr, .bool la, .int .i64 rs, .int .i64 go] 147)) [(w.heap.size, 0, .int .i64 st), (w.heap.size, 1, .int .i64 ki), (w.heap.size, 2, .int .i64 va), (w.heap.size, 3, .int .i64 un), (w.heap.size, 4, .int .i64 pc), (w.heap.size, 5, .int .i64 re), (w.heap.size, 6, .int .i64 se), (w.heap.size, 7, .int .i64 tr), (w.heap.size, 8, .bool la), (w.heap.size, 9, .int .i64 rs), (w.heap.size, 10, .int .i64 go)] := by (simp only [CellsAt]; (repeat' (first | exact trivial | (refine And.intro ?_ ?_))); all_goals (first | (focus ((try simp only [World.size_setCell, World.size_alloc]); omega)) | (repeat (first | rfl | assumption | (refine (World.cell?_alloc_past _ _ _ ?_).trans ?_; focus ((try simp only [World.size_setCell, World.size_alloc]); omega)) | (refine (World.cell?_alloc_at _ _ _ _ ?_).trans ?_; focus ((try simp only [World.size_setCell, World.size_alloc]); done)) | (refine (World.cell?_setCell_other _ _ _ _ ?_).trans ?_; focus (simp; done)) | (refine (World.cell?_setCell_other _ _ _ _ ?_).trans ?_; focus (simp; omega)) | (refine World.cell?_setCell_same' _ _ _ ?_; focus (simp; done))))))
  go_enter Tryz.func175, Tryz.ntmps175
  go_wp2_with (first | (go_at_call 223; refine (ttimed_any _).mono ?_; rintro e wx ⟨rfl, hgx⟩; try (have hcs := cells_keep hgx hcs; have hq0 := hcs.1.2; have hq1 := hcs.2.1.2; have hq2 := hcs.2.2.1.2; have hq3 := hcs.2.2.2.1.2; have hq4 := hcs.2.2.2.2.1.2; have hq5 := hcs.2.2.2.2.2.1.2; have hq6 := hcs.2.2.2.2.2.2.1.2; have hq7 := hcs.2.2.2.2.2.2.2.1.2; have hq8 := hcs.2.2.2.2.2.2.2.2.1.2; have hq9 := hcs.2.2.2.2.2.2.2.2.2.1.2; have hq10 := hcs.2.2.2.2.2.2.2.2.2.2.1.2; have hz0 := hcs.1.1)) | (go_at_call 128; refine (twithin_any _ _ _ _).mono ?_; rintro e wx ⟨rfl, hgx⟩; try (have hcs := cells_keep hgx hcs; have hq0 := hcs.1.2; have hq1 := hcs.2.1.2; have hq2 := hcs.2.2.1.2; have hq3 := hcs.2.2.2.1.2; have hq4 := hcs.2.2.2.2.1.2; have hq5 := hcs.2.2.2.2.2.1.2; have hq6 := hcs.2.2.2.2.2.2.1.2; have hq7 := hcs.2.2.2.2.2.2.2.1.2; have hq8 := hcs.2.2.2.2.2.2.2.2.1.2; have hq9 := hcs.2.2.2.2.2.2.2.2.2.1.2; have hq10 := hcs.2.2.2.2.2.2.2.2.2.2.1.2; have hz0 := hcs.1.1)))
  all_goals (go_ret; exact ⟨ret_bool (by simp [thWaits, *]), by repeat' (first | (with_reducible exact Below.refl _ _) | (with_reducible assumption) | (with_reducible refine kept_alloc ?_ _) | (with_reducible refine kept_drewN ?_ _) | (with_reducible refine Below.drew ?_) | (with_reducible refine Below.setCell ?_ (by first | omega | (simp; omega) | (simp; done)) _) | (refine kept_trans ?_ (by with_reducible assumption)))⟩)
theorem tcounts_any {st ki va un pc re se tr rs go : Int} {la : Bool} (w : World) : Calls Tryz.prog 176 #[.agg #[.int .i64 st, .int .i64 ki, .int .i64 va, .int .i64 un, .int .i64 pc, .int .i64 re, .int .i64 se, .int .i64 tr, .bool la, .int .i64 rs, .int .i64 go]] w fun e w' => e = .returned (.bool (thCounts pc re se tr rs)) ∧ Kept w w' := by
  have hcs : CellsAt (w.alloc (.cells #[.int .i64 st, .int .i64 ki, .int .i64 va, .int .i64 un, .int .i64 pc, .int .i64 re, .int .i64 se, .int .i64 tr, .bool la, .int .i64 rs, .int .i64 go] 147)) [(w.heap.size, 0, .int .i64 st), (w.heap.size, 1, .int .i64 ki), (w.heap.size, 2, .int .i64 va), (w.heap.size, 3, .int .i64 un), (w.heap.size, 4, .int .i64 pc), (w.heap.size, 5, .int .i64 re), (w.heap.size, 6, .int .i64 se), (w.heap.size, 7, .int .i64 tr), (w.heap.size, 8, .bool la), (w.heap.size, 9, .int .i64 rs), (w.heap.size, 10, .int .i64 go)] := by (simp only [CellsAt]; (repeat' (first | exact trivial | (refine And.intro ?_ ?_))); all_goals (first | (focus ((try simp only [World.size_setCell, World.size_alloc]); omega)) | (repeat (first | rfl | assumption | (refine (World.cell?_alloc_past _ _ _ ?_).trans ?_; focus ((try simp only [World.size_setCell, World.size_alloc]); omega)) | (refine (World.cell?_alloc_at _ _ _ _ ?_).trans ?_; focus ((try simp only [World.size_setCell, World.size_alloc]); done)) | (refine (World.cell?_setCell_other _ _ _ _ ?_).trans ?_; focus (simp; done)) | (refine (World.cell?_setCell_other _ _ _ _ ?_).trans ?_; focus (simp; omega)) | (refine World.cell?_setCell_same' _ _ _ ?_; focus (simp; done))))))
  go_enter Tryz.func176, Tryz.ntmps176
  go_wp2_with (first | (go_at_call 128; refine (twithin_any _ _ _ _).mono ?_; rintro e wx ⟨rfl, hgx⟩; try (have hcs := cells_keep hgx hcs; have hq0 := hcs.1.2; have hq1 := hcs.2.1.2; have hq2 := hcs.2.2.1.2; have hq3 := hcs.2.2.2.1.2; have hq4 := hcs.2.2.2.2.1.2; have hq5 := hcs.2.2.2.2.2.1.2; have hq6 := hcs.2.2.2.2.2.2.1.2; have hq7 := hcs.2.2.2.2.2.2.2.1.2; have hq8 := hcs.2.2.2.2.2.2.2.2.1.2; have hq9 := hcs.2.2.2.2.2.2.2.2.2.1.2; have hq10 := hcs.2.2.2.2.2.2.2.2.2.2.1.2; have hz0 := hcs.1.1)))
  all_goals (go_ret; exact ⟨ret_bool (by simp [thCounts, *]), by repeat' (first | (with_reducible exact Below.refl _ _) | (with_reducible assumption) | (with_reducible refine kept_alloc ?_ _) | (with_reducible refine kept_drewN ?_ _) | (with_reducible refine Below.drew ?_) | (with_reducible refine Below.setCell ?_ (by first | omega | (simp; omega) | (simp; done)) _) | (refine kept_trans ?_ (by with_reducible assumption)))⟩)
theorem tended_any {st ki va un pc re se tr rs go : Int} {la : Bool} (w : World) : Calls Tryz.prog 217 #[.agg #[.int .i64 st, .int .i64 ki, .int .i64 va, .int .i64 un, .int .i64 pc, .int .i64 re, .int .i64 se, .int .i64 tr, .bool la, .int .i64 rs, .int .i64 go]] w fun e w' => e = .returned (.agg #[.int .i64 0, .int .i64 ki, .int .i64 va, .int .i64 un, .int .i64 0, .int .i64 0, .int .i64 0, .int .i64 0, .bool false, .int .i64 rs, .int .i64 go]) ∧ Kept w w' := by
  go_enter Tryz.func217, Tryz.ntmps217
  go_wp2
  refine bodyPost_ret (v := (.agg #[.int .i64 0, .int .i64 ki, .int .i64 va, .int .i64 un, .int .i64 0, .int .i64 0, .int .i64 0, .int .i64 0, .bool false, .int .i64 rs, .int .i64 go])) (by simp [results, Tryz.results217, go_sem, *]) rfl ?_
  exact ⟨rfl, by repeat' (first | (with_reducible exact Below.refl _ _) | (with_reducible assumption) | (with_reducible refine kept_alloc ?_ _) | (with_reducible refine kept_drewN ?_ _) | (with_reducible refine Below.drew ?_) | (with_reducible refine Below.setCell ?_ (by first | omega | (simp; omega) | (simp; done)) _) | (refine kept_trans ?_ (by with_reducible assumption)))⟩
theorem rests_dec (st ki va un pc re se tr rs go : Int) (la : Bool) : decide ((⟨st, ki, va, un, pc, re, se, tr, la, rs, go⟩ : Th) = ⟨0, ki, va, un, 0, 0, 0, 0, false, rs, go⟩) = thRests st pc re se tr la := by
  rw [Bool.eq_iff_iff]; simp [thRests]
theorem trests_any {st ki va un pc re se tr rs go : Int} {la : Bool} (w : World) : Calls Tryz.prog 177 #[.agg #[.int .i64 st, .int .i64 ki, .int .i64 va, .int .i64 un, .int .i64 pc, .int .i64 re, .int .i64 se, .int .i64 tr, .bool la, .int .i64 rs, .int .i64 go]] w fun e w' => e = .returned (.bool (thRests st pc re se tr la)) ∧ Kept w w' := by
  have hcmp : ∀ w : World, (binOp .eql 44 (.agg #[.int .i64 st, .int .i64 ki, .int .i64 va, .int .i64 un, .int .i64 pc, .int .i64 re, .int .i64 se, .int .i64 tr, .bool la, .int .i64 rs, .int .i64 go]) (.agg #[.int .i64 0, .int .i64 ki, .int .i64 va, .int .i64 un, .int .i64 0, .int .i64 0, .int .i64 0, .int .i64 0, .bool false, .int .i64 rs, .int .i64 go])).run Tryz.prog w = .ok (.bool (thRests st pc re se tr la)) w := fun w => (th_eql ⟨st, ki, va, un, pc, re, se, tr, la, rs, go⟩ ⟨0, ki, va, un, 0, 0, 0, 0, false, rs, go⟩ w).trans (by rw [rests_dec])
  go_enter Tryz.func177, Tryz.ntmps177
  go_wp2
  (refine wp_region_kept (w := w) [(w.heap.size, 0, .int .i64 st), (w.heap.size, 1, .int .i64 ki), (w.heap.size, 2, .int .i64 va), (w.heap.size, 3, .int .i64 un), (w.heap.size, 4, .int .i64 pc), (w.heap.size, 5, .int .i64 re), (w.heap.size, 6, .int .i64 se), (w.heap.size, 7, .int .i64 tr), (w.heap.size, 8, .bool la), (w.heap.size, 9, .int .i64 rs), (w.heap.size, 10, .int .i64 go)] (by kernel_rfl) (by kernel_rfl) (by repeat' (first | (with_reducible exact Below.refl _ _) | (with_reducible assumption) | (with_reducible refine kept_alloc ?_ _) | (with_reducible refine kept_drewN ?_ _) | (with_reducible refine Below.drew ?_) | (with_reducible refine Below.setCell ?_ (by first | omega | (simp; omega) | (simp; done)) _) | (refine kept_trans ?_ (by with_reducible assumption)))) (by first | exact hcs | (simp only [CellsAt]; (repeat' (first | exact trivial | (refine And.intro ?_ ?_))); all_goals (first | (focus ((try simp only [World.size_setCell, World.size_alloc]); omega)) | (repeat (first | rfl | assumption | (refine (World.cell?_alloc_past _ _ _ ?_).trans ?_; focus ((try simp only [World.size_setCell, World.size_alloc]); omega)) | (refine (World.cell?_alloc_at _ _ _ _ ?_).trans ?_; focus ((try simp only [World.size_setCell, World.size_alloc]); done)) | (refine (World.cell?_setCell_other _ _ _ _ ?_).trans ?_; focus (simp; done)) | (refine (World.cell?_setCell_other _ _ _ _ ?_).trans ?_; focus (simp; omega)) | (refine World.cell?_setCell_same' _ _ _ ?_; focus (simp; done))))))) (fun hne => ?_); (have hq0 : ∀ xwd : Wd w [(w.heap.size, 0, .int .i64 st), (w.heap.size, 1, .int .i64 ki), (w.heap.size, 2, .int .i64 va), (w.heap.size, 3, .int .i64 un), (w.heap.size, 4, .int .i64 pc), (w.heap.size, 5, .int .i64 re), (w.heap.size, 6, .int .i64 se), (w.heap.size, 7, .int .i64 tr), (w.heap.size, 8, .bool la), (w.heap.size, 9, .int .i64 rs), (w.heap.size, 10, .int .i64 go)], xwd.at.cell? ⟨w.heap.size, 0, none⟩ = some (.int .i64 st) := fun xwd => xwd.cells.1.2; have hq1 : ∀ xwd : Wd w [(w.heap.size, 0, .int .i64 st), (w.heap.size, 1, .int .i64 ki), (w.heap.size, 2, .int .i64 va), (w.heap.size, 3, .int .i64 un), (w.heap.size, 4, .int .i64 pc), (w.heap.size, 5, .int .i64 re), (w.heap.size, 6, .int .i64 se), (w.heap.size, 7, .int .i64 tr), (w.heap.size, 8, .bool la), (w.heap.size, 9, .int .i64 rs), (w.heap.size, 10, .int .i64 go)], xwd.at.cell? ⟨w.heap.size, 1, none⟩ = some (.int .i64 ki) := fun xwd => xwd.cells.2.1.2; have hq2 : ∀ xwd : Wd w [(w.heap.size, 0, .int .i64 st), (w.heap.size, 1, .int .i64 ki), (w.heap.size, 2, .int .i64 va), (w.heap.size, 3, .int .i64 un), (w.heap.size, 4, .int .i64 pc), (w.heap.size, 5, .int .i64 re), (w.heap.size, 6, .int .i64 se), (w.heap.size, 7, .int .i64 tr), (w.heap.size, 8, .bool la), (w.heap.size, 9, .int .i64 rs), (w.heap.size, 10, .int .i64 go)], xwd.at.cell? ⟨w.heap.size, 2, none⟩ = some (.int .i64 va) := fun xwd => xwd.cells.2.2.1.2; have hq3 : ∀ xwd : Wd w [(w.heap.size, 0, .int .i64 st), (w.heap.size, 1, .int .i64 ki), (w.heap.size, 2, .int .i64 va), (w.heap.size, 3, .int .i64 un), (w.heap.size, 4, .int .i64 pc), (w.heap.size, 5, .int .i64 re), (w.heap.size, 6, .int .i64 se), (w.heap.size, 7, .int .i64 tr), (w.heap.size, 8, .bool la), (w.heap.size, 9, .int .i64 rs), (w.heap.size, 10, .int .i64 go)], xwd.at.cell? ⟨w.heap.size, 3, none⟩ = some (.int .i64 un) := fun xwd => xwd.cells.2.2.2.1.2; have hq4 : ∀ xwd : Wd w [(w.heap.size, 0, .int .i64 st), (w.heap.size, 1, .int .i64 ki), (w.heap.size, 2, .int .i64 va), (w.heap.size, 3, .int .i64 un), (w.heap.size, 4, .int .i64 pc), (w.heap.size, 5, .int .i64 re), (w.heap.size, 6, .int .i64 se), (w.heap.size, 7, .int .i64 tr), (w.heap.size, 8, .bool la), (w.heap.size, 9, .int .i64 rs), (w.heap.size, 10, .int .i64 go)], xwd.at.cell? ⟨w.heap.size, 4, none⟩ = some (.int .i64 pc) := fun xwd => xwd.cells.2.2.2.2.1.2; have hq5 : ∀ xwd : Wd w [(w.heap.size, 0, .int .i64 st), (w.heap.size, 1, .int .i64 ki), (w.heap.size, 2, .int .i64 va), (w.heap.size, 3, .int .i64 un), (w.heap.size, 4, .int .i64 pc), (w.heap.size, 5, .int .i64 re), (w.heap.size, 6, .int .i64 se), (w.heap.size, 7, .int .i64 tr), (w.heap.size, 8, .bool la), (w.heap.size, 9, .int .i64 rs), (w.heap.size, 10, .int .i64 go)], xwd.at.cell? ⟨w.heap.size, 5, none⟩ = some (.int .i64 re) := fun xwd => xwd.cells.2.2.2.2.2.1.2; have hq6 : ∀ xwd : Wd w [(w.heap.size, 0, .int .i64 st), (w.heap.size, 1, .int .i64 ki), (w.heap.size, 2, .int .i64 va), (w.heap.size, 3, .int .i64 un), (w.heap.size, 4, .int .i64 pc), (w.heap.size, 5, .int .i64 re), (w.heap.size, 6, .int .i64 se), (w.heap.size, 7, .int .i64 tr), (w.heap.size, 8, .bool la), (w.heap.size, 9, .int .i64 rs), (w.heap.size, 10, .int .i64 go)], xwd.at.cell? ⟨w.heap.size, 6, none⟩ = some (.int .i64 se) := fun xwd => xwd.cells.2.2.2.2.2.2.1.2; have hq7 : ∀ xwd : Wd w [(w.heap.size, 0, .int .i64 st), (w.heap.size, 1, .int .i64 ki), (w.heap.size, 2, .int .i64 va), (w.heap.size, 3, .int .i64 un), (w.heap.size, 4, .int .i64 pc), (w.heap.size, 5, .int .i64 re), (w.heap.size, 6, .int .i64 se), (w.heap.size, 7, .int .i64 tr), (w.heap.size, 8, .bool la), (w.heap.size, 9, .int .i64 rs), (w.heap.size, 10, .int .i64 go)], xwd.at.cell? ⟨w.heap.size, 7, none⟩ = some (.int .i64 tr) := fun xwd => xwd.cells.2.2.2.2.2.2.2.1.2; have hq8 : ∀ xwd : Wd w [(w.heap.size, 0, .int .i64 st), (w.heap.size, 1, .int .i64 ki), (w.heap.size, 2, .int .i64 va), (w.heap.size, 3, .int .i64 un), (w.heap.size, 4, .int .i64 pc), (w.heap.size, 5, .int .i64 re), (w.heap.size, 6, .int .i64 se), (w.heap.size, 7, .int .i64 tr), (w.heap.size, 8, .bool la), (w.heap.size, 9, .int .i64 rs), (w.heap.size, 10, .int .i64 go)], xwd.at.cell? ⟨w.heap.size, 8, none⟩ = some (.bool la) := fun xwd => xwd.cells.2.2.2.2.2.2.2.2.1.2; have hq9 : ∀ xwd : Wd w [(w.heap.size, 0, .int .i64 st), (w.heap.size, 1, .int .i64 ki), (w.heap.size, 2, .int .i64 va), (w.heap.size, 3, .int .i64 un), (w.heap.size, 4, .int .i64 pc), (w.heap.size, 5, .int .i64 re), (w.heap.size, 6, .int .i64 se), (w.heap.size, 7, .int .i64 tr), (w.heap.size, 8, .bool la), (w.heap.size, 9, .int .i64 rs), (w.heap.size, 10, .int .i64 go)], xwd.at.cell? ⟨w.heap.size, 9, none⟩ = some (.int .i64 rs) := fun xwd => xwd.cells.2.2.2.2.2.2.2.2.2.1.2; have hq10 : ∀ xwd : Wd w [(w.heap.size, 0, .int .i64 st), (w.heap.size, 1, .int .i64 ki), (w.heap.size, 2, .int .i64 va), (w.heap.size, 3, .int .i64 un), (w.heap.size, 4, .int .i64 pc), (w.heap.size, 5, .int .i64 re), (w.heap.size, 6, .int .i64 se), (w.heap.size, 7, .int .i64 tr), (w.heap.size, 8, .bool la), (w.heap.size, 9, .int .i64 rs), (w.heap.size, 10, .int .i64 go)], xwd.at.cell? ⟨w.heap.size, 10, none⟩ = some (.int .i64 go) := fun xwd => xwd.cells.2.2.2.2.2.2.2.2.2.2.1.2); (try simp only [List.append_eq, List.cons_append, List.nil_append]); (repeat (go_big_quiet_step ((first | (go_at_call 217; exact quiet_call (tended_any _)))))); (refine wpQuiet_nil ?_); intro wq hwq; obtain ⟨xwd, hxwd⟩ := hwq; have hgx : Below w.heap.size w wq := (by rw [hxwd]; exact xwd.kept); have hcs := (show CellsAt wq [(w.heap.size, 0, .int .i64 st), (w.heap.size, 1, .int .i64 ki), (w.heap.size, 2, .int .i64 va), (w.heap.size, 3, .int .i64 un), (w.heap.size, 4, .int .i64 pc), (w.heap.size, 5, .int .i64 re), (w.heap.size, 6, .int .i64 se), (w.heap.size, 7, .int .i64 tr), (w.heap.size, 8, .bool la), (w.heap.size, 9, .int .i64 rs), (w.heap.size, 10, .int .i64 go)] by rw [hxwd]; exact xwd.cells); clear hxwd xwd hne)
  all_goals go_wp2
  all_goals (go_ret; exact ⟨rfl, by repeat' (first | (with_reducible exact Below.refl _ _) | (with_reducible assumption) | (with_reducible refine kept_alloc ?_ _) | (with_reducible refine kept_drewN ?_ _) | (with_reducible refine Below.drew ?_) | (with_reducible refine Below.setCell ?_ (by first | omega | (simp; omega) | (simp; done)) _) | (refine kept_trans ?_ (by with_reducible assumption)))⟩)
end Go.Proofs.YtjbcfjfnobklkaaGreat

/- Layer 12: whether a thread may be, and whether it is late: the program's, and the document's. -/
namespace Go.Proofs.YtjbcfjfnobklkaaGreat
set_option linter.unusedVariables false
set_option linter.unusedSimpArgs false
open Go.ChangeShapes Go.WideShapes Go.ChangeAt Go.RowKit
set_option maxHeartbeats 2000000 in
theorem tcheck_any {st ki va un pc re se tr rs go : Int} {la : Bool} (w : World) : Calls Tryz.prog 114 #[.agg #[.int .i64 st, .int .i64 ki, .int .i64 va, .int .i64 un, .int .i64 pc, .int .i64 re, .int .i64 se, .int .i64 tr, .bool la, .int .i64 rs, .int .i64 go]] w fun e w' => e = .returned (.bool (thB ⟨st, ki, va, un, pc, re, se, tr, la, rs, go⟩)) ∧ Kept w w' := by
  go_enter Tryz.func114, Tryz.ntmps114
  go_wp2_with fail; refine (tdoes_any _).mono ?_; rintro e w1 ⟨rfl, hw1⟩
  have hcs : CellsAt w1 [(w.heap.size + 1, 0, .int .i64 st), (w.heap.size + 1, 1, .int .i64 ki), (w.heap.size + 1, 2, .int .i64 va), (w.heap.size + 1, 3, .int .i64 un), (w.heap.size + 1, 4, .int .i64 pc), (w.heap.size + 1, 5, .int .i64 re), (w.heap.size + 1, 6, .int .i64 se), (w.heap.size + 1, 7, .int .i64 tr), (w.heap.size + 1, 8, .bool la), (w.heap.size + 1, 9, .int .i64 rs), (w.heap.size + 1, 10, .int .i64 go)] := cells_keep hw1 (by (simp only [CellsAt]; (repeat' (first | exact trivial | (refine And.intro ?_ ?_))); all_goals (first | (focus ((try simp only [World.size_setCell, World.size_alloc]); omega)) | (repeat (first | rfl | assumption | (refine (World.cell?_alloc_past _ _ _ ?_).trans ?_; focus ((try simp only [World.size_setCell, World.size_alloc]); omega)) | (refine (World.cell?_alloc_at _ _ _ _ ?_).trans ?_; focus ((try simp only [World.size_setCell, World.size_alloc]); done)) | (refine (World.cell?_setCell_other _ _ _ _ ?_).trans ?_; focus (simp; done)) | (refine (World.cell?_setCell_other _ _ _ _ ?_).trans ?_; focus (simp; omega)) | (refine World.cell?_setCell_same' _ _ _ ?_; focus (simp; done)))))))
  have hq0 := hcs.1.2; have hq1 := hcs.2.1.2; have hq2 := hcs.2.2.1.2; have hq3 := hcs.2.2.2.1.2; have hq4 := hcs.2.2.2.2.1.2; have hq5 := hcs.2.2.2.2.2.1.2; have hq6 := hcs.2.2.2.2.2.2.1.2; have hq7 := hcs.2.2.2.2.2.2.2.1.2; have hq8 := hcs.2.2.2.2.2.2.2.2.1.2; have hq9 := hcs.2.2.2.2.2.2.2.2.2.1.2; have hq10 := hcs.2.2.2.2.2.2.2.2.2.2.1.2; have hz0 := hcs.1.1
  have hB : Below w.heap.size w w1 := by repeat' (first | (with_reducible exact Below.refl _ _) | (with_reducible assumption) | (with_reducible refine kept_alloc ?_ _) | (with_reducible refine kept_drewN ?_ _) | (with_reducible refine Below.drew ?_) | (with_reducible refine Below.setCell ?_ (by first | omega | (simp; omega) | (simp; done)) _) | (refine kept_trans ?_ (by with_reducible assumption)))
  clear hw1
  go_wp2_with (first | (go_at_call 175; refine (twaits_any _).mono ?_; rintro e wx ⟨rfl, hgx⟩; try (have hcs := cells_keep hgx hcs; have hq0 := hcs.1.2; have hq1 := hcs.2.1.2; have hq2 := hcs.2.2.1.2; have hq3 := hcs.2.2.2.1.2; have hq4 := hcs.2.2.2.2.1.2; have hq5 := hcs.2.2.2.2.2.1.2; have hq6 := hcs.2.2.2.2.2.2.1.2; have hq7 := hcs.2.2.2.2.2.2.2.1.2; have hq8 := hcs.2.2.2.2.2.2.2.2.1.2; have hq9 := hcs.2.2.2.2.2.2.2.2.2.1.2; have hq10 := hcs.2.2.2.2.2.2.2.2.2.2.1.2; have hz0 := hcs.1.1)) | (go_at_call 176; refine (tcounts_any _).mono ?_; rintro e wx ⟨rfl, hgx⟩; try (have hcs := cells_keep hgx hcs; have hq0 := hcs.1.2; have hq1 := hcs.2.1.2; have hq2 := hcs.2.2.1.2; have hq3 := hcs.2.2.2.1.2; have hq4 := hcs.2.2.2.2.1.2; have hq5 := hcs.2.2.2.2.2.1.2; have hq6 := hcs.2.2.2.2.2.2.1.2; have hq7 := hcs.2.2.2.2.2.2.2.1.2; have hq8 := hcs.2.2.2.2.2.2.2.2.1.2; have hq9 := hcs.2.2.2.2.2.2.2.2.2.1.2; have hq10 := hcs.2.2.2.2.2.2.2.2.2.2.1.2; have hz0 := hcs.1.1)) | (go_at_call 126; refine (tidle_any _).mono ?_; rintro e wx ⟨rfl, hgx⟩; try (have hcs := cells_keep hgx hcs; have hq0 := hcs.1.2; have hq1 := hcs.2.1.2; have hq2 := hcs.2.2.1.2; have hq3 := hcs.2.2.2.1.2; have hq4 := hcs.2.2.2.2.1.2; have hq5 := hcs.2.2.2.2.2.1.2; have hq6 := hcs.2.2.2.2.2.2.1.2; have hq7 := hcs.2.2.2.2.2.2.2.1.2; have hq8 := hcs.2.2.2.2.2.2.2.2.1.2; have hq9 := hcs.2.2.2.2.2.2.2.2.2.1.2; have hq10 := hcs.2.2.2.2.2.2.2.2.2.2.1.2; have hz0 := hcs.1.1)) | (go_at_call 177; refine (trests_any _).mono ?_; rintro e wx ⟨rfl, hgx⟩; try (have hcs := cells_keep hgx hcs; have hq0 := hcs.1.2; have hq1 := hcs.2.1.2; have hq2 := hcs.2.2.1.2; have hq3 := hcs.2.2.2.1.2; have hq4 := hcs.2.2.2.2.1.2; have hq5 := hcs.2.2.2.2.2.1.2; have hq6 := hcs.2.2.2.2.2.2.1.2; have hq7 := hcs.2.2.2.2.2.2.2.1.2; have hq8 := hcs.2.2.2.2.2.2.2.2.1.2; have hq9 := hcs.2.2.2.2.2.2.2.2.2.1.2; have hq10 := hcs.2.2.2.2.2.2.2.2.2.2.1.2; have hz0 := hcs.1.1)))
  all_goals (go_ret; exact ⟨ret_bool (by simp_all [thB]), by repeat' (first | (with_reducible exact Below.refl _ _) | (with_reducible assumption) | (with_reducible refine kept_alloc ?_ _) | (with_reducible refine kept_drewN ?_ _) | (with_reducible refine Below.drew ?_) | (with_reducible refine Below.setCell ?_ (by first | omega | (simp; omega) | (simp; done)) _) | (refine kept_trans ?_ (by with_reducible assumption)))⟩)
end Go.Proofs.YtjbcfjfnobklkaaGreat

/- Layer 13: lists copied; the library's looks at threads; whether lines may stand, the ring may be, threads may be. -/
namespace Go.Proofs.YtjbcfjfnobklkaaGreat
set_option linter.unusedVariables false
set_option linter.unusedSimpArgs false
open Go.ChangeShapes Go.WideShapes Go.ChangeAt Go.RowKit

theorem th_info : (Tryz.prog.info? 44).map (fun i => (i.zero, i.size, i.bytes)) = some (some (.agg #[.int .i64 0, .int .i64 0, .int .i64 0, .int .i64 0, .int .i64 0, .int .i64 0, .int .i64 0, .int .i64 0, .bool false, .int .i64 0, .int .i64 0]), 11, 88) := by kernel_rfl
/-! ### Threads in a list -/
theorem sth_at {W : World} {l : List Th} {b o n c : Nat} (h : Sl W 11 Th.cells l (.slice (some ⟨b, o, none⟩) n c)) {j : Nat} (hj : j < l.length) : W.cell? ⟨b, o + j * 11, none⟩ = some (.int .i64 (gth l j).st) ∧ W.cell? ⟨b, o + j * 11 + 1, none⟩ = some (.int .i64 (gth l j).ki) ∧ W.cell? ⟨b, o + j * 11 + 2, none⟩ = some (.int .i64 (gth l j).va) ∧ W.cell? ⟨b, o + j * 11 + 3, none⟩ = some (.int .i64 (gth l j).un) ∧ W.cell? ⟨b, o + j * 11 + 4, none⟩ = some (.int .i64 (gth l j).pc) ∧ W.cell? ⟨b, o + j * 11 + 5, none⟩ = some (.int .i64 (gth l j).re) ∧ W.cell? ⟨b, o + j * 11 + 6, none⟩ = some (.int .i64 (gth l j).se) ∧ W.cell? ⟨b, o + j * 11 + 7, none⟩ = some (.int .i64 (gth l j).tr) ∧ W.cell? ⟨b, o + j * 11 + 8, none⟩ = some (.bool (gth l j).la) ∧ W.cell? ⟨b, o + j * 11 + 9, none⟩ = some (.int .i64 (gth l j).rs) ∧ W.cell? ⟨b, o + j * 11 + 10, none⟩ = some (.int .i64 (gth l j).go) := by
  obtain ⟨p, k, e, _, _, _, h4⟩ := h.is
  cases e
  obtain ⟨b', o', e, _, h5⟩ := h4 (by intro h; subst h; simp at hj)
  cases e
  have h6 := h5 j (gth l j) (gth_some hj)
  have k0 := h6 0 (by omega); have k1 := h6 1 (by omega); have k2 := h6 2 (by omega); have k3 := h6 3 (by omega); have k4 := h6 4 (by omega); have k5 := h6 5 (by omega); have k6 := h6 6 (by omega); have k7 := h6 7 (by omega); have k8 := h6 8 (by omega); have k9 := h6 9 (by omega); have k10 := h6 10 (by omega)
  exact ⟨by simpa [Th.cells] using k0, by simpa [Th.cells] using k1, by simpa [Th.cells] using k2, by simpa [Th.cells] using k3, by simpa [Th.cells] using k4, by simpa [Th.cells] using k5, by simpa [Th.cells] using k6, by simpa [Th.cells] using k7, by simpa [Th.cells] using k8, by simpa [Th.cells] using k9, by simpa [Th.cells] using k10⟩
/-- What a function value tells of each thread, in each world that keeps w. -/
def TellsT (g : Nat) (lb : Array Value) (f : Th → Bool) (w : World) : Prop := ∀ (W : World) (t : Th), Below w.heap.size w W → Calls Tryz.prog g (#[.agg #[.int .i64 t.st, .int .i64 t.ki, .int .i64 t.va, .int .i64 t.un, .int .i64 t.pc, .int .i64 t.re, .int .i64 t.se, .int .i64 t.tr, .bool t.la, .int .i64 t.rs, .int .i64 t.go]] ++ lb) W fun e W' => e = .returned (.bool (f t)) ∧ Kept W W'
theorem TellsT.kept {g : Nat} {lb : Array Value} {f : Th → Bool} {w w' : World} (h : TellsT g lb f w) (hk : Below w.heap.size w w') : TellsT g lb f w' := fun W x hW => h W x (kept_trans hk hW)
theorem any_take {l : List Th} {f : Th → Bool} {j : Nat} (hj : j < l.length) (hf : f (gth l j) = false) (h : (l.take j).any f = false) : (l.take (j + 1)).any f = false := by
  rw [gth_eq hj] at hf
  rw [List.take_succ_eq_append_getElem hj, List.any_append, h]
  simp [hf]

set_option maxHeartbeats 1000000 in
theorem indexFuncT_any (l : List Th) (f : Th → Bool) (g : Nat) (lb : Array Value) (eg : ∀ args w, (callFunc g args).run Tryz.prog w = .ok (.enter g args) w) (p : Option Addr) (k : Nat) (w : World) (hl : Sl w 11 Th.cells l (.slice p l.length k)) (hg : TellsT g lb f w) :
    Calls Tryz.prog 178 #[.slice p l.length k, .func (.func g) #[] lb] w fun e w' => ∃ r : Int, e = .returned (.int .i64 r) ∧ decide (0 ≤ r) = l.any f ∧ Kept w w' := by
  have H := Lib.hid hl
  obtain ⟨_, _, e1, hlk, hkm, _, hne⟩ := hl.is
  cases e1
  have hbig : l.length ≤ 9223372036854775807 := by unfold maxLen at hkm; omega
  clear hl hkm
  obtain ⟨N, hN⟩ : ∃ N, l.length = N := ⟨_, rfl⟩
  rw [hN] at hbig hlk ⊢
  have HN := Lib.hid hN
  have HNE := Lib.hid hne
  have HG := Lib.hid hg
  clear hN hne hg
  go_enter Tryz.func178, Tryz.ntmps178
  go_wp2
  go_loopw [5, 8] (fun _ s8 wr => ∃ j : Nat, j ≤ N ∧ s8 = .int .i64 j ∧ Hid ((l.take j).any f = false) ∧ Below w.heap.size w wr) (fun _ s8 _ => N - (intOf s8).toNat)
  case atStart => exact ⟨0, by omega, rfl, Lib.hid (by simp), Below.refl _ _⟩
  case round =>
    obtain ⟨j, hj, rfl, T, hB⟩ := hrel
    by_cases hlt : j < N
    · have hlt' : j < l.length := by rw [HN.out]; exact hlt
      obtain ⟨b, o, rfl, hb, -⟩ := HNE.out (by intro h; subst h; simp at hlt')
      obtain ⟨c0, c1, c2, c3, c4, c5, c6, c7, c8, c9, c10⟩ := sth_at (H.out.kept hB) hlt'
      have hbw : b < wr.heap.size := Nat.lt_of_lt_of_le hb hB.size
      have i1 : (0 : Int) ≤ (j : Int) := by omega
      have i2 : (j : Int) < (N : Int) := by omega
      have Hh : Hid (f (gth l j) = true → l.any f = true) := fun h => List.any_eq_true.2 ⟨_, by rw [gth_eq hlt']; exact List.getElem_mem hlt', h⟩
      have Hn : Hid (f (gth l j) = false → (l.take (j + 1)).any f = false) := fun h => any_take hlt' h T.out
      have hcall := HG.out wr (gth l j) hB
      generalize gth l j = y at *
      cases hxy : f y
      · have hn := Lib.hid (Hn.out hxy)
        rw [hxy] at hcall
        clear Hh Hn hxy
        go_wp2_with (go_at_fn g; refine hcall.mono ?_; rintro e w1 ⟨rfl, hg1⟩)
        exact ⟨⟨j + 1, by omega, by go_num, hn.out, by repeat' (first | (with_reducible exact Below.refl _ _) | (with_reducible assumption) | (with_reducible refine kept_alloc ?_ _) | (with_reducible refine kept_drewN ?_ _) | (with_reducible refine Below.drew ?_) | (with_reducible refine Below.setCell ?_ (by first | omega | (simp; omega) | (simp; done)) _) | (refine kept_trans ?_ (by with_reducible assumption)))⟩, by simp [intOf]; omega⟩
      · have hn := Lib.hid (Hh.out hxy)
        rw [hxy] at hcall
        clear Hh Hn hxy
        go_wp2_with (go_at_fn g; refine hcall.mono ?_; rintro e w1 ⟨rfl, hg1⟩)
        go_ret
        exact ⟨j, rfl, by rw [hn.out]; simp, by repeat' (first | (with_reducible exact Below.refl _ _) | (with_reducible assumption) | (with_reducible refine kept_alloc ?_ _) | (with_reducible refine kept_drewN ?_ _) | (with_reducible refine Below.drew ?_) | (with_reducible refine Below.setCell ?_ (by first | omega | (simp; omega) | (simp; done)) _) | (refine kept_trans ?_ (by with_reducible assumption)))⟩
    · have : j = N := by omega
      subst this
      have hn : Hid (l.any f = false) := Lib.hid (by have := T.out; rw [← HN.out, List.take_length] at this; exact this)
      clear T
      go_wp2
      go_ret
      exact ⟨-1, rfl, by rw [hn.out]; rfl, by repeat' (first | (with_reducible exact Below.refl _ _) | (with_reducible assumption) | (with_reducible refine kept_alloc ?_ _) | (with_reducible refine kept_drewN ?_ _) | (with_reducible refine Below.drew ?_) | (with_reducible refine Below.setCell ?_ (by first | omega | (simp; omega) | (simp; done)) _) | (refine kept_trans ?_ (by with_reducible assumption)))⟩
theorem containsFuncT_any (l : List Th) (f : Th → Bool) (g : Nat) (lb : Array Value) (eg : ∀ args w, (callFunc g args).run Tryz.prog w = .ok (.enter g args) w) (p : Option Addr) (k : Nat) (w : World) (hl : Sl w 11 Th.cells l (.slice p l.length k)) (hg : TellsT g lb f w) :
    Calls Tryz.prog 115 #[.slice p l.length k, .func (.func g) #[] lb] w fun e w' => e = .returned (.bool (l.any f)) ∧ Kept w w' := by
  have H := Lib.hid hl
  have HG := Lib.hid hg
  clear hl hg
  go_enter Tryz.func115, Tryz.ntmps115
  go_wp2_with fail
  refine (indexFuncT_any l f g lb eg p k _ (H.out.kept (by repeat' (first | (with_reducible exact Below.refl _ _) | (with_reducible assumption) | (with_reducible refine kept_alloc ?_ _) | (with_reducible refine kept_drewN ?_ _) | (with_reducible refine Below.drew ?_) | (with_reducible refine Below.setCell ?_ (by first | omega | (simp; omega) | (simp; done)) _) | (refine kept_trans ?_ (by with_reducible assumption))))) (HG.out.kept (by repeat' (first | (with_reducible exact Below.refl _ _) | (with_reducible assumption) | (with_reducible refine kept_alloc ?_ _) | (with_reducible refine kept_drewN ?_ _) | (with_reducible refine Below.drew ?_) | (with_reducible refine Below.setCell ?_ (by first | omega | (simp; omega) | (simp; done)) _) | (refine kept_trans ?_ (by with_reducible assumption)))))).mono ?_
  rintro e w1 ⟨r, rfl, hr, hg1⟩
  have HR := Lib.hid hr
  clear hr
  go_wp2
  go_ret
  exact ⟨ret_bool HR.out, by repeat' (first | (with_reducible exact Below.refl _ _) | (with_reducible assumption) | (with_reducible refine kept_alloc ?_ _) | (with_reducible refine kept_drewN ?_ _) | (with_reducible refine Below.drew ?_) | (with_reducible refine Below.setCell ?_ (by first | omega | (simp; omega) | (simp; done)) _) | (refine kept_trans ?_ (by with_reducible assumption)))⟩
theorem threads1_enters : ∀ args w, (callFunc 113 args).run Tryz.prog w = .ok (.enter 113 args) w := enters_of Tryz.func113 (by kernel_rfl) rfl
theorem threads1_tells (w : World) : TellsT 113 #[] notTh w := by
  intro W t hW
  show Calls Tryz.prog 113 #[.agg #[.int .i64 t.st, .int .i64 t.ki, .int .i64 t.va, .int .i64 t.un, .int .i64 t.pc, .int .i64 t.re, .int .i64 t.se, .int .i64 t.tr, .bool t.la, .int .i64 t.rs, .int .i64 t.go]] W _
  go_enter Tryz.func113, Tryz.ntmps113
  go_wp2_with fail
  refine (tcheck_any _).mono ?_
  rintro e w1 ⟨rfl, hg1⟩
  go_wp2
  go_ret
  exact ⟨rfl, by repeat' (first | (with_reducible exact Below.refl _ _) | (with_reducible assumption) | (with_reducible refine kept_alloc ?_ _) | (with_reducible refine kept_drewN ?_ _) | (with_reducible refine Below.drew ?_) | (with_reducible refine Below.setCell ?_ (by first | omega | (simp; omega) | (simp; done)) _) | (refine kept_trans ?_ (by with_reducible assumption)))⟩

/-! ### Lines that stand -/
theorem stand1_enters : ∀ args w, (callFunc 110 args).run Tryz.prog w = .ok (.enter 110 args) w := enters_of Tryz.func110 (by kernel_rfl) rfl
theorem stand1_tells (th : Int) (b : Nat) (w : World) (hb : b < w.heap.size) (hc : w.cell? ⟨b, 0, none⟩ = some (.int .i64 th)) : Tells 110 #[.pointer (some ⟨b, 0, none⟩)] (overB th) w := by
  intro W x hW
  have c1 := (hW.cell (p := ⟨b, 0, none⟩) hb).trans hc
  show Calls Tryz.prog 110 #[.int .i64 x, .pointer (some ⟨b, 0, none⟩)] W _
  go_enter Tryz.func110, Tryz.ntmps110
  go_wp2
  all_goals (go_ret; exact ⟨ret_bool (by simp [overB, *]), by repeat' (first | (with_reducible exact Below.refl _ _) | (with_reducible assumption) | (with_reducible refine kept_alloc ?_ _) | (with_reducible refine kept_drewN ?_ _) | (with_reducible refine Below.drew ?_) | (with_reducible refine Below.setCell ?_ (by first | omega | (simp; omega) | (simp; done)) _) | (refine kept_trans ?_ (by with_reducible assumption)))⟩)
/-- A line, and where it lies. -/
structure Ln where
  p : Option Addr
  k : Nat
  l : List Int
def Ln.cells (x : Ln) : List Value := [.slice x.p x.l.length x.k]
theorem Ln.enc : Enc 1 Ln.cells := ⟨fun _ => rfl, fun x c hc => by simp [Ln.cells] at hc; subst hc; rfl⟩
theorem all_take {l : List Ln} {f : Ln → Bool} {j : Nat} (hj : j < l.length) (hf : f l[j] = true) (h : (l.take j).all f = true) : (l.take (j + 1)).all f = true := by
  rw [List.take_succ_eq_append_getElem hj, List.all_append, h]
  simp [hf]
theorem all_miss {l : List Ln} {f : Ln → Bool} {j : Nat} (hj : j < l.length) (hf : f l[j] = false) : l.all f = false := by
  rw [List.all_eq_false]
  exact ⟨_, List.getElem_mem hj, by simp [hf]⟩
theorem sln_at {W : World} {l : List Ln} {b o n c : Nat} (h : Sl W 1 Ln.cells l (.slice (some ⟨b, o, none⟩) n c)) {j : Nat} (hj : j < l.length) : W.cell? ⟨b, o + j, none⟩ = some (.slice l[j].p l[j].l.length l[j].k) := by
  obtain ⟨p, k, e, _, _, _, h4⟩ := h.is
  cases e
  obtain ⟨b', o', e, _, h5⟩ := h4 (by intro h; subst h; simp at hj)
  cases e
  have h6 := h5 j l[j] (List.getElem?_eq_getElem hj) 0 (by omega)
  simpa [Ln.cells] using h6

set_option maxHeartbeats 1000000 in
theorem fstand_any (m : Int) (l : List Ln) (p : Option Addr) (k : Nat) (w : World) (hl : Sl w 1 Ln.cells l (.slice p l.length k)) (hq : ∀ x ∈ l, Sl w 1 intC x.l (.slice x.p x.l.length x.k)) :
    Calls Tryz.prog 54 #[.int .i64 m, .slice p l.length k] w fun e w' => e = .returned (.bool (l.all fun x => stnB m x.l)) ∧ Kept w w' := by
  have H := Lib.hid hl
  obtain ⟨_, _, e1, hlk, hkm, _, hne⟩ := hl.is
  cases e1
  have hbig : l.length ≤ 9223372036854775807 := by unfold maxLen at hkm; omega
  clear hl hkm
  obtain ⟨N, hN⟩ : ∃ N, l.length = N := ⟨_, rfl⟩
  rw [hN] at hbig hlk ⊢
  have HN := Lib.hid hN
  have HNE := Lib.hid hne
  have HQ := Lib.hid hq
  clear hN hne hq
  go_enter Tryz.func54, Tryz.ntmps54
  go_wp2
  go_loopw [7, 11] (fun _ s11 wr => ∃ j : Nat, j ≤ N ∧ s11 = .int .i64 j ∧ Hid ((l.take j).all (fun x => stnB m x.l) = true) ∧ Below w.heap.size w wr ∧ wr.cell? ⟨w.heap.size, 0, none⟩ = some (.int .i64 m) ∧ w.heap.size < wr.heap.size) (fun _ s11 _ => N - (intOf s11).toNat)
  case atStart => exact ⟨0, by omega, rfl, Lib.hid (by simp), by repeat' (first | (with_reducible exact Below.refl _ _) | (with_reducible assumption) | (with_reducible refine kept_alloc ?_ _) | (with_reducible refine kept_drewN ?_ _) | (with_reducible refine Below.drew ?_) | (with_reducible refine Below.setCell ?_ (by first | omega | (simp; omega) | (simp; done)) _) | (refine kept_trans ?_ (by with_reducible assumption))), by simp, by simp⟩
  case round =>
    obtain ⟨j, hj, rfl, T, hB, hcm, hsz⟩ := hrel
    by_cases hlt : j < N
    · have hlt' : j < l.length := by rw [HN.out]; exact hlt
      obtain ⟨b, o, rfl, hb, -⟩ := HNE.out (by intro h; subst h; simp at hlt')
      have c1 := (hB.cell (p := ⟨b, o + j, none⟩) hb).trans (sln_at H.out hlt')
      have hbw : b < wr.heap.size := Nat.lt_of_lt_of_le hb hB.size
      have i1 : (0 : Int) ≤ (j : Int) := by omega
      have i2 : (j : Int) < (N : Int) := by omega
      have Hy : Hid (l.all (fun x => stnB m x.l) = false ∨ stnB m l[j].l = true) := by
        cases h : stnB m l[j].l
        · exact Lib.hid (.inl (all_miss (f := fun x => stnB m x.l) hlt' h))
        · exact Lib.hid (.inr rfl)
      have Hn : Hid (stnB m l[j].l = true → (l.take (j + 1)).all (fun x => stnB m x.l) = true) := fun h => all_take (f := fun x => stnB m x.l) hlt' h T.out
      have HS : Hid (Sl wr 1 intC l[j].l (.slice l[j].p l[j].l.length l[j].k)) := Lib.hid ((HQ.out l[j] (List.getElem_mem hlt')).kept hB)
      have HT := Lib.hid (stand1_tells m w.heap.size wr hsz hcm)
      generalize l[j] = y at *
      obtain ⟨q, c, r⟩ := y
      simp only at c1 Hy Hn HS
      obtain ⟨A, hA⟩ : ∃ A, okLn r = A := ⟨_, rfl⟩
      have HA := Lib.hid hA
      clear hA
      go_wp2_with fail
      refine (lcheck_any r q c _ (HS.out.kept (by repeat' (first | (with_reducible exact Below.refl _ _) | (with_reducible assumption) | (with_reducible refine kept_alloc ?_ _) | (with_reducible refine kept_drewN ?_ _) | (with_reducible refine Below.drew ?_) | (with_reducible refine Below.setCell ?_ (by first | omega | (simp; omega) | (simp; done)) _) | (refine kept_trans ?_ (by with_reducible assumption)))))).mono ?_
      rintro e w1 ⟨rfl, hg1⟩
      rw [HA.out]
      have hcm1 := ((bcell hg1).1 _ 0 hsz).trans hcm
      have hsz1 : w.heap.size < w1.heap.size := Nat.lt_of_lt_of_le hsz hg1.size
      cases A
      · have hf : Hid (l.all (fun x => stnB m x.l) = false) := Lib.hid (by
          rcases Hy.out with h | h
          · exact h
          · simp [stnB, HA.out] at h)
        clear Hy Hn
        go_wp2
        go_ret
        exact ⟨ret_bool hf.out.symm, by repeat' (first | (with_reducible exact Below.refl _ _) | (with_reducible assumption) | (with_reducible refine kept_alloc ?_ _) | (with_reducible refine kept_drewN ?_ _) | (with_reducible refine Below.drew ?_) | (with_reducible refine Below.setCell ?_ (by first | omega | (simp; omega) | (simp; done)) _) | (refine kept_trans ?_ (by with_reducible assumption)))⟩
      · obtain ⟨B, hBB⟩ : ∃ B, r.any (overB m) = B := ⟨_, rfl⟩
        have HBB := Lib.hid hBB
        clear hBB
        go_wp2_with fail
        refine (containsFunc_any r _ _ _ stand1_enters q c _ (HS.out.kept (by repeat' (first | (with_reducible exact Below.refl _ _) | (with_reducible assumption) | (with_reducible refine kept_alloc ?_ _) | (with_reducible refine kept_drewN ?_ _) | (with_reducible refine Below.drew ?_) | (with_reducible refine Below.setCell ?_ (by first | omega | (simp; omega) | (simp; done)) _) | (refine kept_trans ?_ (by with_reducible assumption))))) (HT.out.kept (by repeat' (first | (with_reducible exact Below.refl _ _) | (with_reducible assumption) | (with_reducible refine kept_alloc ?_ _) | (with_reducible refine kept_drewN ?_ _) | (with_reducible refine Below.drew ?_) | (with_reducible refine Below.setCell ?_ (by first | omega | (simp; omega) | (simp; done)) _) | (refine kept_trans ?_ (by with_reducible assumption)))))).mono ?_
        rintro e w2 ⟨rfl, hg2⟩
        rw [HBB.out]
        have hcm2 := ((bcell hg2).1 _ 0 hsz1).trans hcm1
        have hsz2 : w.heap.size < w2.heap.size := Nat.lt_of_lt_of_le hsz1 hg2.size
        cases B
        · have hn := Lib.hid (Hn.out (by simp [stnB, HA.out, HBB.out]))
          clear Hy Hn
          go_wp2
          exact ⟨⟨j + 1, by omega, by go_num, hn.out, by repeat' (first | (with_reducible exact Below.refl _ _) | (with_reducible assumption) | (with_reducible refine kept_alloc ?_ _) | (with_reducible refine kept_drewN ?_ _) | (with_reducible refine Below.drew ?_) | (with_reducible refine Below.setCell ?_ (by first | omega | (simp; omega) | (simp; done)) _) | (refine kept_trans ?_ (by with_reducible assumption))), by assumption, by assumption⟩, by simp [intOf]; omega⟩
        · have hf : Hid (l.all (fun x => stnB m x.l) = false) := Lib.hid (by
            rcases Hy.out with h | h
            · exact h
            · simp [stnB, HA.out, HBB.out] at h)
          clear Hy Hn
          go_wp2
          go_ret
          exact ⟨ret_bool hf.out.symm, by repeat' (first | (with_reducible exact Below.refl _ _) | (with_reducible assumption) | (with_reducible refine kept_alloc ?_ _) | (with_reducible refine kept_drewN ?_ _) | (with_reducible refine Below.drew ?_) | (with_reducible refine Below.setCell ?_ (by first | omega | (simp; omega) | (simp; done)) _) | (refine kept_trans ?_ (by with_reducible assumption)))⟩
    · have : j = N := by omega
      subst this
      have hn : Hid (l.all (fun x => stnB m x.l) = true) := Lib.hid (by have := T.out; rw [← HN.out, List.take_length] at this; exact this)
      clear T
      go_wp2
      go_ret
      exact ⟨ret_bool hn.out.symm, by repeat' (first | (with_reducible exact Below.refl _ _) | (with_reducible assumption) | (with_reducible refine kept_alloc ?_ _) | (with_reducible refine kept_drewN ?_ _) | (with_reducible refine Below.drew ?_) | (with_reducible refine Below.setCell ?_ (by first | omega | (simp; omega) | (simp; done)) _) | (refine kept_trans ?_ (by with_reducible assumption)))⟩
end Go.Proofs.YtjbcfjfnobklkaaGreat

/- A WORLD FORGOTTEN AT A REGION's HEAD: what is known of it goes on alone. -/
namespace Go.Proofs.YtjbcfjfnobklkaaGreat
set_option linter.unusedVariables false
set_option linter.unusedSimpArgs false
open Go.ChangeShapes Go.WideShapes Go.ChangeAt Go.RowKit
/-- No cell of these blocks is frozen. -/
def FrozAt (W : World) : List Nat → Prop
  | [] => True
  | b :: r => (b < W.heap.size ∧ ∀ j, W.frozen? ⟨b, j, none⟩ = false) ∧ FrozAt W r
theorem froz_keep {W w1 : World} (hg : Below W.heap.size W w1) : ∀ {l : List Nat}, FrozAt W l → FrozAt w1 l
  | [], _ => trivial
  | _ :: _, h => ⟨⟨Nat.lt_of_lt_of_le h.1.1 hg.size, fun j => ((bcell hg).2 _ _ h.1.1).trans (h.1.2 j)⟩, froz_keep hg h.2⟩
theorem set_same {W : World} {a : Addr} {u v : Value} (h : W.cell? a = some u) : (W.setCell a v).cell? a = some v := World.cell?_setCell_same' W a v (by rw [h]; rfl)
theorem wp_abs {P : Program} {c : Code} {Q : Exit → Act → World → Prop} {a : Act} {W : World} (F : World → Prop) (h : F W) (k : ∀ W', F W' → c.wp P Q a W') : c.wp P Q a W := k W h
end Go.Proofs.YtjbcfjfnobklkaaGreat

/- Layer 13: whether a state may be; whether it has a thread; what lies at a position. -/
namespace Go.Proofs.YtjbcfjfnobklkaaGreat
set_option linter.unusedVariables false
set_option linter.unusedSimpArgs false
open Go.ChangeShapes Go.WideShapes Go.ChangeAt Go.RowKit

theorem room_in (c : Cf) : In64 (cfR c) := by have := cf_bd c; exact ⟨by omega, by omega⟩
set_option maxHeartbeats 1000000 in
theorem fring_any (s : St) (z : Pz) (w : World) (hs : StAt w s z) (ho : s.ok) : Calls Tryz.prog 53 #[.agg #[.int .i64 s.cf.lg, .int .i64 s.cf.th, .int .i64 s.cf.po, .int .i64 s.cf.wt, .int .i64 s.cf.sp, .int .i64 s.cf.yi, .bool s.cf.si, .int .i64 s.hd, .int .i64 s.tl, .int .i64 s.md, .slice z.p1 s.sl.length z.k1, .slice z.p2 s.sn.length z.k2, .slice z.p3 s.rc.length z.k3, .int .i64 s.fe, .slice z.p4 s.fl.length z.k4, .int .i64 s.ee, .slice z.p5 s.el.length z.k5, .int .i64 s.nw, .slice z.p6 s.th.length z.k6, .slice z.p7 s.lg.length z.k7]] w fun e w' => e = .returned (.bool (ringSt s)) ∧ Kept w w' := by
  have HS := Lib.hid hs
  have HO := Lib.hid ho
  obtain ⟨R, hR⟩ : ∃ R, cfR s.cf = R := ⟨_, rfl⟩
  have HR := Lib.hid hR
  have hRi : Hid (In64 R) := Lib.hid (hR ▸ room_in s.cf)
  have hRb : Hid (0 ≤ R ∧ R ≤ 64) := Lib.hid (hR ▸ cf_bd s.cf)
  obtain ⟨A, hA⟩ : ∃ A, checkB s.hd s.tl s.md R = A := ⟨_, rfl⟩
  have HA := Lib.hid hA
  obtain ⟨L, hL⟩ : ∃ L, ((s.sl.length : Int) == R) = L := ⟨_, rfl⟩
  have HL := Lib.hid hL
  clear hs ho hR hA hL
  go_enter Tryz.func53, Tryz.ntmps53
  go_wp2_with fail; refine (croom_any _ _ _ _ _ _ _ _).mono ?_; rintro e w1 ⟨rfl, hgx⟩; have hBx : Below w.heap.size w w1 := (by repeat' (first | (with_reducible exact Below.refl _ _) | (with_reducible assumption) | (with_reducible refine kept_alloc ?_ _) | (with_reducible refine kept_drewN ?_ _) | (with_reducible refine Below.drew ?_) | (with_reducible refine Below.setCell ?_ (by first | omega | (simp; omega) | (simp; done)) _) | (refine kept_trans ?_ (by with_reducible assumption)))); have hcsx : CellsAt w1 [(w.heap.size, 0, .int .i64 s.cf.lg), (w.heap.size, 1, .int .i64 s.cf.th), (w.heap.size, 2, .int .i64 s.cf.po), (w.heap.size, 3, .int .i64 s.cf.wt), (w.heap.size, 4, .int .i64 s.cf.sp), (w.heap.size, 5, .int .i64 s.cf.yi), (w.heap.size, 6, .bool s.cf.si), (w.heap.size, 7, .int .i64 s.hd), (w.heap.size, 8, .int .i64 s.tl), (w.heap.size, 9, .int .i64 s.md), (w.heap.size, 10, .slice z.p1 s.sl.length z.k1), (w.heap.size, 11, .slice z.p2 s.sn.length z.k2), (w.heap.size, 12, .slice z.p3 s.rc.length z.k3), (w.heap.size, 13, .int .i64 s.fe), (w.heap.size, 14, .slice z.p4 s.fl.length z.k4), (w.heap.size, 15, .int .i64 s.ee), (w.heap.size, 16, .slice z.p5 s.el.length z.k5), (w.heap.size, 17, .int .i64 s.nw), (w.heap.size, 18, .slice z.p6 s.th.length z.k6), (w.heap.size, 19, .slice z.p7 s.lg.length z.k7)] := cells_keep hgx (by first | (with_reducible exact hcs) | (simp only [CellsAt]; (repeat' (first | exact trivial | (refine And.intro ?_ ?_))); all_goals (first | (focus ((try simp only [World.size_setCell, World.size_alloc]); omega)) | (repeat (first | (with_reducible assumption) | (with_reducible refine (World.cell?_setCell_other _ _ _ _ ?_).trans ?_; focus (first | (simp; done) | (simp; omega))) | (with_reducible apply set_same) | (with_reducible refine (World.cell?_alloc_past _ _ _ ?_).trans ?_; focus ((try simp only [World.size_setCell, World.size_alloc]); omega)) | (refine (World.cell?_alloc_at _ _ _ _ (by focus ((try simp only [World.size_setCell, World.size_alloc]); done))).trans ?_; exact rfl)))))); have hfsx : FrozAt w1 [w.heap.size] := froz_keep hgx (by first | (with_reducible exact hfs) | (simp only [FrozAt]; (repeat' (first | exact trivial | (refine And.intro ?_ ?_))); all_goals (first | (focus ((try simp only [World.size_setCell, World.size_alloc]); omega)) | (intro j; (repeat (first | (with_reducible exact hf0 j) | (with_reducible exact hf1 j) | (with_reducible exact hf2 j) | (with_reducible exact hf3 j) | (with_reducible exact hf4 j) | (with_reducible exact hf5 j) | (with_reducible refine (World.frozen?_setCell _ _ _ _).trans ?_) | (with_reducible refine (World.frozen?_alloc_past _ _ _ ?_).trans ?_; focus ((try simp only [World.size_setCell, World.size_alloc]); omega)) | (with_reducible exact World.frozen?_alloc_at _ _ _ _ (by (try simp only [World.size_setCell, World.size_alloc]))))))))); clear hgx; (try clear hB); (try clear hcs); (try clear hfs); have hB := hBx; have hcs := hcsx; have hfs := hfsx; clear hBx hcsx hfsx; (try clear hq0); (try clear hq1); (try clear hq2); (try clear hq3); (try clear hq4); (try clear hq5); (try clear hq6); (try clear hq7); (try clear hq8); (try clear hq9); (try clear hq10); (try clear hq11); (try clear hq12); (try clear hq13); (try clear hq14); (try clear hq15); (try clear hq16); (try clear hq17); (try clear hq18); (try clear hq19); (try clear hq20); (try clear hq21); (try clear hq22); (try clear hq23); (try clear hq24); (try clear hq25); (try clear hq26); (try clear hq27); (try clear hq28); (try clear hq29); (try clear hq30); (try clear hq31); (try clear hq32); (try clear hq33); (try clear hq34); (try clear hq35); (try clear hq36); (try clear hq37); (try clear hq38); (try clear hq39); (try clear hq40); (try clear hq41); (try clear hq42); (try clear hq43); (try clear hq44); (try clear hq45); (try clear hq46); (try clear hq47); (try clear hq48); (try clear hq49); (try clear hq50); (try clear hq51); (try clear hq52); (try clear hq53); (try clear hq54); (try clear hq55); (try clear hq56); (try clear hq57); (try clear hq58); (try clear hq59); (try clear hq60); (try clear hq61); (try clear hq62); (try clear hq63); (try clear hq64); (try clear hq65); (try clear hq66); (try clear hq67); (try clear hq68); (try clear hq69); (try clear hq70); (try clear hq71); (try clear hq72); (try clear hq73); (try clear hq74); (try clear hq75); (try clear hq76); (try clear hq77); (try clear hq78); (try clear hq79); (try clear hq80); (try clear hq81); (try clear hq82); (try clear hq83); (try clear hq84); (try clear hq85); (try clear hq86); (try clear hq87); (try clear hq88); (try clear hq89); (try clear hq90); (try clear hq91); (try clear hq92); (try clear hq93); (try clear hq94); (try clear hq95); (try clear hq96); (try clear hq97); (try clear hq98); (try clear hq99); (try clear hq100); (try clear hq101); (try clear hq102); (try clear hq103); (try clear hq104); (try clear hq105); (try clear hq106); (try clear hq107); (try clear hq108); (try clear hq109); (try clear hq110); (try clear hq111); (try clear hq112); (try clear hq113); (try clear hq114); (try clear hq115); (try clear hq116); (try clear hq117); (try clear hq118); (try clear hq119); (try clear hz0); (try clear hf0); (try clear hz1); (try clear hf1); (try clear hz2); (try clear hf2); (try clear hz3); (try clear hf3); (try clear hz4); (try clear hf4); (try clear hz5); (try clear hf5); (try clear hz6); (try clear hf6); (try clear hz7); (try clear hf7); have hq0 := hcs.1.2; have hq1 := hcs.2.1.2; have hq2 := hcs.2.2.1.2; have hq3 := hcs.2.2.2.1.2; have hq4 := hcs.2.2.2.2.1.2; have hq5 := hcs.2.2.2.2.2.1.2; have hq6 := hcs.2.2.2.2.2.2.1.2; have hq7 := hcs.2.2.2.2.2.2.2.1.2; have hq8 := hcs.2.2.2.2.2.2.2.2.1.2; have hq9 := hcs.2.2.2.2.2.2.2.2.2.1.2; have hq10 := hcs.2.2.2.2.2.2.2.2.2.2.1.2; have hq11 := hcs.2.2.2.2.2.2.2.2.2.2.2.1.2; have hq12 := hcs.2.2.2.2.2.2.2.2.2.2.2.2.1.2; have hq13 := hcs.2.2.2.2.2.2.2.2.2.2.2.2.2.1.2; have hq14 := hcs.2.2.2.2.2.2.2.2.2.2.2.2.2.2.1.2; have hq15 := hcs.2.2.2.2.2.2.2.2.2.2.2.2.2.2.2.1.2; have hq16 := hcs.2.2.2.2.2.2.2.2.2.2.2.2.2.2.2.2.1.2; have hq17 := hcs.2.2.2.2.2.2.2.2.2.2.2.2.2.2.2.2.2.1.2; have hq18 := hcs.2.2.2.2.2.2.2.2.2.2.2.2.2.2.2.2.2.2.1.2; have hq19 := hcs.2.2.2.2.2.2.2.2.2.2.2.2.2.2.2.2.2.2.2.1.2; have hz0 := hcs.1.1; have hf0 := hfs.1.2
  rw [show roomI s.cf.lg s.cf.th s.cf.po s.cf.wt s.cf.sp s.cf.yi = R from HR.out]
  go_wp2_with fail; refine (check_any _ _ _ _ HO.out.hd HO.out.tl HO.out.md hRi.out _).mono ?_; rintro e w2 ⟨rfl, hgx⟩; have hBx : Below w.heap.size w w2 := (by repeat' (first | (with_reducible exact Below.refl _ _) | (with_reducible assumption) | (with_reducible refine kept_alloc ?_ _) | (with_reducible refine kept_drewN ?_ _) | (with_reducible refine Below.drew ?_) | (with_reducible refine Below.setCell ?_ (by first | omega | (simp; omega) | (simp; done)) _) | (refine kept_trans ?_ (by with_reducible assumption)))); have hcsx : CellsAt w2 [(w.heap.size, 0, .int .i64 s.cf.lg), (w.heap.size, 1, .int .i64 s.cf.th), (w.heap.size, 2, .int .i64 s.cf.po), (w.heap.size, 3, .int .i64 s.cf.wt), (w.heap.size, 4, .int .i64 s.cf.sp), (w.heap.size, 5, .int .i64 s.cf.yi), (w.heap.size, 6, .bool s.cf.si), (w.heap.size, 7, .int .i64 s.hd), (w.heap.size, 8, .int .i64 s.tl), (w.heap.size, 9, .int .i64 s.md), (w.heap.size, 10, .slice z.p1 s.sl.length z.k1), (w.heap.size, 11, .slice z.p2 s.sn.length z.k2), (w.heap.size, 12, .slice z.p3 s.rc.length z.k3), (w.heap.size, 13, .int .i64 s.fe), (w.heap.size, 14, .slice z.p4 s.fl.length z.k4), (w.heap.size, 15, .int .i64 s.ee), (w.heap.size, 16, .slice z.p5 s.el.length z.k5), (w.heap.size, 17, .int .i64 s.nw), (w.heap.size, 18, .slice z.p6 s.th.length z.k6), (w.heap.size, 19, .slice z.p7 s.lg.length z.k7)] := cells_keep hgx (by first | (with_reducible exact hcs) | (simp only [CellsAt]; (repeat' (first | exact trivial | (refine And.intro ?_ ?_))); all_goals (first | (focus ((try simp only [World.size_setCell, World.size_alloc]); omega)) | (repeat (first | (with_reducible assumption) | (with_reducible refine (World.cell?_setCell_other _ _ _ _ ?_).trans ?_; focus (first | (simp; done) | (simp; omega))) | (with_reducible apply set_same) | (with_reducible refine (World.cell?_alloc_past _ _ _ ?_).trans ?_; focus ((try simp only [World.size_setCell, World.size_alloc]); omega)) | (refine (World.cell?_alloc_at _ _ _ _ (by focus ((try simp only [World.size_setCell, World.size_alloc]); done))).trans ?_; exact rfl)))))); have hfsx : FrozAt w2 [w.heap.size] := froz_keep hgx (by first | (with_reducible exact hfs) | (simp only [FrozAt]; (repeat' (first | exact trivial | (refine And.intro ?_ ?_))); all_goals (first | (focus ((try simp only [World.size_setCell, World.size_alloc]); omega)) | (intro j; (repeat (first | (with_reducible exact hf0 j) | (with_reducible exact hf1 j) | (with_reducible exact hf2 j) | (with_reducible exact hf3 j) | (with_reducible exact hf4 j) | (with_reducible exact hf5 j) | (with_reducible refine (World.frozen?_setCell _ _ _ _).trans ?_) | (with_reducible refine (World.frozen?_alloc_past _ _ _ ?_).trans ?_; focus ((try simp only [World.size_setCell, World.size_alloc]); omega)) | (with_reducible exact World.frozen?_alloc_at _ _ _ _ (by (try simp only [World.size_setCell, World.size_alloc]))))))))); clear hgx; (try clear hB); (try clear hcs); (try clear hfs); have hB := hBx; have hcs := hcsx; have hfs := hfsx; clear hBx hcsx hfsx; (try clear hq0); (try clear hq1); (try clear hq2); (try clear hq3); (try clear hq4); (try clear hq5); (try clear hq6); (try clear hq7); (try clear hq8); (try clear hq9); (try clear hq10); (try clear hq11); (try clear hq12); (try clear hq13); (try clear hq14); (try clear hq15); (try clear hq16); (try clear hq17); (try clear hq18); (try clear hq19); (try clear hq20); (try clear hq21); (try clear hq22); (try clear hq23); (try clear hq24); (try clear hq25); (try clear hq26); (try clear hq27); (try clear hq28); (try clear hq29); (try clear hq30); (try clear hq31); (try clear hq32); (try clear hq33); (try clear hq34); (try clear hq35); (try clear hq36); (try clear hq37); (try clear hq38); (try clear hq39); (try clear hq40); (try clear hq41); (try clear hq42); (try clear hq43); (try clear hq44); (try clear hq45); (try clear hq46); (try clear hq47); (try clear hq48); (try clear hq49); (try clear hq50); (try clear hq51); (try clear hq52); (try clear hq53); (try clear hq54); (try clear hq55); (try clear hq56); (try clear hq57); (try clear hq58); (try clear hq59); (try clear hq60); (try clear hq61); (try clear hq62); (try clear hq63); (try clear hq64); (try clear hq65); (try clear hq66); (try clear hq67); (try clear hq68); (try clear hq69); (try clear hq70); (try clear hq71); (try clear hq72); (try clear hq73); (try clear hq74); (try clear hq75); (try clear hq76); (try clear hq77); (try clear hq78); (try clear hq79); (try clear hq80); (try clear hq81); (try clear hq82); (try clear hq83); (try clear hq84); (try clear hq85); (try clear hq86); (try clear hq87); (try clear hq88); (try clear hq89); (try clear hq90); (try clear hq91); (try clear hq92); (try clear hq93); (try clear hq94); (try clear hq95); (try clear hq96); (try clear hq97); (try clear hq98); (try clear hq99); (try clear hq100); (try clear hq101); (try clear hq102); (try clear hq103); (try clear hq104); (try clear hq105); (try clear hq106); (try clear hq107); (try clear hq108); (try clear hq109); (try clear hq110); (try clear hq111); (try clear hq112); (try clear hq113); (try clear hq114); (try clear hq115); (try clear hq116); (try clear hq117); (try clear hq118); (try clear hq119); (try clear hz0); (try clear hf0); (try clear hz1); (try clear hf1); (try clear hz2); (try clear hf2); (try clear hz3); (try clear hf3); (try clear hz4); (try clear hf4); (try clear hz5); (try clear hf5); (try clear hz6); (try clear hf6); (try clear hz7); (try clear hf7); have hq0 := hcs.1.2; have hq1 := hcs.2.1.2; have hq2 := hcs.2.2.1.2; have hq3 := hcs.2.2.2.1.2; have hq4 := hcs.2.2.2.2.1.2; have hq5 := hcs.2.2.2.2.2.1.2; have hq6 := hcs.2.2.2.2.2.2.1.2; have hq7 := hcs.2.2.2.2.2.2.2.1.2; have hq8 := hcs.2.2.2.2.2.2.2.2.1.2; have hq9 := hcs.2.2.2.2.2.2.2.2.2.1.2; have hq10 := hcs.2.2.2.2.2.2.2.2.2.2.1.2; have hq11 := hcs.2.2.2.2.2.2.2.2.2.2.2.1.2; have hq12 := hcs.2.2.2.2.2.2.2.2.2.2.2.2.1.2; have hq13 := hcs.2.2.2.2.2.2.2.2.2.2.2.2.2.1.2; have hq14 := hcs.2.2.2.2.2.2.2.2.2.2.2.2.2.2.1.2; have hq15 := hcs.2.2.2.2.2.2.2.2.2.2.2.2.2.2.2.1.2; have hq16 := hcs.2.2.2.2.2.2.2.2.2.2.2.2.2.2.2.2.1.2; have hq17 := hcs.2.2.2.2.2.2.2.2.2.2.2.2.2.2.2.2.2.1.2; have hq18 := hcs.2.2.2.2.2.2.2.2.2.2.2.2.2.2.2.2.2.2.1.2; have hq19 := hcs.2.2.2.2.2.2.2.2.2.2.2.2.2.2.2.2.2.2.2.1.2; have hz0 := hcs.1.1; have hf0 := hfs.1.2
  rw [HA.out]
  cases A
  · go_wp2; go_ret; exact ⟨ret_bool (by simp [ringSt, HR.out, HA.out]), by repeat' (first | (with_reducible exact Below.refl _ _) | (with_reducible assumption) | (with_reducible refine kept_alloc ?_ _) | (with_reducible refine kept_drewN ?_ _) | (with_reducible refine Below.drew ?_) | (with_reducible refine Below.setCell ?_ (by first | omega | (simp; omega) | (simp; done)) _) | (refine kept_trans ?_ (by with_reducible assumption)))⟩
  · have hL := HL.out
    cases L
    · have hL' : Hid (¬ (s.sl.length : Int) = R) := Lib.hid (by simpa using hL)
      go_wp2
      go_ret
      exact ⟨ret_bool (by simp [ringSt, HR.out, HA.out, hL'.out]), by repeat' (first | (with_reducible exact Below.refl _ _) | (with_reducible assumption) | (with_reducible refine kept_alloc ?_ _) | (with_reducible refine kept_drewN ?_ _) | (with_reducible refine Below.drew ?_) | (with_reducible refine Below.setCell ?_ (by first | omega | (simp; omega) | (simp; done)) _) | (refine kept_trans ?_ (by with_reducible assumption)))⟩
    · have hL' : Hid ((s.sl.length : Int) = R) := Lib.hid (by simpa using hL)
      go_wp2_with fail; refine (scheck_any _ _ _ _ (HS.out.sl.kept hB) (by have := hL'.out; have := hRb.out; omega)).mono ?_; rintro e w3 ⟨rfl, hgx⟩; have hBx : Below w.heap.size w w3 := (by repeat' (first | (with_reducible exact Below.refl _ _) | (with_reducible assumption) | (with_reducible refine kept_alloc ?_ _) | (with_reducible refine kept_drewN ?_ _) | (with_reducible refine Below.drew ?_) | (with_reducible refine Below.setCell ?_ (by first | omega | (simp; omega) | (simp; done)) _) | (refine kept_trans ?_ (by with_reducible assumption)))); have hcsx : CellsAt w3 [(w.heap.size, 0, .int .i64 s.cf.lg), (w.heap.size, 1, .int .i64 s.cf.th), (w.heap.size, 2, .int .i64 s.cf.po), (w.heap.size, 3, .int .i64 s.cf.wt), (w.heap.size, 4, .int .i64 s.cf.sp), (w.heap.size, 5, .int .i64 s.cf.yi), (w.heap.size, 6, .bool s.cf.si), (w.heap.size, 7, .int .i64 s.hd), (w.heap.size, 8, .int .i64 s.tl), (w.heap.size, 9, .int .i64 s.md), (w.heap.size, 10, .slice z.p1 s.sl.length z.k1), (w.heap.size, 11, .slice z.p2 s.sn.length z.k2), (w.heap.size, 12, .slice z.p3 s.rc.length z.k3), (w.heap.size, 13, .int .i64 s.fe), (w.heap.size, 14, .slice z.p4 s.fl.length z.k4), (w.heap.size, 15, .int .i64 s.ee), (w.heap.size, 16, .slice z.p5 s.el.length z.k5), (w.heap.size, 17, .int .i64 s.nw), (w.heap.size, 18, .slice z.p6 s.th.length z.k6), (w.heap.size, 19, .slice z.p7 s.lg.length z.k7)] := cells_keep hgx (by first | (with_reducible exact hcs) | (simp only [CellsAt]; (repeat' (first | exact trivial | (refine And.intro ?_ ?_))); all_goals (first | (focus ((try simp only [World.size_setCell, World.size_alloc]); omega)) | (repeat (first | (with_reducible assumption) | (with_reducible refine (World.cell?_setCell_other _ _ _ _ ?_).trans ?_; focus (first | (simp; done) | (simp; omega))) | (with_reducible apply set_same) | (with_reducible refine (World.cell?_alloc_past _ _ _ ?_).trans ?_; focus ((try simp only [World.size_setCell, World.size_alloc]); omega)) | (refine (World.cell?_alloc_at _ _ _ _ (by focus ((try simp only [World.size_setCell, World.size_alloc]); done))).trans ?_; exact rfl)))))); have hfsx : FrozAt w3 [w.heap.size] := froz_keep hgx (by first | (with_reducible exact hfs) | (simp only [FrozAt]; (repeat' (first | exact trivial | (refine And.intro ?_ ?_))); all_goals (first | (focus ((try simp only [World.size_setCell, World.size_alloc]); omega)) | (intro j; (repeat (first | (with_reducible exact hf0 j) | (with_reducible exact hf1 j) | (with_reducible exact hf2 j) | (with_reducible exact hf3 j) | (with_reducible exact hf4 j) | (with_reducible exact hf5 j) | (with_reducible refine (World.frozen?_setCell _ _ _ _).trans ?_) | (with_reducible refine (World.frozen?_alloc_past _ _ _ ?_).trans ?_; focus ((try simp only [World.size_setCell, World.size_alloc]); omega)) | (with_reducible exact World.frozen?_alloc_at _ _ _ _ (by (try simp only [World.size_setCell, World.size_alloc]))))))))); clear hgx; (try clear hB); (try clear hcs); (try clear hfs); have hB := hBx; have hcs := hcsx; have hfs := hfsx; clear hBx hcsx hfsx; (try clear hq0); (try clear hq1); (try clear hq2); (try clear hq3); (try clear hq4); (try clear hq5); (try clear hq6); (try clear hq7); (try clear hq8); (try clear hq9); (try clear hq10); (try clear hq11); (try clear hq12); (try clear hq13); (try clear hq14); (try clear hq15); (try clear hq16); (try clear hq17); (try clear hq18); (try clear hq19); (try clear hq20); (try clear hq21); (try clear hq22); (try clear hq23); (try clear hq24); (try clear hq25); (try clear hq26); (try clear hq27); (try clear hq28); (try clear hq29); (try clear hq30); (try clear hq31); (try clear hq32); (try clear hq33); (try clear hq34); (try clear hq35); (try clear hq36); (try clear hq37); (try clear hq38); (try clear hq39); (try clear hq40); (try clear hq41); (try clear hq42); (try clear hq43); (try clear hq44); (try clear hq45); (try clear hq46); (try clear hq47); (try clear hq48); (try clear hq49); (try clear hq50); (try clear hq51); (try clear hq52); (try clear hq53); (try clear hq54); (try clear hq55); (try clear hq56); (try clear hq57); (try clear hq58); (try clear hq59); (try clear hq60); (try clear hq61); (try clear hq62); (try clear hq63); (try clear hq64); (try clear hq65); (try clear hq66); (try clear hq67); (try clear hq68); (try clear hq69); (try clear hq70); (try clear hq71); (try clear hq72); (try clear hq73); (try clear hq74); (try clear hq75); (try clear hq76); (try clear hq77); (try clear hq78); (try clear hq79); (try clear hq80); (try clear hq81); (try clear hq82); (try clear hq83); (try clear hq84); (try clear hq85); (try clear hq86); (try clear hq87); (try clear hq88); (try clear hq89); (try clear hq90); (try clear hq91); (try clear hq92); (try clear hq93); (try clear hq94); (try clear hq95); (try clear hq96); (try clear hq97); (try clear hq98); (try clear hq99); (try clear hq100); (try clear hq101); (try clear hq102); (try clear hq103); (try clear hq104); (try clear hq105); (try clear hq106); (try clear hq107); (try clear hq108); (try clear hq109); (try clear hq110); (try clear hq111); (try clear hq112); (try clear hq113); (try clear hq114); (try clear hq115); (try clear hq116); (try clear hq117); (try clear hq118); (try clear hq119); (try clear hz0); (try clear hf0); (try clear hz1); (try clear hf1); (try clear hz2); (try clear hf2); (try clear hz3); (try clear hf3); (try clear hz4); (try clear hf4); (try clear hz5); (try clear hf5); (try clear hz6); (try clear hf6); (try clear hz7); (try clear hf7); have hq0 := hcs.1.2; have hq1 := hcs.2.1.2; have hq2 := hcs.2.2.1.2; have hq3 := hcs.2.2.2.1.2; have hq4 := hcs.2.2.2.2.1.2; have hq5 := hcs.2.2.2.2.2.1.2; have hq6 := hcs.2.2.2.2.2.2.1.2; have hq7 := hcs.2.2.2.2.2.2.2.1.2; have hq8 := hcs.2.2.2.2.2.2.2.2.1.2; have hq9 := hcs.2.2.2.2.2.2.2.2.2.1.2; have hq10 := hcs.2.2.2.2.2.2.2.2.2.2.1.2; have hq11 := hcs.2.2.2.2.2.2.2.2.2.2.2.1.2; have hq12 := hcs.2.2.2.2.2.2.2.2.2.2.2.2.1.2; have hq13 := hcs.2.2.2.2.2.2.2.2.2.2.2.2.2.1.2; have hq14 := hcs.2.2.2.2.2.2.2.2.2.2.2.2.2.2.1.2; have hq15 := hcs.2.2.2.2.2.2.2.2.2.2.2.2.2.2.2.1.2; have hq16 := hcs.2.2.2.2.2.2.2.2.2.2.2.2.2.2.2.2.1.2; have hq17 := hcs.2.2.2.2.2.2.2.2.2.2.2.2.2.2.2.2.2.1.2; have hq18 := hcs.2.2.2.2.2.2.2.2.2.2.2.2.2.2.2.2.2.2.1.2; have hq19 := hcs.2.2.2.2.2.2.2.2.2.2.2.2.2.2.2.2.2.2.2.1.2; have hz0 := hcs.1.1; have hf0 := hfs.1.2
      go_wp2
      go_ret
      exact ⟨ret_bool (by simp [ringSt, HR.out, HA.out, hL'.out]), by repeat' (first | (with_reducible exact Below.refl _ _) | (with_reducible assumption) | (with_reducible refine kept_alloc ?_ _) | (with_reducible refine kept_drewN ?_ _) | (with_reducible refine Below.drew ?_) | (with_reducible refine Below.setCell ?_ (by first | omega | (simp; omega) | (simp; done)) _) | (refine kept_trans ?_ (by with_reducible assumption)))⟩
set_option maxHeartbeats 1000000 in
theorem fthreads_any (s : St) (z : Pz) (w : World) (hs : StAt w s z) (ho : s.ok) : Calls Tryz.prog 56 #[.agg #[.int .i64 s.cf.lg, .int .i64 s.cf.th, .int .i64 s.cf.po, .int .i64 s.cf.wt, .int .i64 s.cf.sp, .int .i64 s.cf.yi, .bool s.cf.si, .int .i64 s.hd, .int .i64 s.tl, .int .i64 s.md, .slice z.p1 s.sl.length z.k1, .slice z.p2 s.sn.length z.k2, .slice z.p3 s.rc.length z.k3, .int .i64 s.fe, .slice z.p4 s.fl.length z.k4, .int .i64 s.ee, .slice z.p5 s.el.length z.k5, .int .i64 s.nw, .slice z.p6 s.th.length z.k6, .slice z.p7 s.lg.length z.k7]] w fun e w' => e = .returned (.bool (thsSt s)) ∧ Kept w w' := by
  have HS := Lib.hid hs
  clear hs ho
  cases hL : ((s.th.length : Int) == s.cf.th)
  · have hL' : Hid (¬ (s.th.length : Int) = s.cf.th) := Lib.hid (by simpa using hL)
    go_enter Tryz.func56, Tryz.ntmps56
    go_wp2
    go_ret
    exact ⟨ret_bool (by simp [thsSt, hL'.out]), by repeat' (first | (with_reducible exact Below.refl _ _) | (with_reducible assumption) | (with_reducible refine kept_alloc ?_ _) | (with_reducible refine kept_drewN ?_ _) | (with_reducible refine Below.drew ?_) | (with_reducible refine Below.setCell ?_ (by first | omega | (simp; omega) | (simp; done)) _) | (refine kept_trans ?_ (by with_reducible assumption)))⟩
  · have hL' : Hid ((s.th.length : Int) = s.cf.th) := Lib.hid (by simpa using hL)
    go_enter Tryz.func56, Tryz.ntmps56
    go_wp2_with fail; refine (containsFuncT_any _ _ _ _ threads1_enters _ _ _ (HS.out.th.kept (by repeat' (first | (with_reducible exact Below.refl _ _) | (with_reducible assumption) | (with_reducible refine kept_alloc ?_ _) | (with_reducible refine kept_drewN ?_ _) | (with_reducible refine Below.drew ?_) | (with_reducible refine Below.setCell ?_ (by first | omega | (simp; omega) | (simp; done)) _) | (refine kept_trans ?_ (by with_reducible assumption))))) (threads1_tells _)).mono ?_; rintro e w1 ⟨rfl, hgx⟩; have hBx : Below w.heap.size w w1 := (by repeat' (first | (with_reducible exact Below.refl _ _) | (with_reducible assumption) | (with_reducible refine kept_alloc ?_ _) | (with_reducible refine kept_drewN ?_ _) | (with_reducible refine Below.drew ?_) | (with_reducible refine Below.setCell ?_ (by first | omega | (simp; omega) | (simp; done)) _) | (refine kept_trans ?_ (by with_reducible assumption)))); have hcsx : CellsAt w1 [(w.heap.size, 0, .int .i64 s.cf.lg), (w.heap.size, 1, .int .i64 s.cf.th), (w.heap.size, 2, .int .i64 s.cf.po), (w.heap.size, 3, .int .i64 s.cf.wt), (w.heap.size, 4, .int .i64 s.cf.sp), (w.heap.size, 5, .int .i64 s.cf.yi), (w.heap.size, 6, .bool s.cf.si), (w.heap.size, 7, .int .i64 s.hd), (w.heap.size, 8, .int .i64 s.tl), (w.heap.size, 9, .int .i64 s.md), (w.heap.size, 10, .slice z.p1 s.sl.length z.k1), (w.heap.size, 11, .slice z.p2 s.sn.length z.k2), (w.heap.size, 12, .slice z.p3 s.rc.length z.k3), (w.heap.size, 13, .int .i64 s.fe), (w.heap.size, 14, .slice z.p4 s.fl.length z.k4), (w.heap.size, 15, .int .i64 s.ee), (w.heap.size, 16, .slice z.p5 s.el.length z.k5), (w.heap.size, 17, .int .i64 s.nw), (w.heap.size, 18, .slice z.p6 s.th.length z.k6), (w.heap.size, 19, .slice z.p7 s.lg.length z.k7)] := cells_keep hgx (by first | (with_reducible exact hcs) | (simp only [CellsAt]; (repeat' (first | exact trivial | (refine And.intro ?_ ?_))); all_goals (first | (focus ((try simp only [World.size_setCell, World.size_alloc]); omega)) | (repeat (first | (with_reducible assumption) | (with_reducible refine (World.cell?_setCell_other _ _ _ _ ?_).trans ?_; focus (first | (simp; done) | (simp; omega))) | (with_reducible apply set_same) | (with_reducible refine (World.cell?_alloc_past _ _ _ ?_).trans ?_; focus ((try simp only [World.size_setCell, World.size_alloc]); omega)) | (refine (World.cell?_alloc_at _ _ _ _ (by focus ((try simp only [World.size_setCell, World.size_alloc]); done))).trans ?_; exact rfl)))))); have hfsx : FrozAt w1 [w.heap.size] := froz_keep hgx (by first | (with_reducible exact hfs) | (simp only [FrozAt]; (repeat' (first | exact trivial | (refine And.intro ?_ ?_))); all_goals (first | (focus ((try simp only [World.size_setCell, World.size_alloc]); omega)) | (intro j; (repeat (first | (with_reducible exact hf0 j) | (with_reducible exact hf1 j) | (with_reducible exact hf2 j) | (with_reducible exact hf3 j) | (with_reducible exact hf4 j) | (with_reducible exact hf5 j) | (with_reducible refine (World.frozen?_setCell _ _ _ _).trans ?_) | (with_reducible refine (World.frozen?_alloc_past _ _ _ ?_).trans ?_; focus ((try simp only [World.size_setCell, World.size_alloc]); omega)) | (with_reducible exact World.frozen?_alloc_at _ _ _ _ (by (try simp only [World.size_setCell, World.size_alloc]))))))))); clear hgx; (try clear hB); (try clear hcs); (try clear hfs); have hB := hBx; have hcs := hcsx; have hfs := hfsx; clear hBx hcsx hfsx; (try clear hq0); (try clear hq1); (try clear hq2); (try clear hq3); (try clear hq4); (try clear hq5); (try clear hq6); (try clear hq7); (try clear hq8); (try clear hq9); (try clear hq10); (try clear hq11); (try clear hq12); (try clear hq13); (try clear hq14); (try clear hq15); (try clear hq16); (try clear hq17); (try clear hq18); (try clear hq19); (try clear hq20); (try clear hq21); (try clear hq22); (try clear hq23); (try clear hq24); (try clear hq25); (try clear hq26); (try clear hq27); (try clear hq28); (try clear hq29); (try clear hq30); (try clear hq31); (try clear hq32); (try clear hq33); (try clear hq34); (try clear hq35); (try clear hq36); (try clear hq37); (try clear hq38); (try clear hq39); (try clear hq40); (try clear hq41); (try clear hq42); (try clear hq43); (try clear hq44); (try clear hq45); (try clear hq46); (try clear hq47); (try clear hq48); (try clear hq49); (try clear hq50); (try clear hq51); (try clear hq52); (try clear hq53); (try clear hq54); (try clear hq55); (try clear hq56); (try clear hq57); (try clear hq58); (try clear hq59); (try clear hq60); (try clear hq61); (try clear hq62); (try clear hq63); (try clear hq64); (try clear hq65); (try clear hq66); (try clear hq67); (try clear hq68); (try clear hq69); (try clear hq70); (try clear hq71); (try clear hq72); (try clear hq73); (try clear hq74); (try clear hq75); (try clear hq76); (try clear hq77); (try clear hq78); (try clear hq79); (try clear hq80); (try clear hq81); (try clear hq82); (try clear hq83); (try clear hq84); (try clear hq85); (try clear hq86); (try clear hq87); (try clear hq88); (try clear hq89); (try clear hq90); (try clear hq91); (try clear hq92); (try clear hq93); (try clear hq94); (try clear hq95); (try clear hq96); (try clear hq97); (try clear hq98); (try clear hq99); (try clear hq100); (try clear hq101); (try clear hq102); (try clear hq103); (try clear hq104); (try clear hq105); (try clear hq106); (try clear hq107); (try clear hq108); (try clear hq109); (try clear hq110); (try clear hq111); (try clear hq112); (try clear hq113); (try clear hq114); (try clear hq115); (try clear hq116); (try clear hq117); (try clear hq118); (try clear hq119); (try clear hz0); (try clear hf0); (try clear hz1); (try clear hf1); (try clear hz2); (try clear hf2); (try clear hz3); (try clear hf3); (try clear hz4); (try clear hf4); (try clear hz5); (try clear hf5); (try clear hz6); (try clear hf6); (try clear hz7); (try clear hf7); have hq0 := hcs.1.2; have hq1 := hcs.2.1.2; have hq2 := hcs.2.2.1.2; have hq3 := hcs.2.2.2.1.2; have hq4 := hcs.2.2.2.2.1.2; have hq5 := hcs.2.2.2.2.2.1.2; have hq6 := hcs.2.2.2.2.2.2.1.2; have hq7 := hcs.2.2.2.2.2.2.2.1.2; have hq8 := hcs.2.2.2.2.2.2.2.2.1.2; have hq9 := hcs.2.2.2.2.2.2.2.2.2.1.2; have hq10 := hcs.2.2.2.2.2.2.2.2.2.2.1.2; have hq11 := hcs.2.2.2.2.2.2.2.2.2.2.2.1.2; have hq12 := hcs.2.2.2.2.2.2.2.2.2.2.2.2.1.2; have hq13 := hcs.2.2.2.2.2.2.2.2.2.2.2.2.2.1.2; have hq14 := hcs.2.2.2.2.2.2.2.2.2.2.2.2.2.2.1.2; have hq15 := hcs.2.2.2.2.2.2.2.2.2.2.2.2.2.2.2.1.2; have hq16 := hcs.2.2.2.2.2.2.2.2.2.2.2.2.2.2.2.2.1.2; have hq17 := hcs.2.2.2.2.2.2.2.2.2.2.2.2.2.2.2.2.2.1.2; have hq18 := hcs.2.2.2.2.2.2.2.2.2.2.2.2.2.2.2.2.2.2.1.2; have hq19 := hcs.2.2.2.2.2.2.2.2.2.2.2.2.2.2.2.2.2.2.2.1.2; have hz0 := hcs.1.1; have hf0 := hfs.1.2
    go_wp2
    go_ret
    exact ⟨ret_bool (by simp [thsSt, hL'.out]), by repeat' (first | (with_reducible exact Below.refl _ _) | (with_reducible assumption) | (with_reducible refine kept_alloc ?_ _) | (with_reducible refine kept_drewN ?_ _) | (with_reducible refine Below.drew ?_) | (with_reducible refine Below.setCell ?_ (by first | omega | (simp; omega) | (simp; done)) _) | (refine kept_trans ?_ (by with_reducible assumption)))⟩
theorem sln4 (W : World) (a b c d : Ln) : Sl (W.alloc (.cells #[.slice a.p a.l.length a.k, .slice b.p b.l.length b.k, .slice c.p c.l.length c.k, .slice d.p d.l.length d.k] 27)) 1 Ln.cells [a, b, c, d] (.slice (some ⟨W.heap.size, 0, none⟩) 4 4) :=
  Ow.sl Ln.enc (Ow.made (base := 0) (e := 27) (W := W) Ln.enc [a, b, c, d] _ rfl (Nat.zero_le _) (by show 4 ≤ maxLen; decide) rfl rfl)
def fourL (s : St) (z : Pz) : List Ln := [⟨z.p2, z.k2, s.sn⟩, ⟨z.p3, z.k3, s.rc⟩, ⟨z.p4, z.k4, s.fl⟩, ⟨z.p5, z.k5, s.el⟩]
theorem four_at {W : World} {s : St} {z : Pz} (h : StAt W s z) : ∀ x ∈ fourL s z, Sl W 1 intC x.l (.slice x.p x.l.length x.k) := by
  intro x hx
  simp only [fourL, List.mem_cons, List.mem_nil_iff, or_false] at hx
  rcases hx with rfl | rfl | rfl | rfl
  · exact h.sn
  · exact h.rc
  · exact h.fl
  · exact h.el
theorem four_all (s : St) (z : Pz) : ((fourL s z).all fun x => stnB s.cf.th x.l) = lnsSt s := by simp [fourL, lnsSt]
theorem fstand_four {s : St} {b : Bool} (hb : lnsSt s = b) (z : Pz) (W w : World) (hs : StAt W s z) (hW : w = W.alloc (.cells #[.slice z.p2 s.sn.length z.k2, .slice z.p3 s.rc.length z.k3, .slice z.p4 s.fl.length z.k4, .slice z.p5 s.el.length z.k5] 27)) :
    Calls Tryz.prog 54 #[.int .i64 s.cf.th, .slice (some ⟨W.heap.size, 0, none⟩) 4 4] w fun e w' => e = .returned (.bool b) ∧ Kept w w' := by
  subst hW
  subst hb
  rw [← four_all s z]
  exact fstand_any s.cf.th (fourL s z) (some ⟨W.heap.size, 0, none⟩) 4 _ (sln4 W ⟨z.p2, z.k2, s.sn⟩ ⟨z.p3, z.k3, s.rc⟩ ⟨z.p4, z.k4, s.fl⟩ ⟨z.p5, z.k5, s.el⟩) (four_at (hs.kept ((Below.refl _ _).alloc (Nat.le_refl _) _)))
theorem stB_1 {s : St} (h : cfB s.cf = false) : stB s = false := by simp [stB, h]
theorem stB_2 {s : St} (h : ringSt s = false) : stB s = false := by simp [stB, h]
theorem stB_3 {s : St} (h : lnsSt s = false) : stB s = false := by simp [stB, h]
theorem stB_4 {s : St} (h : okE s.fe s.fl = false) : stB s = false := by simp [stB, h]
theorem stB_5 {s : St} (h : okE s.ee s.el = false) : stB s = false := by simp [stB, h]
theorem stB_6 {s : St} (h : decide (0 ≤ s.nw) = false) : stB s = false := by simp [stB, h]
theorem stB_7 {s : St} (h : decide (s.nw ≤ 1099511627776) = false) : stB s = false := by simp [stB, h]
theorem ccheck_val {c : Cf} {b : Bool} (h : Hid (cfB c = b)) (w : World) : Calls Tryz.prog 52 #[.agg #[.int .i64 c.lg, .int .i64 c.th, .int .i64 c.po, .int .i64 c.wt, .int .i64 c.sp, .int .i64 c.yi, .bool c.si]] w fun e w' => e = .returned (.int .i64 (if b = true then 0 else 20)) ∧ Kept w w' := by
  have e : ckI c.lg c.th c.po c.wt c.sp c.yi = if b = true then 0 else 20 := by
    have h' := h.out
    cases b
    · exact ck_no h'
    · exact ck_yes h'
  rw [← e]
  exact ccheck_any _ _ _ _ _ _ _ _
theorem fring_val {s : St} {b : Bool} (hb : ringSt s = b) (z : Pz) (w : World) (hs : StAt w s z) (ho : s.ok) : Calls Tryz.prog 53 #[.agg #[.int .i64 s.cf.lg, .int .i64 s.cf.th, .int .i64 s.cf.po, .int .i64 s.cf.wt, .int .i64 s.cf.sp, .int .i64 s.cf.yi, .bool s.cf.si, .int .i64 s.hd, .int .i64 s.tl, .int .i64 s.md, .slice z.p1 s.sl.length z.k1, .slice z.p2 s.sn.length z.k2, .slice z.p3 s.rc.length z.k3, .int .i64 s.fe, .slice z.p4 s.fl.length z.k4, .int .i64 s.ee, .slice z.p5 s.el.length z.k5, .int .i64 s.nw, .slice z.p6 s.th.length z.k6, .slice z.p7 s.lg.length z.k7]] w fun e w' => e = .returned (.bool b) ∧ Kept w w' := hb ▸ fring_any s z w hs ho
theorem fthreads_val {s : St} {b : Bool} (hb : thsSt s = b) (z : Pz) (w : World) (hs : StAt w s z) (ho : s.ok) : Calls Tryz.prog 56 #[.agg #[.int .i64 s.cf.lg, .int .i64 s.cf.th, .int .i64 s.cf.po, .int .i64 s.cf.wt, .int .i64 s.cf.sp, .int .i64 s.cf.yi, .bool s.cf.si, .int .i64 s.hd, .int .i64 s.tl, .int .i64 s.md, .slice z.p1 s.sl.length z.k1, .slice z.p2 s.sn.length z.k2, .slice z.p3 s.rc.length z.k3, .int .i64 s.fe, .slice z.p4 s.fl.length z.k4, .int .i64 s.ee, .slice z.p5 s.el.length z.k5, .int .i64 s.nw, .slice z.p6 s.th.length z.k6, .slice z.p7 s.lg.length z.k7]] w fun e w' => e = .returned (.bool b) ∧ Kept w w' := hb ▸ fthreads_any s z w hs ho

end Go.Proofs.YtjbcfjfnobklkaaGreat

/- Worlds in which all is kept but some blocks. -/
namespace Go.Proofs.YtjbcfjfnobklkaaGreat
set_option linter.unusedVariables false
set_option linter.unusedSimpArgs false
open Go.ChangeShapes Go.WideShapes Go.ChangeAt Go.RowKit

/-- What was there is kept, but for these blocks. -/
structure Out (S : List Nat) (w w' : World) : Prop where
  os : w'.os = w.os
  tape : w'.tape = w.tape
  output : w'.output = w.output
  size : w.heap.size ≤ w'.heap.size
  block : ∀ j, j < w.heap.size → j ∉ S → w'.heap[j]? = w.heap[j]?
theorem Out.refl (S : List Nat) (w : World) : Out S w w := ⟨rfl, rfl, rfl, Nat.le_refl _, fun _ _ _ => rfl⟩
theorem Out.of_kept {S : List Nat} {w w' : World} (h : Below w.heap.size w w') : Out S w w' := ⟨h.os, h.tape, h.output, h.size, fun j hj _ => h.block j hj⟩
theorem Out.trans {S T : List Nat} {a b c : World} (h : Out S a b) (k : Out T b c) (hs : ∀ j ∈ T, j ∈ S ∨ a.heap.size ≤ j) : Out S a c :=
  ⟨k.os.trans h.os, k.tape.trans h.tape, k.output.trans h.output, Nat.le_trans h.size k.size, fun j hj hn =>
    (k.block j (Nat.lt_of_lt_of_le hj h.size) (fun hT => by rcases hs j hT with h1 | h1; exact hn h1; omega)).trans (h.block j hj hn)⟩
theorem Out.then {S : List Nat} {a b c : World} (h : Out S a b) (k : Below b.heap.size b c) : Out S a c := h.trans (Out.of_kept (S := []) k) (by simp)
theorem Out.after {S : List Nat} {a b c : World} (k : Below a.heap.size a b) (h : Out S b c) : Out S a c := (Out.of_kept (S := S) k).trans h (fun _ h => .inl h)
theorem Out.set {S : List Nat} {w w' : World} (h : Out S w w') {x : Addr} (hx : x.block ∈ S ∨ w.heap.size ≤ x.block) (u : Value) : Out S w (w'.setCell x u) :=
  ⟨h.os, h.tape, h.output, by simpa using h.size, fun j hj hn => (Below.heap_setCell _ _ _ _ (by rcases hx with hx | hx; (intro e; subst e; exact hn hx); omega)).trans (h.block j hj hn)⟩
theorem Out.alloc {S : List Nat} {w w' : World} (h : Out S w w') (o : Obj) : Out S w (w'.alloc o) := h.then ((Below.refl _ _).alloc (Nat.le_refl _) o)
theorem Out.drewN {S : List Nat} {w w' : World} (h : Out S w w') (n : Nat) : Out S w (w'.drewN n) := h.then (below_drewN (Below.refl _ _) n)
theorem Out.grown {S : List Nat} {w w' w'' : World} (h : Out S w w') {row : Option Nat} (k : w'.grownBy w'' row) (hr : ∀ g, row = some g → g ∈ S ∨ w.heap.size ≤ g) : Out S w w'' :=
  h.trans (T := row.toList) ⟨k.os, k.tape, k.output, k.size, fun j hj hn => k.block j hj (fun e => hn (by simp [e]))⟩ (fun j hj => hr j (by simpa using hj))
theorem Out.below {S : List Nat} {base : Nat} {w0 w w' : World} (hb : Below base w0 w) (h : Out S w w') (hS : ∀ j ∈ S, base ≤ j) (hs : base ≤ w.heap.size) : Below base w0 w' :=
  hb.trans ⟨h.os, h.tape, h.output, h.size, fun j hj => h.block j (by omega) (fun hm => by have := hS j hm; omega)⟩
theorem Ow.of_block {α : Type} {W W' : World} {base k : Nat} {e : TypeId} {enc : α → List Value} {xs : List α} {v : Value} (h : Ow W base e k enc xs v) (hk : ∀ g, v.ownBlock = some g → W'.heap[g]? = W.heap[g]?) : Ow W' base e k enc xs v := by
  obtain ⟨h0, h1 | ⟨g, cap, cur, hv, hb, hg, hl, hm, hs, ht⟩⟩ := h
  · exact ⟨h0, .inl h1⟩
  · exact ⟨h0, .inr ⟨g, cap, cur, hv, hb, (hk g (by subst hv; rfl)).trans hg, hl, hm, hs, ht⟩⟩
end Go.Proofs.YtjbcfjfnobklkaaGreat

/- BOXES BY WHOLE ROWS: a box of many cells is loaded, and stored into, by a law; the world behind a store is any that holds the new row and has kept all else. -/
namespace Go.Proofs.YtjbcfjfnobklkaaGreat
set_option linter.unusedVariables false
set_option linter.unusedSimpArgs false
open Go.ChangeShapes Go.WideShapes Go.ChangeAt Go.RowKit
/-- Block b holds these cells, none of them frozen. -/
def Bk (W : World) (b : Nat) (cs : List Value) : Prop := ∃ t, W.heap[b]? = some (.cells cs.toArray t (0, 0))
section
variable {W W' w w0 : World} {b b' : Nat} {cs us : List Value}
theorem Bk.cell (h : Bk W b cs) (i : Nat) : W.cell? ⟨b, i, none⟩ = cs[i]? := by
  obtain ⟨t, ht⟩ := h
  simp [World.cell?, ht]
theorem Bk.frozen (h : Bk W b cs) (i : Nat) : W.frozen? ⟨b, i, none⟩ = false := by
  obtain ⟨t, ht⟩ := h
  simp [World.frozen?, ht]
theorem Bk.lt (h : Bk W b cs) : b < W.heap.size := by
  obtain ⟨t, ht⟩ := h
  exact (Array.getElem?_eq_some_iff.1 ht).1
theorem Bk.kept (h : Bk W b cs) (hg : Below W.heap.size W W') : Bk W' b cs := by
  obtain ⟨t, ht⟩ := h
  exact ⟨t, (hg.block b (Array.getElem?_eq_some_iff.1 ht).1).trans ht⟩
theorem Bk.out {S : List Nat} (h : Bk W b cs) (ho : Out S W W') (hne : b ∉ S) : Bk W' b cs := by
  obtain ⟨t, ht⟩ := h
  exact ⟨t, (ho.block b (Array.getElem?_eq_some_iff.1 ht).1 hne).trans ht⟩
theorem Bk.new {c : Array Value} {t : TypeId} (hb : b = W.heap.size) : Bk (W.alloc (.cells c t)) b c.toList := by
  subst hb
  exact ⟨t, by simpa using heap_alloc_new W _⟩
theorem Bk.past {o : Obj} (h : Bk W b cs) : Bk (W.alloc o) b cs := h.kept ((Below.refl _ _).alloc (Nat.le_refl _) o)
theorem not_one {n m : Nat} (h : n < m ∨ m < n) : n ∉ [m] := by simp; omega
theorem Bk.apart {v : Value} (h : Bk W b cs) {base : Nat} {α : Type} {e : TypeId} {k : Nat} {enc : α → List Value} {xs : List α} (ho : Ow W base e k enc xs v) (hlt : b < base) : ∀ g, v.ownBlock = some g → g ≠ b := fun g hg => by have := (ho.lt g hg).1; omega
end
section
variable {P : Program} {ops : Array Oper} {rest : List Oper} {o : Oper} {a : Act} {w w0 : World} {Q : Exit → Act → World → Prop} {b off : Nat} {cs : List Value} {d : TypeDesc}
theorem wpList_want (hgd : Region.wanted o (yielded ops a.tmps) = true) (h : ∀ K : Act → World → Prop, (∀ a w, wpList P ops Q rest a w → K a w) → o.wp P a w K Q) : wpList P ops Q (o :: rest) a w :=
  wpList_step fun K hK => by rw [if_pos hgd]; exact h K hK
theorem wpList_loadL (hgd : Region.wanted o (yielded ops a.tmps) = true) (ty : TypeId) (x : Operand) (ho : o.op = .load ty x) (hx : a.eval x = .pointer (some ⟨b, off, none⟩)) (hb : Bk w b cs)
    (hu : P.underlying ty = some d) (hd : d.isRow = true) (us : List Value) (hi : (P.info? ty).map (·.size) = some us.length) (hs : ∀ j v, us[j]? = some v → cs[off + j]? = some v)
    (h : wpList P ops Q rest (a.put o.dst (.agg us.toArray)) w) : wpList P ops Q (o :: rest) a w :=
  wpList_want hgd fun _ hK => wp_load_mid ty x ho b off hx us d (fun j v hv => by rw [hb.cell]; exact hs j v hv) hu hd hi (hK _ _ h)
/-- One cell. -/
theorem wpList_load1 (ty : TypeId) (hu : P.underlying ty = some d) (hd : d.isRow = false) (hgd : Region.wanted o (yielded ops a.tmps) = true) (x : Operand) (ho : o.op = .load ty x) (hx : a.eval x = .pointer (some ⟨b, off, none⟩)) (hb : Bk w b cs)
    {u : Value} (h0 : cs[off]? = some u) (h : wpList P ops Q rest (a.put o.dst u) w) : wpList P ops Q (o :: rest) a w :=
  wpList_want hgd fun _ hK => by
    have hc : w.cell? ⟨b, off, none⟩ = some u := (hb.cell off).trans h0
    have hagg : (isAgg ty).run P w = .ok false w := by
      unfold isAgg
      rw [Sem.run_bind, run_underlying hu w]
      cases d <;> simp_all
    have hl : (load (⟨b, off, none⟩ : Addr)).run P w = .ok u w := by simp [hc]
    unfold Oper.wp execOp
    simp only [ho, hx, Instr.loadAt, Instr.sureAddr, Sem.run_bind, Sem.run_pure, Result.andThen_ok, loadVar, hagg, Bool.false_eq_true, if_false, hl]
    exact hK _ _ h
/-! ### Stores -/
/-- What a store into a block leaves: the new row there, all else kept. -/
theorem store_out {W : World} {b off : Nat} {cs us : List Value} {t : TypeId} (h : W.heap[b]? = some (.cells cs.toArray t (0, 0))) (r : Array Value) : Out [b] W (W.setRow b r) :=
  ⟨rfl, rfl, rfl, by simp, fun j hj hn => setRow_other W b j r (by simpa using hn)⟩
theorem run_storeB (ty : TypeId) {v : Value} {us : List Value} (hv : v.cells.toList = us) (hi : (P.info? ty).map (·.size) = some us.length) (h1 : us.all (·.oneCell') = true) (hl : off + us.length ≤ cs.length) {t : TypeId} (hg : w.heap[b]? = some (.cells cs.toArray t (0, 0))) :
    (storeVar ty ⟨b, off, none⟩ v).run P w = .ok () (w.setRow b (cs.take off ++ us ++ cs.drop (off + us.length)).toArray) := by
  have := run_storeCells_at (P := P) b off t us 0 cs.toArray w hg (by simpa using hl) (fun x hx => (List.all_eq_true.1 h1) x hx)
  cases hq : P.info? ty with
  | none => simp [hq] at hi
  | some i =>
    have hsz : v.cells.size = us.length := by rw [← hv]; simp
    have hs : v.cells.size = i.size := by simp [hq] at hi; omega
    simp only [Nat.add_zero, List.toList_toArray] at this
    simp [storeVar, sizeOf, typeInfo, hq, hs, hv, this]
theorem wpList_storeB (ty : TypeId) (hgd : Region.wanted o (yielded ops a.tmps) = true) (x y : Operand) (ho : o.op = .store ty x y) (hx : a.eval x = .pointer (some ⟨b, off, none⟩)) (hb : Bk w b cs)
    {v : Value} (hy : a.eval y = v) {us : List Value} (hv : v.cells.toList = us) (hi : (P.info? ty).map (·.size) = some us.length) (h1 : us.all (·.oneCell') = true) (hl : off + us.length ≤ cs.length)
    {rs : List Value} (hr : cs.take off ++ us ++ cs.drop (off + us.length) = rs)
    (h : ∀ W', Bk W' b rs → Out [b] w W' → wpList P ops Q rest (a.put o.dst undef) W') : wpList P ops Q (o :: rest) a w :=
  wpList_want hgd fun _ hK => by
    subst hr
    obtain ⟨t, ht⟩ := hb
    have hrun := run_storeB (P := P) ty hv hi h1 hl ht
    unfold Oper.wp execOp
    simp only [ho, hx, hy, Instr.storeAt, Instr.sureAddr, Sem.run_bind, Sem.run_pure, Result.andThen_ok, hrun]
    exact hK _ _ (h _ ⟨t, setRow_heap w b _ _ t _ ht⟩ (store_out (off := off) (us := us) ht _))
theorem wpList_store1 (ty : TypeId) (hgd : Region.wanted o (yielded ops a.tmps) = true) (x y : Operand) (ho : o.op = .store ty x y) (hx : a.eval x = .pointer (some ⟨b, off, none⟩)) (hb : Bk w b cs)
    {v : Value} (hy : a.eval y = v) (hv : v.cells = #[v]) (hi : (P.info? ty).map (·.size) = some 1) (h1 : v.oneCell' = true) (hl : off < cs.length)
    (h : ∀ W', Bk W' b (cs.set off v) → Out [b] w W' → wpList P ops Q rest (a.put o.dst undef) W') : wpList P ops Q (o :: rest) a w :=
  wpList_storeB ty hgd x y ho hx hb hy (us := [v]) (by rw [hv]) hi (by simp [h1]) (by rw [List.length_singleton]; exact hl) (by
    rw [List.set_eq_take_append_cons_drop, if_pos hl]; simp) h
theorem wpList_storeW (ty : TypeId) (hgd : Region.wanted o (yielded ops a.tmps) = true) (x y : Operand) (ho : o.op = .store ty x y) (hx : a.eval x = .pointer (some ⟨b, 0, none⟩)) (hb : Bk w b cs)
    {us : List Value} (hy : a.eval y = .agg us.toArray) (hi : (P.info? ty).map (·.size) = some us.length) (h1 : us.all (·.oneCell') = true) (hl : cs.length = us.length)
    (h : ∀ W', Bk W' b us → Out [b] w W' → wpList P ops Q rest (a.put o.dst undef) W') : wpList P ops Q (o :: rest) a w :=
  wpList_storeB ty hgd x y ho hx hb hy (us := us) (by simp [Value.cells]) hi h1 (by omega) (by
    simp [← hl]) h
theorem below_store {w W W' : World} {b : Nat} (hB : Below w.heap.size w W) (ho : Out [b] W W') (hb : w.heap.size ≤ b) : Below w.heap.size w W' := Out.below hB ho (by simpa using hb) hB.size
theorem Ow.out {α : Type} {W W' : World} {b base k : Nat} {e : TypeId} {enc : α → List Value} {xs : List α} {v : Value} (h : Ow W base e k enc xs v) (ho : Out [b] W W') (hlt : b < base) : Ow W' base e k enc xs v :=
  Ow.of_block h fun g hg => ho.block g (h.lt g hg).2 (by have := (h.lt g hg).1; simp; omega)
end
section
variable {P : Program}
theorem ret_cell {fn : Func} {p : Tmp} {ty : TypeId} {R : Ending → World → Prop} {a : Act} {w : World} {b : Nat} {cs : List Value} {d : TypeDesc} (h : fn.results = #[.cell p ty]) (hp : a.tmps.getD p undef = .pointer (some ⟨b, 0, none⟩)) (hb : Bk w b cs)
    (hu : P.underlying ty = some d) (hd : d.isRow = true) (hi : (P.info? ty).map (·.size) = some cs.length) (hdf : a.defers = []) (hR : R (.returned (.agg cs.toArray)) w) : bodyPost P fn R .ret a w := by
  obtain ⟨t, ht⟩ := hb
  exact bodyPost_ret (results_cell_row h a.tmps w b t cs.toArray (0, 0) d hp ht hu (by cases d <;> simp_all) (by simpa using hi)) hdf hR
end
end Go.Proofs.YtjbcfjfnobklkaaGreat
