/- Layer 9: places at first. -/
import Derived.Test.YtbfmnlniabldbaaSlotD
namespace Go.Proofs.Ytbfmnlniabldbaa
set_option linter.unusedVariables false
set_option linter.unusedSimpArgs false
open Go.ChangeShapes Go.WideShapes Go.ChangeAt Go.RowKit
/-- What a call that hands back slots of its own, or none, leaves. -/
def RetN (w : World) (r : List Slo) (e : Ending) (w' : World) : Prop :=
  ∃ p k, e = .returned (.slice p r.length k) ∧ Ow w' w.heap.size 36 2 Slo.cells r (.slice p r.length k) ∧ Kept w w'
set_option maxHeartbeats 1000000 in
theorem snew_any (r : Int) (hr : In64 r) (w : World) : Calls Try.prog 16 #[.int .i64 r] w (RetN w (newL r)) := by
  unfold newL
  cases hb : ringB r
  · have HB := Lib.hid hb
    clear hb
    go_enter Try.func16, Try.ntmps16
    go_wp2_with fail
    refine (sring_val HB.out hr _).mono ?_
    rintro e w1 ⟨rfl, hg1⟩
    go_wp2
    go_ret
    exact ⟨none, 0, rfl, ⟨by simp, .inl ⟨rfl, rfl⟩⟩, by repeat' (first | (with_reducible exact Below.refl _ _) | (with_reducible assumption) | (with_reducible refine kept_alloc ?_ _) | (with_reducible refine kept_drewN ?_ _) | (with_reducible refine Below.drew ?_) | (with_reducible refine Below.setCell ?_ (by first | omega | (simp; omega) | (simp; done)) _) | (refine kept_trans ?_ (by with_reducible assumption)))⟩
  · obtain ⟨h1, h2⟩ := ring_iff.1 hb
    obtain ⟨k, hk⟩ : ∃ k : Nat, r = k := ⟨r.toNat, by omega⟩
    subst hk
    have HB := Lib.hid hb
    have hkm : k ≤ 1000 := by omega
    have hmk := mk_slots k k rfl hkm
    clear hb
    rw [if_pos rfl, Int.toNat_natCast, ← soFarS_all]
    go_enter Try.func16, Try.ntmps16
    go_wp2_with fail
    refine (sring_val HB.out hr _).mono ?_
    rintro e w1 ⟨rfl, hg1⟩
    have HZ := Lib.hid (Ow.zeroS (w0 := w) (w := w1) k hkm hg1)
    have hBz : Hid (Below w.heap.size w (w1.alloc (.cells (madeCells #[Value.int .i64 0, .int .i64 0] (k * 2)) 36))) := Lib.hid (by repeat' (first | (with_reducible exact Below.refl _ _) | (with_reducible assumption) | (with_reducible refine kept_alloc ?_ _) | (with_reducible refine kept_drewN ?_ _) | (with_reducible refine Below.drew ?_) | (with_reducible refine Below.setCell ?_ (by first | omega | (simp; omega) | (simp; done)) _) | (refine kept_trans ?_ (by with_reducible assumption))))
    go_wp2
    clear hmk
    go_loopw [4, 12] (fun _ i wr => ∃ j : Nat, j ≤ k ∧ i = .int .i64 j ∧ Ow wr w.heap.size 36 2 Slo.cells (soFarS k j) (.slice (some ⟨w1.heap.size, 0, none⟩) k k) ∧ Below w.heap.size w wr) (fun _ i _ => k - (intOf i).toNat)
    case atStart => exact ⟨0, by omega, rfl, by rw [soFarS_zero]; exact HZ.out, hBz.out⟩
    case round =>
      obtain ⟨j, hj, rfl, hO, hB⟩ := hrel
      have HO := Lib.hid hO
      clear hO HZ hBz
      by_cases hlt : j < k
      · have i1 : (0 : Int) ≤ (j : Int) := by omega
        have i2 : (j : Int) < (k : Int) := by omega
        have HS := Lib.hid (soFarS_len k j)
        obtain ⟨c2, -, f2, -⟩ := Ow.slots HO.out (i := j) (by rw [HS.out]; exact hlt)
        have hgb : w.heap.size ≤ w1.heap.size := (Ow.lt HO.out _ rfl).1
        go_wp2
        refine ⟨⟨j + 1, by omega, by go_num, ?_, ?_⟩, by simp [intOf]; omega⟩
        · rw [← soFarS_set k j hlt]; exact Ow.setSt HO.out j j
        · exact hB.setCell (p := ⟨w1.heap.size, j * 2, none⟩) hgb _
      · have hjk : j = k := by omega
        subst hjk
        go_wp2
        go_ret
        refine ⟨some ⟨w1.heap.size, 0, none⟩, j, by rw [soFarS_len]; rfl, ?_, by repeat' (first | (with_reducible exact Below.refl _ _) | (with_reducible assumption) | (with_reducible refine kept_alloc ?_ _) | (with_reducible refine kept_drewN ?_ _) | (with_reducible refine Below.drew ?_) | (with_reducible refine Below.setCell ?_ (by first | omega | (simp; omega) | (simp; done)) _) | (refine kept_trans ?_ (by with_reducible assumption)))⟩
        rw [soFarS_len]
        exact HO.out

theorem ok_falseS {l : List Slo} {j : Nat} (hj : j < l.length) (h : slotB l.length j (gs l j) = false) : okSl l = false := by
  cases hk : okSl l
  · rfl
  · rw [(ok_iff.1 hk).2 j hj] at h; cases h
theorem ok_ring {l : List Slo} (h : ringB l.length = false) : okSl l = false := by simp [okSl, h]
theorem ok_trueS {l : List Slo} (h : ringB l.length = true) (k : ∀ i, i < l.length → slotB l.length i (gs l i) = true) : okSl l = true := by
  rw [ok_iff]; exact ⟨by have := ring_iff.1 h; omega, k⟩
theorem below_succ {l : List Slo} {j n : Nat} (h : ∀ i, i < j → slotB n i (gs l i) = true) (k : slotB n j (gs l j) = true) : ∀ i, i < j + 1 → slotB n i (gs l i) = true := fun i hi => by
  by_cases e : i = j
  · subst e; exact k
  · exact h i (by omega)

set_option maxHeartbeats 2000000 in
theorem scheck_any (l : List Slo) (p : Option Addr) (k : Nat) (w : World) (hl : Sl w 2 Slo.cells l (.slice p l.length k)) (hm : l.length ≤ 1000) :
    Calls Try.prog 18 #[.slice p l.length k] w fun e w' => e = .returned (.bool (okSl l)) ∧ Kept w w' := by
  have H := Lib.hid hl
  obtain ⟨_, _, e1, _, _, _, hne⟩ := hl.is
  cases e1
  have HNE := Lib.hid hne
  cases hb : ringB l.length
  · rw [ok_ring hb]
    have HB := Lib.hid hb
    clear hl hne hb
    go_enter Try.func18, Try.ntmps18
    go_wp2_with fail
    refine (sring_val HB.out (by omega) _).mono ?_
    rintro e w1 ⟨rfl, hg1⟩
    go_wp2
    go_ret
    exact ⟨rfl, by repeat' (first | (with_reducible exact Below.refl _ _) | (with_reducible assumption) | (with_reducible refine kept_alloc ?_ _) | (with_reducible refine kept_drewN ?_ _) | (with_reducible refine Below.drew ?_) | (with_reducible refine Below.setCell ?_ (by first | omega | (simp; omega) | (simp; done)) _) | (refine kept_trans ?_ (by with_reducible assumption)))⟩
  · have HB := Lib.hid hb
    clear hl hne hb
    obtain ⟨N, hN⟩ : ∃ N, l.length = N := ⟨_, rfl⟩
    have HN := Lib.hid hN
    rw [hN] at hm ⊢
    have hbN : Hid (ringB N = true) := Lib.hid (by rw [← hN]; exact HB.out)
    clear hN
    go_enter Try.func18, Try.ntmps18
    go_wp2_with fail
    refine (sring_val hbN.out (by omega) _).mono ?_
    rintro e w1 ⟨rfl, hg1⟩
    go_wp2
    go_loopw [3, 4, 11] (fun _ _ i wr => ∃ j : Nat, j ≤ N ∧ i = .int .i64 j ∧ Hid (∀ i, i < j → slotB N i (gs l i) = true) ∧ Below w.heap.size w wr) (fun _ _ i _ => N - (intOf i).toNat)
    case atStart => exact ⟨0, by omega, rfl, Lib.hid (fun i hi => by omega), by repeat' (first | (with_reducible exact Below.refl _ _) | (with_reducible assumption) | (with_reducible refine kept_alloc ?_ _) | (with_reducible refine kept_drewN ?_ _) | (with_reducible refine Below.drew ?_) | (with_reducible refine Below.setCell ?_ (by first | omega | (simp; omega) | (simp; done)) _) | (refine kept_trans ?_ (by with_reducible assumption)))⟩
    case round =>
      obtain ⟨j, hj, rfl, T, hB⟩ := hrel
      clear hg1
      by_cases hlt : j < N
      · have hlt' : j < l.length := by rw [HN.out]; exact hlt
        have HX := Lib.hid hlt'
        obtain ⟨b, o, rfl, hb, -⟩ := HNE.out (by intro h; subst h; simp at hlt')
        obtain ⟨c1, c2⟩ := ss_at (H.out.kept hB) hlt'
        have hbw : b < wr.heap.size := Nat.lt_of_lt_of_le hb hB.size
        have i1 : (0 : Int) ≤ (j : Int) := by omega
        have i2 : (j : Int) < (N : Int) := by omega
        obtain ⟨z, hz⟩ : ∃ z, gs l j = z := ⟨_, rfl⟩
        rw [hz] at c1 c2
        have HZ := Lib.hid hz
        clear hz hlt'
        cases b1 : decide (z.st < 0)
        · cases b2 : decide (2199023255552 < z.st)
          · obtain ⟨P, hP⟩ : ∃ P, placeI z.st N = P := ⟨_, rfl⟩
            have HP := Lib.hid hP
            clear hP
            cases b3 : (P != (j : Int))
            · have hs : Hid (slotB N j (gs l j) = true) := Lib.hid (by
                rw [HZ.out, slot_iff, HP.out]; simp at b1 b2 b3; omega)
              go_wp2_with fail
              refine (place_val HP.out (by simp at b1 b2; omega) (by omega) _).mono ?_
              rintro e w2 ⟨rfl, hg2⟩
              go_wp2
              exact ⟨⟨j + 1, by omega, by go_num, Lib.hid (below_succ T.out hs.out), by repeat' (first | (with_reducible exact Below.refl _ _) | (with_reducible assumption) | (with_reducible refine kept_alloc ?_ _) | (with_reducible refine kept_drewN ?_ _) | (with_reducible refine Below.drew ?_) | (with_reducible refine Below.setCell ?_ (by first | omega | (simp; omega) | (simp; done)) _) | (refine kept_trans ?_ (by with_reducible assumption)))⟩, by simp [intOf]; omega⟩
            · have hs : Hid (slotB N j (gs l j) = false) := Lib.hid (by
                rw [← Bool.not_eq_true, HZ.out, slot_iff, HP.out]; simp at b3; omega)
              go_wp2_with fail
              refine (place_val HP.out (by simp at b1 b2; omega) (by omega) _).mono ?_
              rintro e w2 ⟨rfl, hg2⟩
              go_wp2; go_ret; exact ⟨ret_bool (ok_falseS HX.out (by rw [HN.out]; exact hs.out)).symm, by repeat' (first | (with_reducible exact Below.refl _ _) | (with_reducible assumption) | (with_reducible refine kept_alloc ?_ _) | (with_reducible refine kept_drewN ?_ _) | (with_reducible refine Below.drew ?_) | (with_reducible refine Below.setCell ?_ (by first | omega | (simp; omega) | (simp; done)) _) | (refine kept_trans ?_ (by with_reducible assumption)))⟩
          · have hs : Hid (slotB N j (gs l j) = false) := Lib.hid (by rw [← Bool.not_eq_true, HZ.out, slot_iff]; simp at b2; omega)
            go_wp2; go_ret; exact ⟨ret_bool (ok_falseS HX.out (by rw [HN.out]; exact hs.out)).symm, by repeat' (first | (with_reducible exact Below.refl _ _) | (with_reducible assumption) | (with_reducible refine kept_alloc ?_ _) | (with_reducible refine kept_drewN ?_ _) | (with_reducible refine Below.drew ?_) | (with_reducible refine Below.setCell ?_ (by first | omega | (simp; omega) | (simp; done)) _) | (refine kept_trans ?_ (by with_reducible assumption)))⟩
        · have hs : Hid (slotB N j (gs l j) = false) := Lib.hid (by rw [← Bool.not_eq_true, HZ.out, slot_iff]; simp at b1; omega)
          go_wp2; go_ret; exact ⟨ret_bool (ok_falseS HX.out (by rw [HN.out]; exact hs.out)).symm, by repeat' (first | (with_reducible exact Below.refl _ _) | (with_reducible assumption) | (with_reducible refine kept_alloc ?_ _) | (with_reducible refine kept_drewN ?_ _) | (with_reducible refine Below.drew ?_) | (with_reducible refine Below.setCell ?_ (by first | omega | (simp; omega) | (simp; done)) _) | (refine kept_trans ?_ (by with_reducible assumption)))⟩
      · have hjk : j = N := by omega
        subst hjk
        go_wp2
        go_ret
        exact ⟨ret_bool (ok_trueS HB.out (fun i hi => by rw [HN.out]; exact T.out i (by rw [← HN.out]; exact hi))).symm, by repeat' (first | (with_reducible exact Below.refl _ _) | (with_reducible assumption) | (with_reducible refine kept_alloc ?_ _) | (with_reducible refine kept_drewN ?_ _) | (with_reducible refine Below.drew ?_) | (with_reducible refine Below.setCell ?_ (by first | omega | (simp; omega) | (simp; done)) _) | (refine kept_trans ?_ (by with_reducible assumption)))⟩
theorem scheck_val {l : List Slo} {b : Bool} (hb : okSl l = b) (p : Option Addr) (k : Nat) (w : World) (hl : Sl w 2 Slo.cells l (.slice p l.length k)) (hm : l.length ≤ 1000) :
    Calls Try.prog 18 #[.slice p l.length k] w fun e w' => e = .returned (.bool b) ∧ Kept w w' := hb ▸ scheck_any l p k w hl hm

theorem slies_any (l : List Slo) (q : Int) (p : Option Addr) (k : Nat) (w : World) (hl : Sl w 2 Slo.cells l (.slice p l.length k)) (hm : l.length ≤ 1000) :
    Calls Try.prog 22 #[.slice p l.length k, .int .i64 q] w fun e w' => e = .returned (.bool (liesS l q)) ∧ Kept w w' := by
  have H := Lib.hid hl
  unfold liesS
  clear hl
  cases h1 : decide (0 ≤ q)
  · go_enter Try.func22, Try.ntmps22
    go_wp2
    go_ret
    exact ⟨rfl, by repeat' (first | (with_reducible exact Below.refl _ _) | (with_reducible assumption) | (with_reducible refine kept_alloc ?_ _) | (with_reducible refine kept_drewN ?_ _) | (with_reducible refine Below.drew ?_) | (with_reducible refine Below.setCell ?_ (by first | omega | (simp; omega) | (simp; done)) _) | (refine kept_trans ?_ (by with_reducible assumption)))⟩
  · go_enter Try.func22, Try.ntmps22
    go_wp2_with fail
    refine (scheck_any l p k _ H.out hm).mono ?_
    rintro e w1 ⟨rfl, hg1⟩
    go_wp2
    go_ret
    exact ⟨ret_bool (by simp), by repeat' (first | (with_reducible exact Below.refl _ _) | (with_reducible assumption) | (with_reducible refine kept_alloc ?_ _) | (with_reducible refine kept_drewN ?_ _) | (with_reducible refine Below.drew ?_) | (with_reducible refine Below.setCell ?_ (by first | omega | (simp; omega) | (simp; done)) _) | (refine kept_trans ?_ (by with_reducible assumption)))⟩
theorem slies_val {l : List Slo} {q : Int} {b : Bool} (hb : liesS l q = b) (p : Option Addr) (k : Nat) (w : World) (hl : Sl w 2 Slo.cells l (.slice p l.length k)) (hm : l.length ≤ 1000) :
    Calls Try.prog 22 #[.slice p l.length k, .int .i64 q] w fun e w' => e = .returned (.bool b) ∧ Kept w w' := hb ▸ slies_any l q p k w hl hm

set_option maxHeartbeats 1000000 in
theorem sat_any (l : List Slo) (q : Int) (i : Nat) (p : Option Addr) (k : Nat) (w : World) (hl : Sl w 2 Slo.cells l (.slice p l.length k)) (hm : l.length ≤ 1000) (hq : In64 q) (hpl : placeI q l.length = i) (hi : i < l.length) :
    Calls Try.prog 27 #[.slice p l.length k, .int .i64 q] w fun e w' => e = .returned (.agg #[.int .i64 (gs l i).st, .int .i64 (gs l i).vl]) ∧ Kept w w' := by
  have H := Lib.hid hl
  obtain ⟨_, _, e1, _, _, _, hne⟩ := hl.is
  cases e1
  obtain ⟨b, o, rfl, hb, -⟩ := hne (by intro h; subst h; simp at hi)
  obtain ⟨c1, c2⟩ := ss_at hl hi
  have HM := Lib.hid hpl
  obtain ⟨N, hN⟩ : ∃ N, l.length = N := ⟨_, rfl⟩
  have HN := Lib.hid hN
  rw [hN] at hm hi ⊢
  have hM : Hid (placeI q N = i) := Lib.hid (by rw [← hN]; exact HM.out)
  have b1 : (0 : Int) ≤ (i : Int) := by omega
  have b2 : (i : Int) < (N : Int) := by omega
  clear hN hl hne hpl HM
  generalize gs l i = z at *
  go_enter Try.func27, Try.ntmps27
  go_wp2_with fail
  refine (place_val hM.out (by omega) (by omega) _).mono ?_
  rintro e w1 ⟨rfl, hg1⟩
  have hcs : CellsAt w1 [(w.heap.size, 0, .int .i64 0), (w.heap.size, 1, .int .i64 0)] := cells_keep hg1 (by (simp only [CellsAt]; (repeat' (first | exact trivial | (refine And.intro ?_ ?_))); all_goals (first | (focus ((try simp only [World.size_setCell, World.size_alloc]); omega)) | (repeat (first | rfl | assumption | (refine (World.cell?_alloc_past _ _ _ ?_).trans ?_; focus ((try simp only [World.size_setCell, World.size_alloc]); omega)) | (refine (World.cell?_alloc_at _ _ _ _ ?_).trans ?_; focus ((try simp only [World.size_setCell, World.size_alloc]); done)) | (refine (World.cell?_setCell_other _ _ _ _ ?_).trans ?_; focus (simp; done)) | (refine (World.cell?_setCell_other _ _ _ _ ?_).trans ?_; focus (simp; omega)) | (refine World.cell?_setCell_same' _ _ _ ?_; focus (simp; done)))))))
  have hq0 := hcs.1.2; have hq1 := hcs.2.1.2; have hz0 := hcs.1.1
  have hB1 : Below w.heap.size w w1 := by repeat' (first | (with_reducible exact Below.refl _ _) | (with_reducible assumption) | (with_reducible refine kept_alloc ?_ _) | (with_reducible refine kept_drewN ?_ _) | (with_reducible refine Below.drew ?_) | (with_reducible refine Below.setCell ?_ (by first | omega | (simp; omega) | (simp; done)) _) | (refine kept_trans ?_ (by with_reducible assumption)))
  have q5 := ((bcell hB1).1 _ (o + i * 2) hb).trans c1
  have q6 := ((bcell hB1).1 _ (o + i * 2 + 1) hb).trans c2
  have f1 : ∀ j, w1.frozen? ⟨w.heap.size, j, none⟩ = false := fun j => ((bcell hg1).2 _ j (by simp)).trans (World.frozen?_alloc_at _ _ _ _ rfl)
  go_wp2
  refine bodyPost_ret (v := .agg #[.int .i64 z.st, .int .i64 z.vl]) (by simp [results, Try.results27, go_sem, *]) rfl ⟨rfl, by repeat' (first | (with_reducible exact Below.refl _ _) | (with_reducible assumption) | (with_reducible refine kept_alloc ?_ _) | (with_reducible refine kept_drewN ?_ _) | (with_reducible refine Below.drew ?_) | (with_reducible refine Below.setCell ?_ (by first | omega | (simp; omega) | (simp; done)) _) | (refine kept_trans ?_ (by with_reducible assumption)))⟩
end Go.Proofs.Ytbfmnlniabldbaa
