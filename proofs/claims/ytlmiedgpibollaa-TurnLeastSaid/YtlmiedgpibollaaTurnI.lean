/- Layer 10, the document's: whether it is fair, window by window; the least window. -/
import Derived.Test.YtlmiedgpibollaaTurnH
namespace Go.Proofs.Ytlmiedgpibollaa
set_option linter.unusedVariables false
set_option linter.unusedSimpArgs false
open Go.ChangeShapes Go.WideShapes Go.ChangeAt Go.RowKit

theorem Sl.window {W : World} {l : List Int} {b o n c i m : Nat} (h : Sl W 1 intC l (.slice (some ⟨b, o, none⟩) n c)) (hi : i + m ≤ l.length) : Sl W 1 intC ((l.drop i).take m) (.slice (some ⟨b, o + i, none⟩) ((l.drop i).take m).length (c - i)) := by
  obtain ⟨q, cap, hv, h1, h2, h3, h4⟩ := h.is
  cases hv
  have hlen : ((l.drop i).take m).length = m := by simp; omega
  refine ⟨some ⟨b, o + i, none⟩, c - i, rfl, by rw [hlen]; omega, by omega, (fun h => by cases h), fun hne => ?_⟩
  obtain ⟨b', o', hp, hb, hc⟩ := h4 (by intro h; subst h; simp at hne)
  cases hp
  refine ⟨b, o + i, rfl, hb, fun j x hx r hr => ?_⟩
  rw [List.getElem?_take] at hx
  split at hx
  · rw [List.getElem?_drop] at hx
    rw [← hc (i + j) x hx r hr]
    congr 2; omega
  · cases hx

set_option maxHeartbeats 4000000 in
theorem rfair_n {l who : List Int} {N M : Nat} (hN : l.length = N) (hM : who.length = M) (win : Int) (p q : Option Addr) (k kw : Nat) (w : World) (hl : Sl w 1 intC l (.slice p l.length k)) (hw : Sl w 1 intC who (.slice q who.length kw)) :
    Calls Try.prog 20 #[.slice p N k, .slice q M kw, .int .i64 win] w fun e w' => e = .returned (.bool (fairB l who win)) ∧ Kept w w' := by
  by_cases h1 : 1 ≤ win
  · obtain ⟨m, rfl⟩ : ∃ m : Nat, win = m := ⟨win.toNat, by omega⟩
    have hm1 : 1 ≤ m := by omega
    have H := Lib.hid hl
    have HW := Lib.hid hw
    obtain ⟨_, _, e1, hlk, hkm, _, hne⟩ := hl.is
    cases e1
    obtain ⟨_, _, e1, hwk, hwm, _, hneq⟩ := hw.is
    cases e1
    have hbig : N ≤ 9223372036854775807 := by unfold maxLen at hkm; omega
    have hbig' : M ≤ 9223372036854775807 := by unfold maxLen at hwm; omega
    have hlk' : N ≤ k := by omega
    have hwk' : M ≤ kw := by omega
    clear hl hw hkm hwm hlk hwk
    have HN := Lib.hid hN
    have HM := Lib.hid hM
    have HNE := Lib.hid hne
    have HNQ := Lib.hid hneq
    obtain ⟨F, hF⟩ : ∃ F, fairB l who m = F := ⟨_, rfl⟩
    have HF := Lib.hid hF
    rw [hF]
    clear hN hM hne hneq hF
    go_enter Try.func20, Try.ntmps20
    go_wp2
    go_loopw [7, 8] (fun s7 _ wr => ∃ i : Nat, i ≤ N ∧ s7 = .int .i64 i ∧ Hid (∀ i', i' < i → i' + m ≤ l.length → ∀ x ∈ who, x ∈ (l.drop i').take m) ∧ Below w.heap.size w wr) (fun s7 _ _ => N - (intOf s7).toNat)
    case atStart => exact ⟨0, by omega, rfl, Lib.hid (fun i' h => by omega), Below.refl _ _⟩
    case round =>
      obtain ⟨i, hi, rfl, hA, hB⟩ := hrel
      have i1 : (0 : Int) ≤ (i : Int) := by omega
      have hwr1 : IntKind.i64.wrap ((N : Int) - (i : Int)) = (N : Int) - (i : Int) := IntWalk.i64_in _ (by omega)
      by_cases hlt : i + m ≤ N
      · have i2 : (i : Int) < (N : Int) := by omega
        have i3 : (m : Int) ≤ (N : Int) - (i : Int) := by omega
        have HWL : Hid (((l.drop i).take m).length = m) := Lib.hid (by simp; have := HN.out; omega)
        have hlt' : i < l.length := by rw [HN.out]; omega
        obtain ⟨b, o, rfl, hb, -⟩ := HNE.out (by intro h; subst h; simp at hlt')
        go_wp2
        go_loopw [8] (fun s8 wr2 => ∃ j : Nat, j ≤ M ∧ s8 = .int .i64 j ∧ Hid (∀ x ∈ who.take j, x ∈ (l.drop i).take m) ∧ Below w.heap.size w wr2) (fun s8 _ => M - (intOf s8).toNat)
        case atStart => exact ⟨0, by omega, rfl, Lib.hid (by simp), hB⟩
        case round =>
          obtain ⟨j, hj, rfl, hC, hB2⟩ := hrel
          by_cases hlt2 : j < M
          · have hltq : j < who.length := by rw [HM.out]; exact hlt2
            obtain ⟨bq, oq, rfl, hbq, -⟩ := HNQ.out (by intro h; subst h; simp at hltq)
            have c1 := (hB2.cell (p := ⟨bq, oq + j, none⟩) hbq).trans (sl_int HW.out hltq)
            have hbw : bq < wr.heap.size := Nat.lt_of_lt_of_le hbq hB2.size
            have j1 : (0 : Int) ≤ (j : Int) := by omega
            have j2 : (j : Int) < (M : Int) := by omega
            have hy := List.getElem?_eq_getElem hltq
            generalize who[j] = y at *
            have hw1 : IntKind.i64.wrap ((i : Int) + (m : Int)) = (i : Int) + (m : Int) := IntWalk.i64_in _ (by omega)
            have b1 : (i : Int) ≤ (i : Int) + (m : Int) := by omega
            have b2 : (i : Int) + (m : Int) ≤ (k : Int) := by omega
            have b3 : (0 : Int) ≤ (i : Int) + (m : Int) := by omega
            have b4 : (i : Int) < (k : Int) := by omega
            have HSV := Lib.hid (Sl.window (i := i) (m := m) H.out (by rw [HN.out]; exact hlt))
            obtain ⟨D, hD⟩ : ∃ D, (((ctO ((l.drop i).take m) y : Nat) : Int) == 0) = D := ⟨_, rfl⟩
            have HD := Lib.hid hD
            have hmem := List.mem_of_getElem? hy
            have hout : Hid (D = true → F = false) := fun hd => by
              rw [hd] at hD
              have h00 : ((ctO ((l.drop i).take m) y : Nat) : Int) = 0 := eq_of_beq hD
              have h0 : ctO ((l.drop i).take m) y = 0 := by omega
              cases hFF : F
              · rfl
              · have h2 := (fair_win hm1).1 (HF.out.trans hFF) i (by rw [HN.out]; exact hlt) y hmem
                exact absurd h2 (ct_zero.1 h0)
            have hin : Hid (D = false → ∀ x ∈ who.take (j + 1), x ∈ (l.drop i).take m) := fun hd x hx => by
              rw [hd] at hD
              rw [List.take_succ_eq_append_getElem hltq, List.mem_append] at hx
              rcases hx with hx | hx
              · exact hC.out x hx
              · have hxy : x = y := by
                  have h5 := List.getElem?_eq_getElem hltq
                  rw [hy] at h5
                  have h6 := Option.some.inj h5
                  rw [List.mem_singleton] at hx; rw [hx, ← h6]
                subst hxy
                have h0 : ctO ((l.drop i).take m) x ≠ 0 := by
                  intro h; rw [h] at hD; simp at hD
                exact Decidable.of_not_not (fun h => h0 (ct_zero.2 h))
            clear hD hmem hy hA hC
            go_wp2
            (refine wp_region_kept (w := w) [(bq, oq + j, .int .i64 y)] (by kernel_rfl) (by kernel_rfl) (by repeat' (first | (with_reducible exact Below.refl _ _) | (with_reducible assumption) | (with_reducible refine kept_alloc ?_ _) | (with_reducible refine kept_drewN ?_ _) | (with_reducible refine Below.drew ?_) | (with_reducible refine Below.setCell ?_ (by first | omega | (simp; omega) | (simp; done)) _) | (refine kept_trans ?_ (by with_reducible assumption)))) (by first | (simp [CellsAt, *, World.cell?_alloc_past, World.cell?_alloc_at]; done) | (simp [CellsAt, *, World.cell?_alloc_past, World.cell?_alloc_at]; omega)) (fun hne => ?_); (have hq0 : ∀ xwd : Wd w [(bq, oq + j, .int .i64 y)], xwd.at.cell? ⟨bq, oq + j, none⟩ = some (.int .i64 y) := fun xwd => xwd.cells.1.2); (try simp only [List.append_eq, List.cons_append, List.nil_append]); (repeat (go_big_quiet_step ((first | (go_at_call 16; exact quiet_call (rcount_n HWL.out _ _ _ _ (HSV.out.kept (Wd.kept _)))))))); (refine wpQuiet_nil ?_); intro wq hwq; obtain ⟨xwd, hxwd⟩ := hwq; have hgx : Below w.heap.size w wq := (by rw [hxwd]; exact xwd.kept); have hcs := (show CellsAt wq [(bq, oq + j, .int .i64 y)] by rw [hxwd]; exact xwd.cells); clear hxwd xwd hne)
            rw [HD.out]
            cases D
            · have hn := Lib.hid (hin.out rfl)
              clear hin hout
              go_wp2
              exact ⟨⟨j + 1, by omega, by go_num, hn, by repeat' (first | (with_reducible exact Below.refl _ _) | (with_reducible assumption) | (with_reducible refine kept_alloc ?_ _) | (with_reducible refine kept_drewN ?_ _) | (with_reducible refine Below.drew ?_) | (with_reducible refine Below.setCell ?_ (by first | omega | (simp; omega) | (simp; done)) _) | (refine kept_trans ?_ (by with_reducible assumption)))⟩, by simp [intOf]; omega⟩
            · have hn := Lib.hid (hout.out rfl)
              clear hin hout
              go_wp2
              go_ret
              exact ⟨ret_bool hn.out.symm, by repeat' (first | (with_reducible exact Below.refl _ _) | (with_reducible assumption) | (with_reducible refine kept_alloc ?_ _) | (with_reducible refine kept_drewN ?_ _) | (with_reducible refine Below.drew ?_) | (with_reducible refine Below.setCell ?_ (by first | omega | (simp; omega) | (simp; done)) _) | (refine kept_trans ?_ (by with_reducible assumption)))⟩
          · have : j = M := by omega
            subst this
            have hall : Hid (∀ i', i' < i + 1 → i' + m ≤ l.length → ∀ x ∈ who, x ∈ (l.drop i').take m) := fun i' hi' hle x hx => by
              by_cases he : i' = i
              · subst he
                have := hC.out x
                rw [← HM.out, List.take_length] at this
                exact this hx
              · exact hA.out i' (by omega) hle x hx
            clear hA hC
            go_wp2
            exact ⟨⟨i + 1, by omega, by go_num, hall, hB2⟩, by simp [intOf]; omega⟩
      · have hT : Hid (F = true) := by
          show _ = _
          rw [← HF.out]
          refine (fair_win hm1).2 fun i' hi' x hx => hA.out i' (by have := HN.out; omega) hi' x hx
        clear hA
        by_cases hlt2 : i < N
        · have i2 : (i : Int) < (N : Int) := by omega
          have i3 : ¬ (m : Int) ≤ (N : Int) - (i : Int) := by omega
          go_wp2
          go_ret
          exact ⟨ret_bool hT.out.symm, hB⟩
        · have i2 : ¬ (i : Int) < (N : Int) := by omega
          go_wp2
          go_ret
          exact ⟨ret_bool hT.out.symm, hB⟩
  · have hv : fairB l who win = false := by simp [fairB, h1]
    rw [hv]
    clear hv
    go_enter Try.func20, Try.ntmps20
    go_wp2
    go_ret
    exact ⟨rfl, by repeat' (first | (with_reducible exact Below.refl _ _) | (with_reducible assumption) | (with_reducible refine kept_alloc ?_ _) | (with_reducible refine kept_drewN ?_ _) | (with_reducible refine Below.drew ?_) | (with_reducible refine Below.setCell ?_ (by first | omega | (simp; omega) | (simp; done)) _) | (refine kept_trans ?_ (by with_reducible assumption)))⟩

theorem least_fair {l who : List Int} {m : Nat} (hm : 1 ≤ m) : fairB l who m = decide (widO l who < m) := by
  unfold fairB
  rw [decide_eq_true (show (1 : Int) ≤ (m : Int) by omega), Bool.true_and]
  by_cases h : widO l who < m
  · rw [decide_eq_true h, decide_eq_true (by omega)]
  · rw [decide_eq_false h, decide_eq_false (by omega)]
set_option maxHeartbeats 2000000 in
theorem rleast_n {l who : List Int} {N M : Nat} (hN : l.length = N) (hM : who.length = M) (hm : N ≤ 1000000) (p q : Option Addr) (k kw : Nat) (w : World) (hl : Sl w 1 intC l (.slice p l.length k)) (hw : Sl w 1 intC who (.slice q who.length kw)) :
    Calls Try.prog 11 #[.slice p N k, .slice q M kw] w fun e w' => e = .returned (.tuple #[.int .i64 (lstI l who), .bool (lstB l who)]) ∧ Kept w w' := by
  have H := Lib.hid hl
  have HW := Lib.hid hw
  obtain ⟨W, hWd⟩ : ∃ W, widO l who = W := ⟨_, rfl⟩
  have hle := wid_len l who
  have hf : ∀ m : Nat, 1 ≤ m → fairB l who m = decide (W < m) := fun m h => by rw [least_fair h, hWd]
  rw [hWd, hN] at hle
  unfold lstI lstB
  rw [hWd, hN]
  obtain ⟨LI, hLI⟩ : ∃ LI, (if W = N then (0 : Int) else (W : Int) + 1) = LI := ⟨_, rfl⟩
  obtain ⟨LB, hLB⟩ : ∃ LB, decide (W ≠ N) = LB := ⟨_, rfl⟩
  rw [hLI, hLB]
  have HL := Lib.hid (And.intro hLI hLB)
  have HN := Lib.hid hN
  have HM := Lib.hid hM
  have HF := Lib.hid hf
  clear hl hw hN hM hf hWd hLI hLB
  go_enter Try.func11, Try.ntmps11
  go_wp2
  go_loopw [6, 7] (fun s6 _ wr => ∃ m : Nat, 1 ≤ m ∧ m ≤ N + 1 ∧ m ≤ W + 1 ∧ s6 = .int .i64 m ∧ Below w.heap.size w wr) (fun s6 _ _ => N + 1 - (intOf s6).toNat)
  case atStart => exact ⟨1, by omega, by omega, by omega, rfl, Below.refl _ _⟩
  case round =>
    obtain ⟨m, hm1, hm2, hm3, rfl, hB⟩ := hrel
    have i1 : (0 : Int) ≤ (m : Int) := by omega
    by_cases hlt : m ≤ N
    · have i2 : (m : Int) ≤ (N : Int) := by omega
      have hv := HF.out m hm1
      have HB := Lib.hid hB
      clear hB
      go_wp2_with fail
      refine (rfair_n HN.out HM.out m p q k kw _ (H.out.kept HB.out) (HW.out.kept HB.out)).mono ?_
      rintro e w1 ⟨rfl, hg1⟩
      rw [hv]
      clear hv
      by_cases hd : W < m
      · rw [decide_eq_true hd]
        have h1 : LI = (m : Int) := by rw [← HL.out.1, if_neg (by omega)]; omega
        have h2 : LB = true := by rw [← HL.out.2]; exact decide_eq_true (by omega)
        have HV := Lib.hid (And.intro h1 h2)
        clear h1 h2
        go_wp2
        go_ret2
        exact ⟨by rw [HV.out.1, HV.out.2]; rfl, kept_trans HB.out hg1⟩
      · rw [decide_eq_false hd]
        go_wp2
        exact ⟨⟨m + 1, by omega, by omega, by omega, by go_num, kept_trans HB.out hg1⟩, by simp [intOf]; omega⟩
    · have i2 : ¬ (m : Int) ≤ (N : Int) := by omega
      have hWN : W = N := by omega
      have h1 : LI = 0 := by rw [← HL.out.1, if_pos hWN]
      have h2 : LB = false := by rw [← HL.out.2]; exact decide_eq_false (by omega)
      have HV := Lib.hid (And.intro h1 h2)
      clear h1 h2 hWN
      go_wp2
      go_ret2
      exact ⟨by rw [HV.out.1, HV.out.2]; rfl, hB⟩
end Go.Proofs.Ytlmiedgpibollaa
