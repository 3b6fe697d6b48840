/- Layer 7: how often something is in a list. -/
import Derived.Test.YtmdpgaihbkjjgaaWaitG
namespace Go.Proofs.Ytmdpgaihbkjjgaa
set_option linter.unusedVariables false
set_option linter.unusedSimpArgs false
open Go.ChangeShapes Go.WideShapes Go.ChangeAt Go.RowKit

theorem int_at {w : World} {l : List Int} {b o n k : Nat} (h : Sl w 1 intC l (.slice (some ⟨b, o, none⟩) n k)) {j : Nat} (hj : j < l.length) : w.cell? ⟨b, o + j, none⟩ = some (.int .i64 l[j]) := by
  obtain ⟨p, k', e, _, _, _, h4⟩ := h.is
  cases e
  obtain ⟨b', o', e, _, h5⟩ := h4 (by intro h; subst h; simp at hj)
  cases e
  have h6 := h5 j l[j] (List.getElem?_eq_getElem hj) 0 (by omega)
  simpa [intC] using h6

set_option maxHeartbeats 1000000 in
theorem wcount_any (l : List Int) (one : Int) (p : Option Addr) (k : Nat) (w : World) (hl : Sl w 1 intC l (.slice p l.length k)) :
    Calls Try.prog 22 #[.slice p l.length k, .int .i64 one] w fun e w' => e = .returned (.int .i64 (cntO l one)) ∧ Kept w w' := by
  have H := Lib.hid hl
  obtain ⟨_, _, e1, hlk, hkm, _, hne⟩ := hl.is
  cases e1
  have hbig : l.length ≤ 9223372036854775807 := by unfold maxLen at hkm; omega
  clear hl hkm
  obtain ⟨N, hN⟩ : ∃ N, l.length = N := ⟨_, rfl⟩
  rw [hN] at hbig hlk ⊢
  have HN := Lib.hid hN
  have HNE := Lib.hid hne
  clear hN hne
  go_enter Try.func22, Try.ntmps22
  go_wp2
  go_loopw [5, 7, 10] (fun m _ i wr => ∃ j : Nat, j ≤ N ∧ i = .int .i64 j ∧ m = .int .i64 (cntO (l.take j) one) ∧ Below w.heap.size w wr) (fun _ _ i _ => N - (intOf i).toNat)
  case atStart => exact ⟨0, by omega, rfl, rfl, Below.refl _ _⟩
  case round =>
    obtain ⟨j, hj, rfl, rfl, hB⟩ := hrel
    by_cases hlt : j < N
    · have hlt' : j < l.length := by rw [HN.out]; exact hlt
      obtain ⟨b, o, rfl, hb, -⟩ := HNE.out (by intro h; subst h; simp at hlt')
      have c1 := (hB.cell (p := ⟨b, o + j, none⟩) hb).trans (int_at H.out hlt')
      have hbw : b < wr.heap.size := Nat.lt_of_lt_of_le hb hB.size
      have i1 : (0 : Int) ≤ (j : Int) := by omega
      have i2 : (j : Int) < (N : Int) := by omega
      have hs : Hid (cntO (l.take (j + 1)) one = cntO (l.take j) one + if l[j] = one then 1 else 0) := by
        show _ = _
        rw [List.take_succ_eq_append_getElem hlt', cnt_snoc]
      have hcb := cnt_bound (l.take j) one
      rw [List.length_take, Nat.min_eq_left (by omega)] at hcb
      generalize cntO (l.take j) one = m at *
      generalize l[j] = y at *
      have hw1 : IntKind.i64.wrap (m + 1) = m + 1 := IntWalk.i64_in _ (by omega)
      cases hxy : (y == one)
      · have hn : Hid (cntO (l.take (j + 1)) one = m) := by
          show _ = _
          rw [hs.out, if_neg (by simpa using hxy), Int.add_zero]
        clear hs
        go_wp2
        exact ⟨⟨j + 1, by omega, by go_num, by rw [hn.out], by repeat' (first | (with_reducible exact Below.refl _ _) | (with_reducible assumption) | (with_reducible refine kept_alloc ?_ _) | (with_reducible refine kept_drewN ?_ _) | (with_reducible refine Below.drew ?_) | (with_reducible refine Below.setCell ?_ (by first | omega | (simp; omega) | (simp; done)) _) | (refine kept_trans ?_ (by with_reducible assumption)))⟩, by simp [intOf]; omega⟩
      · have hn : Hid (cntO (l.take (j + 1)) one = m + 1) := by
          show _ = _
          rw [hs.out, if_pos (by simpa using hxy)]
        clear hs
        go_wp2
        exact ⟨⟨j + 1, by omega, by go_num, by rw [hn.out], by repeat' (first | (with_reducible exact Below.refl _ _) | (with_reducible assumption) | (with_reducible refine kept_alloc ?_ _) | (with_reducible refine kept_drewN ?_ _) | (with_reducible refine Below.drew ?_) | (with_reducible refine Below.setCell ?_ (by first | omega | (simp; omega) | (simp; done)) _) | (refine kept_trans ?_ (by with_reducible assumption)))⟩, by simp [intOf]; omega⟩
    · have : j = N := by omega
      subst this
      have ht : Hid (cntO (l.take j) one = cntO l one) := by
        show _ = _
        rw [← HN.out, List.take_length]
      go_wp2
      go_ret
      exact ⟨ret_int ht.out, by repeat' (first | (with_reducible exact Below.refl _ _) | (with_reducible assumption) | (with_reducible refine kept_alloc ?_ _) | (with_reducible refine kept_drewN ?_ _) | (with_reducible refine Below.drew ?_) | (with_reducible refine Below.setCell ?_ (by first | omega | (simp; omega) | (simp; done)) _) | (refine kept_trans ?_ (by with_reducible assumption)))⟩
end Go.Proofs.Ytmdpgaihbkjjgaa
