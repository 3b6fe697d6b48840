/- Layer 10, the document's: how often one is picked, and its gap. -/
import Derived.Test.YtlmiedgpibollaaTurnG
namespace Go.Proofs.Ytlmiedgpibollaa
set_option linter.unusedVariables false
set_option linter.unusedSimpArgs false
open Go.ChangeShapes Go.WideShapes Go.ChangeAt Go.RowKit

theorem ct_next {l : List Int} {who : Int} {j : Nat} (hj : j < l.length) : ctO (l.take (j + 1)) who = ctO (l.take j) who + if l[j] = who then 1 else 0 := ict_next (List.getElem?_eq_getElem hj)
set_option maxHeartbeats 1000000 in
theorem rcount_n {l : List Int} {N : Nat} (hN : l.length = N) (who : Int) (p : Option Addr) (k : Nat) (w : World) (hl : Sl w 1 intC l (.slice p l.length k)) :
    Calls Try.prog 16 #[.slice p N k, .int .i64 who] w fun e w' => e = .returned (.int .i64 (ctO l who : Nat)) ∧ Kept w w' := by
  have H := Lib.hid hl
  obtain ⟨_, _, e1, hlk, hkm, _, hne⟩ := hl.is
  cases e1
  have hbig : N ≤ 9223372036854775807 := by unfold maxLen at hkm; omega
  have hlk' : N ≤ k := by omega
  clear hl hkm hlk
  have HN := Lib.hid hN
  have HNE := Lib.hid hne
  clear hN hne
  go_enter Try.func16, Try.ntmps16
  go_wp2
  go_loopw [5, 6] (fun s5 s6 wr => ∃ j : Nat, j ≤ N ∧ s6 = .int .i64 j ∧ s5 = .int .i64 (ctO (l.take j) who : Nat) ∧ w = wr) (fun _ s6 _ => N - (intOf s6).toNat)
  case atStart => exact ⟨0, by omega, rfl, rfl, rfl⟩
  case round =>
    obtain ⟨j, hj, rfl, rfl, hww⟩ := hrel
    subst hww
    by_cases hlt : j < N
    · have hlt' : j < l.length := by rw [HN.out]; exact hlt
      obtain ⟨b, o, rfl, hb, -⟩ := HNE.out (by intro h; subst h; simp at hlt')
      have c1 := sl_int H.out hlt'
      have i1 : (0 : Int) ≤ (j : Int) := by omega
      have i2 : (j : Int) < (N : Int) := by omega
      have hnx := ct_next (who := who) hlt'
      have hcl := ct_le (l.take j) who
      rw [List.length_take, Nat.min_eq_left (by omega)] at hcl
      generalize ctO (l.take j) who = c at *
      generalize l[j] = y at *
      have hw1 : IntKind.i64.wrap ((c : Int) + 1) = (c : Int) + 1 := IntWalk.i64_in _ (by omega)
      cases hxy : (y == who)
      · have hn : Hid (ctO (l.take (j + 1)) who = c) := by
          show _ = _
          rw [hnx, if_neg (by simpa using hxy), Nat.add_zero]
        clear hnx
        go_wp2
        exact ⟨⟨j + 1, by omega, by go_num, by rw [hn.out], by trivial⟩, by simp [intOf]; omega⟩
      · have hn : Hid (ctO (l.take (j + 1)) who = c + 1) := by
          show _ = _
          rw [hnx, if_pos (by simpa using hxy)]
        clear hnx
        go_wp2
        exact ⟨⟨j + 1, by omega, by go_num, by rw [hn.out]; rfl, by trivial⟩, by simp [intOf]; omega⟩
    · have : j = N := by omega
      subst this
      have ht : Hid (ctO (l.take j) who = ctO l who) := by
        show _ = _
        rw [← HN.out, List.take_length]
      go_wp2
      go_ret
      exact ⟨ret_int (by rw [ht.out]), Below.refl _ _⟩

theorem most_at {x : Int} {l : List Int} {i : Nat} (hi : i < l.length) : mostO x (l.drop i) = max (runO x (l.drop i)) (mostO x (l.drop (i + 1))) := by
  rw [List.drop_eq_getElem_cons hi]; rfl
theorem most_end {x : Int} {l : List Int} {i : Nat} (hi : l.length ≤ i) : mostO x (l.drop i) = 0 := by rw [List.drop_eq_nil_of_le hi]; rfl
theorem run_go {x : Int} {l : List Int} {i n : Nat} (h : n < runO x (l.drop i)) : ∃ y, l[i + n]? = some y ∧ y ≠ x := by
  obtain ⟨y, h1, h2⟩ := run_mid h
  rw [List.getElem?_drop] at h1
  exact ⟨y, h1, h2⟩
theorem run_stop {x : Int} {l : List Int} {i n : Nat} (h : n = runO x (l.drop i)) (hlt : i + n < l.length) : l[i + n]? = some x := by
  have := run_end (x := x) (l := l.drop i) (by simp; omega)
  rw [List.getElem?_drop, ← h] at this
  exact this

set_option maxHeartbeats 2000000 in
theorem rgap_n {l : List Int} {N : Nat} (hN : l.length = N) (who : Int) (p : Option Addr) (k : Nat) (w : World) (hl : Sl w 1 intC l (.slice p l.length k)) :
    Calls Try.prog 18 #[.slice p N k, .int .i64 who] w fun e w' => e = .returned (.int .i64 (gapO l who : Nat)) ∧ Kept w w' := by
  have H := Lib.hid hl
  obtain ⟨_, _, e1, hlk, hkm, _, hne⟩ := hl.is
  cases e1
  have hbig : N ≤ 9223372036854775807 := by unfold maxLen at hkm; omega
  have hlk' : N ≤ k := by omega
  clear hl hkm hlk
  have HN := Lib.hid hN
  have HNE := Lib.hid hne
  rw [gap_is_most]
  clear hN hne
  go_enter Try.func18, Try.ntmps18
  go_wp2
  go_loopw [5, 6] (fun s5 s6 wr => ∃ i a : Nat, i ≤ N ∧ s6 = .int .i64 i ∧ s5 = .int .i64 a ∧ max a (mostO who (l.drop i)) = mostO who l ∧ w = wr) (fun _ s6 _ => N - (intOf s6).toNat)
  case atStart => exact ⟨0, 0, by omega, rfl, rfl, by rw [List.drop_zero]; omega, rfl⟩
  case round =>
    obtain ⟨i, a, hi, rfl, rfl, hm, hww⟩ := hrel
    subst hww
    by_cases hlt : i < N
    · have hlt' : i < l.length := by rw [HN.out]; exact hlt
      obtain ⟨b, o, rfl, hb, -⟩ := HNE.out (by intro h; subst h; simp at hlt')
      have i1 : (0 : Int) ≤ (i : Int) := by omega
      have i2 : (i : Int) < (N : Int) := by omega
      rw [most_at hlt'] at hm
      have HMX := Lib.hid hm
      have hrl := run_le who (l.drop i)
      rw [List.length_drop, HN.out] at hrl
      clear hm
      obtain ⟨R, hR⟩ : ∃ R, runO who (l.drop i) = R := ⟨_, rfl⟩
      rw [hR] at hrl
      have HR := Lib.hid hR
      clear hR
      go_wp2
      go_loopw [7] (fun s7 wr => ∃ n : Nat, n ≤ R ∧ s7 = .int .i64 n ∧ w = wr) (fun s7 _ => R - (intOf s7).toNat)
      case atStart => exact ⟨0, by omega, rfl, rfl⟩
      case round =>
        obtain ⟨n, hn, rfl, hww⟩ := hrel
        subst hww
        have hw1 : IntKind.i64.wrap ((i : Int) + (n : Int)) = (i : Int) + (n : Int) := IntWalk.i64_in _ (by omega)
        by_cases hr : n < R
        · obtain ⟨y, hy, hyx⟩ := run_go (x := who) (l := l) (i := i) (n := n) (by rw [HR.out]; exact hr)
          obtain ⟨hy1, hy2⟩ := List.getElem?_eq_some_iff.1 hy
          have c1 := sl_int H.out hy1
          rw [hy2] at c1
          have j1 : (i : Int) + (n : Int) < (N : Int) := by rw [HN.out] at hy1; omega
          have j0 : (0 : Int) ≤ (i : Int) + (n : Int) := by omega
          have hyb : (y != who) = true := by simpa using hyx
          clear hy hy1 hy2 hyx
          go_wp2
          exact ⟨⟨n + 1, by omega, by go_num, by trivial⟩, by simp [intOf]; omega⟩
        · have : n = R := by omega
          subst this
          have HMR : Hid (max a (max n (mostO who (l.drop (i + 1)))) = mostO who l) := by
            show _ = _
            rw [← HR.out]; exact HMX.out
          by_cases he : i + n < N
          · have hy := run_stop (x := who) (l := l) (i := i) (n := n) HR.out.symm (by rw [HN.out]; exact he)
            obtain ⟨hy1, hy2⟩ := List.getElem?_eq_some_iff.1 hy
            have c1 := sl_int H.out hy1
            rw [hy2] at c1
            have j1 : (i : Int) + (n : Int) < (N : Int) := by omega
            have j0 : (0 : Int) ≤ (i : Int) + (n : Int) := by omega
            have hyb : (who != who) = false := by simp
            clear hy hy1 hy2 he
            go_wp2
            · exact ⟨⟨i + 1, n, by omega, by go_num, rfl, by have := HMR.out; omega, by trivial⟩, by simp [intOf]; omega⟩
            · exact ⟨⟨i + 1, a, by omega, by go_num, rfl, by have := HMR.out; omega, by trivial⟩, by simp [intOf]; omega⟩
          · have j1 : ¬ (i : Int) + (n : Int) < (N : Int) := by omega
            go_wp2
            · exact ⟨⟨i + 1, n, by omega, by go_num, rfl, by have := HMR.out; omega, by trivial⟩, by simp [intOf]; omega⟩
            · exact ⟨⟨i + 1, a, by omega, by go_num, rfl, by have := HMR.out; omega, by trivial⟩, by simp [intOf]; omega⟩
    · have : i = N := by omega
      subst this
      rw [most_end (by rw [HN.out]; exact Nat.le_refl _), Nat.max_zero] at hm
      have HMX := Lib.hid hm
      clear hm
      go_wp2
      go_ret
      exact ⟨ret_int (by rw [HMX.out]), Below.refl _ _⟩
end Go.Proofs.Ytlmiedgpibollaa
