/- Layer 10: rounds, by the program and by the document. -/
import Derived.Test.YtlmiedgpibollaaTurnG
import Derived.Laws.MakeOwn
import Derived.Test.YtlmiedgpibollaaApp
namespace Go.Proofs.Ytlmiedgpibollaa
set_option linter.unusedVariables false
set_option linter.unusedSimpArgs false
open Go.ChangeShapes Go.WideShapes Go.ChangeAt Go.RowKit

abbrev rmI (j n : Int) : Int := j % n
theorem ow_nil (w : World) (base : Nat) : Ow w base 3 1 intC [] (.slice none 0 0) := ⟨by simp, .inl ⟨rfl, rfl⟩⟩
/-- What a call that hands out a list of numbers leaves: of its own. -/
def RetR (r : List Int) (w : World) (e : Ending) (w' : World) : Prop := ∃ p k, e = .returned (.slice p r.length k) ∧ Ow w' w.heap.size 3 1 intC r (.slice p r.length k) ∧ Kept w w'
theorem ow_slice {W : World} {base : Nat} {r : List Int} {v : Value} (h : Ow W base 3 1 intC r v) : ∃ p k, v = .slice p r.length k := by
  obtain ⟨p, k, e, _⟩ := (Ow.sl intEnc h).is
  exact ⟨p, k, e⟩
theorem rob_full {n m : Nat} (hn : 1 ≤ n ∧ n ≤ 16) (hm : 1 ≤ m ∧ m ≤ 1000) : rbL n m = robL n (n * m) := by
  unfold rbL
  rw [if_pos (by omega)]
  rfl
theorem rob_grow {n j i : Nat} (hi : i < n) : robL n (n * j + i) ++ [(i : Int)] = robL n (n * j + (i + 1)) := by
  rw [← Nat.add_assoc, rob_succ, Nat.mul_add_mod, Nat.mod_eq_of_lt hi]

set_option maxHeartbeats 2000000 in
theorem trobin_any (t r : Int) (ht : In64 t) (hr : In64 r) (w : World) : Calls Try.prog 13 #[.int .i64 t, .int .i64 r] w (RetR (rbL t r) w) := by
  by_cases hok : 1 ≤ t ∧ t ≤ 16 ∧ 1 ≤ r ∧ r ≤ 1000
  · obtain ⟨n, rfl⟩ : ∃ n : Nat, t = n := ⟨t.toNat, by omega⟩
    obtain ⟨m, rfl⟩ : ∃ m : Nat, r = m := ⟨r.toNat, by omega⟩
    have hn : 1 ≤ n ∧ n ≤ 16 := by omega
    have hm : 1 ≤ m ∧ m ≤ 1000 := by omega
    rw [rob_full hn hm]
    obtain ⟨T, hT⟩ : ∃ T, n * m = T := ⟨_, rfl⟩
    have hTb : T ≤ 16000 := by rw [← hT]; exact Nat.mul_le_mul hn.2 hm.2
    have hTi : (n : Int) * (m : Int) = (T : Int) := by rw [← hT]; simp
    have hwr : IntKind.i64.wrap ((n : Int) * (m : Int)) = (T : Int) := by rw [hTi]; exact IntWalk.i64_in _ (by omega)
    obtain ⟨i, hi, hz0, hz1, hz2⟩ := info_parts int_info
    obtain ⟨w0, hmk, how0, hgr0⟩ := run_make_own w w.heap.size 22 3 i _ 1 Try.underlying22 hi hz0 hz1 .i64 .i64 T (by rw [hz2]; omega) (by unfold maxLen; omega) (Nat.le_refl _)
    have hB0 : Below w.heap.size w w0 := ⟨hgr0.os, hgr0.tape, hgr0.output, hgr0.size, fun j hj => hgr0.block j hj (by simp)⟩
    have HO := Lib.hid (And.intro (show Ow w0 w.heap.size 3 1 intC [] (.slice (some ⟨w.heap.size, 0, none⟩) 0 T) from how0) hB0)
    have HT := Lib.hid hT
    clear hT hTi hi hz0 hz1 hz2 how0 hgr0 hB0 hok ht hr
    go_enter Try.func13, Try.ntmps13
    go_wp2
    clear hmk hwr
    go_loopw [5, 26] (fun s5 s26 wr => ∃ j : Nat, j ≤ m ∧ s26 = .int .i64 j ∧ Ow wr w.heap.size 3 1 intC (robL n (n * j)) s5 ∧ Below w.heap.size w wr) (fun _ s26 _ => m - (intOf s26).toNat)
    case atStart => exact ⟨0, by omega, rfl, by rw [Nat.mul_zero]; exact HO.out.1, HO.out.2⟩
    case round =>
      obtain ⟨j, hj, rfl, hO, hB⟩ := hrel
      clear HO
      have HO := Lib.hid (And.intro hO hB)
      clear hO hB
      by_cases hlt : j < m
      · have i1 : (0 : Int) ≤ (j : Int) := by omega
        have i2 : (j : Int) < (m : Int) := by omega
        have hnj : n * (j + 1) ≤ 16000 := by have := Nat.mul_le_mul hn.2 (show j + 1 ≤ 1000 by omega); omega
        go_wp2
        go_loopw [5, 29] (fun s5 s29 wr2 => ∃ i : Nat, i ≤ n ∧ s29 = .int .i64 i ∧ Ow wr2 w.heap.size 3 1 intC (robL n (n * j + i)) s5 ∧ Below w.heap.size w wr2) (fun _ s29 _ => n - (intOf s29).toNat)
        case atStart => exact ⟨0, by omega, rfl, HO.out.1, HO.out.2⟩
        case round =>
          obtain ⟨i, hi, rfl, hO2, hB2⟩ := hrel
          clear HO
          have HO := Lib.hid (And.intro hO2 hB2)
          clear hO2 hB2
          by_cases hlt2 : i < n
          · have i3 : (0 : Int) ≤ (i : Int) := by omega
            have i4 : (i : Int) < (n : Int) := by omega
            have hle : n * j + i + 1 ≤ 16000 := by rw [Nat.mul_add] at hnj; omega
            go_wp2_with ((at_builtin; refine wpList_app' (wb := w) rfl _ _ 22 rfl (.int .i64 0) 8 Try.underlying22 int_info rfl (by decide) intEnc rfl rfl (xs := (robL n (n * j + i))) (ys := [(i : Int)]) (HO.out.1.kept ((Below.refl _ _).alloc (Nat.le_refl _) _)) (sl_one wr (i : Int) rfl) (HO.out.2.alloc HO.out.2.size _) (by simp only [rob_len, List.length_append, List.length_nil, List.length_cons]; unfold maxLen; omega) (by simp only [rob_len, List.length_append, List.length_nil, List.length_cons]; omega) ?_); intro v6 w6 h6 hB6)
            exact ⟨⟨i + 1, by omega, by go_num, rob_grow hlt2 ▸ h6, hB6⟩, by simp [intOf]; omega⟩
          · have : i = n := by omega
            subst this
            go_wp2
            refine ⟨⟨j + 1, by omega, by go_num, by rw [Nat.mul_succ]; exact HO.out.1, HO.out.2⟩, by simp [intOf]; omega⟩
      · have : j = m := by omega
        subst this
        obtain ⟨p, k, rfl⟩ := ow_slice HO.out.1
        go_wp2
        go_ret
        exact ⟨p, k, rfl, HO.out.1, HO.out.2⟩
  · have he : rbL t r = [] := by unfold rbL; rw [if_neg hok]
    rw [he]
    clear he
    go_enter Try.func13, Try.ntmps13
    go_wp2
    all_goals (first | (exfalso; omega) | (go_ret; exact ⟨none, 0, rfl, ow_nil _ _, by repeat' (first | (with_reducible exact Below.refl _ _) | (with_reducible assumption) | (with_reducible refine kept_alloc ?_ _) | (with_reducible refine kept_drewN ?_ _) | (with_reducible refine Below.drew ?_) | (with_reducible refine Below.setCell ?_ (by first | omega | (simp; omega) | (simp; done)) _) | (refine kept_trans ?_ (by with_reducible assumption)))⟩))

set_option maxHeartbeats 2000000 in
theorem rrobin_any (t r : Int) (ht : In64 t) (hr : In64 r) (w : World) : Calls Try.prog 14 #[.int .i64 t, .int .i64 r] w (RetR (rbL t r) w) := by
  by_cases hok : 1 ≤ t ∧ t ≤ 16 ∧ 1 ≤ r ∧ r ≤ 1000
  · obtain ⟨n, rfl⟩ : ∃ n : Nat, t = n := ⟨t.toNat, by omega⟩
    obtain ⟨m, rfl⟩ : ∃ m : Nat, r = m := ⟨r.toNat, by omega⟩
    have hn : 1 ≤ n ∧ n ≤ 16 := by omega
    have hm : 1 ≤ m ∧ m ≤ 1000 := by omega
    rw [rob_full hn hm]
    obtain ⟨T, hT⟩ : ∃ T, n * m = T := ⟨_, rfl⟩
    have hTb : T ≤ 16000 := by rw [← hT]; exact Nat.mul_le_mul hn.2 hm.2
    have hTi : (n : Int) * (m : Int) = (T : Int) := by rw [← hT]; simp
    have hwr : IntKind.i64.wrap ((n : Int) * (m : Int)) = (T : Int) := by rw [hTi]; exact IntWalk.i64_in _ (by omega)
    rw [hT]
    clear hT hTi hok ht hr
    go_enter Try.func14, Try.ntmps14
    go_wp2
    go_loopw [5, 6] (fun s5 s6 wr => ∃ j : Nat, j ≤ T ∧ s6 = .int .i64 j ∧ Ow wr w.heap.size 3 1 intC (robL n j) s5 ∧ Below w.heap.size w wr) (fun _ s6 _ => T - (intOf s6).toNat)
    case atStart => exact ⟨0, by omega, rfl, ow_nil _ _, by repeat' (first | (with_reducible exact Below.refl _ _) | (with_reducible assumption) | (with_reducible refine kept_alloc ?_ _) | (with_reducible refine kept_drewN ?_ _) | (with_reducible refine Below.drew ?_) | (with_reducible refine Below.setCell ?_ (by first | omega | (simp; omega) | (simp; done)) _) | (refine kept_trans ?_ (by with_reducible assumption)))⟩
    case round =>
      obtain ⟨j, hj, rfl, hO, hB⟩ := hrel
      have HO := Lib.hid (And.intro hO hB)
      clear hO hB
      by_cases hlt : j < T
      · have i1 : (0 : Int) ≤ (j : Int) := by omega
        have i2 : (j : Int) < (T : Int) := by omega
        have hnx : Hid (robL n (j + 1) = robL n j ++ [(j : Int) % (n : Int)]) := by
          show _ = _
          rw [rob_succ]; simp
        go_wp2_with ((at_builtin; refine wpList_app' (wb := w) rfl _ _ 22 rfl (.int .i64 0) 8 Try.underlying22 int_info rfl (by decide) intEnc rfl rfl (xs := (robL n j)) (ys := [rmI j n]) (HO.out.1.kept ((Below.refl _ _).alloc (Nat.le_refl _) _)) (sl_one wr (rmI j n) rfl) (HO.out.2.alloc HO.out.2.size _) (by simp only [rob_len, List.length_append, List.length_nil, List.length_cons]; unfold maxLen; omega) (by simp only [rob_len, List.length_append, List.length_nil, List.length_cons]; omega) ?_); intro v6 w6 h6 hB6)
        exact ⟨⟨j + 1, by omega, by go_num, by rw [hnx.out]; exact h6, hB6⟩, by simp [intOf]; omega⟩
      · have : j = T := by omega
        subst this
        obtain ⟨p, k, rfl⟩ := ow_slice HO.out.1
        go_wp2
        go_ret
        exact ⟨p, k, rfl, HO.out.1, HO.out.2⟩
  · have he : rbL t r = [] := by unfold rbL; rw [if_neg hok]
    rw [he]
    clear he
    go_enter Try.func14, Try.ntmps14
    go_wp2
    all_goals (first | (exfalso; omega) | (go_ret; exact ⟨none, 0, rfl, ow_nil _ _, by repeat' (first | (with_reducible exact Below.refl _ _) | (with_reducible assumption) | (with_reducible refine kept_alloc ?_ _) | (with_reducible refine kept_drewN ?_ _) | (with_reducible refine Below.drew ?_) | (with_reducible refine Below.setCell ?_ (by first | omega | (simp; omega) | (simp; done)) _) | (refine kept_trans ?_ (by with_reducible assumption)))⟩))
end Go.Proofs.Ytlmiedgpibollaa
