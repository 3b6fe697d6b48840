/- SlotLaps holds for every input: no conditions. -/
import Derived.Test.YtbfmnlniabldbaaSlotM
namespace Go.Proofs.Ytbfmnlniabldbaa
set_option linter.unusedVariables false
set_option linter.unusedSimpArgs false
open Go.ChangeShapes Go.WideShapes Go.ChangeAt Go.RowKit
/-- Slots as the laps leave them. -/
def lapL (k : Nat) : Nat → List Slo
  | 0 => newL k
  | p + 1 => rlL (wrL (lapL k p) p (3 * (p : Int))) p
theorem lap_at {k : Nat} (h : 1 ≤ k ∧ k ≤ 64) : ∀ {p : Nat}, p ≤ 300 → Lap k p (lapL k p)
  | 0, _ => lap_new h
  | p + 1, hp => (lap_step (lap_at h (show p ≤ 300 by omega)) (by omega)).2.2.2.2.2.2
set_option maxHeartbeats 4000000 in
set_option maxRecDepth 100000 in
theorem slotLaps_walk (room : Int) (hroom : 0 ≤ room ∧ room ≤ 255) (many : Int) (hmany : 0 ≤ many ∧ many ≤ 255) (w : World) :
    Calls Try.prog 6 #[.int .u8 room, .int .u8 many] w fun e w' => e = .returned (.bool true) ∧ Kept w w' := by
  obtain ⟨k, hk⟩ : ∃ k : Nat, 1 + room % 64 = (k : Int) := ⟨(1 + room % 64).toNat, by omega⟩
  obtain ⟨n, hn⟩ : ∃ n : Nat, many = (n : Int) := ⟨many.toNat, by omega⟩
  subst hn
  have hkb : 1 ≤ k ∧ k ≤ 64 := by omega
  have hnb : n ≤ 255 := by omega
  have w1 : IntKind.u8.wrap (room % 64) = room % 64 := by unfold IntKind.wrap; simp [IntKind.bits, IntKind.signed]; omega
  have w2 : IntKind.i64.wrap (room % 64) = room % 64 := IntWalk.i64_in _ (by omega)
  have w3 : IntKind.i64.wrap (1 + room % 64) = 1 + room % 64 := IntWalk.i64_in _ (by omega)
  have HK := Lib.hid hk
  go_enter Try.func6, Try.ntmps6
  go_wp2_with fail
  refine (slotawake_any _).mono ?_
  rintro e v1 ⟨rfl, hv1⟩
  go_wp2_with fail
  refine (snew_val (r := (k : Int)) rfl (by omega) _).mono ?_
  rintro e v2 ⟨p2, k2, rfl, s2, hv2⟩
  have S2 := Ow.sl Slo.enc s2
  have HS0 : Hid (Sl v2 2 Slo.cells (lapL k 0) (.slice p2 k k2)) := Lib.hid (by
    have h := S2
    rw [new_len hkb] at h; exact h)
  rw [new_len hkb]
  have hB2 : Hid (Below w.heap.size w v2) := Lib.hid (by repeat' (first | (with_reducible exact Below.refl _ _) | (with_reducible assumption) | (with_reducible refine kept_alloc ?_ _) | (with_reducible refine kept_drewN ?_ _) | (with_reducible refine Below.drew ?_) | (with_reducible refine Below.setCell ?_ (by first | omega | (simp; omega) | (simp; done)) _) | (refine kept_trans ?_ (by with_reducible assumption))))
  have HKB := Lib.hid hkb
  clear s2 S2 hv1 hv2
  go_wp2
  go_loopw [7, 8] (fun v i wr => ∃ (j : Nat) (a : Option Addr) (c : Nat), j ≤ n ∧ i = .int .i64 j ∧ v = .slice a k c ∧ Hid (Sl wr 2 Slo.cells (lapL k j) (.slice a k c)) ∧ Below w.heap.size w wr) (fun _ i _ => n - (intOf i).toNat)
  case atStart => exact ⟨0, p2, k2, by omega, rfl, rfl, HS0, hB2.out⟩
  case round =>
    obtain ⟨j, a, c, hj, rfl, rfl, HS, hB⟩ := hrel
    clear HS0 hB2
    have wn : IntKind.i64.wrap (n : Int) = n := IntWalk.i64_in _ (by omega)
    by_cases hlt : j < n
    · have i2 : (j : Int) < (n : Int) := by omega
      have hL := lap_at HKB.out (show j ≤ 300 by omega)
      obtain ⟨h1, h2, h3, h4, h5, h6, h7⟩ := lap_step hL (by omega)
      obtain ⟨A, hA⟩ : ∃ A, wrL (lapL k j) j (3 * (j : Int)) = A := ⟨_, rfl⟩
      obtain ⟨A', hA'⟩ : ∃ A', wrL A ((j : Int) + k) 5 = A' := ⟨_, rfl⟩
      obtain ⟨B, hBv⟩ : ∃ B, rlL A j = B := ⟨_, rfl⟩
      have hlA : A.length = k := by rw [← hA, wr_len]; exact hL.len
      rw [hA] at h2 h3 h4 h5 h6 h7
      rw [hBv] at h6 h7
      have hlB : B.length = k := h7.len
      have e1 : lapL k (j + 1) = B := by rw [← hBv, ← hA]; rfl
      have HV := Lib.hid (And.intro hA (And.intro h1 (And.intro hA' (And.intro h2 (And.intro h3 (And.intro h4 (And.intro hBv (And.intro h5 h6))))))))
      have HL : Hid ((lapL k j).length = k ∧ A.length = k ∧ B.length = k ∧ lapL k (j + 1) = B) := Lib.hid ⟨hL.len, hlA, hlB, e1⟩
      have w4 : IntKind.i64.wrap (3 * (j : Int)) = 3 * (j : Int) := IntWalk.i64_in _ (by omega)
      have w5 : IntKind.i64.wrap ((j : Int) + (k : Int)) = (j : Int) + k := IntWalk.i64_in _ (by omega)
      clear hL h1 h2 h3 h4 h5 h6 h7 hA hA' hBv hlA hlB e1
      go_wp2_with fail
      have c1 := swrite_val (q := (j : Int)) (v := 3 * (j : Int)) HV.out.1 HV.out.2.1 a c wr (by rw [HL.out.1]; exact HS.out) (by rw [HL.out.1]; omega) (by omega)
      unfold RetSE at c1
      rw [HL.out.1, HL.out.2.1] at c1
      refine c1.mono ?_
      rintro e v3 ⟨g3, rfl, s3, hv3⟩
      clear c1
      have T3 := Lib.hid (Ow.sl Slo.enc s3)
      clear s3
      go_wp2_with fail
      have c1 := swrite_val (q := (j : Int) + k) (v := 5) HV.out.2.2.1 HV.out.2.2.2.1 (some ⟨g3, 0, none⟩) k v3 (by rw [HL.out.2.1]; exact T3.out) (by rw [HL.out.2.1]; omega) (by omega)
      rw [HL.out.2.1] at c1
      refine c1.mono ?_
      rintro e v4 ⟨g4, rfl, -, hv4⟩
      clear c1
      go_wp2_with fail
      have c1 := sread_val HV.out.2.2.2.2.1 HV.out.2.2.2.2.2.1 (some ⟨g3, 0, none⟩) k v4 (by rw [HL.out.2.1]; exact T3.out.kept hv4) (by rw [HL.out.2.1]; omega) (by omega)
      rw [HL.out.2.1] at c1
      refine c1.mono ?_
      rintro e v5 ⟨rfl, hv5⟩
      clear c1
      go_wp2_with fail
      have c1 := srelease_val HV.out.2.2.2.2.2.2.1 HV.out.2.2.2.2.2.2.2.1 (some ⟨g3, 0, none⟩) k v5 (by rw [HL.out.2.1]; exact (T3.out.kept hv4).kept hv5) (by rw [HL.out.2.1]; omega) (by omega)
      unfold RetSE at c1
      rw [HL.out.2.1, HL.out.2.2.1] at c1
      refine c1.mono ?_
      rintro e v6 ⟨g6, rfl, s6, hv6⟩
      clear c1
      have T6 := Lib.hid (Ow.sl Slo.enc s6)
      clear s6
      go_wp2_with fail
      have c1 := scheck_val HV.out.2.2.2.2.2.2.2.2 (some ⟨g6, 0, none⟩) k v6 (by rw [HL.out.2.2.1]; exact T6.out) (by rw [HL.out.2.2.1]; omega)
      rw [HL.out.2.2.1] at c1
      refine c1.mono ?_
      rintro e v7 ⟨rfl, hv7⟩
      clear c1
      go_wp2
      refine ⟨⟨j + 1, some ⟨g6, 0, none⟩, k, by omega, by go_num, rfl, Lib.hid ?_, by repeat' (first | (with_reducible exact Below.refl _ _) | (with_reducible assumption) | (with_reducible refine kept_alloc ?_ _) | (with_reducible refine kept_drewN ?_ _) | (with_reducible refine Below.drew ?_) | (with_reducible refine Below.setCell ?_ (by first | omega | (simp; omega) | (simp; done)) _) | (refine kept_trans ?_ (by with_reducible assumption)))⟩, by simp [intOf]; omega⟩
      rw [HL.out.2.2.2]
      exact T6.out.kept hv7
    · have hjn : j = n := by omega
      subst hjn
      go_wp2
      all_goals (go_ret; exact ⟨rfl, by repeat' (first | (with_reducible exact Below.refl _ _) | (with_reducible assumption) | (with_reducible refine kept_alloc ?_ _) | (with_reducible refine kept_drewN ?_ _) | (with_reducible refine Below.drew ?_) | (with_reducible refine Below.setCell ?_ (by first | omega | (simp; omega) | (simp; done)) _) | (refine kept_trans ?_ (by with_reducible assumption)))⟩)

set_option maxRecDepth 100000 in
set_option maxRecDepth 100000 in
theorem slotLaps_lifted (os : Os) (started : os.Started) (H : Type) (enc : TypeId × Value → H) :
    ReturnsInHanded {} Try.checked os 6 .any (Rows.slotLapsSpec.pre6 enc Try.prog Try.f6 Rows.slotLapsRow.domain false) (Rows.slotLapsSpec.post enc Try.prog Try.f6 false true false false) := by
  refine returnsInHanded_of_change (C := Try.checked) own started (by kernel_rfl) Try.func6
    (ChangeSpec.witness6 (enc := enc) (C := Try.checked) false ⟨#[], #[.int .u8 0, .int .u8 0], []⟩ 8 (by kernel_rfl) (by kernel_rfl) (by kernel_rfl) (by kernel_rfl)) ?_
  intro W base args ds gs before hval0 hW hcnd _
  have hval : ∀ (j : Nat) t v, Try.f6.params[j]? = some t → args[j]? = some v → Value.okWide Try.prog W .any base t v := hval0
  have hW' := hW
  obtain ⟨p, q, hA0, hV, rfl, hfz, hnd⟩ := hW
  have hA : DataW.TrodAll enc Try.prog W 0 (fun _ => true) true Try.f6.params.toList args.toList ds p := hA0
  rw [Try.params6] at hA hval
  obtain ⟨v0, vs0, d0, ds0, p0, q0, hargs, rfl, rfl, h0, r0⟩ := trodAll_cons hA
  obtain ⟨v1, vs1, d1, ds1, p1, q1, rfl, rfl, rfl, h1, r1⟩ := trodAll_cons r0
  obtain ⟨rfl, rfl, rfl⟩ := trodAll_nil r1
  obtain rfl : args = #[v0, v1] := by cases args; simp_all
  obtain ⟨rfl, rfl⟩ := trodVars_none hV
  obtain ⟨room, rfl, rfl, rfl, wf0⟩ := open_int Try.underlying5 (hval 0 5 v0 rfl rfl) h0
  obtain ⟨many, rfl, rfl, rfl, wf1⟩ := open_int Try.underlying5 (hval 1 5 v1 rfl rfl) h1
  clear hA0 hval0
  refine (slotLaps_walk room (bounds_u8 wf0) many (bounds_u8 wf1) W).mono fun e W' ⟨he, hg⟩ => ?_
  subst he
  exact ⟨_, rfl, law_post laid hW' rfl (by kernel_rfl) rfl Try.underlying4 rfl hg⟩

/-- The statement, whole. -/
theorem slotLaps_holds : Rows.SlotLapsSaid :=
  OpenClaim.holds_of_wide 6 Try.f6 rfl rfl rfl rfl rfl rfl rfl ⟨rfl, rfl, rfl, rfl, rfl⟩ rfl rfl rfl rfl rfl (by kernel_rfl) Try.func6 (by kernel_rfl)
    (of_decide_eq_true (by kernel_rfl)) (by unfold Func.isWrapper; rw [if_neg (of_decide_eq_false (by kernel_rfl))]; exact ⟨rfl, rfl⟩)
    (fun os started H enc _ => slotLaps_lifted os started H enc)
end Go.Proofs.Ytbfmnlniabldbaa
