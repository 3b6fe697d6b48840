/- SlotTurns holds for every input: no conditions. -/
import Derived.Test.YtbfmnlniabldbaaSlotM
namespace Go.Proofs.Ytbfmnlniabldbaa
set_option linter.unusedVariables false
set_option linter.unusedSimpArgs false
open Go.ChangeShapes Go.WideShapes Go.ChangeAt Go.RowKit
theorem mul_le64 {j n : Nat} (hj : j < n) (hn : n ≤ 100) : 0 ≤ (j : Int) * n ∧ (j : Int) * n ≤ 10000 := by
  have h : j * n ≤ 100 * 100 := Nat.mul_le_mul (by omega) hn
  have e : ((j * n : Nat) : Int) = (j : Int) * n := Int.natCast_mul _ _
  omega
theorem tn_step (s p n : Int) (j : Nat) (b : Bool) (h : decide (s = p + j * n) = b) : tn s p n (j + 1) = tn s p n j + if b = true then 1 else 0 := by
  subst h
  simp [tn]
theorem tn_bd {s p n : Int} (hn : 1 ≤ n) (j : Nat) : 0 ≤ tn s p n j ∧ tn s p n j ≤ 1 := by
  rcases tn_or (s := s) (p := p) hn j with h | h <;> omega
set_option maxHeartbeats 4000000 in
set_option maxRecDepth 100000 in
theorem slotTurns_walk (l : List Slo) (lv : Value) (hl : ∀ x ∈ l, x.ok) (hlm : l.length ≤ maxLen) (p : Int) (hp : In64 p) (w : World) (hls : Sl w Slo.size Slo.cells l lv) :
    Calls Try.prog 5 #[lv, .int .i64 p] w fun e w' => e = .returned (.bool true) ∧ Kept w w' := by
  obtain ⟨ad, k, rfl, -⟩ := hls.is
  have H : Hid (Sl w 2 Slo.cells l (.slice ad l.length k)) := Lib.hid hls
  obtain ⟨_, _, e1, _, _, _, hne⟩ := hls.is
  cases e1
  have HNE := Lib.hid hne
  have HOK := Lib.hid hl
  clear hls hl hne
  by_cases hlen : l.length ≤ 100
  · have hm : l.length ≤ 1000 := by omega
    cases hk : okSl l
    · have HK := Lib.hid hk
      clear hk
      go_enter Try.func5, Try.ntmps5; go_wp2_with fail; refine (slotawake_any _).mono ?_; rintro e w1 ⟨rfl, hg1⟩
      go_wp2_with fail; refine (scheck_val HK.out _ _ _ (H.out.kept (by repeat' (first | (with_reducible exact Below.refl _ _) | (with_reducible assumption) | (with_reducible refine kept_alloc ?_ _) | (with_reducible refine kept_drewN ?_ _) | (with_reducible refine Below.drew ?_) | (with_reducible refine Below.setCell ?_ (by first | omega | (simp; omega) | (simp; done)) _) | (refine kept_trans ?_ (by with_reducible assumption))))) hm).mono ?_; rintro e w2 ⟨rfl, hw2⟩
      go_wp2
      all_goals (go_ret; exact ⟨rfl, by repeat' (first | (with_reducible exact Below.refl _ _) | (with_reducible assumption) | (with_reducible refine kept_alloc ?_ _) | (with_reducible refine kept_drewN ?_ _) | (with_reducible refine Below.drew ?_) | (with_reducible refine Below.setCell ?_ (by first | omega | (simp; omega) | (simp; done)) _) | (refine kept_trans ?_ (by with_reducible assumption)))⟩)
    · have HK := Lib.hid hk
      clear hk
      cases b1 : decide (p < 0)
      · cases b2 : decide (1099511627776 < p)
        · have hp0 : 0 ≤ p ∧ p ≤ 1099511627776 := by simp at b1 b2; omega
          obtain ⟨N, hN⟩ : ∃ N, l.length = N := ⟨_, rfl⟩
          have HN := Lib.hid hN
          have hn1 : 1 ≤ (N : Int) := by have := (ok_iff.1 HK.out).1; omega
          obtain ⟨s, hs⟩ : ∃ s, (gs l (plc l p)).st = s := ⟨_, rfl⟩
          have HT : Hid (∀ j : Nat, rdyB l (p + j * N) = decide (s = p + j * N)) := Lib.hid (fun j => by rw [← hs, ← HN.out]; exact turn_at HK.out hp0.1 j)
          have hck : Hid (∀ W : World, Kept w W → Calls Try.prog 18 #[.slice ad N k] W fun e w' => e = .returned (.bool true) ∧ Kept W w') := Lib.hid (fun W hW => by
            have h := scheck_val HK.out ad k W (H.out.kept hW) hm
            rwa [hN] at h)
          have hrd : Hid (∀ (W : World) (q : Int) (b : Bool), Kept w W → rdyB l q = b → In64 q → Calls Try.prog 20 #[.slice ad N k, .int .i64 q] W fun e w' => e = .returned (.bool b) ∧ Kept W w') := Lib.hid (fun W q b hW hb hq => by
            have h := sready_val hb ad k W (H.out.kept hW) hm hq
            rwa [hN] at h)
          clear hs
          rw [hN] at hlen hm ⊢
          clear hN
          go_enter Try.func5, Try.ntmps5
          go_wp2_with fail
          refine (slotawake_any _).mono ?_
          rintro e w1 ⟨rfl, hg1⟩
          go_wp2_with fail
          refine (hck.out _ hg1).mono ?_
          rintro e w2 ⟨rfl, hg2⟩
          have hB2 : Below w.heap.size w w2 := kept_trans hg1 hg2
          clear hg1 hg2
          go_wp2
          clear b1 b2
          go_loopw [6, 7] (fun m i wr => ∃ j : Nat, j ≤ N ∧ i = .int .i64 j ∧ m = .int .i64 (tn s p N j) ∧ Below w.heap.size w wr) (fun _ i _ => N - (intOf i).toNat)
          case atStart => exact ⟨0, by omega, rfl, rfl, hB2⟩
          case round =>
            obtain ⟨j, hj, rfl, rfl, hB⟩ := hrel
            clear hB2
            have tb := tn_bd (s := s) (p := p) hn1 j
            by_cases hlt : j < N
            · have hlt' : j < l.length := by rw [HN.out]; exact hlt
              obtain ⟨b, o, rfl, hb, -⟩ := HNE.out (by intro h; subst h; simp at hlt')
              obtain ⟨c1, c2⟩ := ss_at (H.out.kept hB) hlt'
              have hbw : b < wr.heap.size := Nat.lt_of_lt_of_le hb hB.size
              have i1 : (0 : Int) ≤ (j : Int) := by omega
              have i2 : (j : Int) < (N : Int) := by omega
              obtain ⟨t1, t2, t3⟩ := own_turn HK.out hlt'
              obtain ⟨m1, m2⟩ := mul_le64 hlt hlen
              have wr1 : IntKind.i64.wrap ((j : Int) * N) = (j : Int) * N := IntWalk.i64_in _ (by omega)
              have wr2 : IntKind.i64.wrap (p + (j : Int) * N) = p + (j : Int) * N := IntWalk.i64_in _ (by omega)
              obtain ⟨B, hBv⟩ : ∃ B, decide (s = p + (j : Int) * N) = B := ⟨_, rfl⟩
              have hst := tn_step s p N j B hBv
              have hR := HT.out j
              rw [hBv] at hR
              have HR := Lib.hid (And.intro t3 hR)
              have HST := Lib.hid hst
              have tz : ((gs l j).st < 0) = False := by simp; omega
              have tin : In64 (gs l j).st := by omega
              have b3 : decide ((gs l j).st < 0) = false := by simp; omega
              clear hlt' t3 hR hst hBv tz
              generalize gs l j = z at *
              generalize tn s p N j = T at *
              cases B
              · go_wp2_with fail
                refine (hrd.out _ _ _ (by repeat' (first | (with_reducible exact Below.refl _ _) | (with_reducible assumption) | (with_reducible refine kept_alloc ?_ _) | (with_reducible refine kept_drewN ?_ _) | (with_reducible refine Below.drew ?_) | (with_reducible refine Below.setCell ?_ (by first | omega | (simp; omega) | (simp; done)) _) | (refine kept_trans ?_ (by with_reducible assumption)))) HR.out.1 tin).mono ?_
                rintro e w3 ⟨rfl, hg3⟩
                go_wp2_with fail
                refine (hrd.out _ _ _ (by repeat' (first | (with_reducible exact Below.refl _ _) | (with_reducible assumption) | (with_reducible refine kept_alloc ?_ _) | (with_reducible refine kept_drewN ?_ _) | (with_reducible refine Below.drew ?_) | (with_reducible refine Below.setCell ?_ (by first | omega | (simp; omega) | (simp; done)) _) | (refine kept_trans ?_ (by with_reducible assumption)))) HR.out.2 (by omega)).mono ?_
                rintro e w4 ⟨rfl, hg4⟩
                go_wp2
                refine ⟨⟨j + 1, by omega, by go_num, ?_, by repeat' (first | (with_reducible exact Below.refl _ _) | (with_reducible assumption) | (with_reducible refine kept_alloc ?_ _) | (with_reducible refine kept_drewN ?_ _) | (with_reducible refine Below.drew ?_) | (with_reducible refine Below.setCell ?_ (by first | omega | (simp; omega) | (simp; done)) _) | (refine kept_trans ?_ (by with_reducible assumption)))⟩, by simp [intOf]; omega⟩
                rw [HST.out]; simp
              · go_wp2_with fail
                refine (hrd.out _ _ _ (by repeat' (first | (with_reducible exact Below.refl _ _) | (with_reducible assumption) | (with_reducible refine kept_alloc ?_ _) | (with_reducible refine kept_drewN ?_ _) | (with_reducible refine Below.drew ?_) | (with_reducible refine Below.setCell ?_ (by first | omega | (simp; omega) | (simp; done)) _) | (refine kept_trans ?_ (by with_reducible assumption)))) HR.out.1 tin).mono ?_
                rintro e w3 ⟨rfl, hg3⟩
                go_wp2_with fail
                refine (hrd.out _ _ _ (by repeat' (first | (with_reducible exact Below.refl _ _) | (with_reducible assumption) | (with_reducible refine kept_alloc ?_ _) | (with_reducible refine kept_drewN ?_ _) | (with_reducible refine Below.drew ?_) | (with_reducible refine Below.setCell ?_ (by first | omega | (simp; omega) | (simp; done)) _) | (refine kept_trans ?_ (by with_reducible assumption)))) HR.out.2 (by omega)).mono ?_
                rintro e w4 ⟨rfl, hg4⟩
                go_wp2
                refine ⟨⟨j + 1, by omega, by go_num, ?_, by repeat' (first | (with_reducible exact Below.refl _ _) | (with_reducible assumption) | (with_reducible refine kept_alloc ?_ _) | (with_reducible refine kept_drewN ?_ _) | (with_reducible refine Below.drew ?_) | (with_reducible refine Below.setCell ?_ (by first | omega | (simp; omega) | (simp; done)) _) | (refine kept_trans ?_ (by with_reducible assumption)))⟩, by simp [intOf]; omega⟩
                rw [HST.out]; simp
            · have hjk : j = N := by omega
              subst hjk
              have b4 : tn s p j j ≤ 1 := tb.2
              go_wp2
              go_ret
              exact ⟨ret_bool (by simp [b4]), by repeat' (first | (with_reducible exact Below.refl _ _) | (with_reducible assumption) | (with_reducible refine kept_alloc ?_ _) | (with_reducible refine kept_drewN ?_ _) | (with_reducible refine Below.drew ?_) | (with_reducible refine Below.setCell ?_ (by first | omega | (simp; omega) | (simp; done)) _) | (refine kept_trans ?_ (by with_reducible assumption)))⟩
        · go_enter Try.func5, Try.ntmps5; go_wp2_with fail; refine (slotawake_any _).mono ?_; rintro e w1 ⟨rfl, hg1⟩
          go_wp2_with fail; refine (scheck_val HK.out _ _ _ (H.out.kept (by repeat' (first | (with_reducible exact Below.refl _ _) | (with_reducible assumption) | (with_reducible refine kept_alloc ?_ _) | (with_reducible refine kept_drewN ?_ _) | (with_reducible refine Below.drew ?_) | (with_reducible refine Below.setCell ?_ (by first | omega | (simp; omega) | (simp; done)) _) | (refine kept_trans ?_ (by with_reducible assumption))))) hm).mono ?_; rintro e w2 ⟨rfl, hw2⟩
          go_wp2
          all_goals (go_ret; exact ⟨rfl, by repeat' (first | (with_reducible exact Below.refl _ _) | (with_reducible assumption) | (with_reducible refine kept_alloc ?_ _) | (with_reducible refine kept_drewN ?_ _) | (with_reducible refine Below.drew ?_) | (with_reducible refine Below.setCell ?_ (by first | omega | (simp; omega) | (simp; done)) _) | (refine kept_trans ?_ (by with_reducible assumption)))⟩)
      · go_enter Try.func5, Try.ntmps5; go_wp2_with fail; refine (slotawake_any _).mono ?_; rintro e w1 ⟨rfl, hg1⟩
        go_wp2_with fail; refine (scheck_val HK.out _ _ _ (H.out.kept (by repeat' (first | (with_reducible exact Below.refl _ _) | (with_reducible assumption) | (with_reducible refine kept_alloc ?_ _) | (with_reducible refine kept_drewN ?_ _) | (with_reducible refine Below.drew ?_) | (with_reducible refine Below.setCell ?_ (by first | omega | (simp; omega) | (simp; done)) _) | (refine kept_trans ?_ (by with_reducible assumption))))) hm).mono ?_; rintro e w2 ⟨rfl, hw2⟩
        go_wp2
        all_goals (go_ret; exact ⟨rfl, by repeat' (first | (with_reducible exact Below.refl _ _) | (with_reducible assumption) | (with_reducible refine kept_alloc ?_ _) | (with_reducible refine kept_drewN ?_ _) | (with_reducible refine Below.drew ?_) | (with_reducible refine Below.setCell ?_ (by first | omega | (simp; omega) | (simp; done)) _) | (refine kept_trans ?_ (by with_reducible assumption)))⟩)
  · have hlen' : (100 : Int) < (l.length : Int) := (by omega); clear hlen; go_enter Try.func5, Try.ntmps5; go_wp2_with fail; refine (slotawake_any _).mono ?_; rintro e w1 ⟨rfl, hg1⟩; go_wp2; all_goals (go_ret; exact ⟨rfl, by repeat' (first | (with_reducible exact Below.refl _ _) | (with_reducible assumption) | (with_reducible refine kept_alloc ?_ _) | (with_reducible refine kept_drewN ?_ _) | (with_reducible refine Below.drew ?_) | (with_reducible refine Below.setCell ?_ (by first | omega | (simp; omega) | (simp; done)) _) | (refine kept_trans ?_ (by with_reducible assumption)))⟩)

set_option maxRecDepth 100000 in
set_option maxRecDepth 100000 in
theorem slotTurns_lifted (os : Os) (started : os.Started) (H : Type) (enc : TypeId × Value → H) :
    ReturnsInHanded {} Try.checked os 5 .any (Rows.slotTurnsSpec.pre6 enc Try.prog Try.f5 Rows.slotTurnsRow.domain false) (Rows.slotTurnsSpec.post enc Try.prog Try.f5 false true false false) := by
  refine returnsInHanded_of_change (C := Try.checked) own started (by kernel_rfl) Try.func5
    (ChangeSpec.witness6 (enc := enc) (C := Try.checked) false ⟨#[], #[.slice none 0 0, .int .i64 0], []⟩ 8 (by kernel_rfl) (by kernel_rfl) (by kernel_rfl) (by kernel_rfl)) ?_
  intro W base args ds gs before hval0 hW hcnd _
  have hval : ∀ (j : Nat) t v, Try.f5.params[j]? = some t → args[j]? = some v → Value.okWide Try.prog W .any base t v := hval0
  have hW' := hW
  obtain ⟨p, q, hA0, hV, rfl, hfz, hnd⟩ := hW
  have hA : DataW.TrodAll enc Try.prog W 0 (fun _ => true) true Try.f5.params.toList args.toList ds p := hA0
  rw [Try.params5] at hA hval
  obtain ⟨v0, vs0, d0, ds0, p0, q0, hargs, rfl, rfl, h0, r0⟩ := trodAll_cons hA
  obtain ⟨v1, vs1, d1, ds1, p1, q1, rfl, rfl, rfl, h1, r1⟩ := trodAll_cons r0
  obtain ⟨rfl, rfl, rfl⟩ := trodAll_nil r1
  obtain rfl : args = #[v0, v1] := by cases args; simp_all
  obtain ⟨rfl, rfl⟩ := trodVars_none hV
  obtain ⟨l, lsl, lok, lml⟩ := Sl.of_read Slo.cells Slo.ok (by decide) (open_row (g := 9) (l := Slo.shape) Try.underlying22 (by kernel_rfl) (hval 0 22 v0 rfl rfl) h0) (fun vs h => Slo.of_read h)
  obtain ⟨p, rfl, rfl, rfl, wf1⟩ := open_int Try.underlying3 (hval 1 3 v1 rfl rfl) h1
  clear hA0 hval0
  refine (slotTurns_walk l v0 lok lml p (in64_of_wf wf1) W lsl).mono fun e W' ⟨he, hg⟩ => ?_
  subst he
  exact ⟨_, rfl, law_post laid hW' rfl (by kernel_rfl) rfl Try.underlying4 rfl hg⟩

/-- The statement, whole. -/
theorem slotTurns_holds : Rows.SlotTurnsSaid :=
  OpenClaim.holds_of_wide 5 Try.f5 rfl rfl rfl rfl rfl rfl rfl ⟨rfl, rfl, rfl, rfl, rfl⟩ rfl rfl rfl rfl rfl (by kernel_rfl) Try.func5 (by kernel_rfl)
    (of_decide_eq_true (by kernel_rfl)) (by unfold Func.isWrapper; rw [if_neg (of_decide_eq_false (by kernel_rfl))]; exact ⟨rfl, rfl⟩)
    (fun os started H enc _ => slotTurns_lifted os started H enc)
end Go.Proofs.Ytbfmnlniabldbaa
