/- Layer 4: DueLater holds for every input. -/
import Derived.Test.YthlpjlcadcgoeaaDueV
import Derived.IntWalk
namespace Go.Proofs.Ythlpjlcadcgoeaa
set_option linter.unusedVariables false
set_option linter.unusedSimpArgs false
open Go.ChangeShapes Go.WideShapes Go.ChangeAt Go.RowKit

theorem dput_n {l r : List Du} {d : Du} {c : Int} {N : Nat} (hN : l.length = N) (hr : putL l d = r) (hc : codeI l d = c) (p : Option Addr) (k : Nat) (w : World) (hl : Sl w 2 Du.cells l (.slice p N k)) (hm : N ≤ 700) :
    Calls Try.prog 10 #[.slice p N k, .agg #[.int .i64 d.tm, .int .i64 d.id]] w (RetDE w r c) := by subst hN; exact dput_val hr hc p k w hl hm
theorem dlate_n {l s : List Du} {now : Int} {r : List Int} {N : Nat} (hN : l.length = N) (hr : lateI l now = r) (hs : restL l now = s) (p : Option Addr) (k : Nat) (w : World) (hl : Sl w 2 Du.cells l (.slice p N k)) (hm : N ≤ 700) :
    Calls Try.prog 13 #[.slice p N k, .int .i64 now] w (RetL w r s) := by subst hN; exact dlate_val hr hs p k w hl hm

/-- What the loop holds. -/
structure LaterAt (w wr : World) (K : List Du) (n : Int) (j : Nat) (pk pl : Option Addr) (kk kl : Nat) : Prop where
  len : K.length ≤ j
  small : ∀ d ∈ K, small d
  left : Sl wr 2 Du.cells K (.slice pk K.length kk)
  right : Sl wr 2 Du.cells (K.map (shiftD n)) (.slice pl K.length kl)
  kept : Below w.heap.size w wr

set_option maxRecDepth 100000 in
set_option maxHeartbeats 4000000 in
theorem dueLater_walk (l : List Du) (lv : Value) (hl : ∀ x ∈ l, x.ok) (hlm : l.length ≤ maxLen) (n : Int) (hn : 0 ≤ n ∧ n ≤ 4294967295) (now : Int) (hnow : 0 ≤ now ∧ now ≤ 4294967295) (w : World) (hls : Sl w Du.size Du.cells l lv) :
    Calls Try.prog 7 #[lv, .int .u32 n, .int .u32 now] w fun e w' => e = .returned (.bool true) ∧ Kept w w' := by
  obtain ⟨p, k, rfl, hk⟩ := hls.is
  have H := Lib.hid hls
  have HK := Lib.hid hk
  clear hls hk
  by_cases hlen : l.length ≤ 100
  · obtain ⟨N, hN⟩ : ∃ N, l.length = N := ⟨_, rfl⟩
    have HN := Lib.hid hN
    rw [hN] at hlen hlm ⊢
    clear hN
    go_enter Try.func7, Try.ntmps7
    go_wp2_with fail
    refine (dueawake_any _).mono ?_
    rintro e w1 ⟨rfl, hg1⟩
    have hB1 : Below w.heap.size w w1 := by repeat' (first | (with_reducible exact Below.refl _ _) | (with_reducible assumption) | (with_reducible refine kept_alloc ?_ _) | (with_reducible refine kept_drewN ?_ _) | (with_reducible refine Below.drew ?_) | (with_reducible refine Below.setCell ?_ (by first | omega | (simp; omega) | (simp; done)) _) | (refine kept_trans ?_ (by with_reducible assumption)))
    have HL0 := Lib.hid (LaterAt.mk (w := w) (wr := w1) (K := []) (n := n) (j := 0) (pk := none) (pl := none) (kk := 0) (kl := 0) (by simp) (by simp) (sld_nil _) (sld_nil _) hB1)
    clear hg1 hB1
    go_wp2
    go_loopw [8, 9, 10] (fun s8 s9 s10 wr => ∃ (j : Nat) (K : List Du) (pk pl : Option Addr) (kk kl : Nat), s10 = .int .i64 j ∧ j ≤ N ∧ s8 = .slice pk K.length kk ∧ s9 = .slice pl K.length kl ∧ LaterAt w wr K n j pk pl kk kl) (fun _ _ s10 _ => N - (intOf s10).toNat)
    case atStart => exact ⟨0, [], none, none, 0, 0, rfl, by omega, rfl, rfl, HL0.out⟩
    case round =>
      clear HL0
      obtain ⟨j, K, pk, pl, kk, kl, rfl, hj, rfl, rfl, hL⟩ := hrel
      have HL := Lib.hid hL
      by_cases hlt : j < N
      · have hlt' : j < l.length := by rw [HN.out]; exact hlt
        obtain ⟨-, -, -, hne⟩ := HK.out
        obtain ⟨b, o, rfl, hb, -⟩ := hne (by intro h; subst h; simp at hlt')
        obtain ⟨c1, c2⟩ := sl_gt (H.out.kept hL.kept) hlt'
        have hbs : b < wr.heap.size := Nat.lt_of_lt_of_le hb hL.kept.size
        have hzl := hl (gt l j) (List.mem_of_getElem? (gt_some hlt'))
        have b1 : (0 : Int) ≤ (j : Int) := by omega
        have b2 : (j : Int) < (N : Int) := by omega
        generalize gt l j = z at *
        clear hne hL
        have hBw := HL.out.kept
        by_cases hz0 : z.tm < 0
        · go_wp2
          all_goals (go_ret; exact ⟨rfl, by repeat' (first | (with_reducible exact Below.refl _ _) | (with_reducible assumption) | (with_reducible refine kept_alloc ?_ _) | (with_reducible refine kept_drewN ?_ _) | (with_reducible refine Below.drew ?_) | (with_reducible refine Below.setCell ?_ (by first | omega | (simp; omega) | (simp; done)) _) | (refine kept_trans ?_ (by with_reducible assumption)))⟩)
        · have hz0' : 0 ≤ z.tm := by omega
          by_cases hz1 : z.tm < 4294967296
          · obtain ⟨E, hE⟩ : ∃ E, codeI K z = E := ⟨_, rfl⟩
            have hsm : small z := ⟨hz0', hz1⟩
            have hE2 := (code_shift HL.out.small hsm hn.1 hn.2).trans hE
            have hP2 := put_shift HL.out.small hsm hn.1 hn.2
            have hsX := put_small HL.out.small hsm
            have hlX := putL_len K z
            obtain ⟨X, hX⟩ : ∃ X, putL K z = X := ⟨_, rfl⟩
            rw [hX] at hP2 hsX hlX
            have hKl := HL.out.len
            have hmapl : (K.map (shiftD n)).length = K.length := by simp
            have HP := Lib.hid (And.intro hX (And.intro hE (And.intro hP2 (And.intro hE2 (And.intro hsX (And.intro hlX hmapl))))))
            have hXl : X.length ≤ 101 := by omega
            clear hX hE hP2 hE2 hsX hlX hmapl hsm
            have hbn : (E != E) = false := by simp
            go_wp2_with fail
            refine (dput_val HP.out.1 HP.out.2.1 pk kk _ HL.out.left (by omega)).mono ?_
            rintro e w3 ⟨p3, k3, rfl, hS3, hg3⟩
            have d1 := ((bcell hg3).1 _ (o + j * 2) hbs).trans c1
            have d2 := ((bcell hg3).1 _ (o + j * 2 + 1) hbs).trans c2
            have hbs3 : b < w3.heap.size := Nat.lt_of_lt_of_le hbs hg3.size
            have hB3 : Below w.heap.size w w3 := kept_trans hBw hg3
            have HS3 := Lib.hid hS3
            have HR3 := Lib.hid (HL.out.right.kept hg3)
            have w1 : IntKind.i64.wrap n = n := IntWalk.i64_in _ (by omega)
            have w2 : IntKind.i64.wrap (z.tm + n) = z.tm + n := IntWalk.i64_in _ (by omega)
            clear hS3 c1 c2
            go_wp2_with fail
            go_region_held3 (fun w' => w'.cell? ⟨b, o + j * 2, none⟩ = some (.int .i64 z.tm) ∧ w'.cell? ⟨b, o + j * 2 + 1, none⟩ = some (.int .i64 z.id))
              (first
                | (have hcz := bcell hgy; go_split_ands; refine ⟨?_, ?_⟩ <;> (refine (hgy.cell (p := ⟨_, _, none⟩) (by show b < w3.heap.size; omega)).trans ?_; assumption))
                | go_keep)
              ((first | (go_at_call 10; refine (dput_n (d := shiftD n z) HP.out.2.2.2.2.2.2 HP.out.2.2.1 HP.out.2.2.2.1 pl kl _ (HR3.out.kept (by repeat' (first | (with_reducible exact Below.refl _ _) | (with_reducible assumption) | (with_reducible refine kept_alloc ?_ _) | (with_reducible refine kept_drewN ?_ _) | (with_reducible refine Below.drew ?_) | (with_reducible refine Below.setCell ?_ (by first | omega | (simp; omega) | (simp; done)) _) | (refine kept_trans ?_ (by with_reducible assumption))))) (by omega)).mono ?_; rintro e wy ⟨p4, k4, rfl, hS4, hgy⟩)))
            rw [List.length_map] at hS4
            have HS4 := Lib.hid hS4
            have hgw : Below w3.heap.size w3 wy := by repeat' (first | (with_reducible exact Below.refl _ _) | (with_reducible assumption) | (with_reducible refine kept_alloc ?_ _) | (with_reducible refine kept_drewN ?_ _) | (with_reducible refine Below.drew ?_) | (with_reducible refine Below.setCell ?_ (by first | omega | (simp; omega) | (simp; done)) _) | (refine kept_trans ?_ (by with_reducible assumption)))
            have HG := Lib.hid (And.intro hgw (kept_trans hB3 hgw))
            clear hS4 hgy hgw d1 d2 w1 w2
            go_wp2
            go_roundw
            case rel => exact ⟨j + 1, X, p3, p4, k3, k4, by go_num, by omega, rfl, rfl, ⟨by have := HP.out.2.2.2.2.2.1; omega, HP.out.2.2.2.2.1, HS3.out.kept HG.out.1, HS4.out, HG.out.2⟩⟩
            case measure => simp [intOf]; omega
          · have hz1' : 4294967296 ≤ z.tm := by omega
            go_wp2
            all_goals (go_ret; exact ⟨rfl, by repeat' (first | (with_reducible exact Below.refl _ _) | (with_reducible assumption) | (with_reducible refine kept_alloc ?_ _) | (with_reducible refine kept_drewN ?_ _) | (with_reducible refine Below.drew ?_) | (with_reducible refine Below.setCell ?_ (by first | omega | (simp; omega) | (simp; done)) _) | (refine kept_trans ?_ (by with_reducible assumption)))⟩)
      · have : j = N := by omega
        subst this
        obtain ⟨I, hI⟩ : ∃ I, lateI K now = I := ⟨_, rfl⟩
        have hI2 := (late_shift (now := now) HL.out.small hn.1 hn.2).trans hI
        have hKl := HL.out.len
        have hIl : I.length ≤ 100 := by
          rw [← hI]
          unfold lateI
          split
          · rw [List.length_map]; exact Nat.le_trans (List.takeWhile_sublist _).length_le (by omega)
          · simp
        have HI := Lib.hid (And.intro hI (And.intro hI2 (show (K.map (shiftD n)).length = K.length by simp)))
        have hBw := HL.out.kept
        have w2 : IntKind.i64.wrap (now + n) = now + n := IntWalk.i64_in _ (by omega)
        clear hI hI2 hL
        go_wp2_with fail
        refine (dlate_val HI.out.1 rfl pk kk _ HL.out.left (by omega)).mono ?_
        rintro e w3 ⟨p3, q3, k3, j3, rfl, hS3, -, hg3⟩
        go_wp2_with fail
        refine (dlate_n HI.out.2.2 HI.out.2.1 rfl pl kl _ (HL.out.right.kept hg3) (by omega)).mono ?_
        rintro e w4 ⟨p4, q4, k4, j4, rfl, hS4, -, hg4⟩
        go_wp2_with fail
        refine (rints_any I I p3 p4 k3 k4 _ (hS3.kept hg4) hS4 (by omega)).mono ?_
        rintro e w5 ⟨rfl, hg5⟩
        rw [show decide (I = I) = true by simp]
        go_wp2
        all_goals (go_ret; exact ⟨rfl, by repeat' (first | (with_reducible exact Below.refl _ _) | (with_reducible assumption) | (with_reducible refine kept_alloc ?_ _) | (with_reducible refine kept_drewN ?_ _) | (with_reducible refine Below.drew ?_) | (with_reducible refine Below.setCell ?_ (by first | omega | (simp; omega) | (simp; done)) _) | (refine kept_trans ?_ (by with_reducible assumption)))⟩)
  · have hlen' : (100 : Int) < (l.length : Int) := by omega
    clear hlen
    go_enter Try.func7, Try.ntmps7
    go_wp2_with fail
    refine (dueawake_any _).mono ?_
    rintro e w1 ⟨rfl, hg1⟩
    go_wp2
    all_goals (go_ret; exact ⟨rfl, by repeat' (first | (with_reducible exact Below.refl _ _) | (with_reducible assumption) | (with_reducible refine kept_alloc ?_ _) | (with_reducible refine kept_drewN ?_ _) | (with_reducible refine Below.drew ?_) | (with_reducible refine Below.setCell ?_ (by first | omega | (simp; omega) | (simp; done)) _) | (refine kept_trans ?_ (by with_reducible assumption)))⟩)
set_option maxRecDepth 100000 in
theorem dueLater_lifted (os : Os) (started : os.Started) (H : Type) (enc : TypeId × Value → H) :
    ReturnsInHanded {} Try.checked os 7 .any (Rows.dueLaterSpec.pre6 enc Try.prog Try.f7 Rows.dueLaterRow.domain false) (Rows.dueLaterSpec.post enc Try.prog Try.f7 false true false false) := by
  refine returnsInHanded_of_change (C := Try.checked) own started (by kernel_rfl) Try.func7
    (ChangeSpec.witness6 (enc := enc) (C := Try.checked) false ⟨#[], #[.slice none 0 0, .int .u32 0, .int .u32 0], []⟩ 8 (by kernel_rfl) (by kernel_rfl) (by kernel_rfl) (by kernel_rfl)) ?_
  intro W base args ds gs before hval0 hW hcnd _
  have hval : ∀ (j : Nat) t v, Try.f7.params[j]? = some t → args[j]? = some v → Value.okWide Try.prog W .any base t v := hval0
  have hW' := hW
  obtain ⟨p, q, hA0, hV, rfl, hfz, hnd⟩ := hW
  have hA : DataW.TrodAll enc Try.prog W 0 (fun _ => true) true Try.f7.params.toList args.toList ds p := hA0
  rw [Try.params7] at hA hval
  obtain ⟨v0, vs0, d0, ds0, p0, q0, hargs, rfl, rfl, h0, r0⟩ := trodAll_cons hA
  obtain ⟨v1, vs1, d1, ds1, p1, q1, rfl, rfl, rfl, h1, r1⟩ := trodAll_cons r0
  obtain ⟨v2, vs2, d2, ds2, p2, q2, rfl, rfl, rfl, h2, r2⟩ := trodAll_cons r1
  obtain ⟨rfl, rfl, rfl⟩ := trodAll_nil r2
  obtain rfl : args = #[v0, v1, v2] := by cases args; simp_all
  obtain ⟨rfl, rfl⟩ := trodVars_none hV
  obtain ⟨l, lsl, lok, lml⟩ := Sl.of_read Du.cells Du.ok (by decide) (open_row (g := 9) (l := Du.shape) Try.underlying22 (by kernel_rfl) (hval 0 22 v0 rfl rfl) h0) (fun vs h => Du.of_read h)
  obtain ⟨n, rfl, rfl, rfl, wf1⟩ := open_int Try.underlying41 (hval 1 41 v1 rfl rfl) h1
  obtain ⟨now, rfl, rfl, rfl, wf2⟩ := open_int Try.underlying41 (hval 2 41 v2 rfl rfl) h2
  clear hA0 hval0
  refine (dueLater_walk l v0 lok lml n (bounds_u32 wf1) now (bounds_u32 wf2) W lsl).mono fun e W' ⟨he, hg⟩ => ?_
  subst he
  exact ⟨_, rfl, law_post laid hW' rfl (by kernel_rfl) rfl Try.underlying4 rfl hg⟩

/-- The statement, whole. -/
theorem dueLater_holds : Rows.DueLaterSaid :=
  OpenClaim.holds_of_wide 7 Try.f7 rfl rfl rfl rfl rfl rfl rfl ⟨rfl, rfl, rfl, rfl, rfl⟩ rfl rfl rfl rfl rfl (by kernel_rfl) Try.func7 (by kernel_rfl)
    (of_decide_eq_true (by kernel_rfl)) (by unfold Func.isWrapper; rw [if_neg (of_decide_eq_false (by kernel_rfl))]; exact ⟨rfl, rfl⟩)
    (fun os started H enc _ => dueLater_lifted os started H enc)
end Go.Proofs.Ythlpjlcadcgoeaa
