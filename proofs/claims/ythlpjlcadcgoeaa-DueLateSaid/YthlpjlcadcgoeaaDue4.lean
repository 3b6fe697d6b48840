/- Layer 4: DueLate holds for every input. -/
import Derived.Test.YthlpjlcadcgoeaaDueV
namespace Go.Proofs.Ythlpjlcadcgoeaa
set_option linter.unusedVariables false
set_option linter.unusedSimpArgs false
open Go.ChangeShapes Go.WideShapes Go.ChangeAt Go.RowKit

theorem rints_n {l : List Int} {N : Nat} (hN : l.length = N) (m : List Int) (p q : Option Addr) (k k' : Nat) (w : World) (hl : Sl w 1 intC l (.slice p N k)) (hm : Sl w 1 intC m (.slice q m.length k')) (hlm : l.length ≤ 9223372036854775806) :
    Calls Try.prog 14 #[.slice p N k, .slice q m.length k'] w fun e w' => e = .returned (.bool (decide (l = m))) ∧ Kept w w' := by subst hN; exact rints_any l m p q k k' w hl hm hlm
set_option maxRecDepth 100000 in
set_option maxHeartbeats 4000000 in
theorem late_rest (l : List Du) (a b lo hi : Int) (p : Option Addr) (k : Nat) (w : World) (H : Hid (Sl w 2 Du.cells l (.slice p l.length k))) (hlen : l.length ≤ 100) (HO : Hid (okB l = true)) (hle : lo ≤ hi)
    (hmin : ∀ W : World, (Builtin.min_ #[3, 3] 3 #[.int .i64 a, .int .i64 b]).run Try.prog W = .ok (.int .i64 lo) W) (hmax : ∀ W : World, (Builtin.max_ #[3, 3] 3 #[.int .i64 a, .int .i64 b]).run Try.prog W = .ok (.int .i64 hi) W) :
    Calls Try.prog 4 #[.slice p l.length k, .int .i64 a, .int .i64 b] w fun e w' => e = .returned (.bool true) ∧ Kept w w' := by
  obtain ⟨T1, T2, T3⟩ := late_two (lo := lo) (hi := hi) HO.out hle
  have T4 := rest_late (lo := lo) HO.out
  obtain ⟨E, hE⟩ : ∃ E, lateI l lo = E := ⟨_, rfl⟩
  obtain ⟨R, hR⟩ : ∃ R, restL l lo = R := ⟨_, rfl⟩
  obtain ⟨L, hL⟩ : ∃ L, lateI l hi = L := ⟨_, rfl⟩
  obtain ⟨F, hF⟩ : ∃ F, restL l hi = F := ⟨_, rfl⟩
  rw [hE, hR] at T1 T3
  rw [hR] at T2 T4
  rw [hL] at T1
  rw [hF] at T2
  obtain ⟨M, hM⟩ : ∃ M, lateI R hi = M := ⟨_, rfl⟩
  rw [hM] at T1
  have hRl : R.length ≤ 100 := by omega
  have hEl : E.length ≤ 100 := by omega
  have hFl : F.length ≤ 100 := by rw [← hF]; exact Nat.le_trans (rest_sub l hi).length_le hlen
  have hLl : L.length ≤ 100 := by rw [← hL, (late_ok HO.out).1, List.length_map]; exact Nat.le_trans (List.takeWhile_sublist _).length_le hlen
  have hMl : M.length ≤ 100 := by have := congrArg List.length T1; simp at this; omega
  have b1 : ((E.length : Int) + (R.length : Int) == (l.length : Int)) = true := by simp; omega
  have HB := Lib.hid (And.intro hE (And.intro hR (And.intro hL (And.intro hF (And.intro hM (And.intro T2 (And.intro T1 T4)))))))
  clear hE hR hL hF hM T1 T2 T3 T4
  go_enter Try.func4, Try.ntmps4
  go_wp2_with fail
  refine (dueawake_any _).mono ?_
  rintro e w1 ⟨rfl, hg1⟩
  go_wp2_with fail
  refine (dcheck_val HO.out p k _ (H.out.kept (by repeat' (first | (with_reducible exact Below.refl _ _) | (with_reducible assumption) | (with_reducible refine kept_alloc ?_ _) | (with_reducible refine kept_drewN ?_ _) | (with_reducible refine Below.drew ?_) | (with_reducible refine Below.setCell ?_ (by first | omega | (simp; omega) | (simp; done)) _) | (refine kept_trans ?_ (by with_reducible assumption))))) (by omega)).mono ?_
  rintro e w2 ⟨rfl, hg2⟩
  go_wp2_with fail
  refine (dlate_val HB.out.1 HB.out.2.1 p k _ (H.out.kept (by repeat' (first | (with_reducible exact Below.refl _ _) | (with_reducible assumption) | (with_reducible refine kept_alloc ?_ _) | (with_reducible refine kept_drewN ?_ _) | (with_reducible refine Below.drew ?_) | (with_reducible refine Below.setCell ?_ (by first | omega | (simp; omega) | (simp; done)) _) | (refine kept_trans ?_ (by with_reducible assumption))))) (by omega)).mono ?_
  rintro e w3 ⟨pE, pR, kE, kR, rfl, sE, sR, hg3⟩
  go_wp2_with fail
  refine (dlate_val HB.out.2.2.1 HB.out.2.2.2.1 p k _ (H.out.kept (by repeat' (first | (with_reducible exact Below.refl _ _) | (with_reducible assumption) | (with_reducible refine kept_alloc ?_ _) | (with_reducible refine kept_drewN ?_ _) | (with_reducible refine Below.drew ?_) | (with_reducible refine Below.setCell ?_ (by first | omega | (simp; omega) | (simp; done)) _) | (refine kept_trans ?_ (by with_reducible assumption))))) (by omega)).mono ?_
  rintro e w4 ⟨pL, pF, kL, kF, rfl, sL, sF, hg4⟩
  go_wp2_with fail
  refine (dlate_val HB.out.2.2.2.2.1 (s := F) HB.out.2.2.2.2.2.1 pR kR _ (sR.kept (by repeat' (first | (with_reducible exact Below.refl _ _) | (with_reducible assumption) | (with_reducible refine kept_alloc ?_ _) | (with_reducible refine kept_drewN ?_ _) | (with_reducible refine Below.drew ?_) | (with_reducible refine Below.setCell ?_ (by first | omega | (simp; omega) | (simp; done)) _) | (refine kept_trans ?_ (by with_reducible assumption))))) (by omega)).mono ?_
  rintro e w5 ⟨pM, pG, kM, kG, rfl, sM, sG, hg5⟩
  have hB5 : Below w.heap.size w w5 := by repeat' (first | (with_reducible exact Below.refl _ _) | (with_reducible assumption) | (with_reducible refine kept_alloc ?_ _) | (with_reducible refine kept_drewN ?_ _) | (with_reducible refine Below.drew ?_) | (with_reducible refine Below.setCell ?_ (by first | omega | (simp; omega) | (simp; done)) _) | (refine kept_trans ?_ (by with_reducible assumption)))
  have s1 := sE.kept (kept_trans hg4 hg5)
  have s2 := sL.kept hg5
  have s3 := sF.kept hg5
  have s4 := sR.kept (kept_trans hg4 hg5)
  have HS := Lib.hid (And.intro s1 (And.intro s2 (And.intro s3 (And.intro sM (And.intro sG s4)))))
  clear s1 s2 s3 s4 sM sG sE sL sF sR hg1 hg2 hg3 hg4 hg5
  go_wp2
  go_loopw [14] (fun s14 wr => ∃ j : Nat, j ≤ R.length ∧ s14 = .int .i64 j ∧ Below w5.heap.size w5 wr) (fun s14 _ => R.length - (intOf s14).toNat)
  case atStart => exact ⟨0, by omega, rfl, Below.refl _ _⟩
  case round =>
    obtain ⟨j, hj, rfl, hB⟩ := hrel
    by_cases hlt : j < R.length
    · obtain ⟨pr, kr, e1, q1, _, _, hne⟩ := HS.out.2.2.2.2.2.is
      cases e1
      obtain ⟨b', o, rfl, hb, -⟩ := hne (by intro h; subst h; simp at hlt)
      obtain ⟨c1, -⟩ := sl_gt (HS.out.2.2.2.2.2.kept hB) hlt
      have hlo : lo < (gt R j).tm := HB.out.2.2.2.2.2.2.2 _ (List.mem_of_getElem? (gt_some hlt))
      have hbs : b' < wr.heap.size := Nat.lt_of_lt_of_le hb hB.size
      have i1 : (0 : Int) ≤ (j : Int) := by omega
      have i2 : (j : Int) < (R.length : Int) := by omega
      generalize gt R j = z at *
      clear hne
      go_wp2
      exact ⟨⟨j + 1, by omega, by go_num, by repeat' (first | (with_reducible exact Below.refl _ _) | (with_reducible assumption) | (with_reducible refine kept_alloc ?_ _) | (with_reducible refine kept_drewN ?_ _) | (with_reducible refine Below.drew ?_) | (with_reducible refine Below.setCell ?_ (by first | omega | (simp; omega) | (simp; done)) _) | (refine kept_trans ?_ (by with_reducible assumption)))⟩, by simp [intOf]; omega⟩
    · have : j = R.length := by omega
      subst this
      have b2 : (0 : Int) ≤ (E.length : Int) := by omega
      have HS' := Lib.hid (And.intro (HS.out.1.kept hB) (And.intro (HS.out.2.1.kept hB) (And.intro (HS.out.2.2.1.kept hB) (And.intro (HS.out.2.2.2.1.kept hB) (HS.out.2.2.2.2.1.kept hB)))))
      have HBw := Lib.hid (kept_trans hB5 hB)
      have tok1 : True := trivial
      clear hB hj hlt
      go_wp2_with (first
        | (at_builtin; (have _t := tok1); refine wpList_appw (wb := wr) (by rfl) _ _ 33 rfl (.int .i64 0) 8 Try.underlying33 int_info rfl (by decide) intEnc rfl rfl (xs := []) (ys := E) (Ow.made intEnc [] _ rfl (Nat.le_refl _) (by decide) rfl rfl) (HS'.out.1.kept ((Below.refl _ _).alloc (Nat.le_refl _) _)) ((Below.refl _ _).alloc (Nat.le_refl _) _) (by (try simp only [List.length_append, List.length_nil, List.length_cons]); unfold maxLen; omega) (by (try simp only [List.length_append, List.length_nil, List.length_cons]); omega) ?_; intro v1 w6 ho1 hb1 hgr1 hbk1; rw [List.nil_append] at ho1; have HX1 := Lib.hid (And.intro ho1 hb1); obtain ⟨px, kx, rfl, hxx⟩ := (Ow.sl intEnc ho1).is; clear ho1 hb1 tok1 hxx hgr1 hbk1)
        | (at_builtin; (have _t := HX1); refine wpList_appw (wb := wr) (by rfl) _ _ 33 rfl (.int .i64 0) 8 Try.underlying33 int_info rfl (by decide) intEnc rfl rfl (xs := E) (ys := M) HX1.out.1 (HS'.out.2.2.2.1.kept HX1.out.2) HX1.out.2 (by (try simp only [List.length_append, List.length_nil, List.length_cons]); unfold maxLen; omega) (by (try simp only [List.length_append, List.length_nil, List.length_cons]); omega) ?_; intro v2 w7 ho2 hb2 hgr2 hbk2; have HX2 := Lib.hid (And.intro (Ow.sl intEnc ho2) hb2); obtain ⟨py, ky, rfl, hyy⟩ := (Ow.sl intEnc ho2).is; clear ho2 hb2 HX1 hyy hgr2 hbk2))
      refine (rints_n (l := E ++ M) (by simp) L py pL ky kL _ (by rw [← List.length_append]; exact HX2.out.1) (HS'.out.2.1.kept HX2.out.2) (by simp; omega)).mono ?_
      rintro e w8 ⟨rfl, hg8⟩
      rw [show decide (E ++ M = L) = true from decide_eq_true HB.out.2.2.2.2.2.2.1]
      have hB8 : Below wr.heap.size wr w8 := kept_trans HX2.out.2 hg8
      go_wp2_with fail
      refine (rdsame_any F F pG pF kG kF _ (HS'.out.2.2.2.2.kept hB8) (HS'.out.2.2.1.kept hB8) (by omega)).mono ?_
      rintro e w9 ⟨rfl, hg9⟩
      rw [show decide (F = F) = true by simp]
      have hB9 : Below w.heap.size w w9 := kept_trans HBw.out (kept_trans hB8 hg9)
      go_wp2
      all_goals (go_ret; exact ⟨rfl, by repeat' (first | (with_reducible exact Below.refl _ _) | (with_reducible assumption) | (with_reducible refine kept_alloc ?_ _) | (with_reducible refine kept_drewN ?_ _) | (with_reducible refine Below.drew ?_) | (with_reducible refine Below.setCell ?_ (by first | omega | (simp; omega) | (simp; done)) _) | (refine kept_trans ?_ (by with_reducible assumption)))⟩)

set_option maxRecDepth 100000 in
set_option maxHeartbeats 4000000 in
theorem dueLate_walk (l : List Du) (lv : Value) (hl : ∀ x ∈ l, x.ok) (hlm : l.length ≤ maxLen) (a : Int) (ha : In64 a) (b : Int) (hb : In64 b) (w : World) (hls : Sl w Du.size Du.cells l lv) :
    Calls Try.prog 4 #[lv, .int .i64 a, .int .i64 b] w fun e w' => e = .returned (.bool true) ∧ Kept w w' := by
  obtain ⟨p, k, rfl, -⟩ := hls.is
  have H := Lib.hid hls
  clear hls hl
  by_cases hlen : l.length ≤ 100
  · cases hok : okB l
    · have HO := Lib.hid hok
      clear hok ha hb
      go_enter Try.func4, Try.ntmps4
      go_wp2_with fail
      refine (dueawake_any _).mono ?_
      rintro e w1 ⟨rfl, hg1⟩
      go_wp2_with fail
      refine (dcheck_val HO.out p k _ (H.out.kept (by repeat' (first | (with_reducible exact Below.refl _ _) | (with_reducible assumption) | (with_reducible refine kept_alloc ?_ _) | (with_reducible refine kept_drewN ?_ _) | (with_reducible refine Below.drew ?_) | (with_reducible refine Below.setCell ?_ (by first | omega | (simp; omega) | (simp; done)) _) | (refine kept_trans ?_ (by with_reducible assumption))))) (by omega)).mono ?_
      rintro e w2 ⟨rfl, hg2⟩
      go_wp2
      all_goals (go_ret; exact ⟨rfl, by repeat' (first | (with_reducible exact Below.refl _ _) | (with_reducible assumption) | (with_reducible refine kept_alloc ?_ _) | (with_reducible refine kept_drewN ?_ _) | (with_reducible refine Below.drew ?_) | (with_reducible refine Below.setCell ?_ (by first | omega | (simp; omega) | (simp; done)) _) | (refine kept_trans ?_ (by with_reducible assumption)))⟩)
    · by_cases hab : a ≤ b
      · exact late_rest l a b a b p k w H hlen hok hab (fun W => by rw [run_min_int2, if_neg (by omega)]) (fun W => by
          rw [run_max_int2]
          split
          · rfl
          · rw [show a = b by omega])
      · exact late_rest l a b b a p k w H hlen hok (by omega) (fun W => by rw [run_min_int2, if_pos (by omega)]) (fun W => by rw [run_max_int2, if_neg (by omega)])
  · have hlen' : (100 : Int) < (l.length : Int) := by omega
    clear hlen ha hb
    go_enter Try.func4, Try.ntmps4
    go_wp2_with fail
    refine (dueawake_any _).mono ?_
    rintro e w1 ⟨rfl, hg1⟩
    go_wp2
    all_goals (go_ret; exact ⟨rfl, by repeat' (first | (with_reducible exact Below.refl _ _) | (with_reducible assumption) | (with_reducible refine kept_alloc ?_ _) | (with_reducible refine kept_drewN ?_ _) | (with_reducible refine Below.drew ?_) | (with_reducible refine Below.setCell ?_ (by first | omega | (simp; omega) | (simp; done)) _) | (refine kept_trans ?_ (by with_reducible assumption)))⟩)
set_option maxRecDepth 100000 in
theorem dueLate_lifted (os : Os) (started : os.Started) (H : Type) (enc : TypeId × Value → H) :
    ReturnsInHanded {} Try.checked os 4 .any (Rows.dueLateSpec.pre6 enc Try.prog Try.f4 Rows.dueLateRow.domain false) (Rows.dueLateSpec.post enc Try.prog Try.f4 false true false false) := by
  refine returnsInHanded_of_change (C := Try.checked) own started (by kernel_rfl) Try.func4
    (ChangeSpec.witness6 (enc := enc) (C := Try.checked) false ⟨#[], #[.slice none 0 0, .int .i64 0, .int .i64 0], []⟩ 8 (by kernel_rfl) (by kernel_rfl) (by kernel_rfl) (by kernel_rfl)) ?_
  intro W base args ds gs before hval0 hW hcnd _
  have hval : ∀ (j : Nat) t v, Try.f4.params[j]? = some t → args[j]? = some v → Value.okWide Try.prog W .any base t v := hval0
  have hW' := hW
  obtain ⟨p, q, hA0, hV, rfl, hfz, hnd⟩ := hW
  have hA : DataW.TrodAll enc Try.prog W 0 (fun _ => true) true Try.f4.params.toList args.toList ds p := hA0
  rw [Try.params4] at hA hval
  obtain ⟨v0, vs0, d0, ds0, p0, q0, hargs, rfl, rfl, h0, r0⟩ := trodAll_cons hA
  obtain ⟨v1, vs1, d1, ds1, p1, q1, rfl, rfl, rfl, h1, r1⟩ := trodAll_cons r0
  obtain ⟨v2, vs2, d2, ds2, p2, q2, rfl, rfl, rfl, h2, r2⟩ := trodAll_cons r1
  obtain ⟨rfl, rfl, rfl⟩ := trodAll_nil r2
  obtain rfl : args = #[v0, v1, v2] := by cases args; simp_all
  obtain ⟨rfl, rfl⟩ := trodVars_none hV
  obtain ⟨l, lsl, lok, lml⟩ := Sl.of_read Du.cells Du.ok (by decide) (open_row (g := 9) (l := Du.shape) Try.underlying22 (by kernel_rfl) (hval 0 22 v0 rfl rfl) h0) (fun vs h => Du.of_read h)
  obtain ⟨a, rfl, rfl, rfl, wf1⟩ := open_int Try.underlying3 (hval 1 3 v1 rfl rfl) h1
  obtain ⟨b, rfl, rfl, rfl, wf2⟩ := open_int Try.underlying3 (hval 2 3 v2 rfl rfl) h2
  clear hA0 hval0
  refine (dueLate_walk l v0 lok lml a (in64_of_wf wf1) b (in64_of_wf wf2) W lsl).mono fun e W' ⟨he, hg⟩ => ?_
  subst he
  exact ⟨_, rfl, law_post laid hW' rfl (by kernel_rfl) rfl Try.underlying4 rfl hg⟩

/-- The statement, whole. -/
theorem dueLate_holds : Rows.DueLateSaid :=
  OpenClaim.holds_of_wide 4 Try.f4 rfl rfl rfl rfl rfl rfl rfl ⟨rfl, rfl, rfl, rfl, rfl⟩ rfl rfl rfl rfl rfl (by kernel_rfl) Try.func4 (by kernel_rfl)
    (of_decide_eq_true (by kernel_rfl)) (by unfold Func.isWrapper; rw [if_neg (of_decide_eq_false (by kernel_rfl))]; exact ⟨rfl, rfl⟩)
    (fun os started H enc _ => dueLate_lifted os started H enc)
end Go.Proofs.Ythlpjlcadcgoeaa
