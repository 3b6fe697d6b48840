/- Layer 4: DueOrder holds for every input. -/
import Derived.Test.YthlpjlcadcgoeaaDueV
namespace Go.Proofs.Ythlpjlcadcgoeaa
set_option linter.unusedVariables false
set_option linter.unusedSimpArgs false
open Go.ChangeShapes Go.WideShapes Go.ChangeAt Go.RowKit

set_option maxRecDepth 100000 in
set_option maxHeartbeats 4000000 in
theorem dueOrder_walk (l : List Du) (lv : Value) (hl : ∀ x ∈ l, x.ok) (hlm : l.length ≤ maxLen) (c : Du) (hc : c.ok) (d : Du) (hd : d.ok) (w : World) (hls : Sl w Du.size Du.cells l lv) :
    Calls Try.prog 5 #[lv, .agg c.cells.toArray, .agg d.cells.toArray] w fun e w' => e = .returned (.bool true) ∧ Kept w w' := by
  obtain ⟨p, k, rfl, -⟩ := hls.is
  have H := Lib.hid hls
  clear hls hl hd hc
  simp only [Du.cells]
  by_cases hlen : l.length ≤ 100
  · cases hid : (c.id == d.id)
    · have hne : c.id ≠ d.id := by simpa using hid
      obtain ⟨E, hE⟩ : ∃ E, codeI l c = E := ⟨_, rfl⟩
      obtain ⟨F, hF⟩ : ∃ F, codeI l d = F := ⟨_, rfl⟩
      have hE2 := (code_put (l := l) (c := d) (d := c) (Ne.symm hne)).trans hE
      have hF2 := (code_put (l := l) (c := c) (d := d) hne).trans hF
      have htwo := put_two (l := l) hne
      have hl1 := putL_len l c
      have hl2 := putL_len l d
      have hl3 := putL_len (putL l c) d
      obtain ⟨A, hA⟩ : ∃ A, putL l c = A := ⟨_, rfl⟩
      obtain ⟨B, hB⟩ : ∃ B, putL l d = B := ⟨_, rfl⟩
      rw [hA] at hF2 htwo hl1 hl3
      rw [hB] at hE2 htwo hl2
      obtain ⟨C, hC⟩ : ∃ C, putL A d = C := ⟨_, rfl⟩
      rw [hC] at htwo hl3
      have hAl : A.length ≤ 101 := by omega
      have hBl : B.length ≤ 101 := by omega
      have hCl : C.length ≤ 102 := by omega
      have HB := Lib.hid (And.intro hA (And.intro hE (And.intro hC (And.intro hF2 (And.intro hB (And.intro hF (And.intro htwo.symm hE2)))))))
      clear hne hE hF hE2 hF2 htwo hl1 hl2 hl3 hA hB hC
      go_enter Try.func5, Try.ntmps5
      go_wp2_with fail
      refine (dueawake_any _).mono ?_
      rintro e w1 ⟨rfl, hg1⟩
      have hcs : CellsAt w1 [(w.heap.size, 0, .int .i64 c.tm), (w.heap.size, 1, .int .i64 c.id), (w.heap.size + 1, 0, .int .i64 d.tm), (w.heap.size + 1, 1, .int .i64 d.id)] := cells_keep hg1 (by (simp only [CellsAt]; (repeat' (first | exact trivial | (refine And.intro ?_ ?_))); all_goals (first | (focus ((try simp only [World.size_setCell, World.size_alloc]); omega)) | (repeat (first | rfl | assumption | (refine (World.cell?_alloc_past _ _ _ ?_).trans ?_; focus ((try simp only [World.size_setCell, World.size_alloc]); omega)) | (refine (World.cell?_alloc_at _ _ _ _ ?_).trans ?_; focus ((try simp only [World.size_setCell, World.size_alloc]); done)) | (refine (World.cell?_setCell_other _ _ _ _ ?_).trans ?_; focus (simp; done)) | (refine (World.cell?_setCell_other _ _ _ _ ?_).trans ?_; focus (simp; omega)) | (refine World.cell?_setCell_same' _ _ _ ?_; focus (simp; done)))))))
      have hq0 := hcs.1.2; have hq1 := hcs.2.1.2; have hq2 := hcs.2.2.1.2; have hq3 := hcs.2.2.2.1.2; have hz0 := hcs.1.1; have hz1 := hcs.2.2.1.1
      go_wp2_with fail
      refine (dput_val HB.out.1 HB.out.2.1 p k _ (H.out.kept (by repeat' (first | (with_reducible exact Below.refl _ _) | (with_reducible assumption) | (with_reducible refine kept_alloc ?_ _) | (with_reducible refine kept_drewN ?_ _) | (with_reducible refine Below.drew ?_) | (with_reducible refine Below.setCell ?_ (by first | omega | (simp; omega) | (simp; done)) _) | (refine kept_trans ?_ (by with_reducible assumption))))) (by omega)).mono ?_
      rintro e w2 ⟨p2, k2, rfl, hS2, hg2⟩
      have hcs := cells_keep hg2 hcs
      have hq0 := hcs.1.2; have hq1 := hcs.2.1.2; have hq2 := hcs.2.2.1.2; have hq3 := hcs.2.2.2.1.2; have hz0 := hcs.1.1; have hz1 := hcs.2.2.1.1
      go_wp2_with fail
      refine (dput_val HB.out.2.2.1 HB.out.2.2.2.1 p2 k2 _ hS2 (by omega)).mono ?_
      rintro e w3 ⟨p3, k3, rfl, hS3, hg3⟩
      have hcs := cells_keep hg3 hcs
      have hq0 := hcs.1.2; have hq1 := hcs.2.1.2; have hq2 := hcs.2.2.1.2; have hq3 := hcs.2.2.2.1.2; have hz0 := hcs.1.1; have hz1 := hcs.2.2.1.1
      go_wp2_with fail
      refine (dput_val HB.out.2.2.2.2.1 HB.out.2.2.2.2.2.1 p k _ (H.out.kept (by repeat' (first | (with_reducible exact Below.refl _ _) | (with_reducible assumption) | (with_reducible refine kept_alloc ?_ _) | (with_reducible refine kept_drewN ?_ _) | (with_reducible refine Below.drew ?_) | (with_reducible refine Below.setCell ?_ (by first | omega | (simp; omega) | (simp; done)) _) | (refine kept_trans ?_ (by with_reducible assumption))))) (by omega)).mono ?_
      rintro e w4 ⟨p4, k4, rfl, hS4, hg4⟩
      have hcs := cells_keep hg4 hcs
      have hq0 := hcs.1.2; have hq1 := hcs.2.1.2; have hq2 := hcs.2.2.1.2; have hq3 := hcs.2.2.2.1.2; have hz0 := hcs.1.1; have hz1 := hcs.2.2.1.1
      go_wp2_with fail
      refine (dput_val HB.out.2.2.2.2.2.2.1 HB.out.2.2.2.2.2.2.2 p4 k4 _ hS4 (by omega)).mono ?_
      rintro e w5 ⟨p5, k5, rfl, hS5, hg5⟩
      go_wp2_with fail
      refine (rdsame_any C C p3 p5 k3 k5 _ (hS3.kept (by repeat' (first | (with_reducible exact Below.refl _ _) | (with_reducible assumption) | (with_reducible refine kept_alloc ?_ _) | (with_reducible refine kept_drewN ?_ _) | (with_reducible refine Below.drew ?_) | (with_reducible refine Below.setCell ?_ (by first | omega | (simp; omega) | (simp; done)) _) | (refine kept_trans ?_ (by with_reducible assumption))))) (hS5.kept (by repeat' (first | (with_reducible exact Below.refl _ _) | (with_reducible assumption) | (with_reducible refine kept_alloc ?_ _) | (with_reducible refine kept_drewN ?_ _) | (with_reducible refine Below.drew ?_) | (with_reducible refine Below.setCell ?_ (by first | omega | (simp; omega) | (simp; done)) _) | (refine kept_trans ?_ (by with_reducible assumption))))) (by omega)).mono ?_
      rintro e w6 ⟨rfl, hg6⟩
      rw [show decide (C = C) = true by simp]
      go_wp2
      all_goals (go_ret; exact ⟨rfl, by repeat' (first | (with_reducible exact Below.refl _ _) | (with_reducible assumption) | (with_reducible refine kept_alloc ?_ _) | (with_reducible refine kept_drewN ?_ _) | (with_reducible refine Below.drew ?_) | (with_reducible refine Below.setCell ?_ (by first | omega | (simp; omega) | (simp; done)) _) | (refine kept_trans ?_ (by with_reducible assumption)))⟩)
    · go_enter Try.func5, Try.ntmps5
      go_wp2_with fail
      refine (dueawake_any _).mono ?_
      rintro e w1 ⟨rfl, hg1⟩
      have hcs : CellsAt w1 [(w.heap.size, 0, .int .i64 c.tm), (w.heap.size, 1, .int .i64 c.id), (w.heap.size + 1, 0, .int .i64 d.tm), (w.heap.size + 1, 1, .int .i64 d.id)] := cells_keep hg1 (by (simp only [CellsAt]; (repeat' (first | exact trivial | (refine And.intro ?_ ?_))); all_goals (first | (focus ((try simp only [World.size_setCell, World.size_alloc]); omega)) | (repeat (first | rfl | assumption | (refine (World.cell?_alloc_past _ _ _ ?_).trans ?_; focus ((try simp only [World.size_setCell, World.size_alloc]); omega)) | (refine (World.cell?_alloc_at _ _ _ _ ?_).trans ?_; focus ((try simp only [World.size_setCell, World.size_alloc]); done)) | (refine (World.cell?_setCell_other _ _ _ _ ?_).trans ?_; focus (simp; done)) | (refine (World.cell?_setCell_other _ _ _ _ ?_).trans ?_; focus (simp; omega)) | (refine World.cell?_setCell_same' _ _ _ ?_; focus (simp; done)))))))
      have hq0 := hcs.1.2; have hq1 := hcs.2.1.2; have hq2 := hcs.2.2.1.2; have hq3 := hcs.2.2.2.1.2; have hz0 := hcs.1.1; have hz1 := hcs.2.2.1.1
      go_wp2
      all_goals (go_ret; exact ⟨rfl, by repeat' (first | (with_reducible exact Below.refl _ _) | (with_reducible assumption) | (with_reducible refine kept_alloc ?_ _) | (with_reducible refine kept_drewN ?_ _) | (with_reducible refine Below.drew ?_) | (with_reducible refine Below.setCell ?_ (by first | omega | (simp; omega) | (simp; done)) _) | (refine kept_trans ?_ (by with_reducible assumption)))⟩)
  · have hlen' : (100 : Int) < (l.length : Int) := by omega
    clear hlen
    go_enter Try.func5, Try.ntmps5
    go_wp2_with fail
    refine (dueawake_any _).mono ?_
    rintro e w1 ⟨rfl, hg1⟩
    go_wp2
    all_goals (go_ret; exact ⟨rfl, by repeat' (first | (with_reducible exact Below.refl _ _) | (with_reducible assumption) | (with_reducible refine kept_alloc ?_ _) | (with_reducible refine kept_drewN ?_ _) | (with_reducible refine Below.drew ?_) | (with_reducible refine Below.setCell ?_ (by first | omega | (simp; omega) | (simp; done)) _) | (refine kept_trans ?_ (by with_reducible assumption)))⟩)
set_option maxRecDepth 100000 in
theorem dueOrder_lifted (os : Os) (started : os.Started) (H : Type) (enc : TypeId × Value → H) :
    ReturnsInHanded {} Try.checked os 5 .any (Rows.dueOrderSpec.pre6 enc Try.prog Try.f5 Rows.dueOrderRow.domain false) (Rows.dueOrderSpec.post enc Try.prog Try.f5 false true false false) := by
  refine returnsInHanded_of_change (C := Try.checked) own started (by kernel_rfl) Try.func5
    (ChangeSpec.witness6 (enc := enc) (C := Try.checked) false ⟨#[], #[.slice none 0 0, .agg Du.zero.toArray, .agg Du.zero.toArray], []⟩ 8 (by kernel_rfl) (by kernel_rfl) (by kernel_rfl) (by kernel_rfl)) ?_
  intro W base args ds gs before hval0 hW hcnd _
  have hval : ∀ (j : Nat) t v, Try.f5.params[j]? = some t → args[j]? = some v → Value.okWide Try.prog W .any base t v := hval0
  have hW' := hW
  obtain ⟨p, q, hA0, hV, rfl, hfz, hnd⟩ := hW
  have hA : DataW.TrodAll enc Try.prog W 0 (fun _ => true) true Try.f5.params.toList args.toList ds p := hA0
  rw [Try.params5] at hA hval
  obtain ⟨v0, vs0, d0, ds0, p0, q0, hargs, rfl, rfl, h0, r0⟩ := trodAll_cons hA
  obtain ⟨v1, vs1, d1, ds1, p1, q1, rfl, rfl, rfl, h1, r1⟩ := trodAll_cons r0
  obtain ⟨v2, vs2, d2, ds2, p2, q2, rfl, rfl, rfl, h2, r2⟩ := trodAll_cons r1
  obtain ⟨rfl, rfl, rfl⟩ := trodAll_nil r2
  obtain rfl : args = #[v0, v1, v2] := by cases args; simp_all
  obtain ⟨rfl, rfl⟩ := trodVars_none hV
  obtain ⟨l, lsl, lok, lml⟩ := Sl.of_read Du.cells Du.ok (by decide) (open_row (g := 9) (l := Du.shape) Try.underlying22 (by kernel_rfl) (hval 0 22 v0 rfl rfl) h0) (fun vs h => Du.of_read h)
  obtain ⟨ccs, rfl, crd⟩ := open_struct (g := 9) (l := Du.shape) Try.underlying24 (by kernel_rfl) (hval 1 24 v1 rfl rfl) h1
  obtain ⟨c, rfl, cok⟩ := Du.of_read crd
  obtain ⟨dcs, rfl, drd⟩ := open_struct (g := 9) (l := Du.shape) Try.underlying24 (by kernel_rfl) (hval 2 24 v2 rfl rfl) h2
  obtain ⟨d, rfl, dok⟩ := Du.of_read drd
  clear hA0 hval0
  refine (dueOrder_walk l v0 lok lml c cok d dok W lsl).mono fun e W' ⟨he, hg⟩ => ?_
  subst he
  exact ⟨_, rfl, law_post laid hW' rfl (by kernel_rfl) rfl Try.underlying4 rfl hg⟩

/-- The statement, whole. -/
theorem dueOrder_holds : Rows.DueOrderSaid :=
  OpenClaim.holds_of_wide 5 Try.f5 rfl rfl rfl rfl rfl rfl rfl ⟨rfl, rfl, rfl, rfl, rfl⟩ rfl rfl rfl rfl rfl (by kernel_rfl) Try.func5 (by kernel_rfl)
    (of_decide_eq_true (by kernel_rfl)) (by unfold Func.isWrapper; rw [if_neg (of_decide_eq_false (by kernel_rfl))]; exact ⟨rfl, rfl⟩)
    (fun os started H enc _ => dueOrder_lifted os started H enc)
end Go.Proofs.Ythlpjlcadcgoeaa
