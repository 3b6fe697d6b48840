/- Layer 2: ConfTells and ConfCounts hold for every input. -/
import Derived.Test.YtmgmeieipcfhjaaConfA
namespace Go.Proofs.Ytmgmeieipcfhjaa
set_option linter.unusedVariables false
set_option linter.unusedSimpArgs false
open Go.ChangeShapes Go.WideShapes Go.ChangeAt Go.RowKit

set_option maxRecDepth 100000 in
set_option maxHeartbeats 4000000 in
theorem confTells_walk (c : Cf) (hc : c.ok) (l : List Cf) (lv : Value) (hl : ∀ x ∈ l, x.ok) (hlm : l.length ≤ maxLen) (w : World) (hls : Sl w Cf.size Cf.cells l lv) :
    Calls Try.prog 3 #[.agg c.cells.toArray, lv] w fun e w' => e = .returned (.bool true) ∧ Kept w w' := by
  obtain ⟨lg, th, po, wt, sp, yi, si⟩ := c
  simp only [Cf.cells]
  obtain ⟨p, cap, rfl, hlc, hcm, hpn, hcl⟩ := hls.is
  clear hcl hpn hlc hcm hl hc
  have hB1 : Below w.heap.size w (w.alloc (.cells #[.int .i64 lg, .int .i64 th, .int .i64 po, .int .i64 wt, .int .i64 sp, .int .i64 yi, .bool si] 23)) := (Below.refl _ _).alloc (Nat.le_refl _) _
  have hls := hls.kept hB1
  clear hB1
  unfold maxLen at hlm
  by_cases hlen : (100 : Int) < l.length
  · go_enter Try.func3, Try.ntmps3
    go_wp2_with fail
    refine (confawake_any _).mono ?_
    rintro e wy ⟨rfl, hgy⟩
    go_wp2
    all_goals (go_ret; exact ⟨rfl, by repeat' (first | (with_reducible exact Below.refl _ _) | (with_reducible assumption) | (with_reducible refine kept_alloc ?_ _) | (with_reducible refine kept_drewN ?_ _) | (with_reducible refine Below.drew ?_) | (with_reducible refine Below.setCell ?_ (by first | omega | (simp; omega) | (simp; done)) _) | (refine kept_trans ?_ (by with_reducible assumption)))⟩)
  · go_enter Try.func3, Try.ntmps3
    go_wp2_with fail
    refine (confawake_any _).mono ?_
    rintro e wy ⟨rfl, hgy⟩
    have hcs : CellsAt wy [(w.heap.size, 0, .int .i64 lg), (w.heap.size, 1, .int .i64 th), (w.heap.size, 2, .int .i64 po), (w.heap.size, 3, .int .i64 wt), (w.heap.size, 4, .int .i64 sp), (w.heap.size, 5, .int .i64 yi), (w.heap.size, 6, .bool si)] := cells_keep hgy (by (simp only [CellsAt]; (repeat' (first | exact trivial | (refine And.intro ?_ ?_))); all_goals (first | (focus ((try simp only [World.size_setCell, World.size_alloc]); omega)) | (repeat (first | rfl | assumption | (refine (World.cell?_alloc_past _ _ _ ?_).trans ?_; focus ((try simp only [World.size_setCell, World.size_alloc]); omega)) | (refine (World.cell?_alloc_at _ _ _ _ ?_).trans ?_; focus ((try simp only [World.size_setCell, World.size_alloc]); done)) | (refine (World.cell?_setCell_other _ _ _ _ ?_).trans ?_; focus (simp; done)) | (refine (World.cell?_setCell_other _ _ _ _ ?_).trans ?_; focus (simp; omega)) | (refine World.cell?_setCell_same' _ _ _ ?_; focus (simp; done)))))))
    have hls := hls.kept hgy
    go_wp2_with fail
    refine (ccount_any l _ _ hls (by omega)).mono ?_
    rintro e wx ⟨rfl, hgx⟩
    have hcs := cells_keep hgx hcs
    have hls := hls.kept hgx
    go_wp2_with fail
    refine (rccount_any l _ _ hls (by omega)).mono ?_
    rintro e wz ⟨rfl, hgz⟩
    have hcs := cells_keep hgz hcs
    go_wp2
    (refine wp_region_kept (w := w) [(w.heap.size, 0, .int .i64 lg), (w.heap.size, 1, .int .i64 th), (w.heap.size, 2, .int .i64 po), (w.heap.size, 3, .int .i64 wt), (w.heap.size, 4, .int .i64 sp), (w.heap.size, 5, .int .i64 yi), (w.heap.size, 6, .bool si)] (by kernel_rfl) (by kernel_rfl) (by repeat' (first | (with_reducible exact Below.refl _ _) | (with_reducible assumption) | (with_reducible refine kept_alloc ?_ _) | (with_reducible refine kept_drewN ?_ _) | (with_reducible refine Below.drew ?_) | (with_reducible refine Below.setCell ?_ (by first | omega | (simp; omega) | (simp; done)) _) | (refine kept_trans ?_ (by with_reducible assumption)))) (by first | exact hcs | (simp only [CellsAt]; (repeat' (first | exact trivial | (refine And.intro ?_ ?_))); all_goals (first | (focus ((try simp only [World.size_setCell, World.size_alloc]); omega)) | (repeat (first | rfl | assumption | (refine (World.cell?_alloc_past _ _ _ ?_).trans ?_; focus ((try simp only [World.size_setCell, World.size_alloc]); omega)) | (refine (World.cell?_alloc_at _ _ _ _ ?_).trans ?_; focus ((try simp only [World.size_setCell, World.size_alloc]); done)) | (refine (World.cell?_setCell_other _ _ _ _ ?_).trans ?_; focus (simp; done)) | (refine (World.cell?_setCell_other _ _ _ _ ?_).trans ?_; focus (simp; omega)) | (refine World.cell?_setCell_same' _ _ _ ?_; focus (simp; done))))))) (fun hne => ?_); (have hq0 : ∀ x : Wd w [(w.heap.size, 0, .int .i64 lg), (w.heap.size, 1, .int .i64 th), (w.heap.size, 2, .int .i64 po), (w.heap.size, 3, .int .i64 wt), (w.heap.size, 4, .int .i64 sp), (w.heap.size, 5, .int .i64 yi), (w.heap.size, 6, .bool si)], x.at.cell? ⟨w.heap.size, 0, none⟩ = some (.int .i64 lg) := fun x => x.cells.1.2; have hq1 : ∀ x : Wd w [(w.heap.size, 0, .int .i64 lg), (w.heap.size, 1, .int .i64 th), (w.heap.size, 2, .int .i64 po), (w.heap.size, 3, .int .i64 wt), (w.heap.size, 4, .int .i64 sp), (w.heap.size, 5, .int .i64 yi), (w.heap.size, 6, .bool si)], x.at.cell? ⟨w.heap.size, 1, none⟩ = some (.int .i64 th) := fun x => x.cells.2.1.2; have hq2 : ∀ x : Wd w [(w.heap.size, 0, .int .i64 lg), (w.heap.size, 1, .int .i64 th), (w.heap.size, 2, .int .i64 po), (w.heap.size, 3, .int .i64 wt), (w.heap.size, 4, .int .i64 sp), (w.heap.size, 5, .int .i64 yi), (w.heap.size, 6, .bool si)], x.at.cell? ⟨w.heap.size, 2, none⟩ = some (.int .i64 po) := fun x => x.cells.2.2.1.2; have hq3 : ∀ x : Wd w [(w.heap.size, 0, .int .i64 lg), (w.heap.size, 1, .int .i64 th), (w.heap.size, 2, .int .i64 po), (w.heap.size, 3, .int .i64 wt), (w.heap.size, 4, .int .i64 sp), (w.heap.size, 5, .int .i64 yi), (w.heap.size, 6, .bool si)], x.at.cell? ⟨w.heap.size, 3, none⟩ = some (.int .i64 wt) := fun x => x.cells.2.2.2.1.2; have hq4 : ∀ x : Wd w [(w.heap.size, 0, .int .i64 lg), (w.heap.size, 1, .int .i64 th), (w.heap.size, 2, .int .i64 po), (w.heap.size, 3, .int .i64 wt), (w.heap.size, 4, .int .i64 sp), (w.heap.size, 5, .int .i64 yi), (w.heap.size, 6, .bool si)], x.at.cell? ⟨w.heap.size, 4, none⟩ = some (.int .i64 sp) := fun x => x.cells.2.2.2.2.1.2; have hq5 : ∀ x : Wd w [(w.heap.size, 0, .int .i64 lg), (w.heap.size, 1, .int .i64 th), (w.heap.size, 2, .int .i64 po), (w.heap.size, 3, .int .i64 wt), (w.heap.size, 4, .int .i64 sp), (w.heap.size, 5, .int .i64 yi), (w.heap.size, 6, .bool si)], x.at.cell? ⟨w.heap.size, 5, none⟩ = some (.int .i64 yi) := fun x => x.cells.2.2.2.2.2.1.2; have hq6 : ∀ x : Wd w [(w.heap.size, 0, .int .i64 lg), (w.heap.size, 1, .int .i64 th), (w.heap.size, 2, .int .i64 po), (w.heap.size, 3, .int .i64 wt), (w.heap.size, 4, .int .i64 sp), (w.heap.size, 5, .int .i64 yi), (w.heap.size, 6, .bool si)], x.at.cell? ⟨w.heap.size, 6, none⟩ = some (.bool si) := fun x => x.cells.2.2.2.2.2.2.1.2); (repeat (go_big_quiet_step ((first | (go_at_call 12; exact quiet_call (ccheck_any _ _ _ _ _ _ _ _)) | (go_at_call 13; exact quiet_call (rccheck_any _ _ _ _ _ _ _ _)) | (go_at_call 14; exact quiet_call (croom_any _ _ _ _ _ _ _ _)) | (go_at_call 15; exact quiet_call (rcroom_any _ _ _ _ _ _ _ _)) | (go_at_call 16; exact quiet_call (ctries_any _ _ _ _ _ _ _ _)) | (go_at_call 17; exact quiet_call (rctries_any _ _ _ _ _ _ _ _)) | (go_at_call 18; exact quiet_call (cparks_any _ _ _ _ _ _ _ _)) | (go_at_call 19; exact quiet_call (rcparks_any _ _ _ _ _ _ _ _)))))); (refine wpQuiet_nil ?_); intro wq hwq; obtain ⟨x, hx⟩ := hwq; have hgx : Below w.heap.size w wq := (by rw [hx]; exact x.kept); have hcs := (show CellsAt wq [(w.heap.size, 0, .int .i64 lg), (w.heap.size, 1, .int .i64 th), (w.heap.size, 2, .int .i64 po), (w.heap.size, 3, .int .i64 wt), (w.heap.size, 4, .int .i64 sp), (w.heap.size, 5, .int .i64 yi), (w.heap.size, 6, .bool si)] by rw [hx]; exact x.cells); clear hx x hne)
    all_goals go_wp2
    all_goals (go_ret; exact ⟨rfl, by repeat' (first | (with_reducible exact Below.refl _ _) | (with_reducible assumption) | (with_reducible refine kept_alloc ?_ _) | (with_reducible refine kept_drewN ?_ _) | (with_reducible refine Below.drew ?_) | (with_reducible refine Below.setCell ?_ (by first | omega | (simp; omega) | (simp; done)) _) | (refine kept_trans ?_ (by with_reducible assumption)))⟩)
set_option maxRecDepth 100000 in
theorem confTells_lifted (os : Os) (started : os.Started) (H : Type) (enc : TypeId × Value → H) :
    ReturnsInHanded {} Try.checked os 3 .any (Rows.confTellsSpec.pre6 enc Try.prog Try.f3 Rows.confTellsRow.domain false) (Rows.confTellsSpec.post enc Try.prog Try.f3 false true false false) := by
  refine returnsInHanded_of_change (C := Try.checked) own started (by kernel_rfl) Try.func3
    (ChangeSpec.witness6 (enc := enc) (C := Try.checked) false ⟨#[], #[.agg Cf.zero.toArray, .slice none 0 0], []⟩ 8 (by kernel_rfl) (by kernel_rfl) (by kernel_rfl) (by kernel_rfl)) ?_
  intro W base args ds gs before hval0 hW hcnd _
  have hval : ∀ (j : Nat) t v, Try.f3.params[j]? = some t → args[j]? = some v → Value.okWide Try.prog W .any base t v := hval0
  have hW' := hW
  obtain ⟨p, q, hA0, hV, rfl, hfz, hnd⟩ := hW
  have hA : DataW.TrodAll enc Try.prog W 0 (fun _ => true) true Try.f3.params.toList args.toList ds p := hA0
  rw [Try.params3] at hA hval
  obtain ⟨v0, vs0, d0, ds0, p0, q0, hargs, rfl, rfl, h0, r0⟩ := trodAll_cons hA
  obtain ⟨v1, vs1, d1, ds1, p1, q1, rfl, rfl, rfl, h1, r1⟩ := trodAll_cons r0
  obtain ⟨rfl, rfl, rfl⟩ := trodAll_nil r1
  obtain rfl : args = #[v0, v1] := by cases args; simp_all
  obtain ⟨rfl, rfl⟩ := trodVars_none hV
  obtain ⟨ccs, rfl, crd⟩ := open_struct (g := 9) (l := Cf.shape) Try.underlying23 (by kernel_rfl) (hval 0 23 v0 rfl rfl) h0
  obtain ⟨c, rfl, cok⟩ := Cf.of_read crd
  obtain ⟨l, lsl, lok, lml⟩ := Sl.of_read Cf.cells Cf.ok (by decide) (open_row (g := 9) (l := Cf.shape) Try.underlying24 (by kernel_rfl) (hval 1 24 v1 rfl rfl) h1) (fun vs h => Cf.of_read h)
  clear hA0 hval0
  refine (confTells_walk c cok l v1 lok lml W lsl).mono fun e W' ⟨he, hg⟩ => ?_
  subst he
  exact ⟨_, rfl, law_post laid hW' rfl (by kernel_rfl) rfl Try.underlying4 rfl hg⟩

/-- The statement, whole. -/
theorem confTells_holds : Rows.ConfTellsSaid :=
  OpenClaim.holds_of_wide 3 Try.f3 rfl rfl rfl rfl rfl rfl rfl ⟨rfl, rfl, rfl, rfl, rfl⟩ rfl rfl rfl rfl rfl (by kernel_rfl) Try.func3 (by kernel_rfl)
    (of_decide_eq_true (by kernel_rfl)) (by unfold Func.isWrapper; rw [if_neg (of_decide_eq_false (by kernel_rfl))]; exact ⟨rfl, rfl⟩)
    (fun os started H enc _ => confTells_lifted os started H enc)

theorem cf_info : (Try.prog.info? 23).map (fun i => (i.zero, i.size, i.bytes)) = some (some (.agg Cf.zero.toArray), 7, 56) := by kernel_rfl

set_option maxRecDepth 100000 in
set_option maxHeartbeats 4000000 in
theorem confCounts_walk (k : List Cf) (kv : Value) (hk : ∀ x ∈ k, x.ok) (hkm : k.length ≤ maxLen) (l : List Cf) (lv : Value) (hl : ∀ x ∈ l, x.ok) (hlm : l.length ≤ maxLen) (w : World) (hks : Sl w Cf.size Cf.cells k kv) (hls : Sl w Cf.size Cf.cells l lv) :
    Calls Try.prog 7 #[kv, lv] w fun e w' => e = .returned (.bool true) ∧ Kept w w' := by
  obtain ⟨p, cap, rfl, hkc, hkcm, hkn, hkl⟩ := hks.is
  obtain ⟨q, dap, rfl, hlc, hlcm, hln, hll⟩ := hls.is
  clear hkc hkcm hkn hkl hlc hlcm hln hll hl hk
  unfold maxLen at hlm hkm
  by_cases hb : (100 : Int) < k.length ∨ (100 : Int) < l.length
  · by_cases hk1 : (100 : Int) < k.length
    · go_enter Try.func7, Try.ntmps7
      go_wp2_with (first | (go_at_call 9; refine (confawake_any _).mono ?_; rintro e wx ⟨rfl, hgx⟩))
      all_goals (go_ret; exact ⟨rfl, by repeat' (first | (with_reducible exact Below.refl _ _) | (with_reducible assumption) | (with_reducible refine kept_alloc ?_ _) | (with_reducible refine kept_drewN ?_ _) | (with_reducible refine Below.drew ?_) | (with_reducible refine Below.setCell ?_ (by first | omega | (simp; omega) | (simp; done)) _) | (refine kept_trans ?_ (by with_reducible assumption)))⟩)
    · have hl1 : (100 : Int) < l.length := by omega
      clear hb
      go_enter Try.func7, Try.ntmps7
      go_wp2_with (first | (go_at_call 9; refine (confawake_any _).mono ?_; rintro e wx ⟨rfl, hgx⟩))
      all_goals (go_ret; exact ⟨rfl, by repeat' (first | (with_reducible exact Below.refl _ _) | (with_reducible assumption) | (with_reducible refine kept_alloc ?_ _) | (with_reducible refine kept_drewN ?_ _) | (with_reducible refine Below.drew ?_) | (with_reducible refine Below.setCell ?_ (by first | omega | (simp; omega) | (simp; done)) _) | (refine kept_trans ?_ (by with_reducible assumption)))⟩)
  · have hk1 : ¬ (100 : Int) < k.length := by omega
    have hl1 : ¬ (100 : Int) < l.length := by omega
    clear hb
    go_enter Try.func7, Try.ntmps7
    go_wp2_with fail
    refine (confawake_any _).mono ?_
    rintro e wy ⟨rfl, hgy⟩
    have hks := hks.kept hgy
    have hls := hls.kept hgy
    go_wp2_with fail
    refine (ccount_any k _ _ hks (by omega)).mono ?_
    rintro e wx ⟨rfl, hgx⟩
    have hks := hks.kept hgx
    have hls := hls.kept hgx
    go_wp2_with fail
    refine (ccount_any l _ _ hls (by omega)).mono ?_
    rintro e wz ⟨rfl, hgz⟩
    have hB3 : Below w.heap.size w wz := by repeat' (first | (with_reducible exact Below.refl _ _) | (with_reducible assumption) | (with_reducible refine kept_alloc ?_ _) | (with_reducible refine kept_drewN ?_ _) | (with_reducible refine Below.drew ?_) | (with_reducible refine Below.setCell ?_ (by first | omega | (simp; omega) | (simp; done)) _) | (refine kept_trans ?_ (by with_reducible assumption)))
    have hks := hks.kept hgz
    have hls := hls.kept hgz
    have hks0 := hks
    have hA : Below wz.heap.size wz (wz.alloc (.cells #[] 23)) := (Below.refl _ _).alloc (Nat.le_refl _) _
    have how : Ow (wz.alloc (.cells #[] 23)) wz.heap.size 23 7 Cf.cells [] (.slice (some ⟨wz.heap.size, 0, none⟩) 0 0) := Ow.made Cf.enc [] #[] rfl (Nat.le_refl _) (by decide) rfl rfl
    have hks1 := hks.kept hA
    have hI := cntI_append k l
    have hR := cntR_append k l
    have hbk := cnt_bd k
    have hbl := cnt_bd l
    have hZ : cntI (⟨0, 0, 0, 0, 0, 0, false⟩ :: k) = cntI k ∧ cntR (⟨0, 0, 0, 0, 0, 0, false⟩ :: k) = cntR k := by
      have h1 := cntI_append [⟨0, 0, 0, 0, 0, 0, false⟩] k
      have h2 := cntR_append [⟨0, 0, 0, 0, 0, 0, false⟩] k
      have h3 : cntI [⟨0, 0, 0, 0, 0, 0, false⟩] = 0 := by decide
      have h4 : cntR [⟨0, 0, 0, 0, 0, 0, false⟩] = 0 := by decide
      rw [h3, Int.zero_add] at h1
      rw [h4, Int.zero_add] at h2
      exact ⟨h1, h2⟩
    obtain ⟨hZ1, hZ2⟩ := hZ
    obtain ⟨bk1, bk2, bk3, bk4⟩ := hbk
    obtain ⟨bl1, bl2, bl3, bl4⟩ := hbl
    go_wp2_with (first | ((at_builtin; refine wpList_app' rfl _ _ 24 rfl (.agg Cf.zero.toArray) 56 Try.underlying24 cf_info rfl (by decide) Cf.enc rfl rfl how hks1 hA (by simp only [List.length_append, List.length_nil, List.length_cons]; unfold maxLen; omega) (by simp only [List.length_append, List.length_nil, List.length_cons]; omega) ?_; intro v1 w1 how1 hB4); have hls2 := hls.kept hB4) | ((at_builtin; refine wpList_app' rfl _ _ 24 rfl (.agg Cf.zero.toArray) 56 Try.underlying24 cf_info rfl (by decide) Cf.enc rfl rfl how1 hls2 hB4 (by simp only [List.length_append, List.length_nil, List.length_cons]; unfold maxLen; omega) (by simp only [List.length_append, List.length_nil, List.length_cons]; omega) ?_; intro v2 w2 how2 hB5)) | (go_at_call 10; fail))
    refine (ccount_any _ _ _ (Ow.sl Cf.enc how2) (by simp only [List.length_append, List.length_nil]; omega)).mono ?_
    rintro e wv ⟨rfl, hgv⟩
    have hks3 := hks0.kept (kept_trans hB5 hgv)
    have hA3 : Below wv.heap.size wv (wv.alloc (.cells #[.int .i64 0, .int .i64 0, .int .i64 0, .int .i64 0, .int .i64 0, .int .i64 0, .bool false] 23)) := (Below.refl _ _).alloc (Nat.le_refl _) _
    have how3 : Ow (wv.alloc (.cells #[.int .i64 0, .int .i64 0, .int .i64 0, .int .i64 0, .int .i64 0, .int .i64 0, .bool false] 23)) wv.heap.size 23 7 Cf.cells [⟨0, 0, 0, 0, 0, 0, false⟩] (.slice (some ⟨wv.heap.size, 0, none⟩) 1 1) := Ow.made Cf.enc [⟨0, 0, 0, 0, 0, 0, false⟩] _ rfl (Nat.le_refl _) (by decide) rfl rfl
    have hks4 := hks3.kept hA3
    have hB6 : Below w.heap.size w wv := by repeat' (first | (with_reducible exact Below.refl _ _) | (with_reducible assumption) | (with_reducible refine kept_alloc ?_ _) | (with_reducible refine kept_drewN ?_ _) | (with_reducible refine Below.drew ?_) | (with_reducible refine Below.setCell ?_ (by first | omega | (simp; omega) | (simp; done)) _) | (refine kept_trans ?_ (by with_reducible assumption)))
    clear how how1 how2 hks hls hks1 hls2 hB4 hA
    go_wp2_with (at_builtin; refine wpList_app' rfl _ _ 24 rfl (.agg Cf.zero.toArray) 56 Try.underlying24 cf_info rfl (by decide) Cf.enc rfl rfl how3 hks4 hA3 (by simp only [List.length_append, List.length_nil, List.length_cons]; unfold maxLen; omega) (by simp only [List.length_append, List.length_nil, List.length_cons]; omega) ?_; intro v3 w3 how4 hB7)
    refine (ccount_any _ _ _ (Ow.sl Cf.enc how4) (by simp only [List.length_append, List.length_nil, List.length_cons]; omega)).mono ?_
    rintro e wu ⟨rfl, hgu⟩
    have hB8 : Below w.heap.size w wu := by repeat' (first | (with_reducible exact Below.refl _ _) | (with_reducible assumption) | (with_reducible refine kept_alloc ?_ _) | (with_reducible refine kept_drewN ?_ _) | (with_reducible refine Below.drew ?_) | (with_reducible refine Below.setCell ?_ (by first | omega | (simp; omega) | (simp; done)) _) | (refine kept_trans ?_ (by with_reducible assumption)))
    have d1 : decide (2 * cntI k ≤ cntR k) = true := by simp [bk3]
    have d2 : decide (cntR k ≤ 64 * cntI k) = true := by simp [bk4]
    go_wp2
    all_goals (go_ret; exact ⟨rfl, by repeat' (first | (with_reducible exact Below.refl _ _) | (with_reducible assumption) | (with_reducible refine kept_alloc ?_ _) | (with_reducible refine kept_drewN ?_ _) | (with_reducible refine Below.drew ?_) | (with_reducible refine Below.setCell ?_ (by first | omega | (simp; omega) | (simp; done)) _) | (refine kept_trans ?_ (by with_reducible assumption)))⟩)
set_option maxRecDepth 100000 in
theorem confCounts_lifted (os : Os) (started : os.Started) (H : Type) (enc : TypeId × Value → H) :
    ReturnsInHanded {} Try.checked os 7 .any (Rows.confCountsSpec.pre6 enc Try.prog Try.f7 Rows.confCountsRow.domain false) (Rows.confCountsSpec.post enc Try.prog Try.f7 false true false false) := by
  refine returnsInHanded_of_change (C := Try.checked) own started (by kernel_rfl) Try.func7
    (ChangeSpec.witness6 (enc := enc) (C := Try.checked) false ⟨#[], #[.slice none 0 0, .slice none 0 0], []⟩ 8 (by kernel_rfl) (by kernel_rfl) (by kernel_rfl) (by kernel_rfl)) ?_
  intro W base args ds gs before hval0 hW hcnd _
  have hval : ∀ (j : Nat) t v, Try.f7.params[j]? = some t → args[j]? = some v → Value.okWide Try.prog W .any base t v := hval0
  have hW' := hW
  obtain ⟨p, q, hA0, hV, rfl, hfz, hnd⟩ := hW
  have hA : DataW.TrodAll enc Try.prog W 0 (fun _ => true) true Try.f7.params.toList args.toList ds p := hA0
  rw [Try.params7] at hA hval
  obtain ⟨v0, vs0, d0, ds0, p0, q0, hargs, rfl, rfl, h0, r0⟩ := trodAll_cons hA
  obtain ⟨v1, vs1, d1, ds1, p1, q1, rfl, rfl, rfl, h1, r1⟩ := trodAll_cons r0
  obtain ⟨rfl, rfl, rfl⟩ := trodAll_nil r1
  obtain rfl : args = #[v0, v1] := by cases args; simp_all
  obtain ⟨rfl, rfl⟩ := trodVars_none hV
  obtain ⟨k, ksl, kok, kml⟩ := Sl.of_read Cf.cells Cf.ok (by decide) (open_row (g := 9) (l := Cf.shape) Try.underlying24 (by kernel_rfl) (hval 0 24 v0 rfl rfl) h0) (fun vs h => Cf.of_read h)
  obtain ⟨l, lsl, lok, lml⟩ := Sl.of_read Cf.cells Cf.ok (by decide) (open_row (g := 9) (l := Cf.shape) Try.underlying24 (by kernel_rfl) (hval 1 24 v1 rfl rfl) h1) (fun vs h => Cf.of_read h)
  clear hA0 hval0
  refine (confCounts_walk k v0 kok kml l v1 lok lml W ksl lsl).mono fun e W' ⟨he, hg⟩ => ?_
  subst he
  exact ⟨_, rfl, law_post laid hW' rfl (by kernel_rfl) rfl Try.underlying4 rfl hg⟩

/-- The statement, whole. -/
theorem confCounts_holds : Rows.ConfCountsSaid :=
  OpenClaim.holds_of_wide 7 Try.f7 rfl rfl rfl rfl rfl rfl rfl ⟨rfl, rfl, rfl, rfl, rfl⟩ rfl rfl rfl rfl rfl (by kernel_rfl) Try.func7 (by kernel_rfl)
    (of_decide_eq_true (by kernel_rfl)) (by unfold Func.isWrapper; rw [if_neg (of_decide_eq_false (by kernel_rfl))]; exact ⟨rfl, rfl⟩)
    (fun os started H enc _ => confCounts_lifted os started H enc)
end Go.Proofs.Ytmgmeieipcfhjaa
