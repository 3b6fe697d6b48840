/- Layer 7: WaitTells holds for every input. -/
import Derived.Test.YtmdpgaihbkjjgaaWait1
import Derived.Test.YtmdpgaihbkjjgaaIntR
import Derived.Deep.RegionHeld3
namespace Go.Proofs.Ytmdpgaihbkjjgaa
set_option linter.unusedVariables false
set_option linter.unusedSimpArgs false
open Go.ChangeShapes Go.WideShapes Go.ChangeAt Go.RowKit

theorem rwnext_val {lg th po wt sp yi n x : Int} (hx : nxI lg th po wt sp yi n = x) (si : Bool) (w : World) : Calls Try.prog 13 #[.agg #[.int .i64 lg, .int .i64 th, .int .i64 po, .int .i64 wt, .int .i64 sp, .int .i64 yi, .bool si], .int .i64 n] w fun e w' => e = .returned (.int .i64 x) ∧ Kept w w' := by
  subst hx
  exact rwnext_any lg th po wt sp yi si n w
theorem wspent_n {l : List Int} {N : Nat} (hN : l.length = N) (p : Option Addr) (k : Nat) (w : World) (hl : Sl w 1 intC l (.slice p N k)) :
    Calls Try.prog 11 #[.slice p N k] w fun e w' => e = .returned (.tuple #[.int .i64 (cntO l 0), .int .i64 (cntO l 1), .int .i64 (cntO l 2)]) ∧ Kept w w' := wspent_val rfl rfl rfl hN p k w hl
theorem rwmany_m {l : List Int} {N : Nat} (hN : l.length = N) (one : Int) (p : Option Addr) (k : Nat) (w : World) (hl : Sl w 1 intC l (.slice p N k)) :
    Calls Try.prog 17 #[.slice p N k, .int .i64 one] w fun e w' => e = .returned (.int .i64 (cntO l one)) ∧ Kept w w' := by
  subst hN
  exact rwmany_any l one p k w hl
theorem max_or (n : Int) : (n < 0 ∧ max n 0 = 0) ∨ (0 ≤ n ∧ max n 0 = n) := by omega

set_option maxRecDepth 100000 in
set_option maxHeartbeats 6000000 in
theorem waitTells_walk (c : Cf) (hc : c.ok) (n : Int) (hn : In64 n) (many : Int) (hmany : In64 many) (l : List Int) (lv : Value) (hl : ∀ x ∈ l, In64 x) (hlm : l.length ≤ maxLen) (w : World) (hls : Sl w 1 intC l lv) :
    Calls Try.prog 3 #[.agg c.cells.toArray, .int .i64 n, .int .i64 many, lv] w fun e w' => e = .returned (.bool true) ∧ Kept w w' := by
  obtain ⟨lg, th, po, wt, sp, yi, si⟩ := c
  simp only [Cf.cells]
  clear hc
  obtain ⟨p, k, rfl, -⟩ := hls.is
  obtain ⟨N, hN⟩ : ∃ N, l.length = N := ⟨_, rfl⟩
  rw [hN] at hls hlm ⊢
  have H := Lib.hid hls
  have HN := Lib.hid hN
  clear hls hl hN
  by_cases hlen : N ≤ 60
  · by_cases hma : many ≤ 60
    · obtain ⟨x, hx⟩ : ∃ x, nxI lg th po wt sp yi (max n 0) = x := ⟨_, rfl⟩
      obtain ⟨t, ht⟩ : ∃ t, tryI lg th po wt sp yi = t := ⟨_, rfl⟩
      obtain ⟨b, hb⟩ : ∃ b, parksB lg th po wt sp yi = b := ⟨_, rfl⟩
      obtain ⟨X, hX⟩ : ∃ X, walkL lg th po wt sp yi (manyN many) = X := ⟨_, rfl⟩
      obtain ⟨M, hM⟩ : ∃ M, X.length = M := ⟨_, rfl⟩
      have hM5 : M ≤ 1000 := by rw [← hM, ← hX, walk_len]; exact many_le many
      have HX := Lib.hid hx
      have HX0 := Lib.hid hx
      have HT := Lib.hid (And.intro ht hb)
      have HW := Lib.hid (And.intro hX hM)
      have HL := Lib.hid hmany
      have HM := Lib.hid hM5
      clear hx ht hb hX hM hmany hM5
      have hml : ¬ (60 : Int) < many := by omega
      have hnl : ¬ (60 : Int) < (N : Int) := by omega
      clear hlen hma
      (go_enter Try.func3, Try.ntmps3; go_wp2_with fail; refine (waitawake_any _).mono ?_; rintro e w1 ⟨rfl, hg1⟩; (have hcs : CellsAt w1 [(w.heap.size, 0, .int .i64 lg), (w.heap.size, 1, .int .i64 th), (w.heap.size, 2, .int .i64 po), (w.heap.size, 3, .int .i64 wt), (w.heap.size, 4, .int .i64 sp), (w.heap.size, 5, .int .i64 yi), (w.heap.size, 6, .bool si)] := cells_keep hg1 (by first | exact hcs | (simp only [CellsAt]; (repeat' (first | exact trivial | (refine And.intro ?_ ?_))); all_goals (first | (focus ((try simp only [World.size_setCell, World.size_alloc]); omega)) | (repeat (first | rfl | assumption | (refine (World.cell?_alloc_past _ _ _ ?_).trans ?_; focus ((try simp only [World.size_setCell, World.size_alloc]); omega)) | (refine (World.cell?_alloc_at _ _ _ _ ?_).trans ?_; focus ((try simp only [World.size_setCell, World.size_alloc]); done)) | (refine (World.cell?_setCell_other _ _ _ _ ?_).trans ?_; focus (simp; done)) | (refine (World.cell?_setCell_other _ _ _ _ ?_).trans ?_; focus (simp; omega)) | (refine World.cell?_setCell_same' _ _ _ ?_; focus (simp; done))))))); have hq0 := hcs.1.2; have hq1 := hcs.2.1.2; have hq2 := hcs.2.2.1.2; have hq3 := hcs.2.2.2.1.2; have hq4 := hcs.2.2.2.2.1.2; have hq5 := hcs.2.2.2.2.2.1.2; have hq6 := hcs.2.2.2.2.2.2.1.2; have hz0 := hcs.1.1))
      go_wp2_with fail
      refine (wuntil_val HT.out.1 HT.out.2 _ _).mono ?_
      rintro e w2 ⟨rfl, hg2⟩
      (have hcs : CellsAt w2 [(w.heap.size, 0, .int .i64 lg), (w.heap.size, 1, .int .i64 th), (w.heap.size, 2, .int .i64 po), (w.heap.size, 3, .int .i64 wt), (w.heap.size, 4, .int .i64 sp), (w.heap.size, 5, .int .i64 yi), (w.heap.size, 6, .bool si)] := cells_keep hg2 (by first | exact hcs | (simp only [CellsAt]; (repeat' (first | exact trivial | (refine And.intro ?_ ?_))); all_goals (first | (focus ((try simp only [World.size_setCell, World.size_alloc]); omega)) | (repeat (first | rfl | assumption | (refine (World.cell?_alloc_past _ _ _ ?_).trans ?_; focus ((try simp only [World.size_setCell, World.size_alloc]); omega)) | (refine (World.cell?_alloc_at _ _ _ _ ?_).trans ?_; focus ((try simp only [World.size_setCell, World.size_alloc]); done)) | (refine (World.cell?_setCell_other _ _ _ _ ?_).trans ?_; focus (simp; done)) | (refine (World.cell?_setCell_other _ _ _ _ ?_).trans ?_; focus (simp; omega)) | (refine World.cell?_setCell_same' _ _ _ ?_; focus (simp; done))))))); have hq0 := hcs.1.2; have hq1 := hcs.2.1.2; have hq2 := hcs.2.2.1.2; have hq3 := hcs.2.2.2.1.2; have hq4 := hcs.2.2.2.2.1.2; have hq5 := hcs.2.2.2.2.2.1.2; have hq6 := hcs.2.2.2.2.2.2.1.2; have hz0 := hcs.1.1)
      go_wp2_with fail
      refine (rwuntil_val HT.out.1 HT.out.2 _ _).mono ?_
      rintro e w3 ⟨rfl, hg3⟩
      (have hcs : CellsAt w3 [(w.heap.size, 0, .int .i64 lg), (w.heap.size, 1, .int .i64 th), (w.heap.size, 2, .int .i64 po), (w.heap.size, 3, .int .i64 wt), (w.heap.size, 4, .int .i64 sp), (w.heap.size, 5, .int .i64 yi), (w.heap.size, 6, .bool si)] := cells_keep hg3 (by first | exact hcs | (simp only [CellsAt]; (repeat' (first | exact trivial | (refine And.intro ?_ ?_))); all_goals (first | (focus ((try simp only [World.size_setCell, World.size_alloc]); omega)) | (repeat (first | rfl | assumption | (refine (World.cell?_alloc_past _ _ _ ?_).trans ?_; focus ((try simp only [World.size_setCell, World.size_alloc]); omega)) | (refine (World.cell?_alloc_at _ _ _ _ ?_).trans ?_; focus ((try simp only [World.size_setCell, World.size_alloc]); done)) | (refine (World.cell?_setCell_other _ _ _ _ ?_).trans ?_; focus (simp; done)) | (refine (World.cell?_setCell_other _ _ _ _ ?_).trans ?_; focus (simp; omega)) | (refine World.cell?_setCell_same' _ _ _ ?_; focus (simp; done))))))); have hq0 := hcs.1.2; have hq1 := hcs.2.1.2; have hq2 := hcs.2.2.1.2; have hq3 := hcs.2.2.2.1.2; have hq4 := hcs.2.2.2.2.1.2; have hq5 := hcs.2.2.2.2.2.1.2; have hq6 := hcs.2.2.2.2.2.2.1.2; have hz0 := hcs.1.1)
      go_wp2_with fail
      refine (wspent_n HN.out p k _ (H.out.kept (by repeat' (first | (with_reducible exact Below.refl _ _) | (with_reducible assumption) | (with_reducible refine kept_alloc ?_ _) | (with_reducible refine kept_drewN ?_ _) | (with_reducible refine Below.drew ?_) | (with_reducible refine Below.setCell ?_ (by first | omega | (simp; omega) | (simp; done)) _) | (refine kept_trans ?_ (by with_reducible assumption)))))).mono ?_
      rintro e w4 ⟨rfl, hg4⟩
      (have hcs : CellsAt w4 [(w.heap.size, 0, .int .i64 lg), (w.heap.size, 1, .int .i64 th), (w.heap.size, 2, .int .i64 po), (w.heap.size, 3, .int .i64 wt), (w.heap.size, 4, .int .i64 sp), (w.heap.size, 5, .int .i64 yi), (w.heap.size, 6, .bool si)] := cells_keep hg4 (by first | exact hcs | (simp only [CellsAt]; (repeat' (first | exact trivial | (refine And.intro ?_ ?_))); all_goals (first | (focus ((try simp only [World.size_setCell, World.size_alloc]); omega)) | (repeat (first | rfl | assumption | (refine (World.cell?_alloc_past _ _ _ ?_).trans ?_; focus ((try simp only [World.size_setCell, World.size_alloc]); omega)) | (refine (World.cell?_alloc_at _ _ _ _ ?_).trans ?_; focus ((try simp only [World.size_setCell, World.size_alloc]); done)) | (refine (World.cell?_setCell_other _ _ _ _ ?_).trans ?_; focus (simp; done)) | (refine (World.cell?_setCell_other _ _ _ _ ?_).trans ?_; focus (simp; omega)) | (refine World.cell?_setCell_same' _ _ _ ?_; focus (simp; done))))))); have hq0 := hcs.1.2; have hq1 := hcs.2.1.2; have hq2 := hcs.2.2.1.2; have hq3 := hcs.2.2.2.1.2; have hq4 := hcs.2.2.2.2.1.2; have hq5 := hcs.2.2.2.2.2.1.2; have hq6 := hcs.2.2.2.2.2.2.1.2; have hz0 := hcs.1.1)
      have hB4 : Below w.heap.size w w4 := by repeat' (first | (with_reducible exact Below.refl _ _) | (with_reducible assumption) | (with_reducible refine kept_alloc ?_ _) | (with_reducible refine kept_drewN ?_ _) | (with_reducible refine Below.drew ?_) | (with_reducible refine Below.setCell ?_ (by first | omega | (simp; omega) | (simp; done)) _) | (refine kept_trans ?_ (by with_reducible assumption)))
      clear hg1 hg2 hg3 hg4
      go_wp2_with fail
      have d1 : (x == x) = true := by simp
      have d2 : (t == t) = true := by simp
      have d3 : (b == b) = true := by simp
      have HBB := Lib.hid hB4
      have HM2 : Hid (M ≤ 9223372036854775806) := Lib.hid (by have := HM.out; omega)
      have hzx : w.heap.size < w4.drew.heap.size := hz0
      have hBx : Below w.heap.size w w4.drew := Below.drew hB4
      obtain ⟨m, hif⟩ : ∃ m, (if n < 0 then (0 : Int) else n) = m := ⟨_, rfl⟩
      have hXm : nxI lg th po wt sp yi m = x := by
        rw [← hif, show (if n < 0 then (0 : Int) else n) = max n 0 by split <;> omega]; exact HX.out
      have HXm := Lib.hid hXm
      clear hXm
      go_region_held3 (fun w' => w'.cell? ⟨w.heap.size, 0, none⟩ = some (.int .i64 lg) ∧ w'.cell? ⟨w.heap.size, 1, none⟩ = some (.int .i64 th) ∧ w'.cell? ⟨w.heap.size, 2, none⟩ = some (.int .i64 po) ∧ w'.cell? ⟨w.heap.size, 3, none⟩ = some (.int .i64 wt) ∧ w'.cell? ⟨w.heap.size, 4, none⟩ = some (.int .i64 sp) ∧ w'.cell? ⟨w.heap.size, 5, none⟩ = some (.int .i64 yi) ∧ w'.cell? ⟨w.heap.size, 6, none⟩ = some (.bool si))
        (first
          | (go_split_ands; refine ⟨?_, ?_, ?_, ?_, ?_, ?_, ?_⟩ <;> (refine (hgx.cell (p := ⟨_, _, none⟩) hzy).trans ?_; assumption))
          | go_keep)
        ((first
          | (go_at_call 12; refine (wnext_val (HX0.out) _ _).mono ?_; rintro e wx ⟨rfl, hgx⟩; have hzy := hzx; have hzx := Nat.lt_of_lt_of_le hzy hgx.size; have hBy := hBx; have hBx := kept_trans hBy hgx)
          | (go_at_call 13; (first | rw [hif] | skip); refine (rwnext_val HXm.out _ _).mono ?_; rintro e wx ⟨rfl, hgx⟩; have hzy := hzx; have hzx := Nat.lt_of_lt_of_le hzy hgx.size; have hBy := hBx; have hBx := kept_trans hBy hgx)
          | (go_at_call 15; refine (wwalk_val HW.out.1 HW.out.2 _ _).mono ?_; rintro e wx ⟨p2, k2, rfl, hO2, hgx⟩; have hzy := hzx; have hzx := Nat.lt_of_lt_of_le hzy hgx.size; have hBy := hBx; have hBx := kept_trans hBy hgx; have HO2 := Lib.hid hO2; clear hO2)
          | (go_at_call 16; refine (rwwalk_val HL.out HW.out.1 HW.out.2 _ _).mono ?_; rintro e wx ⟨p3, k3, rfl, hO3, hgx⟩; have hzy := hzx; have hzx := Nat.lt_of_lt_of_le hzy hgx.size; have hBy := hBx; have hBx := kept_trans hBy hgx; have HO3 := Lib.hid (And.intro ((Ow.sl intEnc HO2.out).kept hgx) (Ow.sl intEnc hO3)); clear hO3)
          | (go_at_call 14; refine (rints_val (b := true) (decide_eq_true rfl) HW.out.2 HW.out.2 _ _ _ _ _ HO3.out.1 HO3.out.2 HM2.out).mono ?_; rintro e wx ⟨rfl, hgx⟩; have hzy := hzx; have hzx := Nat.lt_of_lt_of_le hzy hgx.size; have hBy := hBx; have hBx := kept_trans hBy hgx)
          | (go_at_call 17; refine (rwmany_m HN.out _ p k _ (H.out.kept hBx)).mono ?_; rintro e wx ⟨rfl, hgx⟩; have hzy := hzx; have hzx := Nat.lt_of_lt_of_le hzy hgx.size; have hBy := hBx; have hBx := kept_trans hBy hgx)))
      go_wp2
      all_goals (go_ret; exact ⟨rfl, by repeat' (first | (with_reducible exact Below.refl _ _) | (with_reducible assumption) | (with_reducible refine kept_alloc ?_ _) | (with_reducible refine kept_drewN ?_ _) | (with_reducible refine Below.drew ?_) | (with_reducible refine Below.setCell ?_ (by first | omega | (simp; omega) | (simp; done)) _) | (refine kept_trans ?_ (by with_reducible assumption)))⟩)
    · have hml : (60 : Int) < many := by omega
      have hnl : ¬ (60 : Int) < (N : Int) := by omega
      clear hlen hma
      go_enter Try.func3, Try.ntmps3
      go_wp2_with fail; refine (waitawake_any _).mono ?_; rintro e w1 ⟨rfl, hg1⟩; go_wp2; all_goals (go_ret; exact ⟨rfl, by repeat' (first | (with_reducible exact Below.refl _ _) | (with_reducible assumption) | (with_reducible refine kept_alloc ?_ _) | (with_reducible refine kept_drewN ?_ _) | (with_reducible refine Below.drew ?_) | (with_reducible refine Below.setCell ?_ (by first | omega | (simp; omega) | (simp; done)) _) | (refine kept_trans ?_ (by with_reducible assumption)))⟩)
  · have hnl : (60 : Int) < (N : Int) := by omega
    clear hlen
    go_enter Try.func3, Try.ntmps3
    go_wp2_with fail; refine (waitawake_any _).mono ?_; rintro e w1 ⟨rfl, hg1⟩; go_wp2; all_goals (go_ret; exact ⟨rfl, by repeat' (first | (with_reducible exact Below.refl _ _) | (with_reducible assumption) | (with_reducible refine kept_alloc ?_ _) | (with_reducible refine kept_drewN ?_ _) | (with_reducible refine Below.drew ?_) | (with_reducible refine Below.setCell ?_ (by first | omega | (simp; omega) | (simp; done)) _) | (refine kept_trans ?_ (by with_reducible assumption)))⟩)
set_option maxRecDepth 100000 in
theorem waitTells_lifted (os : Os) (started : os.Started) (H : Type) (enc : TypeId × Value → H) :
    ReturnsInHanded {} Try.checked os 3 .any (Rows.waitTellsSpec.pre6 enc Try.prog Try.f3 Rows.waitTellsRow.domain false) (Rows.waitTellsSpec.post enc Try.prog Try.f3 false true false false) := by
  refine returnsInHanded_of_change (C := Try.checked) own started (by kernel_rfl) Try.func3
    (ChangeSpec.witness6 (enc := enc) (C := Try.checked) false ⟨#[], #[.agg Cf.zero.toArray, .int .i64 0, .int .i64 0, .slice none 0 0], []⟩ 8 (by kernel_rfl) (by kernel_rfl) (by kernel_rfl) (by kernel_rfl)) ?_
  intro W base args ds gs before hval0 hW hcnd _
  have hval : ∀ (j : Nat) t v, Try.f3.params[j]? = some t → args[j]? = some v → Value.okWide Try.prog W .any base t v := hval0
  have hW' := hW
  obtain ⟨p, q, hA0, hV, rfl, hfz, hnd⟩ := hW
  have hA : DataW.TrodAll enc Try.prog W 0 (fun _ => true) true Try.f3.params.toList args.toList ds p := hA0
  rw [Try.params3] at hA hval
  obtain ⟨v0, vs0, d0, ds0, p0, q0, hargs, rfl, rfl, h0, r0⟩ := trodAll_cons hA
  obtain ⟨v1, vs1, d1, ds1, p1, q1, rfl, rfl, rfl, h1, r1⟩ := trodAll_cons r0
  obtain ⟨v2, vs2, d2, ds2, p2, q2, rfl, rfl, rfl, h2, r2⟩ := trodAll_cons r1
  obtain ⟨v3, vs3, d3, ds3, p3, q3, rfl, rfl, rfl, h3, r3⟩ := trodAll_cons r2
  obtain ⟨rfl, rfl, rfl⟩ := trodAll_nil r3
  obtain rfl : args = #[v0, v1, v2, v3] := by cases args; simp_all
  obtain ⟨rfl, rfl⟩ := trodVars_none hV
  obtain ⟨ccs, rfl, crd⟩ := open_struct (g := 9) (l := Cf.shape) Try.underlying23 (by kernel_rfl) (hval 0 23 v0 rfl rfl) h0
  obtain ⟨c, rfl, cok⟩ := Cf.of_read crd
  obtain ⟨n, rfl, rfl, rfl, wf1⟩ := open_int Try.underlying3 (hval 1 3 v1 rfl rfl) h1
  obtain ⟨many, rfl, rfl, rfl, wf2⟩ := open_int Try.underlying3 (hval 2 3 v2 rfl rfl) h2
  obtain ⟨l, lsl, lok, lml⟩ := Sl.of_read intC In64 (by decide) (open_row (g := 9) (l := intShape) Try.underlying24 (by kernel_rfl) (hval 3 24 v3 rfl rfl) h3) (fun vs h => int_of_read h)
  clear hA0 hval0
  refine (waitTells_walk c cok n (in64_of_wf wf1) many (in64_of_wf wf2) l v3 lok lml W lsl).mono fun e W' ⟨he, hg⟩ => ?_
  subst he
  exact ⟨_, rfl, law_post laid hW' rfl (by kernel_rfl) rfl Try.underlying4 rfl hg⟩

/-- The statement, whole. -/
theorem waitTells_holds : Rows.WaitTellsSaid :=
  OpenClaim.holds_of_wide 3 Try.f3 rfl rfl rfl rfl rfl rfl rfl ⟨rfl, rfl, rfl, rfl, rfl⟩ rfl rfl rfl rfl rfl (by kernel_rfl) Try.func3 (by kernel_rfl)
    (of_decide_eq_true (by kernel_rfl)) (by unfold Func.isWrapper; rw [if_neg (of_decide_eq_false (by kernel_rfl))]; exact ⟨rfl, rfl⟩)
    (fun os started H enc _ => waitTells_lifted os started H enc)
end Go.Proofs.Ytmdpgaihbkjjgaa
