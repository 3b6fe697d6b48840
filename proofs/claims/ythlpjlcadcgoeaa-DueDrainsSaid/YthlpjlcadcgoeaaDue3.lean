/- Layer 4: DueDrains holds for every input. -/
import Derived.Test.YthlpjlcadcgoeaaDueV
namespace Go.Proofs.Ythlpjlcadcgoeaa
set_option linter.unusedVariables false
set_option linter.unusedSimpArgs false
open Go.ChangeShapes Go.WideShapes Go.ChangeAt Go.RowKit

theorem drop_cons_gt {l : List Du} {j : Nat} (h : j < l.length) : l.drop j = gt l j :: l.drop (j + 1) := by
  rw [List.drop_eq_getElem_cons h]
  simp [gt, List.getD, h]
theorem dfirst_n {l : List Du} {d : Du} {b : Bool} {N : Nat} (hN : l.length = N) (hd : fstD l = d) (hb : fstB l = b) (p : Option Addr) (k : Nat) (w : World) (hl : Sl w 2 Du.cells l (.slice p N k)) (hm : N ≤ 700) :
    Calls Try.prog 15 #[.slice p N k] w fun e w' => e = .returned (.tuple #[.agg #[.int .i64 d.tm, .int .i64 d.id], .bool b]) ∧ Kept w w' := by subst hN; exact dfirst_val hd hb p k w hl hm
theorem ddrop_n {l r : List Du} {i c : Int} {N : Nat} (hN : l.length = N) (hr : dropL l i = r) (hc : dropI l i = c) (p : Option Addr) (k : Nat) (w : World) (hl : Sl w 2 Du.cells l (.slice p N k)) (hm : N ≤ 700) :
    Calls Try.prog 12 #[.slice p N k, .int .i64 i] w (RetDE w r c) := by subst hN; exact ddrop_val hr hc p k w hl hm
set_option maxRecDepth 100000 in
set_option maxHeartbeats 4000000 in
theorem dueDrains_walk (l : List Du) (lv : Value) (hl : ∀ x ∈ l, x.ok) (hlm : l.length ≤ maxLen) (w : World) (hls : Sl w Du.size Du.cells l lv) :
    Calls Try.prog 6 #[lv] w fun e w' => e = .returned (.bool true) ∧ Kept w w' := by
  obtain ⟨p, k, rfl, hk⟩ := hls.is
  have H := Lib.hid hls
  have HK := Lib.hid hk
  clear hls hl hk
  by_cases hlen : l.length ≤ 100
  · cases hok : okB l
    · have HO := Lib.hid hok
      clear hok
      go_enter Try.func6, Try.ntmps6
      go_wp2_with fail
      refine (dueawake_any _).mono ?_
      rintro e w1 ⟨rfl, hg1⟩
      go_wp2_with fail
      refine (dcheck_val HO.out p k _ (H.out.kept (by repeat' (first | (with_reducible exact Below.refl _ _) | (with_reducible assumption) | (with_reducible refine kept_alloc ?_ _) | (with_reducible refine kept_drewN ?_ _) | (with_reducible refine Below.drew ?_) | (with_reducible refine Below.setCell ?_ (by first | omega | (simp; omega) | (simp; done)) _) | (refine kept_trans ?_ (by with_reducible assumption))))) (by omega)).mono ?_
      rintro e w2 ⟨rfl, hg2⟩
      go_wp2
      all_goals (go_ret; exact ⟨rfl, by repeat' (first | (with_reducible exact Below.refl _ _) | (with_reducible assumption) | (with_reducible refine kept_alloc ?_ _) | (with_reducible refine kept_drewN ?_ _) | (with_reducible refine Below.drew ?_) | (with_reducible refine Below.setCell ?_ (by first | omega | (simp; omega) | (simp; done)) _) | (refine kept_trans ?_ (by with_reducible assumption)))⟩)
    · have HO := Lib.hid hok
      clear hok
      obtain ⟨N, hN⟩ : ∃ N, l.length = N := ⟨_, rfl⟩
      have hck : ∀ W : World, Kept w W → Calls Try.prog 9 #[.slice p N k] W fun e w' => e = .returned (.bool true) ∧ Kept W w' := fun W hW => by
        have h := dcheck_val HO.out p k W (H.out.kept hW) (by omega)
        rw [hN] at h
        exact h
      have HC := Lib.hid hck
      have HN := Lib.hid hN
      rw [hN] at hlen hlm ⊢
      clear hN hck
      go_enter Try.func6, Try.ntmps6
      go_wp2_with fail
      refine (dueawake_any _).mono ?_
      rintro e w1 ⟨rfl, hg1⟩
      go_wp2_with fail
      refine (HC.out _ (by repeat' (first | (with_reducible exact Below.refl _ _) | (with_reducible assumption) | (with_reducible refine kept_alloc ?_ _) | (with_reducible refine kept_drewN ?_ _) | (with_reducible refine Below.drew ?_) | (with_reducible refine Below.setCell ?_ (by first | omega | (simp; omega) | (simp; done)) _) | (refine kept_trans ?_ (by with_reducible assumption))))).mono ?_
      rintro e w2 ⟨rfl, hg2⟩
      have hB2 : Below w.heap.size w w2 := by repeat' (first | (with_reducible exact Below.refl _ _) | (with_reducible assumption) | (with_reducible refine kept_alloc ?_ _) | (with_reducible refine kept_drewN ?_ _) | (with_reducible refine Below.drew ?_) | (with_reducible refine Below.setCell ?_ (by first | omega | (simp; omega) | (simp; done)) _) | (refine kept_trans ?_ (by with_reducible assumption)))
      go_wp2
      go_loopw [4, 5] (fun s4 s5 wr => ∃ (j M : Nat) (pr : Option Addr) (kr : Nat) (t : List Du), s5 = .int .i64 j ∧ j + M = N ∧ s4 = .slice pr M kr ∧ t.length = M ∧ l.drop j = t ∧ Sl wr 2 Du.cells t (.slice pr M kr) ∧ Below w.heap.size w wr) (fun _ s5 _ => N - (intOf s5).toNat)
      case atStart => exact ⟨0, N, p, k, l, rfl, by omega, rfl, HN.out, rfl, by have := H.out.kept hB2; rw [HN.out] at this; exact this, hB2⟩
      case round =>
        obtain ⟨j, M, pr, kr, t, rfl, hj, rfl, hM, ht, hS, hB⟩ := hrel
        have HB := Lib.hid hB
        have HS := Lib.hid (And.intro hS (And.intro ht hM))
        by_cases hlt : j < N
        · have hlt' : j < l.length := by rw [HN.out]; exact hlt
          obtain ⟨-, -, -, hne⟩ := HK.out
          obtain ⟨b, o, rfl, hb, -⟩ := hne (by intro h; subst h; simp at hlt')
          obtain ⟨c1, c2⟩ := sl_gt (H.out.kept hB) hlt'
          have hto : okB t = true := ok_sub HO.out (by rw [← ht]; exact List.drop_sublist _ _)
          have htc : t = gt l j :: l.drop (j + 1) := by rw [← ht]; exact drop_cons_gt hlt'
          obtain ⟨R, hR⟩ : ∃ R, l.drop (j + 1) = R := ⟨_, rfl⟩
          rw [hR] at htc
          have hfb : fstB t = true := by rw [fstB, hto, htc]; rfl
          have hfd : fstD t = gt l j := by rw [fstD, hfb, if_pos rfl, htc]; rfl
          obtain ⟨z, hz⟩ : ∃ z, gt l j = z := ⟨_, rfl⟩
          rw [hz] at c1 c2 htc hfd
          obtain ⟨hdi, hdl⟩ := drop_first (d := z) (l := R) (by rw [← htc]; exact hto)
          rw [← htc] at hdi hdl
          have hRl : R.length + 1 = M := by rw [← hM, htc]; rfl
          have hbs : b < wr.heap.size := Nat.lt_of_lt_of_le hb hB.size
          have hcmp := du_neq z z
          rw [show (!decide (z = z)) = false by simp] at hcmp
          have b1 : (0 : Int) ≤ (j : Int) := by omega
          have b2 : (j : Int) < (N : Int) := by omega
          have HF := Lib.hid (And.intro hfb (And.intro hfd (And.intro hdi (And.intro hdl (And.intro hR hRl)))))
          clear hB hS ht hM hto htc hR hfb hfd hz hdi hdl hRl hne hlt'
          go_wp2_with fail
          refine (dfirst_n HS.out.2.2 HF.out.2.1 HF.out.1 pr kr _ HS.out.1 (by omega)).mono ?_
          rintro e w3 ⟨rfl, hg3⟩
          have d1 := ((bcell hg3).1 _ (o + j * 2) hbs).trans c1
          have d2 := ((bcell hg3).1 _ (o + j * 2 + 1) hbs).trans c2
          have hbs3 : b < w3.heap.size := Nat.lt_of_lt_of_le hbs hg3.size
          go_wp2_with fail
          refine (ddrop_n HS.out.2.2 HF.out.2.2.2.1 HF.out.2.2.1 pr kr _ (HS.out.1.kept (by repeat' (first | (with_reducible exact Below.refl _ _) | (with_reducible assumption) | (with_reducible refine kept_alloc ?_ _) | (with_reducible refine kept_drewN ?_ _) | (with_reducible refine Below.drew ?_) | (with_reducible refine Below.setCell ?_ (by first | omega | (simp; omega) | (simp; done)) _) | (refine kept_trans ?_ (by with_reducible assumption))))) (by omega)).mono ?_
          rintro e w4 ⟨p4, k4, rfl, hS4, hg4⟩
          have hcs : CellsAt w4 [(w3.heap.size, 0, .int .i64 z.tm), (w3.heap.size, 1, .int .i64 z.id)] := cells_keep hg4 (by (simp only [CellsAt]; (repeat' (first | exact trivial | (refine And.intro ?_ ?_))); all_goals (first | (focus ((try simp only [World.size_setCell, World.size_alloc]); omega)) | (repeat (first | rfl | assumption | (refine (World.cell?_alloc_past _ _ _ ?_).trans ?_; focus ((try simp only [World.size_setCell, World.size_alloc]); omega)) | (refine (World.cell?_alloc_at _ _ _ _ ?_).trans ?_; focus ((try simp only [World.size_setCell, World.size_alloc]); done)) | (refine (World.cell?_setCell_other _ _ _ _ ?_).trans ?_; focus (simp; done)) | (refine (World.cell?_setCell_other _ _ _ _ ?_).trans ?_; focus (simp; omega)) | (refine World.cell?_setCell_same' _ _ _ ?_; focus (simp; done)))))))
          have hg34 : Below w3.heap.size w3 w4 := by repeat' (first | (with_reducible exact Below.refl _ _) | (with_reducible assumption) | (with_reducible refine kept_alloc ?_ _) | (with_reducible refine kept_drewN ?_ _) | (with_reducible refine Below.drew ?_) | (with_reducible refine Below.setCell ?_ (by first | omega | (simp; omega) | (simp; done)) _) | (refine kept_trans ?_ (by with_reducible assumption)))
          have e1 := ((bcell hg34).1 _ (o + j * 2) hbs3).trans d1
          have e2 := ((bcell hg34).1 _ (o + j * 2 + 1) hbs3).trans d2
          have hcs := And.intro (And.intro (Nat.lt_of_lt_of_le hbs3 hg34.size) e1) (And.intro (And.intro (Nat.lt_of_lt_of_le hbs3 hg34.size) e2) hcs)
          have HS4 := Lib.hid hS4
          have HG := Lib.hid (kept_trans (kept_trans HB.out hg3) hg34)
          clear hS4 c1 c2 d1 d2 e1 e2 hg3 hg4 hg34
          go_wp2
          (refine wp_region_kept (w := w4) [(b, o + j * 2, .int .i64 z.tm), (b, o + j * 2 + 1, .int .i64 z.id), (w3.heap.size, 0, .int .i64 z.tm), (w3.heap.size, 1, .int .i64 z.id)] (by kernel_rfl) (by kernel_rfl) (Below.refl _ _) (by first | exact hcs | (simp [CellsAt, *]; done) | (simp [CellsAt, *]; omega)) (fun hne => ?_); (have hq0 : ∀ xwd : Wd w4 [(b, o + j * 2, .int .i64 z.tm), (b, o + j * 2 + 1, .int .i64 z.id), (w3.heap.size, 0, .int .i64 z.tm), (w3.heap.size, 1, .int .i64 z.id)], xwd.at.cell? ⟨b, o + j * 2, none⟩ = some (.int .i64 z.tm) := fun xwd => xwd.cells.1.2; have hq1 : ∀ xwd : Wd w4 [(b, o + j * 2, .int .i64 z.tm), (b, o + j * 2 + 1, .int .i64 z.id), (w3.heap.size, 0, .int .i64 z.tm), (w3.heap.size, 1, .int .i64 z.id)], xwd.at.cell? ⟨b, o + j * 2 + 1, none⟩ = some (.int .i64 z.id) := fun xwd => xwd.cells.2.1.2; have hq2 : ∀ xwd : Wd w4 [(b, o + j * 2, .int .i64 z.tm), (b, o + j * 2 + 1, .int .i64 z.id), (w3.heap.size, 0, .int .i64 z.tm), (w3.heap.size, 1, .int .i64 z.id)], xwd.at.cell? ⟨w3.heap.size, 0, none⟩ = some (.int .i64 z.tm) := fun xwd => xwd.cells.2.2.1.2; have hq3 : ∀ xwd : Wd w4 [(b, o + j * 2, .int .i64 z.tm), (b, o + j * 2 + 1, .int .i64 z.id), (w3.heap.size, 0, .int .i64 z.tm), (w3.heap.size, 1, .int .i64 z.id)], xwd.at.cell? ⟨w3.heap.size, 1, none⟩ = some (.int .i64 z.id) := fun xwd => xwd.cells.2.2.2.1.2); (repeat (go_big_quiet_step ((first | fail)))); (refine wpQuiet_nil ?_); intro wq hwq; obtain ⟨xwd, hxwd⟩ := hwq; have hgx : Below w4.heap.size w4 wq := (by rw [hxwd]; exact xwd.kept); have hcs := (show CellsAt wq [(b, o + j * 2, .int .i64 z.tm), (b, o + j * 2 + 1, .int .i64 z.id), (w3.heap.size, 0, .int .i64 z.tm), (w3.heap.size, 1, .int .i64 z.id)] by rw [hxwd]; exact xwd.cells); clear hxwd xwd hne)
          go_wp2
          go_roundw
          case rel => exact ⟨j + 1, R.length, p4, k4, R, by go_num, by have := HF.out.2.2.2.2.2; omega, rfl, rfl, HF.out.2.2.2.2.1, HS4.out.kept hgx, kept_trans HG.out hgx⟩
          case measure => simp [intOf]; omega
        · have : M = 0 := by omega
          subst this
          have ht0 : t = [] := List.length_eq_zero_iff.1 hM
          subst ht0
          clear hB hS ht hM
          go_wp2_with fail
          refine (dfirst_n (N := 0) rfl da10.1 da10.2 pr kr _ HS.out.1 (by omega)).mono ?_
          rintro e w3 ⟨rfl, hg3⟩
          have hBw : Below w.heap.size w w3 := kept_trans HB.out hg3
          go_wp2
          all_goals (go_ret; exact ⟨rfl, by repeat' (first | (with_reducible exact Below.refl _ _) | (with_reducible assumption) | (with_reducible refine kept_alloc ?_ _) | (with_reducible refine kept_drewN ?_ _) | (with_reducible refine Below.drew ?_) | (with_reducible refine Below.setCell ?_ (by first | omega | (simp; omega) | (simp; done)) _) | (refine kept_trans ?_ (by with_reducible assumption)))⟩)
  · have hlen' : (100 : Int) < (l.length : Int) := by omega
    clear hlen
    go_enter Try.func6, Try.ntmps6
    go_wp2_with fail
    refine (dueawake_any _).mono ?_
    rintro e w1 ⟨rfl, hg1⟩
    go_wp2
    all_goals (go_ret; exact ⟨rfl, by repeat' (first | (with_reducible exact Below.refl _ _) | (with_reducible assumption) | (with_reducible refine kept_alloc ?_ _) | (with_reducible refine kept_drewN ?_ _) | (with_reducible refine Below.drew ?_) | (with_reducible refine Below.setCell ?_ (by first | omega | (simp; omega) | (simp; done)) _) | (refine kept_trans ?_ (by with_reducible assumption)))⟩)
set_option maxRecDepth 100000 in
theorem dueDrains_lifted (os : Os) (started : os.Started) (H : Type) (enc : TypeId × Value → H) :
    ReturnsInHanded {} Try.checked os 6 .any (Rows.dueDrainsSpec.pre6 enc Try.prog Try.f6 Rows.dueDrainsRow.domain false) (Rows.dueDrainsSpec.post enc Try.prog Try.f6 false true false false) := by
  refine returnsInHanded_of_change (C := Try.checked) own started (by kernel_rfl) Try.func6
    (ChangeSpec.witness6 (enc := enc) (C := Try.checked) false ⟨#[], #[.slice none 0 0], []⟩ 8 (by kernel_rfl) (by kernel_rfl) (by kernel_rfl) (by kernel_rfl)) ?_
  intro W base args ds gs before hval0 hW hcnd _
  have hval : ∀ (j : Nat) t v, Try.f6.params[j]? = some t → args[j]? = some v → Value.okWide Try.prog W .any base t v := hval0
  have hW' := hW
  obtain ⟨p, q, hA0, hV, rfl, hfz, hnd⟩ := hW
  have hA : DataW.TrodAll enc Try.prog W 0 (fun _ => true) true Try.f6.params.toList args.toList ds p := hA0
  rw [Try.params6] at hA hval
  obtain ⟨v0, vs0, d0, ds0, p0, q0, hargs, rfl, rfl, h0, r0⟩ := trodAll_cons hA
  obtain ⟨rfl, rfl, rfl⟩ := trodAll_nil r0
  obtain rfl : args = #[v0] := by cases args; simp_all
  obtain ⟨rfl, rfl⟩ := trodVars_none hV
  obtain ⟨l, lsl, lok, lml⟩ := Sl.of_read Du.cells Du.ok (by decide) (open_row (g := 9) (l := Du.shape) Try.underlying22 (by kernel_rfl) (hval 0 22 v0 rfl rfl) h0) (fun vs h => Du.of_read h)
  clear hA0 hval0
  refine (dueDrains_walk l v0 lok lml W lsl).mono fun e W' ⟨he, hg⟩ => ?_
  subst he
  exact ⟨_, rfl, law_post laid hW' rfl (by kernel_rfl) rfl Try.underlying4 rfl hg⟩

/-- The statement, whole. -/
theorem dueDrains_holds : Rows.DueDrainsSaid :=
  OpenClaim.holds_of_wide 6 Try.f6 rfl rfl rfl rfl rfl rfl rfl ⟨rfl, rfl, rfl, rfl, rfl⟩ rfl rfl rfl rfl rfl (by kernel_rfl) Try.func6 (by kernel_rfl)
    (of_decide_eq_true (by kernel_rfl)) (by unfold Func.isWrapper; rw [if_neg (of_decide_eq_false (by kernel_rfl))]; exact ⟨rfl, rfl⟩)
    (fun os started H enc _ => dueDrains_lifted os started H enc)
end Go.Proofs.Ythlpjlcadcgoeaa
