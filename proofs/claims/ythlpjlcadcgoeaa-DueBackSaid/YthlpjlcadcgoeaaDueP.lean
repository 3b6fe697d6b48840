/- Layer 4: dues copied; threads that are let stand. -/
import Derived.Test.YthlpjlcadcgoeaaDueM
namespace Go.Proofs.Ythlpjlcadcgoeaa
set_option linter.unusedVariables false
set_option linter.unusedSimpArgs false
open Go.ChangeShapes Go.WideShapes Go.ChangeAt Go.RowKit

/-- What a call that hands back dues leaves. -/
def RetD (w : World) (r : List Du) (e : Ending) (w' : World) : Prop :=
  ∃ (p : Option Addr) (k : Nat), e = .returned (.slice p r.length k) ∧ Sl w' 2 Du.cells r (.slice p r.length k) ∧ Kept w w'
theorem ow_nil {α : Type} {W : World} {base k : Nat} {e : TypeId} {enc : α → List Value} : Ow W base e k enc [] (.slice none 0 0) := ⟨by simp, .inl ⟨rfl, rfl⟩⟩

theorem kept_any (l : List Du) (p : Option Addr) (k : Nat) (w : World) (hl : Sl w 2 Du.cells l (.slice p l.length k)) (hm : l.length ≤ 1000) : Calls Try.prog 17 #[.slice p l.length k] w (RetD w l) := by
  have H := Lib.hid hl
  go_enter Try.func17, Try.ntmps17
  go_wp2_with ((at_builtin; refine wpList_app' (wb := w) rfl _ _ 22 rfl (.agg #[.int .i64 0, .int .i64 0]) 16 Try.underlying22 due_info rfl (by decide) Du.enc rfl rfl (xs := []) (ys := l) ow_nil H.out (Below.refl _ _) (by simp only [List.length_append, List.length_nil, List.length_cons]; unfold maxLen; omega) (by simp only [List.length_append, List.length_nil, List.length_cons]; omega) ?_); intro v1 w1 h1 hb1)
  obtain ⟨p1, k1, rfl, -⟩ := (Ow.sl Du.enc h1).is
  go_ret
  exact ⟨p1, k1, rfl, Ow.sl Du.enc h1, hb1⟩

theorem hid_not {p : Prop} (h : ¬ p) : Hid (¬ p) := h
/-- What 'stand' leaves. -/
def StandPost (w : World) (l : List Du) (e : Ending) (w' : World) : Prop :=
  Kept w w' ∧ ((okB l = true ∧ ∃ mb, e = .returned (.tuple #[.map (some mb), .bool true]) ∧ MapD w' mb l ∧ w.heap.size ≤ mb) ∨ (okB l = false ∧ e = .returned (.tuple #[.map none, .bool false])))
/-- One round further on. -/
theorem take_gt {l : List Du} {j : Nat} (h : j < l.length) : l.take (j + 1) = l.take j ++ [gt l j] := by
  rw [List.take_succ_eq_append_getElem h]
  simp [gt, List.getD, h]
theorem take_drop_gt {l : List Du} {j : Nat} (h : j < l.length) : l = l.take j ++ gt l j :: l.drop (j + 1) := by
  have h1 := List.take_append_drop (j + 1) l
  rw [take_gt h, List.append_assoc] at h1
  exact h1.symm
theorem last_gt {l : List Du} {j : Nat} (h : j < l.length) (h0 : 0 < j) : (l.take j).getLast? = some (gt l (j - 1)) := by
  obtain ⟨i, rfl⟩ : ∃ i, j = i + 1 := ⟨j - 1, by omega⟩
  rw [take_gt (by omega)]
  simp
theorem sl_gt {W : World} {l : List Du} {b o n c : Nat} (h : Sl W 2 Du.cells l (.slice (some ⟨b, o, none⟩) n c)) {j : Nat} (hj : j < l.length) : W.cell? ⟨b, o + j * 2, none⟩ = some (.int .i64 (gt l j).tm) ∧ W.cell? ⟨b, o + j * 2 + 1, none⟩ = some (.int .i64 (gt l j).id) := by
  obtain ⟨p, k, e, _, _, _, h4⟩ := h.is
  cases e
  obtain ⟨b', o', e, _, h5⟩ := h4 (by intro h; subst h; simp at hj)
  cases e
  have h6 := h5 j (gt l j) (gt_some hj)
  have h7 := h6 0 (by omega)
  have h8 := h6 1 (by omega)
  exact ⟨by simpa [Du.cells] using h7, by simpa [Du.cells] using h8⟩

set_option maxHeartbeats 4000000 in
set_option maxRecDepth 100000 in
theorem stand_any (l : List Du) (p : Option Addr) (k : Nat) (w : World) (hl : Sl w 2 Du.cells l (.slice p l.length k)) (hm : l.length ≤ 1000) : Calls Try.prog 16 #[.slice p l.length k] w (StandPost w l) := by
  have H := Lib.hid hl
  have hmm := @run_makeMap Try.prog
  obtain ⟨N, hN⟩ : ∃ N, l.length = N := ⟨_, rfl⟩
  rw [hN] at hl hm ⊢
  have HN := Lib.hid hN
  clear hN hl
  go_enter Try.func16, Try.ntmps16
  go_wp2
  clear hmm
  have hM0 : MapD (w.alloc (.map #[] 0)) w.heap.size [] := ⟨#[], 0, heap_alloc_new w _, rfl, by simp, by simp⟩
  go_loopw [12] (fun s12 wr => ∃ j : Nat, s12 = .int .i64 j ∧ j ≤ N ∧ MapD wr w.heap.size (l.take j) ∧ okB (l.take j) = true ∧ Below w.heap.size w wr) (fun s12 _ => N - (intOf s12).toNat)
  case atStart => exact ⟨0, rfl, by omega, hM0, by show okB [] = true; decide, by repeat' (first | (with_reducible exact Below.refl _ _) | (with_reducible assumption) | (with_reducible refine kept_alloc ?_ _) | (with_reducible refine kept_drewN ?_ _) | (with_reducible refine Below.drew ?_) | (with_reducible refine Below.setCell ?_ (by first | omega | (simp; omega) | (simp; done)) _) | (refine kept_trans ?_ (by with_reducible assumption)))⟩
  case round =>
    obtain ⟨j, rfl, hj, hM, hok, hB⟩ := hrel
    clear hM0
    by_cases hlt : j < N
    · have hlt' : j < l.length := by rw [HN.out]; exact hlt
      obtain ⟨p', k', e1, _, _, _, hne⟩ := H.out.is
      cases e1
      obtain ⟨b, o, rfl, hb, -⟩ := hne (by intro h; subst h; simp at hlt')
      obtain ⟨c1, c2⟩ := sl_gt (H.out.kept hB) hlt'
      have hbs : b < wr.heap.size := by have := hB.size; omega
      have b1 : (0 : Int) ≤ (j : Int) := by omega
      have b2 : (j : Int) < (N : Int) := by omega
      obtain ⟨x, hx⟩ := map_look (hM.kept (w' := wr.alloc (.cells #[.int .i64 (gt l j).tm, .int .i64 (gt l j).id] 24)) (by repeat' (first | (with_reducible exact Below.refl _ _) | (with_reducible assumption) | (with_reducible refine kept_alloc ?_ _) | (with_reducible refine kept_drewN ?_ _) | (with_reducible refine Below.drew ?_) | (with_reducible refine Below.setCell ?_ (by first | omega | (simp; omega) | (simp; done)) _) | (refine kept_trans ?_ (by with_reducible assumption))))) (gt l j).id
      obtain ⟨T, hT⟩ : ∃ T, hasB (l.take j) (gt l j).id = T := ⟨_, rfl⟩
      rw [hT] at hx
      have HT := Lib.hid hT
      have HM := Lib.hid hM
      have Hok := Lib.hid hok
      have HB := Lib.hid hB
      obtain ⟨I, hI⟩ : ∃ I, inTB (gt l j) = I := ⟨_, rfl⟩
      obtain ⟨F, hF⟩ : ∃ F, ofTB (gt l j) = F := ⟨_, rfl⟩
      have HI := Lib.hid hI
      have HF := Lib.hid hF
      clear hM hok hT hB hne
      cases T
      · cases I
        · go_wp2; obtain ⟨V, hV⟩ : ∃ V, (wr.alloc (.cells #[.int .i64 (gt l j).tm, .int .i64 (gt l j).id] 24)).alloc (.cells #[.int .i64 x.tm, .int .i64 x.id] 24) = V := ⟨_, rfl⟩; have hBV : Below wr.heap.size wr V := (by rw [← hV]; repeat' (first | (with_reducible exact Below.refl _ _) | (with_reducible assumption) | (with_reducible refine kept_alloc ?_ _) | (with_reducible refine kept_drewN ?_ _) | (with_reducible refine Below.drew ?_) | (with_reducible refine Below.setCell ?_ (by first | omega | (simp; omega) | (simp; done)) _) | (refine kept_trans ?_ (by with_reducible assumption)))); have hcs : CellsAt V [(wr.heap.size, 0, .int .i64 (gt l j).tm), (wr.heap.size, 1, .int .i64 (gt l j).id)] := (by rw [← hV]; (simp only [CellsAt]; (repeat' (first | exact trivial | (refine And.intro ?_ ?_))); all_goals (first | (focus ((try simp only [World.size_setCell, World.size_alloc]); omega)) | (repeat (first | rfl | assumption | (refine (World.cell?_alloc_past _ _ _ ?_).trans ?_; focus ((try simp only [World.size_setCell, World.size_alloc]); omega)) | (refine (World.cell?_alloc_at _ _ _ _ ?_).trans ?_; focus ((try simp only [World.size_setCell, World.size_alloc]); done)) | (refine (World.cell?_setCell_other _ _ _ _ ?_).trans ?_; focus (simp; done)) | (refine (World.cell?_setCell_other _ _ _ _ ?_).trans ?_; focus (simp; omega)) | (refine World.cell?_setCell_same' _ _ _ ?_; focus (simp; done))))))); rw [hV]; clear hV hx
          (refine wp_region_kept (w := V) [(wr.heap.size, 0, .int .i64 (gt l j).tm), (wr.heap.size, 1, .int .i64 (gt l j).id)] (by kernel_rfl) (by kernel_rfl) (Below.refl _ _) (by first | exact hcs | (simp [CellsAt, *]; done) | (simp [CellsAt, *]; omega)) (fun hne => ?_); (have hq0 : ∀ xwd : Wd V [(wr.heap.size, 0, .int .i64 (gt l j).tm), (wr.heap.size, 1, .int .i64 (gt l j).id)], xwd.at.cell? ⟨wr.heap.size, 0, none⟩ = some (.int .i64 (gt l j).tm) := fun xwd => xwd.cells.1.2; have hq1 : ∀ xwd : Wd V [(wr.heap.size, 0, .int .i64 (gt l j).tm), (wr.heap.size, 1, .int .i64 (gt l j).id)], xwd.at.cell? ⟨wr.heap.size, 1, none⟩ = some (.int .i64 (gt l j).id) := fun xwd => xwd.cells.2.1.2); (repeat (go_big_quiet_step ((first | (go_at_call 18; exact quiet_call (inTime_any _ _)))))); (refine wpQuiet_nil ?_); intro wq hwq; obtain ⟨xwd, hxwd⟩ := hwq; have hgx : Below V.heap.size V wq := (by rw [hxwd]; exact xwd.kept); have hcs := (show CellsAt wq [(wr.heap.size, 0, .int .i64 (gt l j).tm), (wr.heap.size, 1, .int .i64 (gt l j).id)] by rw [hxwd]; exact xwd.cells); clear hxwd xwd hne)
          go_wp2; go_ret2; exact ⟨HB.out.trans (((hBV.trans (hgx.mono hBV.size))).mono HB.out.size), .inr ⟨by rw [take_drop_gt hlt']; exact ok_not_snoc (.inr (.inl HI.out)), rfl⟩⟩
        · cases F
          · go_wp2; obtain ⟨V, hV⟩ : ∃ V, (wr.alloc (.cells #[.int .i64 (gt l j).tm, .int .i64 (gt l j).id] 24)).alloc (.cells #[.int .i64 x.tm, .int .i64 x.id] 24) = V := ⟨_, rfl⟩; have hBV : Below wr.heap.size wr V := (by rw [← hV]; repeat' (first | (with_reducible exact Below.refl _ _) | (with_reducible assumption) | (with_reducible refine kept_alloc ?_ _) | (with_reducible refine kept_drewN ?_ _) | (with_reducible refine Below.drew ?_) | (with_reducible refine Below.setCell ?_ (by first | omega | (simp; omega) | (simp; done)) _) | (refine kept_trans ?_ (by with_reducible assumption)))); have hcs : CellsAt V [(wr.heap.size, 0, .int .i64 (gt l j).tm), (wr.heap.size, 1, .int .i64 (gt l j).id)] := (by rw [← hV]; (simp only [CellsAt]; (repeat' (first | exact trivial | (refine And.intro ?_ ?_))); all_goals (first | (focus ((try simp only [World.size_setCell, World.size_alloc]); omega)) | (repeat (first | rfl | assumption | (refine (World.cell?_alloc_past _ _ _ ?_).trans ?_; focus ((try simp only [World.size_setCell, World.size_alloc]); omega)) | (refine (World.cell?_alloc_at _ _ _ _ ?_).trans ?_; focus ((try simp only [World.size_setCell, World.size_alloc]); done)) | (refine (World.cell?_setCell_other _ _ _ _ ?_).trans ?_; focus (simp; done)) | (refine (World.cell?_setCell_other _ _ _ _ ?_).trans ?_; focus (simp; omega)) | (refine World.cell?_setCell_same' _ _ _ ?_; focus (simp; done))))))); rw [hV]; clear hV hx
            (refine wp_region_kept (w := V) [(wr.heap.size, 0, .int .i64 (gt l j).tm), (wr.heap.size, 1, .int .i64 (gt l j).id)] (by kernel_rfl) (by kernel_rfl) (Below.refl _ _) (by first | exact hcs | (simp [CellsAt, *]; done) | (simp [CellsAt, *]; omega)) (fun hne => ?_); (have hq0 : ∀ xwd : Wd V [(wr.heap.size, 0, .int .i64 (gt l j).tm), (wr.heap.size, 1, .int .i64 (gt l j).id)], xwd.at.cell? ⟨wr.heap.size, 0, none⟩ = some (.int .i64 (gt l j).tm) := fun xwd => xwd.cells.1.2; have hq1 : ∀ xwd : Wd V [(wr.heap.size, 0, .int .i64 (gt l j).tm), (wr.heap.size, 1, .int .i64 (gt l j).id)], xwd.at.cell? ⟨wr.heap.size, 1, none⟩ = some (.int .i64 (gt l j).id) := fun xwd => xwd.cells.2.1.2); (repeat (go_big_quiet_step ((first | (go_at_call 18; exact quiet_call (inTime_any _ _)) | (go_at_call 19; exact quiet_call (ofThread_any _ _)))))); (refine wpQuiet_nil ?_); intro wq hwq; obtain ⟨xwd, hxwd⟩ := hwq; have hgx : Below V.heap.size V wq := (by rw [hxwd]; exact xwd.kept); have hcs := (show CellsAt wq [(wr.heap.size, 0, .int .i64 (gt l j).tm), (wr.heap.size, 1, .int .i64 (gt l j).id)] by rw [hxwd]; exact xwd.cells); clear hxwd xwd hne)
            go_wp2; go_ret2; exact ⟨HB.out.trans (((hBV.trans (hgx.mono hBV.size))).mono HB.out.size), .inr ⟨by rw [take_drop_gt hlt']; exact ok_not_snoc (.inr (.inr (.inl HF.out))), rfl⟩⟩
          · by_cases hj0 : j = 0
            · have b4 : decide (0 < j) = false := by simp; omega
              have HJ := Lib.hid hj0
              clear hj0
              go_wp2; obtain ⟨V, hV⟩ : ∃ V, (wr.alloc (.cells #[.int .i64 (gt l j).tm, .int .i64 (gt l j).id] 24)).alloc (.cells #[.int .i64 x.tm, .int .i64 x.id] 24) = V := ⟨_, rfl⟩; have hBV : Below wr.heap.size wr V := (by rw [← hV]; repeat' (first | (with_reducible exact Below.refl _ _) | (with_reducible assumption) | (with_reducible refine kept_alloc ?_ _) | (with_reducible refine kept_drewN ?_ _) | (with_reducible refine Below.drew ?_) | (with_reducible refine Below.setCell ?_ (by first | omega | (simp; omega) | (simp; done)) _) | (refine kept_trans ?_ (by with_reducible assumption)))); have hcs : CellsAt V [(wr.heap.size, 0, .int .i64 (gt l j).tm), (wr.heap.size, 1, .int .i64 (gt l j).id)] := (by rw [← hV]; (simp only [CellsAt]; (repeat' (first | exact trivial | (refine And.intro ?_ ?_))); all_goals (first | (focus ((try simp only [World.size_setCell, World.size_alloc]); omega)) | (repeat (first | rfl | assumption | (refine (World.cell?_alloc_past _ _ _ ?_).trans ?_; focus ((try simp only [World.size_setCell, World.size_alloc]); omega)) | (refine (World.cell?_alloc_at _ _ _ _ ?_).trans ?_; focus ((try simp only [World.size_setCell, World.size_alloc]); done)) | (refine (World.cell?_setCell_other _ _ _ _ ?_).trans ?_; focus (simp; done)) | (refine (World.cell?_setCell_other _ _ _ _ ?_).trans ?_; focus (simp; omega)) | (refine World.cell?_setCell_same' _ _ _ ?_; focus (simp; done))))))); rw [hV]; clear hV hx
              (refine wp_region_kept (w := V) [(wr.heap.size, 0, .int .i64 (gt l j).tm), (wr.heap.size, 1, .int .i64 (gt l j).id)] (by kernel_rfl) (by kernel_rfl) (Below.refl _ _) (by first | exact hcs | (simp [CellsAt, *]; done) | (simp [CellsAt, *]; omega)) (fun hne => ?_); (have hq0 : ∀ xwd : Wd V [(wr.heap.size, 0, .int .i64 (gt l j).tm), (wr.heap.size, 1, .int .i64 (gt l j).id)], xwd.at.cell? ⟨wr.heap.size, 0, none⟩ = some (.int .i64 (gt l j).tm) := fun xwd => xwd.cells.1.2; have hq1 : ∀ xwd : Wd V [(wr.heap.size, 0, .int .i64 (gt l j).tm), (wr.heap.size, 1, .int .i64 (gt l j).id)], xwd.at.cell? ⟨wr.heap.size, 1, none⟩ = some (.int .i64 (gt l j).id) := fun xwd => xwd.cells.2.1.2); (repeat (go_big_quiet_step ((first | (go_at_call 18; exact quiet_call (inTime_any _ _)) | (go_at_call 19; exact quiet_call (ofThread_any _ _)))))); (refine wpQuiet_nil ?_); intro wq hwq; obtain ⟨xwd, hxwd⟩ := hwq; have hgx : Below V.heap.size V wq := (by rw [hxwd]; exact xwd.kept); have hcs := (show CellsAt wq [(wr.heap.size, 0, .int .i64 (gt l j).tm), (wr.heap.size, 1, .int .i64 (gt l j).id)] by rw [hxwd]; exact xwd.cells); clear hxwd xwd hne)
              clear b4
              have hrx : Below wr.heap.size wr wq := hBV.trans (hgx.mono hBV.size); obtain ⟨w3, hu, hM3, hO3, hs3⟩ := map_put (HM.out.kept hrx) (gt l j) HT.out; have hq0 := hcs.1.2; have hq1 := hcs.2.1.2; have hz0 := hcs.1.1; have HE := Lib.hid (And.intro hM3 (And.intro hO3 hs3)); clear hM3 hO3 hs3; go_wp2; go_roundw; (case rel => exact ⟨j + 1, by go_num, by omega, by rw [take_gt hlt']; exact HE.out.1, by rw [take_gt hlt']; exact ok_snoc Hok.out HT.out HI.out HF.out (fun e he => by rw [HJ.out] at he; simp at he), Out.below (HB.out.trans (hrx.mono HB.out.size)) HE.out.2.1 (fun x hx => by rw [List.mem_singleton] at hx; subst hx; exact Nat.le_refl _) (by have := hrx.size; have := HB.out.size; omega)⟩); (case measure => simp [intOf]; omega)
            · have b4 : (0 : Int) < (j : Int) := by omega
              obtain ⟨i, hi⟩ : ∃ i, j - 1 = i := ⟨_, rfl⟩
              have b5 : (j : Int) - 1 = (i : Int) := by omega
              have b6 : (0 : Int) ≤ (i : Int) := by omega
              have b7 : (i : Int) < (N : Int) := by omega
              have hjp : 0 < j := by omega
              have HJ := Lib.hid hi
              obtain ⟨c3, c4⟩ := sl_gt (H.out.kept HB.out) (j := i) (by omega)
              obtain ⟨A, hA⟩ : ∃ A, dahB (gt l i) (gt l j) = A := ⟨_, rfl⟩
              have HA := Lib.hid hA
              clear hi hj0
              cases A
              · go_wp2; obtain ⟨V, hV⟩ : ∃ V, (wr.alloc (.cells #[.int .i64 (gt l j).tm, .int .i64 (gt l j).id] 24)).alloc (.cells #[.int .i64 x.tm, .int .i64 x.id] 24) = V := ⟨_, rfl⟩; have hBV : Below wr.heap.size wr V := (by rw [← hV]; repeat' (first | (with_reducible exact Below.refl _ _) | (with_reducible assumption) | (with_reducible refine kept_alloc ?_ _) | (with_reducible refine kept_drewN ?_ _) | (with_reducible refine Below.drew ?_) | (with_reducible refine Below.setCell ?_ (by first | omega | (simp; omega) | (simp; done)) _) | (refine kept_trans ?_ (by with_reducible assumption)))); have hcs : CellsAt V [(wr.heap.size, 0, .int .i64 (gt l j).tm), (wr.heap.size, 1, .int .i64 (gt l j).id)] := (by rw [← hV]; (simp only [CellsAt]; (repeat' (first | exact trivial | (refine And.intro ?_ ?_))); all_goals (first | (focus ((try simp only [World.size_setCell, World.size_alloc]); omega)) | (repeat (first | rfl | assumption | (refine (World.cell?_alloc_past _ _ _ ?_).trans ?_; focus ((try simp only [World.size_setCell, World.size_alloc]); omega)) | (refine (World.cell?_alloc_at _ _ _ _ ?_).trans ?_; focus ((try simp only [World.size_setCell, World.size_alloc]); done)) | (refine (World.cell?_setCell_other _ _ _ _ ?_).trans ?_; focus (simp; done)) | (refine (World.cell?_setCell_other _ _ _ _ ?_).trans ?_; focus (simp; omega)) | (refine World.cell?_setCell_same' _ _ _ ?_; focus (simp; done))))))); rw [hV]; clear hV hx
                have c5 := ((bcell hBV).1 _ (o + i * 2) hbs).trans c3
                have c6 := ((bcell hBV).1 _ (o + i * 2 + 1) hbs).trans c4
                have hcs := And.intro (And.intro (Nat.lt_of_lt_of_le hbs hBV.size) c5) (And.intro (And.intro (Nat.lt_of_lt_of_le hbs hBV.size) c6) hcs)
                (refine wp_region_kept (w := V) [(b, o + i * 2, .int .i64 (gt l i).tm), (b, o + i * 2 + 1, .int .i64 (gt l i).id), (wr.heap.size, 0, .int .i64 (gt l j).tm), (wr.heap.size, 1, .int .i64 (gt l j).id)] (by kernel_rfl) (by kernel_rfl) (Below.refl _ _) (by first | exact hcs | (simp [CellsAt, *]; done) | (simp [CellsAt, *]; omega)) (fun hne => ?_); (have hq0 : ∀ xwd : Wd V [(b, o + i * 2, .int .i64 (gt l i).tm), (b, o + i * 2 + 1, .int .i64 (gt l i).id), (wr.heap.size, 0, .int .i64 (gt l j).tm), (wr.heap.size, 1, .int .i64 (gt l j).id)], xwd.at.cell? ⟨b, o + i * 2, none⟩ = some (.int .i64 (gt l i).tm) := fun xwd => xwd.cells.1.2; have hq1 : ∀ xwd : Wd V [(b, o + i * 2, .int .i64 (gt l i).tm), (b, o + i * 2 + 1, .int .i64 (gt l i).id), (wr.heap.size, 0, .int .i64 (gt l j).tm), (wr.heap.size, 1, .int .i64 (gt l j).id)], xwd.at.cell? ⟨b, o + i * 2 + 1, none⟩ = some (.int .i64 (gt l i).id) := fun xwd => xwd.cells.2.1.2; have hq2 : ∀ xwd : Wd V [(b, o + i * 2, .int .i64 (gt l i).tm), (b, o + i * 2 + 1, .int .i64 (gt l i).id), (wr.heap.size, 0, .int .i64 (gt l j).tm), (wr.heap.size, 1, .int .i64 (gt l j).id)], xwd.at.cell? ⟨wr.heap.size, 0, none⟩ = some (.int .i64 (gt l j).tm) := fun xwd => xwd.cells.2.2.1.2; have hq3 : ∀ xwd : Wd V [(b, o + i * 2, .int .i64 (gt l i).tm), (b, o + i * 2 + 1, .int .i64 (gt l i).id), (wr.heap.size, 0, .int .i64 (gt l j).tm), (wr.heap.size, 1, .int .i64 (gt l j).id)], xwd.at.cell? ⟨wr.heap.size, 1, none⟩ = some (.int .i64 (gt l j).id) := fun xwd => xwd.cells.2.2.2.1.2); (repeat (go_big_quiet_step ((first | (go_at_call 18; exact quiet_call (inTime_any _ _)) | (go_at_call 19; exact quiet_call (ofThread_any _ _)) | (go_at_call 23; exact quiet_call (dah_any _ _ _)))))); (refine wpQuiet_nil ?_); intro wq hwq; obtain ⟨xwd, hxwd⟩ := hwq; have hgx : Below V.heap.size V wq := (by rw [hxwd]; exact xwd.kept); have hcs := (show CellsAt wq [(b, o + i * 2, .int .i64 (gt l i).tm), (b, o + i * 2 + 1, .int .i64 (gt l i).id), (wr.heap.size, 0, .int .i64 (gt l j).tm), (wr.heap.size, 1, .int .i64 (gt l j).id)] by rw [hxwd]; exact xwd.cells); clear hxwd xwd hne)
                go_wp2; go_ret2; exact ⟨HB.out.trans (((hBV.trans (hgx.mono hBV.size))).mono HB.out.size), .inr ⟨by rw [take_drop_gt hlt']; exact ok_not_snoc (.inr (.inr (.inr ⟨_, (last_gt hlt' hjp).trans (by rw [HJ.out]), HA.out⟩))), rfl⟩⟩
              · go_wp2; obtain ⟨V, hV⟩ : ∃ V, (wr.alloc (.cells #[.int .i64 (gt l j).tm, .int .i64 (gt l j).id] 24)).alloc (.cells #[.int .i64 x.tm, .int .i64 x.id] 24) = V := ⟨_, rfl⟩; have hBV : Below wr.heap.size wr V := (by rw [← hV]; repeat' (first | (with_reducible exact Below.refl _ _) | (with_reducible assumption) | (with_reducible refine kept_alloc ?_ _) | (with_reducible refine kept_drewN ?_ _) | (with_reducible refine Below.drew ?_) | (with_reducible refine Below.setCell ?_ (by first | omega | (simp; omega) | (simp; done)) _) | (refine kept_trans ?_ (by with_reducible assumption)))); have hcs : CellsAt V [(wr.heap.size, 0, .int .i64 (gt l j).tm), (wr.heap.size, 1, .int .i64 (gt l j).id)] := (by rw [← hV]; (simp only [CellsAt]; (repeat' (first | exact trivial | (refine And.intro ?_ ?_))); all_goals (first | (focus ((try simp only [World.size_setCell, World.size_alloc]); omega)) | (repeat (first | rfl | assumption | (refine (World.cell?_alloc_past _ _ _ ?_).trans ?_; focus ((try simp only [World.size_setCell, World.size_alloc]); omega)) | (refine (World.cell?_alloc_at _ _ _ _ ?_).trans ?_; focus ((try simp only [World.size_setCell, World.size_alloc]); done)) | (refine (World.cell?_setCell_other _ _ _ _ ?_).trans ?_; focus (simp; done)) | (refine (World.cell?_setCell_other _ _ _ _ ?_).trans ?_; focus (simp; omega)) | (refine World.cell?_setCell_same' _ _ _ ?_; focus (simp; done))))))); rw [hV]; clear hV hx
                have c5 := ((bcell hBV).1 _ (o + i * 2) hbs).trans c3
                have c6 := ((bcell hBV).1 _ (o + i * 2 + 1) hbs).trans c4
                have hcs := And.intro (And.intro (Nat.lt_of_lt_of_le hbs hBV.size) c5) (And.intro (And.intro (Nat.lt_of_lt_of_le hbs hBV.size) c6) hcs)
                (refine wp_region_kept (w := V) [(b, o + i * 2, .int .i64 (gt l i).tm), (b, o + i * 2 + 1, .int .i64 (gt l i).id), (wr.heap.size, 0, .int .i64 (gt l j).tm), (wr.heap.size, 1, .int .i64 (gt l j).id)] (by kernel_rfl) (by kernel_rfl) (Below.refl _ _) (by first | exact hcs | (simp [CellsAt, *]; done) | (simp [CellsAt, *]; omega)) (fun hne => ?_); (have hq0 : ∀ xwd : Wd V [(b, o + i * 2, .int .i64 (gt l i).tm), (b, o + i * 2 + 1, .int .i64 (gt l i).id), (wr.heap.size, 0, .int .i64 (gt l j).tm), (wr.heap.size, 1, .int .i64 (gt l j).id)], xwd.at.cell? ⟨b, o + i * 2, none⟩ = some (.int .i64 (gt l i).tm) := fun xwd => xwd.cells.1.2; have hq1 : ∀ xwd : Wd V [(b, o + i * 2, .int .i64 (gt l i).tm), (b, o + i * 2 + 1, .int .i64 (gt l i).id), (wr.heap.size, 0, .int .i64 (gt l j).tm), (wr.heap.size, 1, .int .i64 (gt l j).id)], xwd.at.cell? ⟨b, o + i * 2 + 1, none⟩ = some (.int .i64 (gt l i).id) := fun xwd => xwd.cells.2.1.2; have hq2 : ∀ xwd : Wd V [(b, o + i * 2, .int .i64 (gt l i).tm), (b, o + i * 2 + 1, .int .i64 (gt l i).id), (wr.heap.size, 0, .int .i64 (gt l j).tm), (wr.heap.size, 1, .int .i64 (gt l j).id)], xwd.at.cell? ⟨wr.heap.size, 0, none⟩ = some (.int .i64 (gt l j).tm) := fun xwd => xwd.cells.2.2.1.2; have hq3 : ∀ xwd : Wd V [(b, o + i * 2, .int .i64 (gt l i).tm), (b, o + i * 2 + 1, .int .i64 (gt l i).id), (wr.heap.size, 0, .int .i64 (gt l j).tm), (wr.heap.size, 1, .int .i64 (gt l j).id)], xwd.at.cell? ⟨wr.heap.size, 1, none⟩ = some (.int .i64 (gt l j).id) := fun xwd => xwd.cells.2.2.2.1.2); (repeat (go_big_quiet_step ((first | (go_at_call 18; exact quiet_call (inTime_any _ _)) | (go_at_call 19; exact quiet_call (ofThread_any _ _)) | (go_at_call 23; exact quiet_call (dah_any _ _ _)))))); (refine wpQuiet_nil ?_); intro wq hwq; obtain ⟨xwd, hxwd⟩ := hwq; have hgx : Below V.heap.size V wq := (by rw [hxwd]; exact xwd.kept); have hcs := (show CellsAt wq [(b, o + i * 2, .int .i64 (gt l i).tm), (b, o + i * 2 + 1, .int .i64 (gt l i).id), (wr.heap.size, 0, .int .i64 (gt l j).tm), (wr.heap.size, 1, .int .i64 (gt l j).id)] by rw [hxwd]; exact xwd.cells); clear hxwd xwd hne)
                have hcs := hcs.2.2
                clear b5
                have hrx : Below wr.heap.size wr wq := hBV.trans (hgx.mono hBV.size); obtain ⟨w3, hu, hM3, hO3, hs3⟩ := map_put (HM.out.kept hrx) (gt l j) HT.out; have hq0 := hcs.1.2; have hq1 := hcs.2.1.2; have hz0 := hcs.1.1; have HE := Lib.hid (And.intro hM3 (And.intro hO3 hs3)); clear hM3 hO3 hs3; go_wp2; go_roundw; (case rel => exact ⟨j + 1, by go_num, by omega, by rw [take_gt hlt']; exact HE.out.1, by rw [take_gt hlt']; exact ok_snoc Hok.out HT.out HI.out HF.out (fun e he => by rw [last_gt hlt' hjp, HJ.out] at he; cases he; exact HA.out), Out.below (HB.out.trans (hrx.mono HB.out.size)) HE.out.2.1 (fun x hx => by rw [List.mem_singleton] at hx; subst hx; exact Nat.le_refl _) (by have := hrx.size; have := HB.out.size; omega)⟩); (case measure => simp [intOf]; omega)
      · go_wp2; obtain ⟨V, hV⟩ : ∃ V, (wr.alloc (.cells #[.int .i64 (gt l j).tm, .int .i64 (gt l j).id] 24)).alloc (.cells #[.int .i64 x.tm, .int .i64 x.id] 24) = V := ⟨_, rfl⟩; have hBV : Below wr.heap.size wr V := (by rw [← hV]; repeat' (first | (with_reducible exact Below.refl _ _) | (with_reducible assumption) | (with_reducible refine kept_alloc ?_ _) | (with_reducible refine kept_drewN ?_ _) | (with_reducible refine Below.drew ?_) | (with_reducible refine Below.setCell ?_ (by first | omega | (simp; omega) | (simp; done)) _) | (refine kept_trans ?_ (by with_reducible assumption)))); have hcs : CellsAt V [(wr.heap.size, 0, .int .i64 (gt l j).tm), (wr.heap.size, 1, .int .i64 (gt l j).id)] := (by rw [← hV]; (simp only [CellsAt]; (repeat' (first | exact trivial | (refine And.intro ?_ ?_))); all_goals (first | (focus ((try simp only [World.size_setCell, World.size_alloc]); omega)) | (repeat (first | rfl | assumption | (refine (World.cell?_alloc_past _ _ _ ?_).trans ?_; focus ((try simp only [World.size_setCell, World.size_alloc]); omega)) | (refine (World.cell?_alloc_at _ _ _ _ ?_).trans ?_; focus ((try simp only [World.size_setCell, World.size_alloc]); done)) | (refine (World.cell?_setCell_other _ _ _ _ ?_).trans ?_; focus (simp; done)) | (refine (World.cell?_setCell_other _ _ _ _ ?_).trans ?_; focus (simp; omega)) | (refine World.cell?_setCell_same' _ _ _ ?_; focus (simp; done))))))); rw [hV]; clear hV hx
        (refine wp_region_kept (w := V) [(wr.heap.size, 0, .int .i64 (gt l j).tm), (wr.heap.size, 1, .int .i64 (gt l j).id)] (by kernel_rfl) (by kernel_rfl) (Below.refl _ _) (by first | exact hcs | (simp [CellsAt, *]; done) | (simp [CellsAt, *]; omega)) (fun hne => ?_); (have hq0 : ∀ xwd : Wd V [(wr.heap.size, 0, .int .i64 (gt l j).tm), (wr.heap.size, 1, .int .i64 (gt l j).id)], xwd.at.cell? ⟨wr.heap.size, 0, none⟩ = some (.int .i64 (gt l j).tm) := fun xwd => xwd.cells.1.2; have hq1 : ∀ xwd : Wd V [(wr.heap.size, 0, .int .i64 (gt l j).tm), (wr.heap.size, 1, .int .i64 (gt l j).id)], xwd.at.cell? ⟨wr.heap.size, 1, none⟩ = some (.int .i64 (gt l j).id) := fun xwd => xwd.cells.2.1.2); (repeat (go_big_quiet_step ((first | fail)))); (refine wpQuiet_nil ?_); intro wq hwq; obtain ⟨xwd, hxwd⟩ := hwq; have hgx : Below V.heap.size V wq := (by rw [hxwd]; exact xwd.kept); have hcs := (show CellsAt wq [(wr.heap.size, 0, .int .i64 (gt l j).tm), (wr.heap.size, 1, .int .i64 (gt l j).id)] by rw [hxwd]; exact xwd.cells); clear hxwd xwd hne)
        go_wp2; go_ret2; exact ⟨HB.out.trans (((hBV.trans (hgx.mono hBV.size))).mono HB.out.size), .inr ⟨by rw [take_drop_gt hlt']; exact ok_not_snoc (.inl HT.out), rfl⟩⟩
    · have : j = N := by omega
      subst this
      have HE := Lib.hid (And.intro hM (And.intro hok hB))
      clear hM hok hB hlt hj
      go_wp2
      go_ret2
      have e1 : l.take j = l := by rw [← HN.out]; exact List.take_length
      have h2 := HE.out
      rw [e1] at h2
      exact ⟨h2.2.2, .inl ⟨h2.2.1, _, rfl, h2.1, Nat.le_refl _⟩⟩
end Go.Proofs.Ythlpjlcadcgoeaa
