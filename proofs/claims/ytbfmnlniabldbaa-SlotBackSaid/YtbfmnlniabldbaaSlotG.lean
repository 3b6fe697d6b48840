/- Layer 9: whose turn it is; written, read, released. -/
import Derived.Test.YtbfmnlniabldbaaSlotE
namespace Go.Proofs.Ytbfmnlniabldbaa
set_option linter.unusedVariables false
set_option linter.unusedSimpArgs false
open Go.ChangeShapes Go.WideShapes Go.ChangeAt Go.RowKit

theorem slo_field0 (a b : Int) (W : World) : (Instr.field 36 (.agg #[.int .i64 a, .int .i64 b]) 0).run Try.prog W = .ok (.int .i64 a) W := by kernel_rfl
theorem slo_field1 (a b : Int) (W : World) : (Instr.field 36 (.agg #[.int .i64 a, .int .i64 b]) 1).run Try.prog W = .ok (.int .i64 b) W := by kernel_rfl

theorem sready_any (l : List Slo) (q : Int) (p : Option Addr) (k : Nat) (w : World) (hl : Sl w 2 Slo.cells l (.slice p l.length k)) (hm : l.length ≤ 1000) (hq : In64 q) :
    Calls Try.prog 20 #[.slice p l.length k, .int .i64 q] w fun e w' => e = .returned (.bool (rdyB l q)) ∧ Kept w w' := by
  have H := Lib.hid hl
  unfold rdyB
  clear hl
  cases h1 : liesS l q
  · have H1 := Lib.hid h1
    clear h1
    go_enter Try.func20, Try.ntmps20
    go_wp2_with fail
    refine (slies_val H1.out p k _ H.out hm).mono ?_
    rintro e w1 ⟨rfl, hg1⟩
    go_wp2
    go_ret
    exact ⟨rfl, by repeat' (first | (with_reducible exact Below.refl _ _) | (with_reducible assumption) | (with_reducible refine kept_alloc ?_ _) | (with_reducible refine kept_drewN ?_ _) | (with_reducible refine Below.drew ?_) | (with_reducible refine Below.setCell ?_ (by first | omega | (simp; omega) | (simp; done)) _) | (refine kept_trans ?_ (by with_reducible assumption)))⟩
  · have H1 := Lib.hid h1
    obtain ⟨h2, h3⟩ := plc_lt h1
    have H2 := Lib.hid h2
    have H3 := Lib.hid h3
    have hf := fun W => slo_field0 (gs l (plc l q)).st (gs l (plc l q)).vl W
    clear h1 h2 h3
    generalize plc l q = i at *
    go_enter Try.func20, Try.ntmps20
    go_wp2_with fail
    refine (slies_val H1.out p k _ H.out hm).mono ?_
    rintro e w1 ⟨rfl, hg1⟩
    go_wp2_with fail
    refine (sat_any l q i p k _ (H.out.kept (by repeat' (first | (with_reducible exact Below.refl _ _) | (with_reducible assumption) | (with_reducible refine kept_alloc ?_ _) | (with_reducible refine kept_drewN ?_ _) | (with_reducible refine Below.drew ?_) | (with_reducible refine Below.setCell ?_ (by first | omega | (simp; omega) | (simp; done)) _) | (refine kept_trans ?_ (by with_reducible assumption))))) hm hq H3.out H2.out).mono ?_
    rintro e w2 ⟨rfl, hg2⟩
    go_wp2
    go_ret
    exact ⟨ret_bool (by simp), by repeat' (first | (with_reducible exact Below.refl _ _) | (with_reducible assumption) | (with_reducible refine kept_alloc ?_ _) | (with_reducible refine kept_drewN ?_ _) | (with_reducible refine Below.drew ?_) | (with_reducible refine Below.setCell ?_ (by first | omega | (simp; omega) | (simp; done)) _) | (refine kept_trans ?_ (by with_reducible assumption)))⟩
theorem sready_val {l : List Slo} {q : Int} {b : Bool} (hb : rdyB l q = b) (p : Option Addr) (k : Nat) (w : World) (hl : Sl w 2 Slo.cells l (.slice p l.length k)) (hm : l.length ≤ 1000) (hq : In64 q) :
    Calls Try.prog 20 #[.slice p l.length k, .int .i64 q] w fun e w' => e = .returned (.bool b) ∧ Kept w w' := hb ▸ sready_any l q p k w hl hm hq

set_option maxHeartbeats 1000000 in
theorem sread_any (l : List Slo) (q : Int) (p : Option Addr) (k : Nat) (w : World) (hl : Sl w 2 Slo.cells l (.slice p l.length k)) (hm : l.length ≤ 1000) (hq : In64 q) :
    Calls Try.prog 11 #[.slice p l.length k, .int .i64 q] w fun e w' => e = .returned (.tuple #[.int .i64 (rdV l q), .int .i64 (rdE l q)]) ∧ Kept w w' := by
  have H := Lib.hid hl
  unfold rdV rdE
  clear hl
  cases h1 : rdyB l q
  · have H1 := Lib.hid h1
    clear h1
    go_enter Try.func11, Try.ntmps11
    go_wp2_with fail
    refine (sready_val H1.out p k _ H.out hm hq).mono ?_
    rintro e w1 ⟨rfl, hg1⟩
    go_wp2
    go_ret2
    exact ⟨rfl, by repeat' (first | (with_reducible exact Below.refl _ _) | (with_reducible assumption) | (with_reducible refine kept_alloc ?_ _) | (with_reducible refine kept_drewN ?_ _) | (with_reducible refine Below.drew ?_) | (with_reducible refine Below.setCell ?_ (by first | omega | (simp; omega) | (simp; done)) _) | (refine kept_trans ?_ (by with_reducible assumption)))⟩
  · have H1 := Lib.hid h1
    obtain ⟨h2, h3⟩ := plc_lt (rdy_lies h1).1
    have H2 := Lib.hid h2
    have H3 := Lib.hid h3
    have hf := fun W => slo_field1 (gs l (plc l q)).st (gs l (plc l q)).vl W
    clear h1 h2 h3
    generalize plc l q = i at *
    go_enter Try.func11, Try.ntmps11
    go_wp2_with fail
    refine (sready_val H1.out p k _ H.out hm hq).mono ?_
    rintro e w1 ⟨rfl, hg1⟩
    go_wp2_with fail
    refine (sat_any l q i p k _ (H.out.kept (by repeat' (first | (with_reducible exact Below.refl _ _) | (with_reducible assumption) | (with_reducible refine kept_alloc ?_ _) | (with_reducible refine kept_drewN ?_ _) | (with_reducible refine Below.drew ?_) | (with_reducible refine Below.setCell ?_ (by first | omega | (simp; omega) | (simp; done)) _) | (refine kept_trans ?_ (by with_reducible assumption))))) hm hq H3.out H2.out).mono ?_
    rintro e w2 ⟨rfl, hg2⟩
    go_wp2
    go_ret2
    exact ⟨rfl, by repeat' (first | (with_reducible exact Below.refl _ _) | (with_reducible assumption) | (with_reducible refine kept_alloc ?_ _) | (with_reducible refine kept_drewN ?_ _) | (with_reducible refine Below.drew ?_) | (with_reducible refine Below.setCell ?_ (by first | omega | (simp; omega) | (simp; done)) _) | (refine kept_trans ?_ (by with_reducible assumption)))⟩
theorem sread_val {l : List Slo} {q v c : Int} (hv : rdV l q = v) (hc : rdE l q = c) (p : Option Addr) (k : Nat) (w : World) (hl : Sl w 2 Slo.cells l (.slice p l.length k)) (hm : l.length ≤ 1000) (hq : In64 q) :
    Calls Try.prog 11 #[.slice p l.length k, .int .i64 q] w fun e w' => e = .returned (.tuple #[.int .i64 v, .int .i64 c]) ∧ Kept w w' := hv ▸ hc ▸ sread_any l q p k w hl hm hq

/-- What a call that hands back slots of its own, and an error, leaves. -/
def RetSE (w : World) (r : List Slo) (c : Int) (e : Ending) (w' : World) : Prop :=
  ∃ g, e = .returned (.tuple #[.slice (some ⟨g, 0, none⟩) r.length r.length, .int .i64 c]) ∧ Ow w' w.heap.size 36 2 Slo.cells r (.slice (some ⟨g, 0, none⟩) r.length r.length) ∧ Kept w w'
theorem write1_enters : ∀ args w, (callFunc 25 args).run Try.prog w = .ok (.enter 25 args) w := enters_of Try.func25 (by kernel_rfl) rfl
theorem release1_enters : ∀ args w, (callFunc 29 args).run Try.prog w = .ok (.enter 29 args) w := enters_of Try.func29 (by kernel_rfl) rfl

set_option maxHeartbeats 2000000 in
theorem swrite_any (l : List Slo) (q v : Int) (p : Option Addr) (k : Nat) (w : World) (hl : Sl w 2 Slo.cells l (.slice p l.length k)) (hm : l.length ≤ 1000) (hq : In64 q) :
    Calls Try.prog 9 #[.slice p l.length k, .int .i64 q, .int .i64 v] w (RetSE w (wrL l q v) (wrE l q)) := by
  have H := Lib.hid hl
  clear hl
  cases h1 : liesS l q
  · have H1 := Lib.hid h1
    have h2 : rdyB l q = false := by simp [rdyB, h1]
    have e2 : wrL l q v = l ∧ wrE l q = 40 := by simp [wrL, wrE, h1, h2]
    rw [e2.1, e2.2]
    clear h1 h2 e2
    go_enter Try.func9, Try.ntmps9
    go_wp2_with fail
    refine (slies_val H1.out p k _ (H.out.kept (by repeat' (first | (with_reducible exact Below.refl _ _) | (with_reducible assumption) | (with_reducible refine kept_alloc ?_ _) | (with_reducible refine kept_drewN ?_ _) | (with_reducible refine Below.drew ?_) | (with_reducible refine Below.setCell ?_ (by first | omega | (simp; omega) | (simp; done)) _) | (refine kept_trans ?_ (by with_reducible assumption))))) hm).mono ?_
    rintro e w1 ⟨rfl, hg1⟩
    have hB : Below w.heap.size w w1 := by repeat' (first | (with_reducible exact Below.refl _ _) | (with_reducible assumption) | (with_reducible refine kept_alloc ?_ _) | (with_reducible refine kept_drewN ?_ _) | (with_reducible refine Below.drew ?_) | (with_reducible refine Below.setCell ?_ (by first | omega | (simp; omega) | (simp; done)) _) | (refine kept_trans ?_ (by with_reducible assumption)))
    clear hg1
    go_wp2_with fail
    refine (slaid_any l p k _ (H.out.kept hB) hm).mono ?_
    rintro e w2 ⟨g, rfl, -, ho, hb⟩
    have HO := Lib.hid ho
    clear ho
    go_wp2
    go_ret2
    exact ⟨g, rfl, ow_mono HO.out hB.size, by repeat' (first | (with_reducible exact Below.refl _ _) | (with_reducible assumption) | (with_reducible refine kept_alloc ?_ _) | (with_reducible refine kept_drewN ?_ _) | (with_reducible refine Below.drew ?_) | (with_reducible refine Below.setCell ?_ (by first | omega | (simp; omega) | (simp; done)) _) | (refine kept_trans ?_ (by with_reducible assumption)))⟩
  · cases h2 : rdyB l q
    · have H1 := Lib.hid h1
      have H2 := Lib.hid h2
      have e2 : wrL l q v = l ∧ wrE l q = 30 := by simp [wrL, wrE, h1, h2]
      rw [e2.1, e2.2]
      clear h1 h2 e2
      go_enter Try.func9, Try.ntmps9
      go_wp2_with fail
      refine (slies_val H1.out p k _ (H.out.kept (by repeat' (first | (with_reducible exact Below.refl _ _) | (with_reducible assumption) | (with_reducible refine kept_alloc ?_ _) | (with_reducible refine kept_drewN ?_ _) | (with_reducible refine Below.drew ?_) | (with_reducible refine Below.setCell ?_ (by first | omega | (simp; omega) | (simp; done)) _) | (refine kept_trans ?_ (by with_reducible assumption))))) hm).mono ?_
      rintro e w1 ⟨rfl, hg1⟩
      have hB1 : Below w.heap.size w w1 := by repeat' (first | (with_reducible exact Below.refl _ _) | (with_reducible assumption) | (with_reducible refine kept_alloc ?_ _) | (with_reducible refine kept_drewN ?_ _) | (with_reducible refine Below.drew ?_) | (with_reducible refine Below.setCell ?_ (by first | omega | (simp; omega) | (simp; done)) _) | (refine kept_trans ?_ (by with_reducible assumption)))
      clear hg1
      go_wp2_with fail
      refine (sready_val H2.out p k _ (H.out.kept hB1) hm hq).mono ?_
      rintro e w2 ⟨rfl, hg2⟩
      have hB : Below w.heap.size w w2 := kept_trans hB1 hg2
      clear hg2 hB1
      go_wp2_with fail
      refine (slaid_any l p k _ (H.out.kept hB) hm).mono ?_
      rintro e w3 ⟨g, rfl, -, ho, hb⟩
      have HO := Lib.hid ho
      clear ho
      go_wp2
      go_ret2
      exact ⟨g, rfl, ow_mono HO.out hB.size, by repeat' (first | (with_reducible exact Below.refl _ _) | (with_reducible assumption) | (with_reducible refine kept_alloc ?_ _) | (with_reducible refine kept_drewN ?_ _) | (with_reducible refine Below.drew ?_) | (with_reducible refine Below.setCell ?_ (by first | omega | (simp; omega) | (simp; done)) _) | (refine kept_trans ?_ (by with_reducible assumption)))⟩
    · have H1 := Lib.hid h1
      have H2 := Lib.hid h2
      obtain ⟨h3, h4⟩ := plc_lt h1
      have HQ := Lib.hid (rdy_lies h2).2
      have H3 := Lib.hid h3
      have H4 := Lib.hid h4
      have e2 : wrL l q v = l.set (plc l q) ⟨q, v⟩ ∧ wrE l q = 0 := by simp [wrL, wrE, h1, h2]
      rw [e2.1, e2.2]
      clear h1 h2 h3 h4 e2
      unfold RetSE
      rw [List.length_set]
      generalize plc l q = i at *
      go_enter Try.func9, Try.ntmps9
      go_wp2_with fail
      refine (slies_val H1.out p k _ (H.out.kept (by repeat' (first | (with_reducible exact Below.refl _ _) | (with_reducible assumption) | (with_reducible refine kept_alloc ?_ _) | (with_reducible refine kept_drewN ?_ _) | (with_reducible refine Below.drew ?_) | (with_reducible refine Below.setCell ?_ (by first | omega | (simp; omega) | (simp; done)) _) | (refine kept_trans ?_ (by with_reducible assumption))))) hm).mono ?_
      rintro e w1 ⟨rfl, hg1⟩
      have hcs : CellsAt w1 [(w.heap.size, 0, .int .i64 v)] := cells_keep hg1 (by (simp only [CellsAt]; (repeat' (first | exact trivial | (refine And.intro ?_ ?_))); all_goals (first | (focus ((try simp only [World.size_setCell, World.size_alloc]); omega)) | (repeat (first | rfl | assumption | (refine (World.cell?_alloc_past _ _ _ ?_).trans ?_; focus ((try simp only [World.size_setCell, World.size_alloc]); omega)) | (refine (World.cell?_alloc_at _ _ _ _ ?_).trans ?_; focus ((try simp only [World.size_setCell, World.size_alloc]); done)) | (refine (World.cell?_setCell_other _ _ _ _ ?_).trans ?_; focus (simp; done)) | (refine (World.cell?_setCell_other _ _ _ _ ?_).trans ?_; focus (simp; omega)) | (refine World.cell?_setCell_same' _ _ _ ?_; focus (simp; done)))))))
      have hB1 : Below w.heap.size w w1 := by repeat' (first | (with_reducible exact Below.refl _ _) | (with_reducible assumption) | (with_reducible refine kept_alloc ?_ _) | (with_reducible refine kept_drewN ?_ _) | (with_reducible refine Below.drew ?_) | (with_reducible refine Below.setCell ?_ (by first | omega | (simp; omega) | (simp; done)) _) | (refine kept_trans ?_ (by with_reducible assumption)))
      clear hg1
      go_wp2_with fail
      refine (sready_val H2.out p k _ (H.out.kept hB1) hm hq).mono ?_
      rintro e w2 ⟨rfl, hg2⟩
      have hcs := cells_keep hg2 hcs
      have hB : Below w.heap.size w w2 := kept_trans hB1 hg2
      clear hg2 hB1
      have hPk := Lib.hid (write1_pokes v w.heap.size w2 hcs.1.1 hcs.1.2)
      clear hcs
      go_wp2_with fail
      refine (schanged_any l q i _ _ _ p k _ write1_enters (H.out.kept hB) hm hq H4.out H3.out hPk.out).mono ?_
      rintro e w3 ⟨g, rfl, -, ho, hb⟩
      rw [HQ.out, List.length_set] at ho
      rw [List.length_set]
      have HO := Lib.hid ho
      clear ho
      go_wp2
      go_ret2
      exact ⟨g, rfl, ow_mono HO.out hB.size, by repeat' (first | (with_reducible exact Below.refl _ _) | (with_reducible assumption) | (with_reducible refine kept_alloc ?_ _) | (with_reducible refine kept_drewN ?_ _) | (with_reducible refine Below.drew ?_) | (with_reducible refine Below.setCell ?_ (by first | omega | (simp; omega) | (simp; done)) _) | (refine kept_trans ?_ (by with_reducible assumption)))⟩

set_option maxHeartbeats 2000000 in
theorem srelease_any (l : List Slo) (q : Int) (p : Option Addr) (k : Nat) (w : World) (hl : Sl w 2 Slo.cells l (.slice p l.length k)) (hm : l.length ≤ 1000) (hq : In64 q) :
    Calls Try.prog 13 #[.slice p l.length k, .int .i64 q] w (RetSE w (rlL l q) (rlE l q)) := by
  have H := Lib.hid hl
  clear hl
  cases h1 : rdyB l q
  · have H1 := Lib.hid h1
    have e1 : rlB l q = false := by simp [rlB, h1]
    have e2 : rlL l q = l ∧ rlE l q = 40 := by simp [rlL, rlE, e1]
    rw [e2.1, e2.2]
    clear h1 e1 e2
    go_enter Try.func13, Try.ntmps13
    go_wp2_with fail
    refine (sready_val H1.out p k _ (H.out.kept (by repeat' (first | (with_reducible exact Below.refl _ _) | (with_reducible assumption) | (with_reducible refine kept_alloc ?_ _) | (with_reducible refine kept_drewN ?_ _) | (with_reducible refine Below.drew ?_) | (with_reducible refine Below.setCell ?_ (by first | omega | (simp; omega) | (simp; done)) _) | (refine kept_trans ?_ (by with_reducible assumption))))) hm hq).mono ?_
    rintro e w1 ⟨rfl, hg1⟩
    have hcs : CellsAt w1 [(w.heap.size, 0, .slice p l.length k), (w.heap.size + 1, 0, .int .i64 q)] := cells_keep hg1 (by (simp only [CellsAt]; (repeat' (first | exact trivial | (refine And.intro ?_ ?_))); all_goals (first | (focus ((try simp only [World.size_setCell, World.size_alloc]); omega)) | (repeat (first | rfl | assumption | (refine (World.cell?_alloc_past _ _ _ ?_).trans ?_; focus ((try simp only [World.size_setCell, World.size_alloc]); omega)) | (refine (World.cell?_alloc_at _ _ _ _ ?_).trans ?_; focus ((try simp only [World.size_setCell, World.size_alloc]); done)) | (refine (World.cell?_setCell_other _ _ _ _ ?_).trans ?_; focus (simp; done)) | (refine (World.cell?_setCell_other _ _ _ _ ?_).trans ?_; focus (simp; omega)) | (refine World.cell?_setCell_same' _ _ _ ?_; focus (simp; done)))))))
    have hq0 := hcs.1.2; have hq1 := hcs.2.1.2; have hz0 := hcs.1.1; have hz1 := hcs.2.1.1
    have hB : Below w.heap.size w w1 := by repeat' (first | (with_reducible exact Below.refl _ _) | (with_reducible assumption) | (with_reducible refine kept_alloc ?_ _) | (with_reducible refine kept_drewN ?_ _) | (with_reducible refine Below.drew ?_) | (with_reducible refine Below.setCell ?_ (by first | omega | (simp; omega) | (simp; done)) _) | (refine kept_trans ?_ (by with_reducible assumption)))
    clear hg1
    go_wp2_with fail
    refine (slaid_any l p k _ (H.out.kept hB) hm).mono ?_
    rintro e w2 ⟨g, rfl, -, ho, hb⟩
    have HO := Lib.hid ho
    clear ho
    go_wp2
    go_ret2
    exact ⟨g, rfl, ow_mono HO.out hB.size, by repeat' (first | (with_reducible exact Below.refl _ _) | (with_reducible assumption) | (with_reducible refine kept_alloc ?_ _) | (with_reducible refine kept_drewN ?_ _) | (with_reducible refine Below.drew ?_) | (with_reducible refine Below.setCell ?_ (by first | omega | (simp; omega) | (simp; done)) _) | (refine kept_trans ?_ (by with_reducible assumption)))⟩
  · cases h5 : decide (1099511627776 < q)
    · have H1 := Lib.hid h1
      obtain ⟨h3, h4⟩ := plc_lt (rdy_lies h1).1
      have H3 := Lib.hid h3
      have H4 := Lib.hid h4
      have hqa : 0 ≤ q := (lies_iff.1 (rdy_lies h1).1).1
      have hqb : q ≤ 1099511627776 := by simpa using h5
      have e1 : rlB l q = true := by simp [rlB, h1, hqb]
      have e2 : rlL l q = l.set (plc l q) ⟨q + l.length, (gs l (plc l q)).vl⟩ ∧ rlE l q = 0 := by simp [rlL, rlE, e1]
      rw [e2.1, e2.2]
      clear h1 h3 h4 e1 e2
      unfold RetSE
      rw [List.length_set]
      generalize plc l q = i at *
      go_enter Try.func13, Try.ntmps13
      go_wp2_with fail
      refine (sready_val H1.out p k _ (H.out.kept (by repeat' (first | (with_reducible exact Below.refl _ _) | (with_reducible assumption) | (with_reducible refine kept_alloc ?_ _) | (with_reducible refine kept_drewN ?_ _) | (with_reducible refine Below.drew ?_) | (with_reducible refine Below.setCell ?_ (by first | omega | (simp; omega) | (simp; done)) _) | (refine kept_trans ?_ (by with_reducible assumption))))) hm hq).mono ?_
      rintro e w1 ⟨rfl, hg1⟩
      have hcs : CellsAt w1 [(w.heap.size, 0, .slice p l.length k), (w.heap.size + 1, 0, .int .i64 q)] := cells_keep hg1 (by (simp only [CellsAt]; (repeat' (first | exact trivial | (refine And.intro ?_ ?_))); all_goals (first | (focus ((try simp only [World.size_setCell, World.size_alloc]); omega)) | (repeat (first | rfl | assumption | (refine (World.cell?_alloc_past _ _ _ ?_).trans ?_; focus ((try simp only [World.size_setCell, World.size_alloc]); omega)) | (refine (World.cell?_alloc_at _ _ _ _ ?_).trans ?_; focus ((try simp only [World.size_setCell, World.size_alloc]); done)) | (refine (World.cell?_setCell_other _ _ _ _ ?_).trans ?_; focus (simp; done)) | (refine (World.cell?_setCell_other _ _ _ _ ?_).trans ?_; focus (simp; omega)) | (refine World.cell?_setCell_same' _ _ _ ?_; focus (simp; done)))))))
      have hq0 := hcs.1.2; have hq1 := hcs.2.1.2; have hz0 := hcs.1.1; have hz1 := hcs.2.1.1
      have hB : Below w.heap.size w w1 := by repeat' (first | (with_reducible exact Below.refl _ _) | (with_reducible assumption) | (with_reducible refine kept_alloc ?_ _) | (with_reducible refine kept_drewN ?_ _) | (with_reducible refine Below.drew ?_) | (with_reducible refine Below.setCell ?_ (by first | omega | (simp; omega) | (simp; done)) _) | (refine kept_trans ?_ (by with_reducible assumption)))
      clear hg1
      have hPk := Lib.hid (release1_pokes q l.length (w.heap.size + 1) w.heap.size p k w1 ⟨hqa, hqb⟩ hm hcs.2.1.1 hcs.1.1 hcs.2.1.2 hcs.1.2)
      go_wp2_with fail
      refine (schanged_any l q i _ _ _ p k _ release1_enters (H.out.kept hB) hm hq H4.out H3.out hPk.out).mono ?_
      rintro e w3 ⟨g, rfl, -, ho, hb⟩
      rw [List.length_set] at ho
      rw [List.length_set]
      have HO := Lib.hid ho
      clear ho
      go_wp2
      go_ret2
      exact ⟨g, rfl, ow_mono HO.out hB.size, by repeat' (first | (with_reducible exact Below.refl _ _) | (with_reducible assumption) | (with_reducible refine kept_alloc ?_ _) | (with_reducible refine kept_drewN ?_ _) | (with_reducible refine Below.drew ?_) | (with_reducible refine Below.setCell ?_ (by first | omega | (simp; omega) | (simp; done)) _) | (refine kept_trans ?_ (by with_reducible assumption)))⟩
    · have H1 := Lib.hid h1
      have hq1 : 1099511627776 < q := by simpa using h5
      have e1 : rlB l q = false := by simp [rlB, h1]; omega
      have e2 : rlL l q = l ∧ rlE l q = 40 := by simp [rlL, rlE, e1]
      rw [e2.1, e2.2]
      clear h1 e1 e2
      go_enter Try.func13, Try.ntmps13
      go_wp2_with fail
      refine (sready_val H1.out p k _ (H.out.kept (by repeat' (first | (with_reducible exact Below.refl _ _) | (with_reducible assumption) | (with_reducible refine kept_alloc ?_ _) | (with_reducible refine kept_drewN ?_ _) | (with_reducible refine Below.drew ?_) | (with_reducible refine Below.setCell ?_ (by first | omega | (simp; omega) | (simp; done)) _) | (refine kept_trans ?_ (by with_reducible assumption))))) hm hq).mono ?_
      rintro e w1 ⟨rfl, hg1⟩
      have hcs : CellsAt w1 [(w.heap.size, 0, .slice p l.length k), (w.heap.size + 1, 0, .int .i64 q)] := cells_keep hg1 (by (simp only [CellsAt]; (repeat' (first | exact trivial | (refine And.intro ?_ ?_))); all_goals (first | (focus ((try simp only [World.size_setCell, World.size_alloc]); omega)) | (repeat (first | rfl | assumption | (refine (World.cell?_alloc_past _ _ _ ?_).trans ?_; focus ((try simp only [World.size_setCell, World.size_alloc]); omega)) | (refine (World.cell?_alloc_at _ _ _ _ ?_).trans ?_; focus ((try simp only [World.size_setCell, World.size_alloc]); done)) | (refine (World.cell?_setCell_other _ _ _ _ ?_).trans ?_; focus (simp; done)) | (refine (World.cell?_setCell_other _ _ _ _ ?_).trans ?_; focus (simp; omega)) | (refine World.cell?_setCell_same' _ _ _ ?_; focus (simp; done)))))))
      have hq0 := hcs.1.2; have hq1 := hcs.2.1.2; have hz0 := hcs.1.1; have hz1 := hcs.2.1.1
      have hB : Below w.heap.size w w1 := by repeat' (first | (with_reducible exact Below.refl _ _) | (with_reducible assumption) | (with_reducible refine kept_alloc ?_ _) | (with_reducible refine kept_drewN ?_ _) | (with_reducible refine Below.drew ?_) | (with_reducible refine Below.setCell ?_ (by first | omega | (simp; omega) | (simp; done)) _) | (refine kept_trans ?_ (by with_reducible assumption)))
      clear hg1
      go_wp2_with fail
      refine (slaid_any l p k _ (H.out.kept hB) hm).mono ?_
      rintro e w2 ⟨g, rfl, -, ho, hb⟩
      have HO := Lib.hid ho
      clear ho
      go_wp2
      go_ret2
      exact ⟨g, rfl, ow_mono HO.out hB.size, by repeat' (first | (with_reducible exact Below.refl _ _) | (with_reducible assumption) | (with_reducible refine kept_alloc ?_ _) | (with_reducible refine kept_drewN ?_ _) | (with_reducible refine Below.drew ?_) | (with_reducible refine Below.setCell ?_ (by first | omega | (simp; omega) | (simp; done)) _) | (refine kept_trans ?_ (by with_reducible assumption)))⟩
end Go.Proofs.Ytbfmnlniabldbaa
