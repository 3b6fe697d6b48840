/- Texts merged: EqsQ, SlotGQ, SlotHQ, FabSQ, FlQ, WordFQ, WordGQ, WayFQ, SendFQ, StInQ, TreQ, FabRQ, AcAQ, EngGQ. -/
import Derived.Test.YtjbcfjfnobklkaaGreatZb3
import Derived.Test.YtjbcfjfnobklkaaGreatZb4
import Derived.Laws.StructEq
import Derived.Test.YtjbcfjfnobklkaaGreatZb5
import Derived.Test.YtjbcfjfnobklkaaGreatZb7
/- '==' on structs of the api, field by field: entries, configurations, words. Written by tools/eqs.py. -/
namespace Go.Proofs.YtjbcfjfnobklkaaGreat
set_option linter.unusedVariables false
set_option linter.unusedSimpArgs false
open Go.ChangeShapes Go.WideShapes Go.ChangeAt Go.RowKit
/-- A word. -/
structure Wo3 where
  hd : Int
  tl : Int
  md : Int
instance enEq : DecidableEq En := fun a b => decidable_of_iff (a.th = b.th ∧ a.ki = b.ki ∧ a.va = b.va ∧ a.re = b.re ∧ a.go = b.go) (by cases a; cases b; simp)
set_option maxHeartbeats 1000000 in
theorem en_equal (a b : En) (w : World) : (Op.equal 60 (.agg #[.int .i64 a.th, .int .i64 a.ki, .int .i64 a.va, .int .i64 a.re, .int .i64 a.go]) (.agg #[.int .i64 b.th, .int .i64 b.ki, .int .i64 b.va, .int .i64 b.re, .int .i64 b.go])).run Tryz.prog w = .ok (decide (a = b)) w := by
  have hu := Tryz.underlying60
  have h3 := Tryz.underlying3
  have h4 := Tryz.underlying4
  have hp : Tryz.prog.stoodInHeld 60 = false := by kernel_rfl
  have hc : Tryz.prog.info? 3 = _ := rfl
  have hd : Tryz.prog.info? 4 = _ := rfl
  have e : decide (a = b) = (a.th == b.th && ((a.ki == b.ki && ((a.va == b.va && ((a.re == b.re && (a.go == b.go)))))))) := by
    rw [Bool.eq_iff_iff]; cases a; cases b; simp [and_assoc]
  rw [e]
  unfold Op.equal Op.maxDepth
  rw [run_equalIn_struct w 9999 _ _ _ (by unfold Program.fieldsOf; rw [hu]) hp]
  unfold Program.fieldsOf
  rw [hu]
  cases c0 : (a.th == b.th)
  · simp [Op.eqFields, part, isAgg, run_underlying h3, run_underlying h4, run_equalIn_int _ _ _ _ _ _ _ h3, run_equalIn_bool _ _ _ _ _ h4, c0]
  cases c1 : (a.ki == b.ki)
  · simp [Op.eqFields, part, isAgg, run_underlying h3, run_underlying h4, run_equalIn_int _ _ _ _ _ _ _ h3, run_equalIn_bool _ _ _ _ _ h4, c0, c1]
  cases c2 : (a.va == b.va)
  · simp [Op.eqFields, part, isAgg, run_underlying h3, run_underlying h4, run_equalIn_int _ _ _ _ _ _ _ h3, run_equalIn_bool _ _ _ _ _ h4, c0, c1, c2]
  cases c3 : (a.re == b.re)
  · simp [Op.eqFields, part, isAgg, run_underlying h3, run_underlying h4, run_equalIn_int _ _ _ _ _ _ _ h3, run_equalIn_bool _ _ _ _ _ h4, c0, c1, c2, c3]
  cases c4 : (a.go == b.go)
  · simp [Op.eqFields, part, isAgg, run_underlying h3, run_underlying h4, run_equalIn_int _ _ _ _ _ _ _ h3, run_equalIn_bool _ _ _ _ _ h4, c0, c1, c2, c3, c4]
  simp [Op.eqFields, part, isAgg, run_underlying h3, run_underlying h4, run_equalIn_int _ _ _ _ _ _ _ h3, run_equalIn_bool _ _ _ _ _ h4, c0, c1, c2, c3, c4]
theorem en_neq (a b : En) (w : World) : (binOp .neq 60 (.agg #[.int .i64 a.th, .int .i64 a.ki, .int .i64 a.va, .int .i64 a.re, .int .i64 a.go]) (.agg #[.int .i64 b.th, .int .i64 b.ki, .int .i64 b.va, .int .i64 b.re, .int .i64 b.go])).run Tryz.prog w = .ok (.bool (!decide (a = b))) w := by
  have h := en_equal a b w
  have hu := Tryz.underlying60
  simp [binOp, h, run_underlying hu, Result.andThen]
theorem en_eql (a b : En) (w : World) : (binOp .eql 60 (.agg #[.int .i64 a.th, .int .i64 a.ki, .int .i64 a.va, .int .i64 a.re, .int .i64 a.go]) (.agg #[.int .i64 b.th, .int .i64 b.ki, .int .i64 b.va, .int .i64 b.re, .int .i64 b.go])).run Tryz.prog w = .ok (.bool (decide (a = b))) w := by
  have h := en_equal a b w
  have hu := Tryz.underlying60
  simp [binOp, h, run_underlying hu, Result.andThen]
instance cfEq : DecidableEq Cf := fun a b => decidable_of_iff (a.lg = b.lg ∧ a.th = b.th ∧ a.po = b.po ∧ a.wt = b.wt ∧ a.sp = b.sp ∧ a.yi = b.yi ∧ a.si = b.si) (by cases a; cases b; simp)
set_option maxHeartbeats 1000000 in
theorem cf_equal (a b : Cf) (w : World) : (Op.equal 23 (.agg #[.int .i64 a.lg, .int .i64 a.th, .int .i64 a.po, .int .i64 a.wt, .int .i64 a.sp, .int .i64 a.yi, .bool a.si]) (.agg #[.int .i64 b.lg, .int .i64 b.th, .int .i64 b.po, .int .i64 b.wt, .int .i64 b.sp, .int .i64 b.yi, .bool b.si])).run Tryz.prog w = .ok (decide (a = b)) w := by
  have hu := Tryz.underlying23
  have h3 := Tryz.underlying3
  have h4 := Tryz.underlying4
  have hp : Tryz.prog.stoodInHeld 23 = false := by kernel_rfl
  have hc : Tryz.prog.info? 3 = _ := rfl
  have hd : Tryz.prog.info? 4 = _ := rfl
  have e : decide (a = b) = (a.lg == b.lg && ((a.th == b.th && ((a.po == b.po && ((a.wt == b.wt && ((a.sp == b.sp && ((a.yi == b.yi && (a.si == b.si)))))))))))) := by
    rw [Bool.eq_iff_iff]; cases a; cases b; simp [and_assoc]
  rw [e]
  unfold Op.equal Op.maxDepth
  rw [run_equalIn_struct w 9999 _ _ _ (by unfold Program.fieldsOf; rw [hu]) hp]
  unfold Program.fieldsOf
  rw [hu]
  cases c0 : (a.lg == b.lg)
  · simp [Op.eqFields, part, isAgg, run_underlying h3, run_underlying h4, run_equalIn_int _ _ _ _ _ _ _ h3, run_equalIn_bool _ _ _ _ _ h4, c0]
  cases c1 : (a.th == b.th)
  · simp [Op.eqFields, part, isAgg, run_underlying h3, run_underlying h4, run_equalIn_int _ _ _ _ _ _ _ h3, run_equalIn_bool _ _ _ _ _ h4, c0, c1]
  cases c2 : (a.po == b.po)
  · simp [Op.eqFields, part, isAgg, run_underlying h3, run_underlying h4, run_equalIn_int _ _ _ _ _ _ _ h3, run_equalIn_bool _ _ _ _ _ h4, c0, c1, c2]
  cases c3 : (a.wt == b.wt)
  · simp [Op.eqFields, part, isAgg, run_underlying h3, run_underlying h4, run_equalIn_int _ _ _ _ _ _ _ h3, run_equalIn_bool _ _ _ _ _ h4, c0, c1, c2, c3]
  cases c4 : (a.sp == b.sp)
  · simp [Op.eqFields, part, isAgg, run_underlying h3, run_underlying h4, run_equalIn_int _ _ _ _ _ _ _ h3, run_equalIn_bool _ _ _ _ _ h4, c0, c1, c2, c3, c4]
  cases c5 : (a.yi == b.yi)
  · simp [Op.eqFields, part, isAgg, run_underlying h3, run_underlying h4, run_equalIn_int _ _ _ _ _ _ _ h3, run_equalIn_bool _ _ _ _ _ h4, c0, c1, c2, c3, c4, c5]
  cases c6 : (a.si == b.si)
  · simp [Op.eqFields, part, isAgg, run_underlying h3, run_underlying h4, run_equalIn_int _ _ _ _ _ _ _ h3, run_equalIn_bool _ _ _ _ _ h4, c0, c1, c2, c3, c4, c5, c6]
  simp [Op.eqFields, part, isAgg, run_underlying h3, run_underlying h4, run_equalIn_int _ _ _ _ _ _ _ h3, run_equalIn_bool _ _ _ _ _ h4, c0, c1, c2, c3, c4, c5, c6]
theorem cf_eql (a b : Cf) (w : World) : (binOp .eql 23 (.agg #[.int .i64 a.lg, .int .i64 a.th, .int .i64 a.po, .int .i64 a.wt, .int .i64 a.sp, .int .i64 a.yi, .bool a.si]) (.agg #[.int .i64 b.lg, .int .i64 b.th, .int .i64 b.po, .int .i64 b.wt, .int .i64 b.sp, .int .i64 b.yi, .bool b.si])).run Tryz.prog w = .ok (.bool (decide (a = b))) w := by
  have h := cf_equal a b w
  have hu := Tryz.underlying23
  simp [binOp, h, run_underlying hu, Result.andThen]
instance woEq : DecidableEq Wo3 := fun a b => decidable_of_iff (a.hd = b.hd ∧ a.tl = b.tl ∧ a.md = b.md) (by cases a; cases b; simp)
set_option maxHeartbeats 1000000 in
theorem wo_equal (a b : Wo3) (w : World) : (Op.equal 25 (.agg #[.int .i64 a.hd, .int .i64 a.tl, .int .i64 a.md]) (.agg #[.int .i64 b.hd, .int .i64 b.tl, .int .i64 b.md])).run Tryz.prog w = .ok (decide (a = b)) w := by
  have hu := Tryz.underlying25
  have h3 := Tryz.underlying3
  have h4 := Tryz.underlying4
  have hp : Tryz.prog.stoodInHeld 25 = false := by kernel_rfl
  have hc : Tryz.prog.info? 3 = _ := rfl
  have hd : Tryz.prog.info? 4 = _ := rfl
  have e : decide (a = b) = (a.hd == b.hd && ((a.tl == b.tl && (a.md == b.md)))) := by
    rw [Bool.eq_iff_iff]; cases a; cases b; simp [and_assoc]
  rw [e]
  unfold Op.equal Op.maxDepth
  rw [run_equalIn_struct w 9999 _ _ _ (by unfold Program.fieldsOf; rw [hu]) hp]
  unfold Program.fieldsOf
  rw [hu]
  cases c0 : (a.hd == b.hd)
  · simp [Op.eqFields, part, isAgg, run_underlying h3, run_underlying h4, run_equalIn_int _ _ _ _ _ _ _ h3, run_equalIn_bool _ _ _ _ _ h4, c0]
  cases c1 : (a.tl == b.tl)
  · simp [Op.eqFields, part, isAgg, run_underlying h3, run_underlying h4, run_equalIn_int _ _ _ _ _ _ _ h3, run_equalIn_bool _ _ _ _ _ h4, c0, c1]
  cases c2 : (a.md == b.md)
  · simp [Op.eqFields, part, isAgg, run_underlying h3, run_underlying h4, run_equalIn_int _ _ _ _ _ _ _ h3, run_equalIn_bool _ _ _ _ _ h4, c0, c1, c2]
  simp [Op.eqFields, part, isAgg, run_underlying h3, run_underlying h4, run_equalIn_int _ _ _ _ _ _ _ h3, run_equalIn_bool _ _ _ _ _ h4, c0, c1, c2]
theorem wo_neq (a b : Wo3) (w : World) : (binOp .neq 25 (.agg #[.int .i64 a.hd, .int .i64 a.tl, .int .i64 a.md]) (.agg #[.int .i64 b.hd, .int .i64 b.tl, .int .i64 b.md])).run Tryz.prog w = .ok (.bool (!decide (a = b))) w := by
  have h := wo_equal a b w
  have hu := Tryz.underlying25
  simp [binOp, h, run_underlying hu, Result.andThen]
theorem wo_eql (a b : Wo3) (w : World) : (binOp .eql 25 (.agg #[.int .i64 a.hd, .int .i64 a.tl, .int .i64 a.md]) (.agg #[.int .i64 b.hd, .int .i64 b.tl, .int .i64 b.md])).run Tryz.prog w = .ok (.bool (decide (a = b))) w := by
  have h := wo_equal a b w
  have hu := Tryz.underlying25
  simp [binOp, h, run_underlying hu, Result.andThen]
end Go.Proofs.YtjbcfjfnobklkaaGreat

/- Layer 9: whose turn it is; written, read, released. -/
namespace Go.Proofs.YtjbcfjfnobklkaaGreat
set_option linter.unusedVariables false
set_option linter.unusedSimpArgs false
open Go.ChangeShapes Go.WideShapes Go.ChangeAt Go.RowKit

theorem slo_field0 (a b : Int) (W : World) : (Instr.field 64 (.agg #[.int .i64 a, .int .i64 b]) 0).run Tryz.prog W = .ok (.int .i64 a) W := by kernel_rfl
theorem slo_field1 (a b : Int) (W : World) : (Instr.field 64 (.agg #[.int .i64 a, .int .i64 b]) 1).run Tryz.prog W = .ok (.int .i64 b) W := by kernel_rfl

theorem sready_any (l : List Slo) (q : Int) (p : Option Addr) (k : Nat) (w : World) (hl : Sl w 2 Slo.cells l (.slice p l.length k)) (hm : l.length ≤ 1000) (hq : In64 q) :
    Calls Tryz.prog 208 #[.slice p l.length k, .int .i64 q] w fun e w' => e = .returned (.bool (rdyB l q)) ∧ Kept w w' := by
  have H := Lib.hid hl
  unfold rdyB
  clear hl
  cases h1 : liesS l q
  · have H1 := Lib.hid h1
    clear h1
    go_enter Tryz.func208, Tryz.ntmps208
    go_wp2_with fail
    refine (slies_val H1.out p k _ H.out hm).mono ?_
    rintro e w1 ⟨rfl, hg1⟩
    go_wp2
    go_ret
    exact ⟨rfl, by repeat' (first | (with_reducible exact Below.refl _ _) | (with_reducible assumption) | (with_reducible refine kept_alloc ?_ _) | (with_reducible refine kept_drewN ?_ _) | (with_reducible refine Below.drew ?_) | (with_reducible refine Below.setCell ?_ (by first | omega | (simp; omega) | (simp; done)) _) | (refine kept_trans ?_ (by with_reducible assumption)))⟩
  · have H1 := Lib.hid h1
    obtain ⟨h2, h3⟩ := plc_lt h1
    have H2 := Lib.hid h2
    have H3 := Lib.hid h3
    have hf := fun W => slo_field0 (gs l (plc l q)).st (gs l (plc l q)).vl W
    clear h1 h2 h3
    generalize plc l q = i at *
    go_enter Tryz.func208, Tryz.ntmps208
    go_wp2_with fail
    refine (slies_val H1.out p k _ H.out hm).mono ?_
    rintro e w1 ⟨rfl, hg1⟩
    go_wp2_with fail
    refine (sat_any l q i p k _ (H.out.kept (by repeat' (first | (with_reducible exact Below.refl _ _) | (with_reducible assumption) | (with_reducible refine kept_alloc ?_ _) | (with_reducible refine kept_drewN ?_ _) | (with_reducible refine Below.drew ?_) | (with_reducible refine Below.setCell ?_ (by first | omega | (simp; omega) | (simp; done)) _) | (refine kept_trans ?_ (by with_reducible assumption))))) hm hq H3.out H2.out).mono ?_
    rintro e w2 ⟨rfl, hg2⟩
    go_wp2
    go_ret
    exact ⟨ret_bool (by simp), by repeat' (first | (with_reducible exact Below.refl _ _) | (with_reducible assumption) | (with_reducible refine kept_alloc ?_ _) | (with_reducible refine kept_drewN ?_ _) | (with_reducible refine Below.drew ?_) | (with_reducible refine Below.setCell ?_ (by first | omega | (simp; omega) | (simp; done)) _) | (refine kept_trans ?_ (by with_reducible assumption)))⟩
theorem sready_val {l : List Slo} {q : Int} {b : Bool} (hb : rdyB l q = b) (p : Option Addr) (k : Nat) (w : World) (hl : Sl w 2 Slo.cells l (.slice p l.length k)) (hm : l.length ≤ 1000) (hq : In64 q) :
    Calls Tryz.prog 208 #[.slice p l.length k, .int .i64 q] w fun e w' => e = .returned (.bool b) ∧ Kept w w' := hb ▸ sready_any l q p k w hl hm hq

set_option maxHeartbeats 1000000 in
theorem sread_any (l : List Slo) (q : Int) (p : Option Addr) (k : Nat) (w : World) (hl : Sl w 2 Slo.cells l (.slice p l.length k)) (hm : l.length ≤ 1000) (hq : In64 q) :
    Calls Tryz.prog 156 #[.slice p l.length k, .int .i64 q] w fun e w' => e = .returned (.tuple #[.int .i64 (rdV l q), .int .i64 (rdE l q)]) ∧ Kept w w' := by
  have H := Lib.hid hl
  unfold rdV rdE
  clear hl
  cases h1 : rdyB l q
  · have H1 := Lib.hid h1
    clear h1
    go_enter Tryz.func156, Tryz.ntmps156
    go_wp2_with fail
    refine (sready_val H1.out p k _ H.out hm hq).mono ?_
    rintro e w1 ⟨rfl, hg1⟩
    go_wp2
    go_ret2
    exact ⟨rfl, by repeat' (first | (with_reducible exact Below.refl _ _) | (with_reducible assumption) | (with_reducible refine kept_alloc ?_ _) | (with_reducible refine kept_drewN ?_ _) | (with_reducible refine Below.drew ?_) | (with_reducible refine Below.setCell ?_ (by first | omega | (simp; omega) | (simp; done)) _) | (refine kept_trans ?_ (by with_reducible assumption)))⟩
  · have H1 := Lib.hid h1
    obtain ⟨h2, h3⟩ := plc_lt (rdy_lies h1).1
    have H2 := Lib.hid h2
    have H3 := Lib.hid h3
    have hf := fun W => slo_field1 (gs l (plc l q)).st (gs l (plc l q)).vl W
    clear h1 h2 h3
    generalize plc l q = i at *
    go_enter Tryz.func156, Tryz.ntmps156
    go_wp2_with fail
    refine (sready_val H1.out p k _ H.out hm hq).mono ?_
    rintro e w1 ⟨rfl, hg1⟩
    go_wp2_with fail
    refine (sat_any l q i p k _ (H.out.kept (by repeat' (first | (with_reducible exact Below.refl _ _) | (with_reducible assumption) | (with_reducible refine kept_alloc ?_ _) | (with_reducible refine kept_drewN ?_ _) | (with_reducible refine Below.drew ?_) | (with_reducible refine Below.setCell ?_ (by first | omega | (simp; omega) | (simp; done)) _) | (refine kept_trans ?_ (by with_reducible assumption))))) hm hq H3.out H2.out).mono ?_
    rintro e w2 ⟨rfl, hg2⟩
    go_wp2
    go_ret2
    exact ⟨rfl, by repeat' (first | (with_reducible exact Below.refl _ _) | (with_reducible assumption) | (with_reducible refine kept_alloc ?_ _) | (with_reducible refine kept_drewN ?_ _) | (with_reducible refine Below.drew ?_) | (with_reducible refine Below.setCell ?_ (by first | omega | (simp; omega) | (simp; done)) _) | (refine kept_trans ?_ (by with_reducible assumption)))⟩
/-- What a call that hands back slots of its own, and an error, leaves. -/
def RetSE (w : World) (r : List Slo) (c : Int) (e : Ending) (w' : World) : Prop :=
  ∃ g, e = .returned (.tuple #[.slice (some ⟨g, 0, none⟩) r.length r.length, .int .i64 c]) ∧ Ow w' w.heap.size 64 2 Slo.cells r (.slice (some ⟨g, 0, none⟩) r.length r.length) ∧ Kept w w'
theorem write1_enters : ∀ args w, (callFunc 244 args).run Tryz.prog w = .ok (.enter 244 args) w := enters_of Tryz.func244 (by kernel_rfl) rfl
theorem release1_enters : ∀ args w, (callFunc 212 args).run Tryz.prog w = .ok (.enter 212 args) w := enters_of Tryz.func212 (by kernel_rfl) rfl

set_option maxHeartbeats 2000000 in
theorem swrite_any (l : List Slo) (q v : Int) (p : Option Addr) (k : Nat) (w : World) (hl : Sl w 2 Slo.cells l (.slice p l.length k)) (hm : l.length ≤ 1000) (hq : In64 q) :
    Calls Tryz.prog 230 #[.slice p l.length k, .int .i64 q, .int .i64 v] w (RetSE w (wrL l q v) (wrE l q)) := by
  have H := Lib.hid hl
  clear hl
  cases h1 : liesS l q
  · have H1 := Lib.hid h1
    have h2 : rdyB l q = false := by simp [rdyB, h1]
    have e2 : wrL l q v = l ∧ wrE l q = 40 := by simp [wrL, wrE, h1, h2]
    rw [e2.1, e2.2]
    clear h1 h2 e2
    go_enter Tryz.func230, Tryz.ntmps230
    go_wp2_with fail
    refine (slies_val H1.out p k _ (H.out.kept (by repeat' (first | (with_reducible exact Below.refl _ _) | (with_reducible assumption) | (with_reducible refine kept_alloc ?_ _) | (with_reducible refine kept_drewN ?_ _) | (with_reducible refine Below.drew ?_) | (with_reducible refine Below.setCell ?_ (by first | omega | (simp; omega) | (simp; done)) _) | (refine kept_trans ?_ (by with_reducible assumption))))) hm).mono ?_
    rintro e w1 ⟨rfl, hg1⟩
    have hB : Below w.heap.size w w1 := by repeat' (first | (with_reducible exact Below.refl _ _) | (with_reducible assumption) | (with_reducible refine kept_alloc ?_ _) | (with_reducible refine kept_drewN ?_ _) | (with_reducible refine Below.drew ?_) | (with_reducible refine Below.setCell ?_ (by first | omega | (simp; omega) | (simp; done)) _) | (refine kept_trans ?_ (by with_reducible assumption)))
    clear hg1
    go_wp2_with fail
    refine (slaid_any l p k _ (H.out.kept hB) hm).mono ?_
    rintro e w2 ⟨g, rfl, -, ho, hb⟩
    have HO := Lib.hid ho
    clear ho
    go_wp2
    go_ret2
    exact ⟨g, rfl, ow_mono HO.out hB.size, by repeat' (first | (with_reducible exact Below.refl _ _) | (with_reducible assumption) | (with_reducible refine kept_alloc ?_ _) | (with_reducible refine kept_drewN ?_ _) | (with_reducible refine Below.drew ?_) | (with_reducible refine Below.setCell ?_ (by first | omega | (simp; omega) | (simp; done)) _) | (refine kept_trans ?_ (by with_reducible assumption)))⟩
  · cases h2 : rdyB l q
    · have H1 := Lib.hid h1
      have H2 := Lib.hid h2
      have e2 : wrL l q v = l ∧ wrE l q = 30 := by simp [wrL, wrE, h1, h2]
      rw [e2.1, e2.2]
      clear h1 h2 e2
      go_enter Tryz.func230, Tryz.ntmps230
      go_wp2_with fail
      refine (slies_val H1.out p k _ (H.out.kept (by repeat' (first | (with_reducible exact Below.refl _ _) | (with_reducible assumption) | (with_reducible refine kept_alloc ?_ _) | (with_reducible refine kept_drewN ?_ _) | (with_reducible refine Below.drew ?_) | (with_reducible refine Below.setCell ?_ (by first | omega | (simp; omega) | (simp; done)) _) | (refine kept_trans ?_ (by with_reducible assumption))))) hm).mono ?_
      rintro e w1 ⟨rfl, hg1⟩
      have hB1 : Below w.heap.size w w1 := by repeat' (first | (with_reducible exact Below.refl _ _) | (with_reducible assumption) | (with_reducible refine kept_alloc ?_ _) | (with_reducible refine kept_drewN ?_ _) | (with_reducible refine Below.drew ?_) | (with_reducible refine Below.setCell ?_ (by first | omega | (simp; omega) | (simp; done)) _) | (refine kept_trans ?_ (by with_reducible assumption)))
      clear hg1
      go_wp2_with fail
      refine (sready_val H2.out p k _ (H.out.kept hB1) hm hq).mono ?_
      rintro e w2 ⟨rfl, hg2⟩
      have hB : Below w.heap.size w w2 := kept_trans hB1 hg2
      clear hg2 hB1
      go_wp2_with fail
      refine (slaid_any l p k _ (H.out.kept hB) hm).mono ?_
      rintro e w3 ⟨g, rfl, -, ho, hb⟩
      have HO := Lib.hid ho
      clear ho
      go_wp2
      go_ret2
      exact ⟨g, rfl, ow_mono HO.out hB.size, by repeat' (first | (with_reducible exact Below.refl _ _) | (with_reducible assumption) | (with_reducible refine kept_alloc ?_ _) | (with_reducible refine kept_drewN ?_ _) | (with_reducible refine Below.drew ?_) | (with_reducible refine Below.setCell ?_ (by first | omega | (simp; omega) | (simp; done)) _) | (refine kept_trans ?_ (by with_reducible assumption)))⟩
    · have H1 := Lib.hid h1
      have H2 := Lib.hid h2
      obtain ⟨h3, h4⟩ := plc_lt h1
      have HQ := Lib.hid (rdy_lies h2).2
      have H3 := Lib.hid h3
      have H4 := Lib.hid h4
      have e2 : wrL l q v = l.set (plc l q) ⟨q, v⟩ ∧ wrE l q = 0 := by simp [wrL, wrE, h1, h2]
      rw [e2.1, e2.2]
      clear h1 h2 h3 h4 e2
      unfold RetSE
      rw [List.length_set]
      generalize plc l q = i at *
      go_enter Tryz.func230, Tryz.ntmps230
      go_wp2_with fail
      refine (slies_val H1.out p k _ (H.out.kept (by repeat' (first | (with_reducible exact Below.refl _ _) | (with_reducible assumption) | (with_reducible refine kept_alloc ?_ _) | (with_reducible refine kept_drewN ?_ _) | (with_reducible refine Below.drew ?_) | (with_reducible refine Below.setCell ?_ (by first | omega | (simp; omega) | (simp; done)) _) | (refine kept_trans ?_ (by with_reducible assumption))))) hm).mono ?_
      rintro e w1 ⟨rfl, hg1⟩
      have hcs : CellsAt w1 [(w.heap.size, 0, .int .i64 v)] := cells_keep hg1 (by (simp only [CellsAt]; (repeat' (first | exact trivial | (refine And.intro ?_ ?_))); all_goals (first | (focus ((try simp only [World.size_setCell, World.size_alloc]); omega)) | (repeat (first | rfl | assumption | (refine (World.cell?_alloc_past _ _ _ ?_).trans ?_; focus ((try simp only [World.size_setCell, World.size_alloc]); omega)) | (refine (World.cell?_alloc_at _ _ _ _ ?_).trans ?_; focus ((try simp only [World.size_setCell, World.size_alloc]); done)) | (refine (World.cell?_setCell_other _ _ _ _ ?_).trans ?_; focus (simp; done)) | (refine (World.cell?_setCell_other _ _ _ _ ?_).trans ?_; focus (simp; omega)) | (refine World.cell?_setCell_same' _ _ _ ?_; focus (simp; done)))))))
      have hB1 : Below w.heap.size w w1 := by repeat' (first | (with_reducible exact Below.refl _ _) | (with_reducible assumption) | (with_reducible refine kept_alloc ?_ _) | (with_reducible refine kept_drewN ?_ _) | (with_reducible refine Below.drew ?_) | (with_reducible refine Below.setCell ?_ (by first | omega | (simp; omega) | (simp; done)) _) | (refine kept_trans ?_ (by with_reducible assumption)))
      clear hg1
      go_wp2_with fail
      refine (sready_val H2.out p k _ (H.out.kept hB1) hm hq).mono ?_
      rintro e w2 ⟨rfl, hg2⟩
      have hcs := cells_keep hg2 hcs
      have hB : Below w.heap.size w w2 := kept_trans hB1 hg2
      clear hg2 hB1
      have hPk := Lib.hid (write1_pokes v w.heap.size w2 hcs.1.1 hcs.1.2)
      clear hcs
      go_wp2_with fail
      refine (schanged_any l q i _ _ _ p k _ write1_enters (H.out.kept hB) hm hq H4.out H3.out hPk.out).mono ?_
      rintro e w3 ⟨g, rfl, -, ho, hb⟩
      rw [HQ.out, List.length_set] at ho
      rw [List.length_set]
      have HO := Lib.hid ho
      clear ho
      go_wp2
      go_ret2
      exact ⟨g, rfl, ow_mono HO.out hB.size, by repeat' (first | (with_reducible exact Below.refl _ _) | (with_reducible assumption) | (with_reducible refine kept_alloc ?_ _) | (with_reducible refine kept_drewN ?_ _) | (with_reducible refine Below.drew ?_) | (with_reducible refine Below.setCell ?_ (by first | omega | (simp; omega) | (simp; done)) _) | (refine kept_trans ?_ (by with_reducible assumption)))⟩

set_option maxHeartbeats 2000000 in
theorem srelease_any (l : List Slo) (q : Int) (p : Option Addr) (k : Nat) (w : World) (hl : Sl w 2 Slo.cells l (.slice p l.length k)) (hm : l.length ≤ 1000) (hq : In64 q) :
    Calls Tryz.prog 157 #[.slice p l.length k, .int .i64 q] w (RetSE w (rlL l q) (rlE l q)) := by
  have H := Lib.hid hl
  clear hl
  cases h1 : rdyB l q
  · have H1 := Lib.hid h1
    have e1 : rlB l q = false := by simp [rlB, h1]
    have e2 : rlL l q = l ∧ rlE l q = 40 := by simp [rlL, rlE, e1]
    rw [e2.1, e2.2]
    clear h1 e1 e2
    go_enter Tryz.func157, Tryz.ntmps157
    go_wp2_with fail
    refine (sready_val H1.out p k _ (H.out.kept (by repeat' (first | (with_reducible exact Below.refl _ _) | (with_reducible assumption) | (with_reducible refine kept_alloc ?_ _) | (with_reducible refine kept_drewN ?_ _) | (with_reducible refine Below.drew ?_) | (with_reducible refine Below.setCell ?_ (by first | omega | (simp; omega) | (simp; done)) _) | (refine kept_trans ?_ (by with_reducible assumption))))) hm hq).mono ?_
    rintro e w1 ⟨rfl, hg1⟩
    have hcs : CellsAt w1 [(w.heap.size, 0, .slice p l.length k), (w.heap.size + 1, 0, .int .i64 q)] := cells_keep hg1 (by (simp only [CellsAt]; (repeat' (first | exact trivial | (refine And.intro ?_ ?_))); all_goals (first | (focus ((try simp only [World.size_setCell, World.size_alloc]); omega)) | (repeat (first | rfl | assumption | (refine (World.cell?_alloc_past _ _ _ ?_).trans ?_; focus ((try simp only [World.size_setCell, World.size_alloc]); omega)) | (refine (World.cell?_alloc_at _ _ _ _ ?_).trans ?_; focus ((try simp only [World.size_setCell, World.size_alloc]); done)) | (refine (World.cell?_setCell_other _ _ _ _ ?_).trans ?_; focus (simp; done)) | (refine (World.cell?_setCell_other _ _ _ _ ?_).trans ?_; focus (simp; omega)) | (refine World.cell?_setCell_same' _ _ _ ?_; focus (simp; done)))))))
    have hq0 := hcs.1.2; have hq1 := hcs.2.1.2; have hz0 := hcs.1.1; have hz1 := hcs.2.1.1
    have hB : Below w.heap.size w w1 := by repeat' (first | (with_reducible exact Below.refl _ _) | (with_reducible assumption) | (with_reducible refine kept_alloc ?_ _) | (with_reducible refine kept_drewN ?_ _) | (with_reducible refine Below.drew ?_) | (with_reducible refine Below.setCell ?_ (by first | omega | (simp; omega) | (simp; done)) _) | (refine kept_trans ?_ (by with_reducible assumption)))
    clear hg1
    go_wp2_with fail
    refine (slaid_any l p k _ (H.out.kept hB) hm).mono ?_
    rintro e w2 ⟨g, rfl, -, ho, hb⟩
    have HO := Lib.hid ho
    clear ho
    go_wp2
    go_ret2
    exact ⟨g, rfl, ow_mono HO.out hB.size, by repeat' (first | (with_reducible exact Below.refl _ _) | (with_reducible assumption) | (with_reducible refine kept_alloc ?_ _) | (with_reducible refine kept_drewN ?_ _) | (with_reducible refine Below.drew ?_) | (with_reducible refine Below.setCell ?_ (by first | omega | (simp; omega) | (simp; done)) _) | (refine kept_trans ?_ (by with_reducible assumption)))⟩
  · cases h5 : decide (1099511627776 < q)
    · have H1 := Lib.hid h1
      obtain ⟨h3, h4⟩ := plc_lt (rdy_lies h1).1
      have H3 := Lib.hid h3
      have H4 := Lib.hid h4
      have hqa : 0 ≤ q := (lies_iff.1 (rdy_lies h1).1).1
      have hqb : q ≤ 1099511627776 := by simpa using h5
      have e1 : rlB l q = true := by simp [rlB, h1, hqb]
      have e2 : rlL l q = l.set (plc l q) ⟨q + l.length, (gs l (plc l q)).vl⟩ ∧ rlE l q = 0 := by simp [rlL, rlE, e1]
      rw [e2.1, e2.2]
      clear h1 h3 h4 e1 e2
      unfold RetSE
      rw [List.length_set]
      generalize plc l q = i at *
      go_enter Tryz.func157, Tryz.ntmps157
      go_wp2_with fail
      refine (sready_val H1.out p k _ (H.out.kept (by repeat' (first | (with_reducible exact Below.refl _ _) | (with_reducible assumption) | (with_reducible refine kept_alloc ?_ _) | (with_reducible refine kept_drewN ?_ _) | (with_reducible refine Below.drew ?_) | (with_reducible refine Below.setCell ?_ (by first | omega | (simp; omega) | (simp; done)) _) | (refine kept_trans ?_ (by with_reducible assumption))))) hm hq).mono ?_
      rintro e w1 ⟨rfl, hg1⟩
      have hcs : CellsAt w1 [(w.heap.size, 0, .slice p l.length k), (w.heap.size + 1, 0, .int .i64 q)] := cells_keep hg1 (by (simp only [CellsAt]; (repeat' (first | exact trivial | (refine And.intro ?_ ?_))); all_goals (first | (focus ((try simp only [World.size_setCell, World.size_alloc]); omega)) | (repeat (first | rfl | assumption | (refine (World.cell?_alloc_past _ _ _ ?_).trans ?_; focus ((try simp only [World.size_setCell, World.size_alloc]); omega)) | (refine (World.cell?_alloc_at _ _ _ _ ?_).trans ?_; focus ((try simp only [World.size_setCell, World.size_alloc]); done)) | (refine (World.cell?_setCell_other _ _ _ _ ?_).trans ?_; focus (simp; done)) | (refine (World.cell?_setCell_other _ _ _ _ ?_).trans ?_; focus (simp; omega)) | (refine World.cell?_setCell_same' _ _ _ ?_; focus (simp; done)))))))
      have hq0 := hcs.1.2; have hq1 := hcs.2.1.2; have hz0 := hcs.1.1; have hz1 := hcs.2.1.1
      have hB : Below w.heap.size w w1 := by repeat' (first | (with_reducible exact Below.refl _ _) | (with_reducible assumption) | (with_reducible refine kept_alloc ?_ _) | (with_reducible refine kept_drewN ?_ _) | (with_reducible refine Below.drew ?_) | (with_reducible refine Below.setCell ?_ (by first | omega | (simp; omega) | (simp; done)) _) | (refine kept_trans ?_ (by with_reducible assumption)))
      clear hg1
      have hPk := Lib.hid (release1_pokes q l.length (w.heap.size + 1) w.heap.size p k w1 ⟨hqa, hqb⟩ hm hcs.2.1.1 hcs.1.1 hcs.2.1.2 hcs.1.2)
      go_wp2_with fail
      refine (schanged_any l q i _ _ _ p k _ release1_enters (H.out.kept hB) hm hq H4.out H3.out hPk.out).mono ?_
      rintro e w3 ⟨g, rfl, -, ho, hb⟩
      rw [List.length_set] at ho
      rw [List.length_set]
      have HO := Lib.hid ho
      clear ho
      go_wp2
      go_ret2
      exact ⟨g, rfl, ow_mono HO.out hB.size, by repeat' (first | (with_reducible exact Below.refl _ _) | (with_reducible assumption) | (with_reducible refine kept_alloc ?_ _) | (with_reducible refine kept_drewN ?_ _) | (with_reducible refine Below.drew ?_) | (with_reducible refine Below.setCell ?_ (by first | omega | (simp; omega) | (simp; done)) _) | (refine kept_trans ?_ (by with_reducible assumption)))⟩
    · have H1 := Lib.hid h1
      have hq1 : 1099511627776 < q := by simpa using h5
      have e1 : rlB l q = false := by simp [rlB, h1]; omega
      have e2 : rlL l q = l ∧ rlE l q = 40 := by simp [rlL, rlE, e1]
      rw [e2.1, e2.2]
      clear h1 e1 e2
      go_enter Tryz.func157, Tryz.ntmps157
      go_wp2_with fail
      refine (sready_val H1.out p k _ (H.out.kept (by repeat' (first | (with_reducible exact Below.refl _ _) | (with_reducible assumption) | (with_reducible refine kept_alloc ?_ _) | (with_reducible refine kept_drewN ?_ _) | (with_reducible refine Below.drew ?_) | (with_reducible refine Below.setCell ?_ (by first | omega | (simp; omega) | (simp; done)) _) | (refine kept_trans ?_ (by with_reducible assumption))))) hm hq).mono ?_
      rintro e w1 ⟨rfl, hg1⟩
      have hcs : CellsAt w1 [(w.heap.size, 0, .slice p l.length k), (w.heap.size + 1, 0, .int .i64 q)] := cells_keep hg1 (by (simp only [CellsAt]; (repeat' (first | exact trivial | (refine And.intro ?_ ?_))); all_goals (first | (focus ((try simp only [World.size_setCell, World.size_alloc]); omega)) | (repeat (first | rfl | assumption | (refine (World.cell?_alloc_past _ _ _ ?_).trans ?_; focus ((try simp only [World.size_setCell, World.size_alloc]); omega)) | (refine (World.cell?_alloc_at _ _ _ _ ?_).trans ?_; focus ((try simp only [World.size_setCell, World.size_alloc]); done)) | (refine (World.cell?_setCell_other _ _ _ _ ?_).trans ?_; focus (simp; done)) | (refine (World.cell?_setCell_other _ _ _ _ ?_).trans ?_; focus (simp; omega)) | (refine World.cell?_setCell_same' _ _ _ ?_; focus (simp; done)))))))
      have hq0 := hcs.1.2; have hq1 := hcs.2.1.2; have hz0 := hcs.1.1; have hz1 := hcs.2.1.1
      have hB : Below w.heap.size w w1 := by repeat' (first | (with_reducible exact Below.refl _ _) | (with_reducible assumption) | (with_reducible refine kept_alloc ?_ _) | (with_reducible refine kept_drewN ?_ _) | (with_reducible refine Below.drew ?_) | (with_reducible refine Below.setCell ?_ (by first | omega | (simp; omega) | (simp; done)) _) | (refine kept_trans ?_ (by with_reducible assumption)))
      clear hg1
      go_wp2_with fail
      refine (slaid_any l p k _ (H.out.kept hB) hm).mono ?_
      rintro e w2 ⟨g, rfl, -, ho, hb⟩
      have HO := Lib.hid ho
      clear ho
      go_wp2
      go_ret2
      exact ⟨g, rfl, ow_mono HO.out hB.size, by repeat' (first | (with_reducible exact Below.refl _ _) | (with_reducible assumption) | (with_reducible refine kept_alloc ?_ _) | (with_reducible refine kept_drewN ?_ _) | (with_reducible refine Below.drew ?_) | (with_reducible refine Below.setCell ?_ (by first | omega | (simp; omega) | (simp; done)) _) | (refine kept_trans ?_ (by with_reducible assumption)))⟩
end Go.Proofs.YtjbcfjfnobklkaaGreat

/- Layer 9: the document's answers. -/
namespace Go.Proofs.YtjbcfjfnobklkaaGreat
set_option linter.unusedVariables false
set_option linter.unusedSimpArgs false
open Go.ChangeShapes Go.WideShapes Go.ChangeAt Go.RowKit

theorem slo_equal (a b : Slo) (w : World) : (Op.equal 64 (.agg #[.int .i64 a.st, .int .i64 a.vl]) (.agg #[.int .i64 b.st, .int .i64 b.vl])).run Tryz.prog w = .ok (decide (a = b)) w := by
  have hu := Tryz.underlying64
  have h3 := Tryz.underlying3
  have hp : Tryz.prog.stoodInHeld 64 = false := by kernel_rfl
  have hc : Tryz.prog.info? 3 = _ := rfl
  have e : decide (a = b) = (a.st == b.st && a.vl == b.vl) := by
    rw [Bool.eq_iff_iff]; cases a; cases b; simp
  rw [e]
  unfold Op.equal Op.maxDepth
  rw [run_equalIn_struct w 9999 _ _ _ (by unfold Program.fieldsOf; rw [hu]) hp]
  unfold Program.fieldsOf
  rw [hu]
  cases h : (a.st == b.st) <;> cases h2 : (a.vl == b.vl)
  all_goals simp [Op.eqFields, part, isAgg, run_underlying h3, run_equalIn_int _ _ _ _ _ _ _ h3, h, h2]
theorem slo_neq (a b : Slo) (w : World) : (binOp .neq 64 (.agg #[.int .i64 a.st, .int .i64 a.vl]) (.agg #[.int .i64 b.st, .int .i64 b.vl])).run Tryz.prog w = .ok (.bool (!decide (a = b))) w := by
  have h := slo_equal a b w
  have hu := Tryz.underlying64
  simp [binOp, h, run_underlying hu, Result.andThen]
theorem gs_take_eq {l m : List Slo} {j : Nat} (hL : l.length = m.length) (hj : j < l.length) (ht : l.take j = m.take j) (h : gs l j = gs m j) : l.take (j + 1) = m.take (j + 1) := by
  rw [gs_take hj, gs_take (by omega), ht, h]

set_option maxHeartbeats 1000000 in
theorem rssame_any (l m : List Slo) (p q : Option Addr) (k k' : Nat) (w : World) (hl : Sl w 2 Slo.cells l (.slice p l.length k)) (hm : Sl w 2 Slo.cells m (.slice q m.length k')) (hlm : l.length ≤ 1000) :
    Calls Tryz.prog 32 #[.slice p l.length k, .slice q m.length k'] w fun e w' => e = .returned (.bool (decide (l = m))) ∧ Kept w w' := by
  obtain ⟨_, _, e1, k1, _, _, hlc⟩ := hl.is
  obtain ⟨_, _, e2, k2, _, _, hmc⟩ := hm.is
  cases e1
  cases e2
  have HL := Lib.hid hl
  have HM := Lib.hid hm
  clear hl hm
  by_cases hlen : l.length = m.length
  · have hbe : ((l.length : Int) == (m.length : Int)) = true := by simp [hlen]
    have hbn : ((l.length : Int) != (m.length : Int)) = false := by simp [hlen]
    have hL := Lib.hid hlen
    clear hlen
    go_enter Tryz.func32, Tryz.ntmps32
    go_wp2
    go_loopw [5] (fun i wr => ∃ j : Nat, j ≤ l.length ∧ i = .int .i64 j ∧ l.take j = m.take j ∧ Below w.heap.size w wr) (fun i _ => l.length - (intOf i).toNat)
    case atStart => exact ⟨0, by omega, rfl, rfl, Below.refl _ _⟩
    case round =>
      obtain ⟨j, hj, rfl, ht, hB⟩ := hrel
      have hT := Lib.hid ht
      clear ht
      by_cases hlt : j < l.length
      · have hlt' : j < m.length := by rw [← hL.out]; exact hlt
        obtain ⟨b, o, rfl, hb, -⟩ := hlc (by intro h; subst h; simp at hlt)
        obtain ⟨b', o', rfl, hb', -⟩ := hmc (by intro h; subst h; simp at hlt')
        obtain ⟨c1, c2⟩ := ss_at (HL.out.kept hB) hlt
        obtain ⟨c3, c4⟩ := ss_at (HM.out.kept hB) hlt'
        clear hlc hmc
        have hbw : b < wr.heap.size := Nat.lt_of_lt_of_le hb hB.size
        have hbw' : b' < wr.heap.size := Nat.lt_of_lt_of_le hb' hB.size
        have hts := fun h => Lib.hid (gs_take_eq hL.out hlt hT.out h)
        have hne : Hid (gs l j ≠ gs m j → l ≠ m) := fun h h' => h (by subst h'; rfl)
        have hcmp := slo_neq (gs l j) (gs m j)
        generalize gs l j = x at *
        generalize gs m j = y at *
        have i1 : (0 : Int) ≤ (j : Int) := by omega
        have i2 : (j : Int) < (l.length : Int) := by omega
        have i3 : (j : Int) < (m.length : Int) := by omega
        cases hxy : decide (x = y)
        · have he : x ≠ y := by simpa using hxy
          rw [hxy] at hcmp
          simp only [Bool.not_false] at hcmp
          have hn := Lib.hid (hne.out he)
          clear hts hne he hxy
          go_wp2
          (refine wp_region_kept (w := w) [(b, o + j * 2, .int .i64 x.st), (b, o + j * 2 + 1, .int .i64 x.vl), (b', o' + j * 2, .int .i64 y.st), (b', o' + j * 2 + 1, .int .i64 y.vl)] (by kernel_rfl) (by kernel_rfl) (by repeat' (first | (with_reducible exact Below.refl _ _) | (with_reducible assumption) | (with_reducible refine kept_alloc ?_ _) | (with_reducible refine kept_drewN ?_ _) | (with_reducible refine Below.drew ?_) | (with_reducible refine Below.setCell ?_ (by first | omega | (simp; omega) | (simp; done)) _) | (refine kept_trans ?_ (by with_reducible assumption)))) (by first | (simp [CellsAt, *, World.cell?_alloc_past, World.cell?_alloc_at]; done) | (simp [CellsAt, *, World.cell?_alloc_past, World.cell?_alloc_at]; omega)) (fun hne => ?_); (have hq0 : ∀ xwd : Wd w [(b, o + j * 2, .int .i64 x.st), (b, o + j * 2 + 1, .int .i64 x.vl), (b', o' + j * 2, .int .i64 y.st), (b', o' + j * 2 + 1, .int .i64 y.vl)], xwd.at.cell? ⟨b, o + j * 2, none⟩ = some (.int .i64 x.st) := fun xwd => xwd.cells.1.2; have hq1 : ∀ xwd : Wd w [(b, o + j * 2, .int .i64 x.st), (b, o + j * 2 + 1, .int .i64 x.vl), (b', o' + j * 2, .int .i64 y.st), (b', o' + j * 2 + 1, .int .i64 y.vl)], xwd.at.cell? ⟨b, o + j * 2 + 1, none⟩ = some (.int .i64 x.vl) := fun xwd => xwd.cells.2.1.2; have hq2 : ∀ xwd : Wd w [(b, o + j * 2, .int .i64 x.st), (b, o + j * 2 + 1, .int .i64 x.vl), (b', o' + j * 2, .int .i64 y.st), (b', o' + j * 2 + 1, .int .i64 y.vl)], xwd.at.cell? ⟨b', o' + j * 2, none⟩ = some (.int .i64 y.st) := fun xwd => xwd.cells.2.2.1.2; have hq3 : ∀ xwd : Wd w [(b, o + j * 2, .int .i64 x.st), (b, o + j * 2 + 1, .int .i64 x.vl), (b', o' + j * 2, .int .i64 y.st), (b', o' + j * 2 + 1, .int .i64 y.vl)], xwd.at.cell? ⟨b', o' + j * 2 + 1, none⟩ = some (.int .i64 y.vl) := fun xwd => xwd.cells.2.2.2.1.2); (try simp only [List.append_eq, List.cons_append, List.nil_append]); (repeat (go_big_quiet_step ((first | fail)))); (refine wpQuiet_nil ?_); intro wq hwq; obtain ⟨xwd, hxwd⟩ := hwq; have hgx : Below w.heap.size w wq := (by rw [hxwd]; exact xwd.kept); have hcs := (show CellsAt wq [(b, o + j * 2, .int .i64 x.st), (b, o + j * 2 + 1, .int .i64 x.vl), (b', o' + j * 2, .int .i64 y.st), (b', o' + j * 2 + 1, .int .i64 y.vl)] by rw [hxwd]; exact xwd.cells); clear hxwd xwd hne)
          go_wp2
          go_ret
          exact ⟨ret_bool (by simp [hn.out]), by repeat' (first | (with_reducible exact Below.refl _ _) | (with_reducible assumption) | (with_reducible refine kept_alloc ?_ _) | (with_reducible refine kept_drewN ?_ _) | (with_reducible refine Below.drew ?_) | (with_reducible refine Below.setCell ?_ (by first | omega | (simp; omega) | (simp; done)) _) | (refine kept_trans ?_ (by with_reducible assumption)))⟩
        · have he : x = y := by simpa using hxy
          rw [hxy] at hcmp
          simp only [Bool.not_true] at hcmp
          have hn := hts he
          clear hts hne he hxy
          go_wp2
          (refine wp_region_kept (w := w) [(b, o + j * 2, .int .i64 x.st), (b, o + j * 2 + 1, .int .i64 x.vl), (b', o' + j * 2, .int .i64 y.st), (b', o' + j * 2 + 1, .int .i64 y.vl)] (by kernel_rfl) (by kernel_rfl) (by repeat' (first | (with_reducible exact Below.refl _ _) | (with_reducible assumption) | (with_reducible refine kept_alloc ?_ _) | (with_reducible refine kept_drewN ?_ _) | (with_reducible refine Below.drew ?_) | (with_reducible refine Below.setCell ?_ (by first | omega | (simp; omega) | (simp; done)) _) | (refine kept_trans ?_ (by with_reducible assumption)))) (by first | (simp [CellsAt, *, World.cell?_alloc_past, World.cell?_alloc_at]; done) | (simp [CellsAt, *, World.cell?_alloc_past, World.cell?_alloc_at]; omega)) (fun hne => ?_); (have hq0 : ∀ xwd : Wd w [(b, o + j * 2, .int .i64 x.st), (b, o + j * 2 + 1, .int .i64 x.vl), (b', o' + j * 2, .int .i64 y.st), (b', o' + j * 2 + 1, .int .i64 y.vl)], xwd.at.cell? ⟨b, o + j * 2, none⟩ = some (.int .i64 x.st) := fun xwd => xwd.cells.1.2; have hq1 : ∀ xwd : Wd w [(b, o + j * 2, .int .i64 x.st), (b, o + j * 2 + 1, .int .i64 x.vl), (b', o' + j * 2, .int .i64 y.st), (b', o' + j * 2 + 1, .int .i64 y.vl)], xwd.at.cell? ⟨b, o + j * 2 + 1, none⟩ = some (.int .i64 x.vl) := fun xwd => xwd.cells.2.1.2; have hq2 : ∀ xwd : Wd w [(b, o + j * 2, .int .i64 x.st), (b, o + j * 2 + 1, .int .i64 x.vl), (b', o' + j * 2, .int .i64 y.st), (b', o' + j * 2 + 1, .int .i64 y.vl)], xwd.at.cell? ⟨b', o' + j * 2, none⟩ = some (.int .i64 y.st) := fun xwd => xwd.cells.2.2.1.2; have hq3 : ∀ xwd : Wd w [(b, o + j * 2, .int .i64 x.st), (b, o + j * 2 + 1, .int .i64 x.vl), (b', o' + j * 2, .int .i64 y.st), (b', o' + j * 2 + 1, .int .i64 y.vl)], xwd.at.cell? ⟨b', o' + j * 2 + 1, none⟩ = some (.int .i64 y.vl) := fun xwd => xwd.cells.2.2.2.1.2); (try simp only [List.append_eq, List.cons_append, List.nil_append]); (repeat (go_big_quiet_step ((first | fail)))); (refine wpQuiet_nil ?_); intro wq hwq; obtain ⟨xwd, hxwd⟩ := hwq; have hgx : Below w.heap.size w wq := (by rw [hxwd]; exact xwd.kept); have hcs := (show CellsAt wq [(b, o + j * 2, .int .i64 x.st), (b, o + j * 2 + 1, .int .i64 x.vl), (b', o' + j * 2, .int .i64 y.st), (b', o' + j * 2 + 1, .int .i64 y.vl)] by rw [hxwd]; exact xwd.cells); clear hxwd xwd hne)
          go_wp2
          exact ⟨⟨j + 1, by omega, by go_num, hn.out, by repeat' (first | (with_reducible exact Below.refl _ _) | (with_reducible assumption) | (with_reducible refine kept_alloc ?_ _) | (with_reducible refine kept_drewN ?_ _) | (with_reducible refine Below.drew ?_) | (with_reducible refine Below.setCell ?_ (by first | omega | (simp; omega) | (simp; done)) _) | (refine kept_trans ?_ (by with_reducible assumption)))⟩, by simp [intOf]; omega⟩
      · have : j = l.length := by omega
        subst this
        have he : Hid (l = m) := Lib.hid (by have := hT.out; rw [List.take_length, hL.out, List.take_length] at this; exact this)
        clear hT hlc hmc
        go_wp2
        go_ret
        exact ⟨ret_bool (by simp [he.out]), by repeat' (first | (with_reducible exact Below.refl _ _) | (with_reducible assumption) | (with_reducible refine kept_alloc ?_ _) | (with_reducible refine kept_drewN ?_ _) | (with_reducible refine Below.drew ?_) | (with_reducible refine Below.setCell ?_ (by first | omega | (simp; omega) | (simp; done)) _) | (refine kept_trans ?_ (by with_reducible assumption)))⟩
  · have hn : Hid (l ≠ m) := Lib.hid (fun h => hlen (by rw [h]))
    have hbn : ((l.length : Int) != (m.length : Int)) = true := by simp; omega
    clear hlen hlc hmc
    go_enter Tryz.func32, Tryz.ntmps32
    go_wp2
    go_ret
    exact ⟨ret_bool (by simp [hn.out]), by repeat' (first | (with_reducible exact Below.refl _ _) | (with_reducible assumption) | (with_reducible refine kept_alloc ?_ _) | (with_reducible refine kept_drewN ?_ _) | (with_reducible refine Below.drew ?_) | (with_reducible refine Below.setCell ?_ (by first | omega | (simp; omega) | (simp; done)) _) | (refine kept_trans ?_ (by with_reducible assumption)))⟩
end Go.Proofs.YtjbcfjfnobklkaaGreat

/- Layer 13: the document's looks whether two states are one, and whether one is small. -/
namespace Go.Proofs.YtjbcfjfnobklkaaGreat
set_option linter.unusedVariables false
set_option linter.unusedSimpArgs false
open Go.ChangeShapes Go.WideShapes Go.ChangeAt Go.RowKit
end Go.Proofs.YtjbcfjfnobklkaaGreat

/- A region that draws its order, by a list of facts, one on each value that its head hands back (each kept over all that keeps what was there); the steps one by one. -/
namespace Go.Proofs.YtjbcfjfnobklkaaGreat
set_option linter.unusedVariables false
set_option linter.unusedSimpArgs false
open Go.RowKit
/-- What is known of a value, kept. -/
structure KP where
  p : Value → World → Prop
  k : ∀ {v : Value} {W W' : World}, p v W → Below W.heap.size W W' → p v W'
def KP.eq (u : Value) : KP := ⟨fun v _ => v = u, fun h _ => h⟩
def KP.tt : KP := ⟨fun _ _ => True, fun _ _ => trivial⟩
/-- The act's values, written out. -/
def tab (f : Nat → Value) : Nat → List Value → List Value
  | 0, acc => acc
  | n + 1, acc => tab f n (f n :: acc)
theorem tab_eq (f : Nat → Value) : ∀ (n : Nat) (acc : List Value), tab f n acc = (List.range n).map f ++ acc
  | 0, acc => by simp [tab]
  | n + 1, acc => by rw [tab, tab_eq f n, List.range_succ]; simp
theorem Facts.lit {D : List Nat} {F : Nat → Value → World → Prop} {a b : Act} {w W : World} {done : Nat → Bool} (h : Facts D F a w done b W) {n : Nat} (hn : a.tmps.size = n) (hd : a.defers = []) :
    ∃ f : Nat → Value, b = ⟨(tab f n []).toArray, []⟩ ∧ ∀ t, b.tmps.getD t undef = f t :=
  ⟨fun t => b.tmps.getD t undef, by rw [tab_eq, List.append_nil]; exact act_lit (h.size.trans hn) (h.defers.trans hd), fun _ => rfl⟩
section
variable {P : Program} {Q : Exit → Act → World → Prop}
end
end Go.Proofs.YtjbcfjfnobklkaaGreat

/- Layer 8, plain: what lets one in, takes one out, lets one go, and closes a ring's word. -/
namespace Go.Proofs.YtjbcfjfnobklkaaGreat
set_option linter.unusedVariables false
set_option linter.unusedSimpArgs false

def haltB (h t m r : Int) : Bool := m == 2 || !checkB h t m r
def someB (h t : Int) : Bool := decide (0 < lenI h t)
/-- With what result one comes in; which tail there is then; at which position. -/
def acR (h t m r : Int) : Int := if haltB h t m r then 7 else if m = 1 then 6 else if fullB h t r || t == 1099511627776 then 2 else 1
def acT (h t m r : Int) : Int := if acR h t m r = 1 then t + 1 else t
def acP (h t m r : Int) : Int := if acR h t m r = 1 then t else 0
/-- With what result one goes out; which head there is then; from which position. -/
def tkR (h t m r : Int) : Int := if haltB h t m r then 7 else if someB h t then 1 else if m = 1 then 6 else 4
def tkH (h t m r : Int) : Int := if tkR h t m r = 1 then h + 1 else h
def tkP (h t m r : Int) : Int := if tkR h t m r = 1 then h else 0
/-- Whether the first one goes; which head there is then. -/
def evwB (h t m r x : Int) : Bool := h == x && m == 0 && checkB h t m r && fullB h t r && someB h t
def evH (h t m r x : Int) : Int := if evwB h t m r x then h + 1 else h
theorem some_iff {h t m r : Int} (c : checkB h t m r = true) : someB h t = decide (h < t) := by
  have := check_len c
  unfold someB; rw [Bool.eq_iff_iff]; simp; omega
theorem full_iff {h t m r : Int} (c : checkB h t m r = true) : fullB h t r = decide (t - h = r) := by
  have := check_len c
  unfold fullB; rw [Bool.eq_iff_iff]; simp; omega
theorem ac_n {h t m r : Int} (c : acR h t m r ≠ 1) : acT h t m r = t ∧ acP h t m r = 0 := by simp [acT, acP, c]
theorem ac_y {h t m r : Int} (c : acR h t m r = 1) : acT h t m r = t + 1 ∧ acP h t m r = t := by simp [acT, acP, c]
theorem tk_n {h t m r : Int} (c : tkR h t m r ≠ 1) : tkH h t m r = h ∧ tkP h t m r = 0 := by simp [tkH, tkP, c]
theorem tk_y {h t m r : Int} (c : tkR h t m r = 1) : tkH h t m r = h + 1 ∧ tkP h t m r = h := by simp [tkH, tkP, c]
/-- Something comes in just of a word that may be, is open, has room, and is not at its end. -/
theorem ac1_iff {h t m r : Int} : acR h t m r = 1 ↔ checkB h t m r = true ∧ m = 0 ∧ t - h < r ∧ t < 1099511627776 := by
  unfold acR haltB
  cases c : checkB h t m r
  · simp
  · have := check_len c
    rw [full_iff c]
    by_cases h2 : m = 2
    · simp [h2]
    · by_cases h1 : m = 1
      · simp [h1]
      · by_cases hf : t - h = r
        · simp [h1, h2, hf]
        · by_cases he : t = 1099511627776
          · simp [h1, h2, hf, he]
          · simp [h1, h2, hf, he]; omega
theorem ev_iff {h t m r x : Int} : evwB h t m r x = true ↔ checkB h t m r = true ∧ m = 0 ∧ h = x ∧ t - h = r ∧ h < t := by
  unfold evwB
  cases c : checkB h t m r
  · simp
  · rw [some_iff c, full_iff c]; simp
    constructor <;> (intro h; omega)
end Go.Proofs.YtjbcfjfnobklkaaGreat

/- Layer 8, plain: what the laws ask. -/
namespace Go.Proofs.YtjbcfjfnobklkaaGreat
set_option linter.unusedVariables false
set_option linter.unusedSimpArgs false

theorem check_iff {h t m r : Int} : checkB h t m r = true ↔ 0 ≤ h ∧ h ≤ t ∧ t ≤ 1099511627776 ∧ 0 ≤ m ∧ m ≤ 2 ∧ t - h ≤ r := by
  constructor
  · intro c; have := check_len c; omega
  · intro c
    have : lenI h t = t - h := by unfold lenI; split <;> omega
    simp [checkB, this]; omega
/-- One comes in, or the word stays. -/
theorem ac_or (h t m r : Int) : (acR h t m r = 1 ∧ acT h t m r = t + 1 ∧ acP h t m r = t ∧ checkB h t m r = true ∧ m = 0 ∧ t - h < r ∧ t < 1099511627776) ∨ (acR h t m r ≠ 1 ∧ acT h t m r = t ∧ acP h t m r = 0) := by
  by_cases c : acR h t m r = 1
  · exact .inl ⟨c, (ac_y c).1, (ac_y c).2, ac1_iff.1 c⟩
  · exact .inr ⟨c, ac_n c⟩
theorem ev_or (h t m r x : Int) : (evwB h t m r x = true ∧ evH h t m r x = h + 1 ∧ checkB h t m r = true ∧ m = 0 ∧ h = x ∧ t - h = r ∧ h < t) ∨ (evwB h t m r x = false ∧ evH h t m r x = h) := by
  cases c : evwB h t m r x
  · exact .inr ⟨rfl, by simp [evH, c]⟩
  · exact .inl ⟨rfl, by simp [evH, c], ev_iff.1 c⟩
theorem ac_check {h t m r : Int} (c : checkB h t m r = true) : checkB h (acT h t m r) m r = true := by
  rcases ac_or h t m r with ⟨_, e, _, _, _, _, _⟩ | ⟨_, e, _⟩
  · rw [e]; rw [check_iff] at c ⊢; omega
  · rw [e]; exact c
theorem ev_check {h t m r x : Int} (c : checkB h t m r = true) : checkB (evH h t m r x) t m r = true := by
  rcases ev_or h t m r x with ⟨_, e, _, _, _, _⟩ | ⟨_, e⟩
  · rw [e]; rw [check_iff] at c ⊢; omega
  · rw [e]; exact c
end Go.Proofs.YtjbcfjfnobklkaaGreat

/- What one does who looks in vain, by plain functions. -/
namespace Go.Proofs.YtjbcfjfnobklkaaGreat
set_option linter.unusedVariables false
set_option linter.unusedSimpArgs false
def wayI (wt sp yi n : Int) : Int := if wt = 0 then 0 else if wt = 1 then 1 else if wt = 2 then (if n < sp then 0 else if n < sp + yi then 1 else 2) else 2
def wtnI (lg th po wt sp yi n : Int) : Int := if mayB lg th po wt sp yi then wayI wt sp yi n else 0
end Go.Proofs.YtjbcfjfnobklkaaGreat

/- Layer 14: a step of who sends, as a plain function; what may be stays so. -/
namespace Go.Proofs.YtjbcfjfnobklkaaGreat
set_option linter.unusedVariables false
set_option linter.unusedSimpArgs false

/-! ### What becomes of a thread -/
def pcT (t : Th) (p : Int) : Th := ⟨t.st, t.ki, t.va, t.un, p, t.re, t.se, t.tr, t.la, t.rs, t.go⟩
def onT (t : Th) : Th := ⟨t.st, t.ki, t.va, t.un, t.pc, t.re, t.se, if t.tr < 1099511627776 then t.tr + 1 else t.tr, t.la, t.rs, t.go⟩
def regT (t : Th) (r p : Int) : Th := ⟨t.st, t.ki, t.va, t.un, p, r, t.se, t.tr, t.la, t.rs, t.go⟩
def seenT (t : Th) (e p : Int) : Th := ⟨t.st, t.ki, t.va, t.un, p, t.re, e, t.tr, t.la, t.rs, t.go⟩
def parkT (t : Th) (p : Int) : Th := ⟨2, t.ki, t.va, t.un, p, t.re, t.se, 0, t.la, t.rs, t.go⟩
def doneT (t : Th) : Th := ⟨0, t.ki, t.va, t.un, 0, 0, 0, 0, false, t.rs, t.go⟩
def wakeT (t : Th) : Th := if t.st = 2 then ⟨1, t.ki, t.va, t.un, t.pc, t.re, t.se, t.tr, t.la, t.rs, t.go⟩ else t
/-! ### What becomes of a state -/
def St.onTh (s : St) (n : Nat) (f : Th → Th) : St := s.setTh n (f (gth s.th n))
def St.toWord (s : St) (h t m : Int) : St := ⟨s.cf, h, t, m, s.sl, s.sn, s.rc, s.fe, s.fl, s.ee, s.el, s.nw, s.th, s.lg⟩
def St.toSl (s : St) (l : List Slo) : St := ⟨s.cf, s.hd, s.tl, s.md, l, s.sn, s.rc, s.fe, s.fl, s.ee, s.el, s.nw, s.th, s.lg⟩
def St.toSn (s : St) (l : List Int) : St := ⟨s.cf, s.hd, s.tl, s.md, s.sl, l, s.rc, s.fe, s.fl, s.ee, s.el, s.nw, s.th, s.lg⟩
def St.toRc (s : St) (l : List Int) : St := ⟨s.cf, s.hd, s.tl, s.md, s.sl, s.sn, l, s.fe, s.fl, s.ee, s.el, s.nw, s.th, s.lg⟩
def St.toFull (s : St) (e : Int) (l : List Int) : St := ⟨s.cf, s.hd, s.tl, s.md, s.sl, s.sn, s.rc, e, l, s.ee, s.el, s.nw, s.th, s.lg⟩
def St.toEmpty (s : St) (e : Int) (l : List Int) : St := ⟨s.cf, s.hd, s.tl, s.md, s.sl, s.sn, s.rc, s.fe, s.fl, e, l, s.nw, s.th, s.lg⟩
def wakeS (s : St) (i : Int) : St := if hasB s i = true then s.onTh i.toNat wakeT else s
/-- A result told, and on to a step. -/
def toldS (s : St) (n : Nat) (k r g p : Int) : St := (tellS s n k r g).onTh n (pcT · p)
/-- Whether a thread runs what is of a side. -/
def runsB (s : St) (i d : Int) : Bool := hasB s i && ((gth s.th i.toNat).st == 1 && opSide (gth s.th i.toNat).ki == d)
def seesS (s : St) : Int := acR s.hd s.tl s.md s.sl.length
def waySt (s : St) (n : Int) : Int := wtnI s.cf.lg s.cf.th s.cf.po s.cf.wt s.cf.sp s.cf.yi n
/-- At step 2, where it is full. -/
def fullS (s : St) (n : Nat) : St :=
  if s.cf.po = 1 then toldS s n (gth s.th n).ki 3 0 9
  else if s.cf.po = 2 then s.onTh n (regT · s.hd 10)
  else if (gth s.th n).ki = 2 then toldS s n (gth s.th n).ki 2 0 9
  else if (gth s.th n).la = true then toldS s n (gth s.th n).ki 5 0 9
  else if waySt s (gth s.th n).tr = 2 then s.onTh n (pcT · 5)
  else s.onTh n onT
def lookS (s : St) (n : Nat) : St :=
  if seesS s = 1 then s.onTh n (regT · s.tl 3)
  else if seesS s = 2 then fullS s n
  else toldS s n (gth s.th n).ki (seesS s) 0 9
def firstS (s : St) (n : Nat) : St :=
  if plI s.sn n = 0 then s.onTh n (pcT · 2)
  else if (gth s.th n).la = true then toldS s n (gth s.th n).ki 5 0 9
  else s.onTh n onT
def acceptS (s : St) (n : Nat) : St :=
  if seesS s = 1 then toldS (s.toWord s.hd (s.tl + 1) s.md) n (gth s.th n).ki 1 0 6
  else if seesS s = 2 then s.onTh n (pcT · 2)
  else toldS s n (gth s.th n).ki (seesS s) 0 9
def notifyS (s : St) (n : Nat) : St :=
  if hdB (ntT 1 s.ee s.el) = true then wakeS ((s.toEmpty (ntE s.ee s.el) (ntL 1 s.ee s.el)).onTh n (pcT · 9)) (hdI (ntT 1 s.ee s.el))
  else (s.toEmpty (ntE s.ee s.el) (ntL 1 s.ee s.el)).onTh n (pcT · 9)
def commitS (s : St) (n : Nat) : St :=
  if (gth s.th n).la = true then s.onTh n (pcT · 2)
  else if cmB s.fe s.fl (gth s.th n).se n = true then (s.toFull s.fe (s.fl ++ [(n : Int)])).onTh n (parkT · 2)
  else s.onTh n (pcT · 2)
def evictS (s : St) (n : Nat) : St :=
  if evwB s.hd s.tl s.md s.sl.length (gth s.th n).re = true then toldS (s.toWord (s.hd + 1) s.tl s.md) n 9 1 (valV s (gth s.th n).re) 11
  else s.onTh n (pcT · 2)
/-- A step of thread n, which sends. -/
def sendN (s : St) (n : Nat) : St :=
  if (gth s.th n).pc = 0 then (s.toSn (entL s.sn n)).onTh n (pcT · 1)
  else if (gth s.th n).pc = 1 then firstS s n
  else if (gth s.th n).pc = 2 then lookS s n
  else if (gth s.th n).pc = 3 then (if wrE s.sl (gth s.th n).re = 0 then (s.toSl (wrL s.sl (gth s.th n).re (gth s.th n).va)).onTh n (pcT · 4) else s)
  else if (gth s.th n).pc = 4 then acceptS s n
  else if (gth s.th n).pc = 5 then s.onTh n (seenT · s.fe 7)
  else if (gth s.th n).pc = 6 then notifyS s n
  else if (gth s.th n).pc = 7 then (if seesS s = 2 ∧ (gth s.th n).la = false then s.onTh n (pcT · 8) else s.onTh n (pcT · 2))
  else if (gth s.th n).pc = 8 then commitS s n
  else if (gth s.th n).pc = 9 then (s.toSn (lvL s.sn n)).onTh n doneT
  else if (gth s.th n).pc = 10 then evictS s n
  else (s.toSl (rlL s.sl (gth s.th n).re)).onTh n (pcT · 2)
def sendS (s : St) (i : Int) : St := if runsB s i 1 = true then sendN s i.toNat else s
/-- Some steps of who sends, and how many there were. -/
def sendK (s : St) (i : Int) : Nat → St × Nat
  | 0 => (s, 0)
  | k + 1 => if runsB s i 1 = true then ((sendK (sendS s i) i k).1, (sendK (sendS s i) i k).2 + 1) else (s, 0)

/-! ### What may be stays so -/
theorem th_stB {s : St} (h : stB s = true) {n : Nat} {t : Th} (ht : thB t = true) : stB (s.setTh n t) = true := by
  obtain ⟨h1, h2, h3, h4, h5, h6, h7, h8⟩ := st_iff.1 h
  refine st_iff.2 ⟨h1, h2, h3, h4, h5, h6, h7, ?_⟩
  simp only [thsSt, Bool.and_eq_true, decide_eq_true_eq, Bool.not_eq_true'] at h8 ⊢
  refine ⟨by show ((s.th.set n t).length : Int) = s.cf.th; rw [List.length_set]; exact h8.1, ?_⟩
  rw [List.any_eq_false] at h8 ⊢
  intro x hx
  rcases List.mem_or_eq_of_mem_set hx with h9 | rfl
  · exact h8.2 x h9
  · simp [notTh, ht]
theorem onTh_stB {s : St} (h : stB s = true) {n : Nat} {f : Th → Th} (ht : thB (f (gth s.th n)) = true) : stB (s.onTh n f) = true := th_stB h ht
theorem gth_ok {s : St} (h : stB s = true) {n : Nat} (hn : n < s.th.length) : thB (gth s.th n) = true := by
  have h8 := (st_iff.1 h).2.2.2.2.2.2.2
  simp only [thsSt, Bool.and_eq_true, decide_eq_true_eq, Bool.not_eq_true', List.any_eq_false] at h8
  have := h8.2 (gth s.th n) (by rw [gth_eq hn]; exact List.getElem_mem hn)
  simpa [notTh] using this
theorem th_len {s : St} (h : stB s = true) : (s.th.length : Int) = s.cf.th ∧ 1 ≤ s.th.length ∧ s.th.length ≤ 16 := by
  have h8 := (st_iff.1 h).2.2.2.2.2.2.2
  simp only [thsSt, Bool.and_eq_true, decide_eq_true_eq] at h8
  have := cf_th (st_iff.1 h).1
  omega
theorem word_ok {s : St} (h : stB s = true) : checkB s.hd s.tl s.md s.sl.length = true ∧ okSl s.sl = true ∧ (s.sl.length : Int) = cfR s.cf := by
  have h2 := (st_iff.1 h).2.1
  simp only [ringSt, Bool.and_eq_true, decide_eq_true_eq] at h2
  exact ⟨by rw [h2.2.1]; exact h2.1, h2.2.2, h2.2.1⟩
theorem word_stB {s : St} (h : stB s = true) {a b c : Int} (hc : checkB a b c s.sl.length = true) : stB (s.toWord a b c) = true := by
  obtain ⟨h1, h2, h3, h4, h5, h6, h7, h8⟩ := st_iff.1 h
  refine st_iff.2 ⟨h1, ?_, h3, h4, h5, h6, h7, h8⟩
  simp only [ringSt, Bool.and_eq_true, decide_eq_true_eq] at h2 ⊢
  exact ⟨by rw [h2.2.1] at hc; exact hc, h2.2⟩
theorem sl_stB {s : St} (h : stB s = true) {l : List Slo} (hl : l.length = s.sl.length) (hk : okSl l = true) : stB (s.toSl l) = true := by
  obtain ⟨h1, h2, h3, h4, h5, h6, h7, h8⟩ := st_iff.1 h
  refine st_iff.2 ⟨h1, ?_, h3, h4, h5, h6, h7, h8⟩
  simp only [ringSt, Bool.and_eq_true, decide_eq_true_eq] at h2 ⊢
  exact ⟨h2.1, by show (l.length : Int) = _; rw [hl]; exact h2.2.1, hk⟩
theorem stn_iff {m : Int} {l : List Int} : stnB m l = true ↔ okLn l = true ∧ ∀ x ∈ l, x < m := by
  simp only [stnB, Bool.and_eq_true, Bool.not_eq_true', List.any_eq_false]
  refine and_congr_right fun _ => forall_congr' fun x => ?_
  simp [overB]
theorem lns_iff {s : St} : lnsSt s = true ↔ stnB s.cf.th s.sn = true ∧ stnB s.cf.th s.rc = true ∧ stnB s.cf.th s.fl = true ∧ stnB s.cf.th s.el = true := by
  simp [lnsSt]
theorem sn_stB {s : St} (h : stB s = true) {l : List Int} (hl : stnB s.cf.th l = true) : stB (s.toSn l) = true := by
  obtain ⟨h1, h2, h3, h4, h5, h6, h7, h8⟩ := st_iff.1 h
  obtain ⟨a, b, c, d⟩ := lns_iff.1 h3
  exact st_iff.2 ⟨h1, h2, lns_iff.2 ⟨hl, b, c, d⟩, h4, h5, h6, h7, h8⟩
theorem rc_stB {s : St} (h : stB s = true) {l : List Int} (hl : stnB s.cf.th l = true) : stB (s.toRc l) = true := by
  obtain ⟨h1, h2, h3, h4, h5, h6, h7, h8⟩ := st_iff.1 h
  obtain ⟨a, b, c, d⟩ := lns_iff.1 h3
  exact st_iff.2 ⟨h1, h2, lns_iff.2 ⟨a, hl, c, d⟩, h4, h5, h6, h7, h8⟩
theorem full_stB {s : St} (h : stB s = true) {e : Int} {l : List Int} (he : okE e l = true) (hl : stnB s.cf.th l = true) : stB (s.toFull e l) = true := by
  obtain ⟨h1, h2, h3, h4, h5, h6, h7, h8⟩ := st_iff.1 h
  obtain ⟨a, b, c, d⟩ := lns_iff.1 h3
  exact st_iff.2 ⟨h1, h2, lns_iff.2 ⟨a, b, hl, d⟩, he, h5, h6, h7, h8⟩
theorem empty_stB {s : St} (h : stB s = true) {e : Int} {l : List Int} (he : okE e l = true) (hl : stnB s.cf.th l = true) : stB (s.toEmpty e l) = true := by
  obtain ⟨h1, h2, h3, h4, h5, h6, h7, h8⟩ := st_iff.1 h
  obtain ⟨a, b, c, d⟩ := lns_iff.1 h3
  exact st_iff.2 ⟨h1, h2, lns_iff.2 ⟨a, b, c, hl⟩, h4, he, h6, h7, h8⟩
theorem stn_sub {m : Int} {l k : List Int} (h : stnB m l = true) (hk : okLn k = true) (hs : ∀ x ∈ k, x ∈ l) : stnB m k = true :=
  stn_iff.2 ⟨hk, fun x hx => (stn_iff.1 h).2 x (hs x hx)⟩
theorem stn_ent {m : Int} {l : List Int} {i : Int} (h : stnB m l = true) (hi : i < m) : stnB m (entL l i) = true := by
  obtain ⟨h1, h2⟩ := stn_iff.1 h
  refine stn_iff.2 ⟨ent_ok_keep h1, fun x hx => ?_⟩
  unfold entL at hx
  split at hx
  · rcases List.mem_append.1 hx with h3 | h3
    · exact h2 x h3
    · simp at h3; omega
  · exact h2 x hx
theorem stn_lv {m : Int} {l : List Int} {i : Int} (h : stnB m l = true) : stnB m (lvL l i) = true := by
  refine stn_sub h (ok_lv (stn_iff.1 h).1 i) fun x hx => ?_
  unfold lvL at hx
  split at hx
  · exact hx
  · exact List.mem_of_mem_eraseIdx hx
theorem ok_th {s : St} {n : Nat} (h : stB s = true) (hn : n < s.th.length) : (n : Int) < s.cf.th ∧ (0 : Int) ≤ n ∧ (n : Int) ≤ 15 := by
  have := th_len h; omega
theorem pcT_ok {t : Th} (h : thB t = true) (h1 : t.st ≠ 0) {p : Int} (hp : 0 ≤ p ∧ p ≤ 11) : thB (pcT t p) = true := by
  obtain ⟨st, ki, va, un, pc, re, se, tr, la, rs, go⟩ := t
  simp only [pcT] at *; rw [thB_iff] at *; omega
theorem onT_ok {t : Th} (h : thB t = true) (h1 : t.st ≠ 0) : thB (onT t) = true := by
  obtain ⟨st, ki, va, un, pc, re, se, tr, la, rs, go⟩ := t
  simp only [onT] at *; rw [thB_iff] at *; split <;> omega
theorem regT_ok {t : Th} (h : thB t = true) (h1 : t.st ≠ 0) {r p : Int} (hr : 0 ≤ r ∧ r ≤ 1099511627776) (hp : 0 ≤ p ∧ p ≤ 11) : thB (regT t r p) = true := by
  obtain ⟨st, ki, va, un, pc, re, se, tr, la, rs, go⟩ := t
  simp only [regT] at *; rw [thB_iff] at *; omega
theorem seenT_ok {t : Th} (h : thB t = true) (h1 : t.st ≠ 0) {e p : Int} (hr : -1 ≤ e ∧ e ≤ 1099511627776) (hp : 0 ≤ p ∧ p ≤ 11) : thB (seenT t e p) = true := by
  obtain ⟨st, ki, va, un, pc, re, se, tr, la, rs, go⟩ := t
  simp only [seenT] at *; rw [thB_iff] at *; omega
theorem parkT_ok {t : Th} (h : thB t = true) (h1 : t.st ≠ 0) {p : Int} (hp : 0 ≤ p ∧ p ≤ 11) : thB (parkT t p) = true := by
  obtain ⟨st, ki, va, un, pc, re, se, tr, la, rs, go⟩ := t
  simp only [parkT] at *; rw [thB_iff] at *; omega
theorem doneT_ok {t : Th} (h : thB t = true) (h1 : t.st ≠ 0) : thB (doneT t) = true := by
  obtain ⟨st, ki, va, un, pc, re, se, tr, la, rs, go⟩ := t
  simp only [doneT] at *; rw [thB_iff] at *; have hf : bI false = 0 := rfl; omega
theorem wakeT_ok {t : Th} (h : thB t = true) : thB (wakeT t) = true := by
  unfold wakeT
  split
  · obtain ⟨st, ki, va, un, pc, re, se, tr, la, rs, go⟩ := t
    simp only at *; rw [thB_iff] at *; omega
  · exact h
theorem tellT_ok {t : Th} (h : thB t = true) {k r g : Int} (hr : 0 ≤ r ∧ r ≤ 7) : thB (tellT t k r g) = true := by
  unfold tellT
  split
  · exact h
  · obtain ⟨st, ki, va, un, pc, re, se, tr, la, rs, go⟩ := t
    simp only; rw [thB_iff] at *; omega
theorem lg_stB (s : St) (e : En) : stB (s.addLg e) = stB s := rfl
theorem tell_stB {s : St} (h : stB s = true) {i k r g : Int} (hr : 0 ≤ r ∧ r ≤ 7) : stB (tellS s i k r g) = true := by
  unfold tellS
  split
  · next hh =>
    have hi := has_iff.1 hh
    rw [lg_stB]
    exact th_stB h (tellT_ok (gth_ok h (by omega)) hr)
  · exact h
theorem has_of {s : St} (h : stB s = true) {n : Nat} (hn : n < s.th.length) : hasB s n = true := has_iff.2 ⟨h, by omega, by omega⟩
theorem tell_th {s : St} (h : stB s = true) {n : Nat} (hn : n < s.th.length) (k r g : Int) : tellS s n k r g = (s.setTh n (tellT (gth s.th n) k r g)).addLg ⟨n, k, (gth s.th n).va, r, g⟩ := by
  unfold tellS; rw [if_pos (has_of h hn)]; simp
theorem tellT_st (t : Th) (k r g : Int) : (tellT t k r g).st = t.st := by unfold tellT; split <;> rfl
theorem gth_tell {s : St} (h : stB s = true) {n : Nat} (hn : n < s.th.length) (k r g : Int) : gth (tellS s n k r g).th n = tellT (gth s.th n) k r g := by
  rw [tell_th h hn]
  show gth (s.th.set n _) n = _
  rw [gth_set hn, if_pos rfl]
theorem told_stB {s : St} (h : stB s = true) {n : Nat} (hn : n < s.th.length) (h1 : (gth s.th n).st ≠ 0) {k r g p : Int} (hr : 0 ≤ r ∧ r ≤ 7) (hp : 0 ≤ p ∧ p ≤ 11) : stB (toldS s n k r g p) = true := by
  refine onTh_stB (tell_stB h hr) ?_
  rw [gth_tell h hn]
  exact pcT_ok (tellT_ok (gth_ok h hn) hr) (by rw [tellT_st]; exact h1) hp
theorem sees_bd (s : St) : 0 ≤ seesS s ∧ seesS s ≤ 7 := by
  unfold seesS acR; repeat' split
  all_goals omega
theorem wake_stB {s : St} (h : stB s = true) (i : Int) : stB (wakeS s i) = true := by
  unfold wakeS
  split
  · next hh => exact onTh_stB h (wakeT_ok (gth_ok h (by have := has_iff.1 hh; omega)))
  · exact h
theorem wrL_ok {l : List Slo} (h : okSl l = true) (p v : Int) : okSl (wrL l p v) = true := by rw [ok_sts (wr_sts l p v)]; exact h
theorem rlL_ok {l : List Slo} (h : okSl l = true) (p : Int) : okSl (rlL l p) = true := by
  cases hb : rlB l p
  · unfold rlL; rw [hb]; exact h
  · simp only [rlB, Bool.and_eq_true, decide_eq_true_eq] at hb
    exact (rl_laid hb.1 hb.2).1

theorem runs_iff {s : St} {i d : Int} : runsB s i d = true ↔ hasB s i = true ∧ (gth s.th i.toNat).st = 1 ∧ opSide (gth s.th i.toNat).ki = d := by simp [runsB]
theorem full_lines {s : St} (h : stB s = true) : stnB s.cf.th s.sn = true ∧ stnB s.cf.th s.rc = true ∧ stnB s.cf.th s.fl = true ∧ stnB s.cf.th s.el = true ∧ okE s.fe s.fl = true ∧ okE s.ee s.el = true := by
  obtain ⟨h1, h2, h3, h4, h5, h6, h7, h8⟩ := st_iff.1 h
  obtain ⟨a, b, c, d⟩ := lns_iff.1 h3
  exact ⟨a, b, c, d, h4, h5⟩
theorem fullS_stB {s : St} (h : stB s = true) {n : Nat} (hn : n < s.th.length) (h1 : (gth s.th n).st ≠ 0) : stB (fullS s n) = true := by
  have hc := check_iff.1 (word_ok h).1
  unfold fullS
  repeat' split
  · exact told_stB h hn h1 (by decide) (by decide)
  · exact onTh_stB h (regT_ok (gth_ok h hn) h1 (by omega) (by decide))
  · exact told_stB h hn h1 (by decide) (by decide)
  · exact told_stB h hn h1 (by decide) (by decide)
  · exact onTh_stB h (pcT_ok (gth_ok h hn) h1 (by decide))
  · exact onTh_stB h (onT_ok (gth_ok h hn) h1)
theorem lookS_stB {s : St} (h : stB s = true) {n : Nat} (hn : n < s.th.length) (h1 : (gth s.th n).st ≠ 0) : stB (lookS s n) = true := by
  have hc := check_iff.1 (word_ok h).1
  unfold lookS
  repeat' split
  · exact onTh_stB h (regT_ok (gth_ok h hn) h1 (by omega) (by decide))
  · exact fullS_stB h hn h1
  · exact told_stB h hn h1 (sees_bd s) (by decide)
theorem firstS_stB {s : St} (h : stB s = true) {n : Nat} (hn : n < s.th.length) (h1 : (gth s.th n).st ≠ 0) : stB (firstS s n) = true := by
  unfold firstS
  repeat' split
  · exact onTh_stB h (pcT_ok (gth_ok h hn) h1 (by decide))
  · exact told_stB h hn h1 (by decide) (by decide)
  · exact onTh_stB h (onT_ok (gth_ok h hn) h1)
theorem acceptS_stB {s : St} (h : stB s = true) {n : Nat} (hn : n < s.th.length) (h1 : (gth s.th n).st ≠ 0) : stB (acceptS s n) = true := by
  unfold acceptS
  repeat' split
  · next hs =>
    have h2 := ac_check (word_ok h).1
    rw [(ac_y hs).1] at h2
    exact told_stB (s := s.toWord s.hd (s.tl + 1) s.md) (word_stB h h2) hn h1 (by decide) (by decide)
  · exact onTh_stB h (pcT_ok (gth_ok h hn) h1 (by decide))
  · exact told_stB h hn h1 (sees_bd s) (by decide)
theorem notifyS_stB {s : St} (h : stB s = true) {n : Nat} (hn : n < s.th.length) (h1 : (gth s.th n).st ≠ 0) : stB (notifyS s n) = true := by
  obtain ⟨-, -, -, d, -, e⟩ := full_lines h
  have h2 : stB (s.toEmpty (ntE s.ee s.el) (ntL 1 s.ee s.el)) = true := by
    refine empty_stB h ?_ ?_
    · simp only [ntE, ntL, e, if_true]; exact okE_nx e (ok_drop (okE_ln e) 1)
    · simp only [ntL, e, if_true]; exact stn_sub d (ok_drop (okE_ln e) 1) (fun x hx => List.mem_of_mem_drop hx)
  have h3 : stB ((s.toEmpty (ntE s.ee s.el) (ntL 1 s.ee s.el)).onTh n (pcT · 9)) = true := onTh_stB h2 (pcT_ok (gth_ok h hn) h1 (by decide))
  unfold notifyS
  split
  · exact wake_stB h3 _
  · exact h3
theorem commitS_stB {s : St} (h : stB s = true) {n : Nat} (hn : n < s.th.length) (h1 : (gth s.th n).st ≠ 0) : stB (commitS s n) = true := by
  obtain ⟨-, -, c, -, e, -⟩ := full_lines h
  unfold commitS
  repeat' split
  · exact onTh_stB h (pcT_ok (gth_ok h hn) h1 (by decide))
  · next hb =>
    have hE : entE s.fl n = 0 := by simp only [cmB, Bool.and_eq_true, beq_iff_eq] at hb; exact hb.1.2
    have h2 := stn_ent c (ok_th h hn).1
    rw [ent_yes hE] at h2
    exact onTh_stB (s := s.toFull s.fe (s.fl ++ [(n : Int)])) (full_stB h (okE_with e (ok_snoc hE)) h2) (parkT_ok (gth_ok h hn) h1 (by decide))
  · exact onTh_stB h (pcT_ok (gth_ok h hn) h1 (by decide))
theorem evictS_stB {s : St} (h : stB s = true) {n : Nat} (hn : n < s.th.length) (h1 : (gth s.th n).st ≠ 0) : stB (evictS s n) = true := by
  unfold evictS
  split
  · next hb =>
    have h2 := ev_check (x := (gth s.th n).re) (word_ok h).1
    rw [show evH s.hd s.tl s.md s.sl.length (gth s.th n).re = s.hd + 1 by unfold evH; rw [if_pos hb]] at h2
    exact told_stB (s := s.toWord (s.hd + 1) s.tl s.md) (word_stB h h2) hn h1 (by decide) (by decide)
  · exact onTh_stB h (pcT_ok (gth_ok h hn) h1 (by decide))
theorem sendN_0 {s : St} {n : Nat} (h : (gth s.th n).pc = 0) : sendN s n = (s.toSn (entL s.sn n)).onTh n (pcT · 1) := by unfold sendN; rw [h]; rfl
theorem sendN_1 {s : St} {n : Nat} (h : (gth s.th n).pc = 1) : sendN s n = firstS s n := by unfold sendN; rw [h]; rfl
theorem sendN_2 {s : St} {n : Nat} (h : (gth s.th n).pc = 2) : sendN s n = lookS s n := by unfold sendN; rw [h]; rfl
theorem sendN_3 {s : St} {n : Nat} (h : (gth s.th n).pc = 3) : sendN s n = (if wrE s.sl (gth s.th n).re = 0 then (s.toSl (wrL s.sl (gth s.th n).re (gth s.th n).va)).onTh n (pcT · 4) else s) := by unfold sendN; rw [h]; rfl
theorem sendN_4 {s : St} {n : Nat} (h : (gth s.th n).pc = 4) : sendN s n = acceptS s n := by unfold sendN; rw [h]; rfl
theorem sendN_5 {s : St} {n : Nat} (h : (gth s.th n).pc = 5) : sendN s n = s.onTh n (seenT · s.fe 7) := by unfold sendN; rw [h]; rfl
theorem sendN_6 {s : St} {n : Nat} (h : (gth s.th n).pc = 6) : sendN s n = notifyS s n := by unfold sendN; rw [h]; rfl
theorem sendN_7 {s : St} {n : Nat} (h : (gth s.th n).pc = 7) : sendN s n = (if seesS s = 2 ∧ (gth s.th n).la = false then s.onTh n (pcT · 8) else s.onTh n (pcT · 2)) := by unfold sendN; rw [h]; rfl
theorem sendN_8 {s : St} {n : Nat} (h : (gth s.th n).pc = 8) : sendN s n = commitS s n := by unfold sendN; rw [h]; rfl
theorem sendN_9 {s : St} {n : Nat} (h : (gth s.th n).pc = 9) : sendN s n = (s.toSn (lvL s.sn n)).onTh n doneT := by unfold sendN; rw [h]; rfl
theorem sendN_10 {s : St} {n : Nat} (h : (gth s.th n).pc = 10) : sendN s n = evictS s n := by unfold sendN; rw [h]; rfl
theorem sendN_11 {s : St} {n : Nat} (h : (gth s.th n).pc = 11) : sendN s n = (s.toSl (rlL s.sl (gth s.th n).re)).onTh n (pcT · 2) := by unfold sendN; rw [h]; rfl
theorem pc_or {t : Th} (h : thB t = true) : t.pc = 0 ∨ t.pc = 1 ∨ t.pc = 2 ∨ t.pc = 3 ∨ t.pc = 4 ∨ t.pc = 5 ∨ t.pc = 6 ∨ t.pc = 7 ∨ t.pc = 8 ∨ t.pc = 9 ∨ t.pc = 10 ∨ t.pc = 11 := by
  obtain ⟨st, ki, va, un, pc, re, se, tr, la, rs, go⟩ := t
  rw [thB_iff] at h; simp only; omega
theorem sendN_stB {s : St} (h : stB s = true) {n : Nat} (hn : n < s.th.length) (h1 : (gth s.th n).st ≠ 0) : stB (sendN s n) = true := by
  obtain ⟨a, -, -, -, e, -⟩ := full_lines h
  have ho := word_ok h
  have he := okE_iff.1 e
  have hg := gth_ok h hn
  obtain p | p | p | p | p | p | p | p | p | p | p | p := pc_or hg
  · rw [sendN_0 p]; exact onTh_stB (sn_stB h (stn_ent a (ok_th h hn).1)) (pcT_ok hg h1 (by decide))
  · rw [sendN_1 p]; exact firstS_stB h hn h1
  · rw [sendN_2 p]; exact lookS_stB h hn h1
  · rw [sendN_3 p]
    split
    · exact onTh_stB (sl_stB h (wr_len _ _ _) (wrL_ok ho.2.1 _ _)) (pcT_ok hg h1 (by decide))
    · exact h
  · rw [sendN_4 p]; exact acceptS_stB h hn h1
  · rw [sendN_5 p]; exact onTh_stB h (seenT_ok hg h1 (by omega) (by decide))
  · rw [sendN_6 p]; exact notifyS_stB h hn h1
  · rw [sendN_7 p]
    split
    · exact onTh_stB h (pcT_ok hg h1 (by decide))
    · exact onTh_stB h (pcT_ok hg h1 (by decide))
  · rw [sendN_8 p]; exact commitS_stB h hn h1
  · rw [sendN_9 p]; exact onTh_stB (sn_stB h (stn_lv a)) (doneT_ok hg h1)
  · rw [sendN_10 p]; exact evictS_stB h hn h1
  · rw [sendN_11 p]; exact onTh_stB (sl_stB h (rl_len _ _) (rlL_ok ho.2.1 _)) (pcT_ok hg h1 (by decide))
/-- What may be stays so, and what may not be is left. -/
theorem sendS_stB (s : St) (i : Int) : stB (sendS s i) = stB s := by
  unfold sendS
  split
  · next hr =>
    obtain ⟨hh, h1, -⟩ := runs_iff.1 hr
    obtain ⟨h, h2, h3⟩ := has_iff.1 hh
    rw [h]
    exact sendN_stB h (by omega) (by omega)
  · rfl
end Go.Proofs.YtjbcfjfnobklkaaGreat

/- A state whose lists lie where P says: kept over stores into blocks of which P does not hold. -/
namespace Go.Proofs.YtjbcfjfnobklkaaGreat
set_option linter.unusedVariables false
set_option linter.unusedSimpArgs false
open Go.ChangeShapes Go.WideShapes Go.ChangeAt Go.RowKit
/-- A slice that reads as a list, and, unless that is empty, lies in a block of which P holds. -/
structure SlP {α : Type} (P : Nat → Prop) (W : World) (k : Nat) (enc : α → List Value) (xs : List α) (p : Option Addr) (n c : Nat) : Prop where
  s : Sl W k enc xs (.slice p n c)
  i : xs ≠ [] → ∀ a, p = some a → P a.block
theorem Sl.out {α : Type} {W W' : World} {k n c b : Nat} {enc : α → List Value} {xs : List α} {p : Option Addr} (h : Sl W k enc xs (.slice p n c)) (ho : Out [b] W W') (hne : xs ≠ [] → ∀ a, p = some a → a.block ≠ b) : Sl W' k enc xs (.slice p n c) := by
  obtain ⟨q, cap, hv, h1, h2, h3, h4⟩ := h.is
  cases hv
  refine ⟨p, c, rfl, h1, h2, h3, fun hx => ?_⟩
  obtain ⟨g, o, rfl, hg, hc⟩ := h4 hx
  refine ⟨g, o, rfl, Nat.lt_of_lt_of_le hg ho.size, fun i x hi l hl => ?_⟩
  have hb := ho.block g hg (by simpa using hne hx _ rfl)
  rw [← hc i x hi l hl]
  simp [World.cell?, hb]
theorem SlP.kept {α : Type} {P : Nat → Prop} {W W' : World} {k n c : Nat} {enc : α → List Value} {xs : List α} {p : Option Addr} (h : SlP P W k enc xs p n c) (hg : Below W.heap.size W W') : SlP P W' k enc xs p n c := ⟨h.s.kept hg, h.i⟩
theorem SlP.out {α : Type} {P : Nat → Prop} {W W' : World} {k n c b : Nat} {enc : α → List Value} {xs : List α} {p : Option Addr} (h : SlP P W k enc xs p n c) (ho : Out [b] W W') (hb : ¬ P b) : SlP P W' k enc xs p n c := ⟨h.s.out ho (fun hx a ha e => hb (e ▸ h.i hx a ha)), h.i⟩
theorem SlP.mono {α : Type} {P P' : Nat → Prop} {W : World} {k n c : Nat} {enc : α → List Value} {xs : List α} {p : Option Addr} (h : SlP P W k enc xs p n c) (hp : ∀ g, P g → P' g) : SlP P' W k enc xs p n c := ⟨h.s, fun hx a ha => hp _ (h.i hx a ha)⟩
theorem SlP.lt {α : Type} {P : Nat → Prop} {W : World} {k n c : Nat} {enc : α → List Value} {xs : List α} {p : Option Addr} (h : SlP P W k enc xs p n c) : SlP (fun g => P g ∧ g < W.heap.size) W k enc xs p n c := ⟨h.s, fun hx a ha => ⟨h.i hx a ha, by
  obtain ⟨q, cap, hv, _, _, _, h4⟩ := h.s.is
  cases hv
  obtain ⟨g, o, e, hg, _⟩ := h4 hx
  rw [ha] at e; cases e; exact hg⟩⟩
theorem Sl.loc {α : Type} {W : World} {k n c : Nat} {enc : α → List Value} {xs : List α} {p : Option Addr} (h : Sl W k enc xs (.slice p n c)) : SlP (fun g => g < W.heap.size) W k enc xs p n c := ⟨h, fun hx a ha => by
  obtain ⟨q, cap, hv, _, _, _, h4⟩ := h.is
  cases hv
  obtain ⟨g, o, e, hg, _⟩ := h4 hx
  rw [ha] at e; cases e; exact hg⟩
theorem Ow.loc {α : Type} {W : World} {base k n c : Nat} {e : TypeId} {enc : α → List Value} {xs : List α} {p : Option Addr} (he : Enc k enc) (h : Ow W base e k enc xs (.slice p n c)) : SlP (fun g => base ≤ g) W k enc xs p n c := ⟨Ow.sl he h, fun _ a ha => by subst ha; exact (Ow.lt h a.block rfl).1⟩
structure StIn (P : Nat → Prop) (W : World) (s : St) (z : Pz) : Prop where
  sl : SlP P W 2 Slo.cells s.sl z.p1 s.sl.length z.k1
  sn : SlP P W 1 intC s.sn z.p2 s.sn.length z.k2
  rc : SlP P W 1 intC s.rc z.p3 s.rc.length z.k3
  fl : SlP P W 1 intC s.fl z.p4 s.fl.length z.k4
  el : SlP P W 1 intC s.el z.p5 s.el.length z.k5
  th : SlP P W 11 Th.cells s.th z.p6 s.th.length z.k6
  lg : SlP P W 5 En.cells s.lg z.p7 s.lg.length z.k7
variable {P P' : Nat → Prop} {W W' : World} {s : St} {z : Pz}
theorem StIn.at (h : StIn P W s z) : StAt W s z := ⟨h.sl.s, h.sn.s, h.rc.s, h.fl.s, h.el.s, h.th.s, h.lg.s⟩
theorem StIn.kept (h : StIn P W s z) (hg : Below W.heap.size W W') : StIn P W' s z := ⟨h.sl.kept hg, h.sn.kept hg, h.rc.kept hg, h.fl.kept hg, h.el.kept hg, h.th.kept hg, h.lg.kept hg⟩
theorem StIn.out {b : Nat} (h : StIn P W s z) (ho : Out [b] W W') (hb : ¬ P b) : StIn P W' s z := ⟨h.sl.out ho hb, h.sn.out ho hb, h.rc.out ho hb, h.fl.out ho hb, h.el.out ho hb, h.th.out ho hb, h.lg.out ho hb⟩
theorem StIn.mono (h : StIn P W s z) (hp : ∀ g, P g → P' g) : StIn P' W s z := ⟨h.sl.mono hp, h.sn.mono hp, h.rc.mono hp, h.fl.mono hp, h.el.mono hp, h.th.mono hp, h.lg.mono hp⟩
theorem StIn.lt (h : StIn P W s z) : StIn (fun g => P g ∧ g < W.heap.size) W s z := ⟨h.sl.lt, h.sn.lt, h.rc.lt, h.fl.lt, h.el.lt, h.th.lt, h.lg.lt⟩
theorem StAt.loc (h : StAt W s z) : StIn (fun g => g < W.heap.size) W s z := ⟨h.sl.loc, h.sn.loc, h.rc.loc, h.fl.loc, h.el.loc, h.th.loc, h.lg.loc⟩
theorem StOw.loc {base : Nat} (h : StOw W base s z) : StIn (fun g => base ≤ g) W s z := ⟨Ow.loc Slo.enc h.sl, Ow.loc intEnc h.sn, Ow.loc intEnc h.rc, Ow.loc intEnc h.fl, Ow.loc intEnc h.el, Ow.loc Th.enc h.th, Ow.loc En.enc h.lg⟩
def KP.st (P : Nat → Prop) (r : St) : KP := ⟨fun v W => ∃ z : Pz, v = .agg #[.int .i64 r.cf.lg, .int .i64 r.cf.th, .int .i64 r.cf.po, .int .i64 r.cf.wt, .int .i64 r.cf.sp, .int .i64 r.cf.yi, .bool r.cf.si, .int .i64 r.hd, .int .i64 r.tl, .int .i64 r.md, .slice z.p1 r.sl.length z.k1, .slice z.p2 r.sn.length z.k2, .slice z.p3 r.rc.length z.k3, .int .i64 r.fe, .slice z.p4 r.fl.length z.k4, .int .i64 r.ee, .slice z.p5 r.el.length z.k5, .int .i64 r.nw, .slice z.p6 r.th.length z.k6, .slice z.p7 r.lg.length z.k7] ∧ StIn P W r z, fun ⟨z, e, h⟩ hg => ⟨z, e, h.kept hg⟩⟩
end Go.Proofs.YtjbcfjfnobklkaaGreat

/- Lists, threads, states, as abstract values; what memory says of them. -/
namespace Go.Proofs.YtjbcfjfnobklkaaGreat
set_option linter.unusedVariables false
set_option linter.unusedSimpArgs false
open Go.RowKit
def slT (x : Slo) : Value := .agg #[.int .i64 x.st, .int .i64 x.vl]
def thT (t : Th) : Value := .agg #[.int .i64 t.st, .int .i64 t.ki, .int .i64 t.va, .int .i64 t.un, .int .i64 t.pc, .int .i64 t.re, .int .i64 t.se, .int .i64 t.tr, .bool t.la, .int .i64 t.rs, .int .i64 t.go]
def enT (e : En) : Value := .agg #[.int .i64 e.th, .int .i64 e.ki, .int .i64 e.va, .int .i64 e.re, .int .i64 e.go]
def cfT (c : Cf) : Value := .agg #[.int .i64 c.lg, .int .i64 c.th, .int .i64 c.po, .int .i64 c.wt, .int .i64 c.sp, .int .i64 c.yi, .bool c.si]
def rowI (l : List Int) : Value := vRow l.length (l.map (.int .i64 ·))
def rowS (l : List Slo) : Value := vRow l.length (l.map slT)
def rowT (l : List Th) : Value := vRow l.length (l.map thT)
def rowE (l : List En) : Value := vRow l.length (l.map enT)
def stT (s : St) : Value := .agg #[.int .i64 s.cf.lg, .int .i64 s.cf.th, .int .i64 s.cf.po, .int .i64 s.cf.wt, .int .i64 s.cf.sp, .int .i64 s.cf.yi, .bool s.cf.si, .int .i64 s.hd, .int .i64 s.tl, .int .i64 s.md, rowS s.sl, rowI s.sn, rowI s.rc, .int .i64 s.fe, rowI s.fl, .int .i64 s.ee, rowI s.el, .int .i64 s.nw, rowT s.th, rowE s.lg]
def wdT (h t m : Int) : Value := .agg #[.int .i64 h, .int .i64 t, .int .i64 m]
def evT (e : Int) (l : List Int) : Value := .agg #[.int .i64 e, rowI l]
section
variable {O : Nat → Prop} {W : World}
/-- A number or a bool. -/
def AtmV (v : Value) : Prop := ∀ (ρ : PMap) (O : Nat → Prop) (W : World) (c : Value), Rp ρ O W v c ↔ c = v
theorem atm_int (k : IntKind) (n : Int) : AtmV (.int k n) := fun _ _ _ _ => rp_int
theorem atm_bool (b : Bool) : AtmV (.bool b) := fun _ _ _ _ => rp_bool
def isAtm : Value → Bool
  | .int _ _ | .bool _ => true
  | _ => false
theorem isAtm_all {xs : List Value} (h : xs.all isAtm = true) : ∀ x ∈ xs, AtmV x := fun x hx => by
  have := List.all_eq_true.1 h x hx
  unfold isAtm at this
  split at this
  · exact atm_int _ _
  · exact atm_bool _
  · cases this
theorem rp_rowG {α : Type} {f : α → Value} {enc : α → List Value} {k : Nat} (hf : ∀ x, (f x).cells = (enc x).toArray) (hk : ∀ x, (enc x).length = k) (ha0 : ∀ x, (enc x).all isAtm = true) {xs : List α} {c : Value} :
    Rp nowhere O W (vRow xs.length (xs.map f)) c ↔ ∃ p cap, c = .slice p xs.length cap ∧ SlP (fun g => ¬ O g) W k enc xs p xs.length cap := by
  have ha : ∀ x, ∀ u ∈ enc x, AtmV u := fun x => isAtm_all (ha0 x)
  unfold vRow
  rw [rp_row]
  have hsz : (xs.map f).toArray.size = xs.length := by simp
  constructor
  · rintro ⟨p, cap, -, -, rfl, h1, h2, h3, h4⟩
    rw [hsz] at h1 h4 ⊢
    refine ⟨p, cap, rfl, ⟨⟨p, cap, rfl, h1, h2, h3, fun hne => ?_⟩⟩, fun hne a hpa => ?_⟩
    · obtain ⟨g, o, k', rfl, hg, hO, hc⟩ := h4 (by cases xs with | nil => exact absurd rfl hne | cons _ _ => simp)
      have hk' : k' = k := by
        cases xs with
        | nil => exact absurd rfl hne
        | cons x r => have := (hc 0 (f x) (by simp)).1; rw [hf] at this; simp [hk] at this; exact this.symm
      subst hk'
      refine ⟨g, o, rfl, hg, fun i x hi j hj => ?_⟩
      obtain ⟨-, hcell⟩ := hc i (f x) (by simp [hi])
      rw [hf] at hcell
      have hj' : j < (enc x).length := by rw [hk]; exact hj
      obtain ⟨u, hu, hr⟩ := hcell j (enc x)[j] (by simp [hj'])
      rw [(ha x _ (List.getElem_mem hj')) nowhere O W u] at hr
      rw [hu, hr, List.getElem?_eq_getElem hj']
    · obtain ⟨g, o, k', hp, hg, hO, hc⟩ := h4 (by cases xs with | nil => exact absurd rfl hne | cons _ _ => simp)
      rw [hpa] at hp; cases hp; exact hO
  · rintro ⟨p, cap, rfl, h1, h2⟩
    obtain ⟨p', cap', he, h3, h4, h5, h6⟩ := h1.is
    cases he
    refine ⟨p, cap, rfl, by simp, by simp, by simpa using h3, h4, h5, fun hne => ?_⟩
    have hx : xs ≠ [] := by intro e; subst e; simp at hne
    obtain ⟨g, o, hp, hg, hc⟩ := h6 hx
    refine ⟨g, o, k, hp, hg, h2 hx _ hp, fun n el hel => ?_⟩
    simp only [List.getElem?_toArray, List.getElem?_map] at hel
    obtain ⟨x, hx', rfl⟩ := Option.map_eq_some_iff.1 hel
    rw [hf]
    refine ⟨by simp [hk], fun j u hu => ?_⟩
    have hu' : (enc x)[j]? = some u := by simpa using hu
    have hj : j < k := by rw [← hk x]; exact (List.getElem?_eq_some_iff.1 hu').1
    refine ⟨u, (hc n x hx' j hj).trans hu', (ha x u (List.mem_of_getElem? hu') nowhere O W u).2 rfl⟩
theorem rp_rowI {l : List Int} {c : Value} : Rp nowhere O W (rowI l) c ↔ ∃ p cap, c = .slice p l.length cap ∧ SlP (fun g => ¬ O g) W 1 intC l p l.length cap :=
  rp_rowG (f := (.int .i64 ·)) (enc := intC) (fun _ => rfl) (fun _ => rfl) (fun _ => rfl)
theorem rp_rowS {l : List Slo} {c : Value} : Rp nowhere O W (rowS l) c ↔ ∃ p cap, c = .slice p l.length cap ∧ SlP (fun g => ¬ O g) W 2 Slo.cells l p l.length cap :=
  rp_rowG (f := slT) (enc := Slo.cells) (fun _ => rfl) (fun _ => rfl) (fun _ => rfl)
theorem rp_rowT {l : List Th} {c : Value} : Rp nowhere O W (rowT l) c ↔ ∃ p cap, c = .slice p l.length cap ∧ SlP (fun g => ¬ O g) W 11 Th.cells l p l.length cap :=
  rp_rowG (f := thT) (enc := Th.cells) (fun _ => rfl) (fun _ => rfl) (fun _ => rfl)
theorem rp_rowE {l : List En} {c : Value} : Rp nowhere O W (rowE l) c ↔ ∃ p cap, c = .slice p l.length cap ∧ SlP (fun g => ¬ O g) W 5 En.cells l p l.length cap :=
  rp_rowG (f := enT) (enc := En.cells) (fun _ => rfl) (fun _ => rfl) (fun _ => rfl)
/-- A struct, cell by cell. -/
def Cells (R : Value → Value → Prop) : List Value → List Value → Prop
  | [], ys => ys = []
  | x :: xs, ys => ∃ y r, ys = y :: r ∧ R x y ∧ Cells R xs r
theorem cells_at {R : Value → Value → Prop} : ∀ {xs ys : List Value}, AtAll R xs.toArray ys.toArray ↔ Cells R xs ys
  | [], ys => by
    constructor
    · intro h; have := h.1; simp at this; exact this
    · intro h; cases h; exact ⟨rfl, fun i x hx => by simp at hx⟩
  | x :: xs, ys => by
    constructor
    · intro h
      match ys, h with
      | [], h => have := h.1; simp at this
      | y :: r, h =>
        obtain ⟨u, hu, hr⟩ := h.2 0 x (by simp)
        simp at hu; subst hu
        exact ⟨y, r, rfl, hr, cells_at.1 ⟨by have := h.1; simpa using this, fun i z hz => by
          obtain ⟨u, hu, hr⟩ := h.2 (i + 1) z (by simpa using hz)
          exact ⟨u, by simpa using hu, hr⟩⟩⟩
    · rintro ⟨y, r, rfl, h1, h2⟩
      have h3 := cells_at.2 h2
      refine ⟨by have := h3.1; simpa using this, fun i z hz => ?_⟩
      cases i with
      | zero => simp at hz; subst hz; exact ⟨y, by simp, h1⟩
      | succ i =>
        obtain ⟨u, hu, hr⟩ := h3.2 i z (by simpa using hz)
        exact ⟨u, by simpa using hu, hr⟩
theorem rp_aggL {ρ : PMap} {xs : List Value} {c : Value} : Rp ρ O W (.agg xs.toArray) c ↔ ∃ ys : List Value, c = .agg ys.toArray ∧ Cells (Rp ρ O W) xs ys := by
  rw [rp_agg]
  constructor
  · rintro ⟨ys, rfl, h⟩; exact ⟨ys.toList, by simp, cells_at.1 (by simpa using h)⟩
  · rintro ⟨ys, rfl, h⟩; exact ⟨ys.toArray, rfl, cells_at.2 h⟩
theorem rp_tupL {ρ : PMap} {xs : List Value} {c : Value} : Rp ρ O W (.tuple xs.toArray) c ↔ ∃ ys : List Value, c = .tuple ys.toArray ∧ Cells (Rp ρ O W) xs ys := by
  rw [rp_tuple]
  constructor
  · rintro ⟨ys, rfl, h⟩; exact ⟨ys.toList, by simp, cells_at.1 (by simpa using h)⟩
  · rintro ⟨ys, rfl, h⟩; exact ⟨ys.toArray, rfl, cells_at.2 h⟩
/-- Structs of numbers and bools are told by themselves. -/
theorem atm_cells : ∀ {xs ys : List Value} {ρ : PMap}, (∀ x ∈ xs, AtmV x) → (Cells (Rp ρ O W) xs ys ↔ ys = xs)
  | [], ys, ρ, _ => Iff.rfl
  | x :: xs, ys, ρ, h => by
    simp only [Cells]
    constructor
    · rintro ⟨y, r, rfl, h1, h2⟩
      rw [h x (by simp) ρ O W y] at h1
      rw [atm_cells fun z hz => h z (by simp [hz])] at h2
      rw [h1, h2]
    · rintro rfl
      exact ⟨x, xs, rfl, (h x (by simp) ρ O W x).2 rfl, (atm_cells fun z hz => h z (by simp [hz])).2 rfl⟩
theorem rp_atm {ρ : PMap} {xs : List Value} (h : ∀ x ∈ xs, AtmV x) {c : Value} : Rp ρ O W (.agg xs.toArray) c ↔ c = .agg xs.toArray := by
  rw [rp_aggL]
  constructor
  · rintro ⟨ys, rfl, h1⟩; rw [atm_cells h] at h1; rw [h1]
  · rintro rfl; exact ⟨xs, rfl, (atm_cells h).2 rfl⟩
theorem rp_thT {ρ : PMap} {t : Th} {c : Value} : Rp ρ O W (thT t) c ↔ c = .agg #[.int .i64 t.st, .int .i64 t.ki, .int .i64 t.va, .int .i64 t.un, .int .i64 t.pc, .int .i64 t.re, .int .i64 t.se, .int .i64 t.tr, .bool t.la, .int .i64 t.rs, .int .i64 t.go] := rp_atm (isAtm_all rfl)
theorem rp_cfT {ρ : PMap} {s : Cf} {c : Value} : Rp ρ O W (cfT s) c ↔ c = .agg #[.int .i64 s.lg, .int .i64 s.th, .int .i64 s.po, .int .i64 s.wt, .int .i64 s.sp, .int .i64 s.yi, .bool s.si] := rp_atm (isAtm_all rfl)
theorem rp_wdT {ρ : PMap} {h t m : Int} {c : Value} : Rp ρ O W (wdT h t m) c ↔ c = .agg #[.int .i64 h, .int .i64 t, .int .i64 m] := rp_atm (isAtm_all rfl)
theorem rp_evT {e : Int} {l : List Int} {c : Value} : Rp nowhere O W (evT e l) c ↔ ∃ p cap, c = .agg #[.int .i64 e, .slice p l.length cap] ∧ SlP (fun g => ¬ O g) W 1 intC l p l.length cap := by
  unfold evT
  rw [show (#[Value.int .i64 e, rowI l] : Array Value) = [Value.int .i64 e, rowI l].toArray from rfl, rp_aggL]
  constructor
  · rintro ⟨ys, rfl, y0, r0, rfl, h0, y1, r1, rfl, h1, rfl⟩
    rw [rp_int] at h0
    obtain ⟨p, cap, rfl, h⟩ := rp_rowI.1 h1
    exact ⟨p, cap, by rw [h0], h⟩
  · rintro ⟨p, cap, rfl, h⟩
    exact ⟨_, rfl, _, _, rfl, rp_int.2 rfl, _, _, rfl, rp_rowI.2 ⟨p, cap, rfl, h⟩, rfl⟩
theorem rp_stT {s : St} {c : Value} : Rp nowhere O W (stT s) c ↔ ∃ z : Pz, c = .agg #[.int .i64 s.cf.lg, .int .i64 s.cf.th, .int .i64 s.cf.po, .int .i64 s.cf.wt, .int .i64 s.cf.sp, .int .i64 s.cf.yi, .bool s.cf.si, .int .i64 s.hd, .int .i64 s.tl, .int .i64 s.md, .slice z.p1 s.sl.length z.k1, .slice z.p2 s.sn.length z.k2, .slice z.p3 s.rc.length z.k3, .int .i64 s.fe, .slice z.p4 s.fl.length z.k4, .int .i64 s.ee, .slice z.p5 s.el.length z.k5, .int .i64 s.nw, .slice z.p6 s.th.length z.k6, .slice z.p7 s.lg.length z.k7] ∧ StIn (fun g => ¬ O g) W s z := by
  unfold stT
  rw [show (#[.int .i64 s.cf.lg, .int .i64 s.cf.th, .int .i64 s.cf.po, .int .i64 s.cf.wt, .int .i64 s.cf.sp, .int .i64 s.cf.yi, .bool s.cf.si, .int .i64 s.hd, .int .i64 s.tl, .int .i64 s.md, rowS s.sl, rowI s.sn, rowI s.rc, .int .i64 s.fe, rowI s.fl, .int .i64 s.ee, rowI s.el, .int .i64 s.nw, rowT s.th, rowE s.lg] : Array Value) = [.int .i64 s.cf.lg, .int .i64 s.cf.th, .int .i64 s.cf.po, .int .i64 s.cf.wt, .int .i64 s.cf.sp, .int .i64 s.cf.yi, .bool s.cf.si, .int .i64 s.hd, .int .i64 s.tl, .int .i64 s.md, rowS s.sl, rowI s.sn, rowI s.rc, .int .i64 s.fe, rowI s.fl, .int .i64 s.ee, rowI s.el, .int .i64 s.nw, rowT s.th, rowE s.lg].toArray from rfl, rp_aggL]
  constructor
  · rintro ⟨ys, rfl, _, _, rfl, h0, _, _, rfl, h1, _, _, rfl, h2, _, _, rfl, h3, _, _, rfl, h4, _, _, rfl, h5, _, _, rfl, h6, _, _, rfl, h7, _, _, rfl, h8, _, _, rfl, h9, _, _, rfl, h10, _, _, rfl, h11, _, _, rfl, h12, _, _, rfl, h13, _, _, rfl, h14, _, _, rfl, h15, _, _, rfl, h16, _, _, rfl, h17, _, _, rfl, h18, _, _, rfl, h19, rfl⟩
    rw [rp_int] at h0 h1 h2 h3 h4 h5 h7 h8 h9 h13 h15 h17
    rw [rp_bool] at h6
    obtain ⟨p1, k1, rfl, s1⟩ := rp_rowS.1 h10
    obtain ⟨p2, k2, rfl, s2⟩ := rp_rowI.1 h11
    obtain ⟨p3, k3, rfl, s3⟩ := rp_rowI.1 h12
    obtain ⟨p4, k4, rfl, s4⟩ := rp_rowI.1 h14
    obtain ⟨p5, k5, rfl, s5⟩ := rp_rowI.1 h16
    obtain ⟨p6, k6, rfl, s6⟩ := rp_rowT.1 h18
    obtain ⟨p7, k7, rfl, s7⟩ := rp_rowE.1 h19
    exact ⟨⟨p1, k1, p2, k2, p3, k3, p4, k4, p5, k5, p6, k6, p7, k7⟩, by rw [h0, h1, h2, h3, h4, h5, h6, h7, h8, h9, h13, h15, h17], ⟨s1, s2, s3, s4, s5, s6, s7⟩⟩
  · rintro ⟨z, rfl, h⟩
    exact ⟨_, rfl, _, _, rfl, rp_int.2 rfl, _, _, rfl, rp_int.2 rfl, _, _, rfl, rp_int.2 rfl, _, _, rfl, rp_int.2 rfl, _, _, rfl, rp_int.2 rfl, _, _, rfl, rp_int.2 rfl, _, _, rfl, rp_bool.2 rfl, _, _, rfl, rp_int.2 rfl, _, _, rfl, rp_int.2 rfl, _, _, rfl, rp_int.2 rfl, _, _, rfl, rp_rowS.2 ⟨_, _, rfl, h.sl⟩, _, _, rfl, rp_rowI.2 ⟨_, _, rfl, h.sn⟩, _, _, rfl, rp_rowI.2 ⟨_, _, rfl, h.rc⟩, _, _, rfl, rp_int.2 rfl, _, _, rfl, rp_rowI.2 ⟨_, _, rfl, h.fl⟩, _, _, rfl, rp_int.2 rfl, _, _, rfl, rp_rowI.2 ⟨_, _, rfl, h.el⟩, _, _, rfl, rp_int.2 rfl, _, _, rfl, rp_rowT.2 ⟨_, _, rfl, h.th⟩, _, _, rfl, rp_rowE.2 ⟨_, _, rfl, h.lg⟩, rfl⟩
/-- The arguments of a call. -/
theorem args_of {R : Value → Value → Prop} {xs : List Value} {vs : Array Value} (h : AtAll R xs.toArray vs) : ∃ ys : List Value, vs = ys.toArray ∧ Cells R xs ys := ⟨vs.toList, by simp, cells_at.1 (by simpa using h)⟩
end
end Go.Proofs.YtjbcfjfnobklkaaGreat

/- Layer 13: the document's answers: a state with another thread; whether it has one. -/
namespace Go.Proofs.YtjbcfjfnobklkaaGreat
set_option linter.unusedVariables false
set_option linter.unusedSimpArgs false
open Go.ChangeShapes Go.WideShapes Go.ChangeAt Go.RowKit
end Go.Proofs.YtjbcfjfnobklkaaGreat

/- Contracts told by abstract values: threads put, and what a step does to them. -/
namespace Go.Proofs.YtjbcfjfnobklkaaGreat
set_option linter.unusedVariables false
set_option linter.unusedSimpArgs false
open Go.RowKit
theorem mixed : Tryz.prog.follows .mixedOrders = true := by kernel_rfl
theorem rowT_el {l : List Th} {n : Nat} (h : n < l.length) : IxP ((l.map thT).toArray) (n : Int) (thT (gth l n)) := ⟨by omega, by simp [gth_eq h, h]⟩
end Go.Proofs.YtjbcfjfnobklkaaGreat

/- THE ENGINE, 13: a loop, round by round. -/
namespace Go.Proofs.YtjbcfjfnobklkaaGreat
set_option linter.unusedVariables false
set_option linter.unusedSimpArgs false
open Go.RowKit
/-- The body of a loop of a function: the number k of them, in the order of the text, those that hold others first. -/
def loops : Code → List Code
  | .loop a => a :: loops a
  | .seq a b => loops a ++ loops b
  | .cond _ a b => loops a ++ loops b
  | .block _ a => loops a
  | .rangeFunc _ _ a b => loops a ++ loops b
  | .scope a => loops a
  | _ => []
def loopOf (P : Program) (g : FuncId) (k : Nat) : Code :=
  match P.funcs[g]? with
  | some fn => match fn.body with
    | some c => ((loops c)[k]?).getD .skip
    | none => .skip
  | none => .skip
/-- The regions of a function that draw their order, in the order of the text. -/
def regions : Code → List Code
  | .region id ops true => [.region id ops true]
  | .loop a => regions a
  | .seq a b => regions a ++ regions b
  | .cond _ a b => regions a ++ regions b
  | .block _ a => regions a
  | .scope a => regions a
  | _ => []
def regOf (P : Program) (g : FuncId) (k : Nat) : Code :=
  match P.funcs[g]? with
  | some fn => match fn.body with
    | some c => ((regions c)[k]?).getD .skip
    | none => .skip
  | none => .skip
/-- One round: how it ends, what is known then, what is asked. -/
def evRound (P : Program) (ext : List FuncId) (fuel n : Nat) (im keep : List Nat) (c : Code) (s : Sg) (orc : List Value) : Option (Exit × Sg × Prop) :=
  match evCode P ext (evFn P ext fuel n) fuel c s orc with
  | some (x, s1, [], ob) => (canon im keep s1).map fun s2 => (x, s2, conj ob)
  | _ => none
section
variable {P : Program}
theorem loop_more (hm : P.follows .mixedOrders = true) {ext : List FuncId} {fuel n : Nat} {im keep : List Nat} {c : Code} {s s1 s' : Sg} {orc : List Value} {x : Exit} {A : Prop} (hA : A) (h : evRound P ext fuel n im keep c s orc = some (.normal, s1, A)) (hL : LoopP P c s1 x s') : LoopP P c s x s' := by
  unfold evRound at h
  split at h
  · next x1 s2 ob hev =>
    obtain ⟨s3, hc, he⟩ := Option.map_eq_some_iff.1 h
    cases he
    obtain ⟨m, hm'⟩ := hL
    refine ⟨m + 1, fun ρ O a W Q hH hT hK => ?_⟩
    rw [rounds_succ]
    refine evCode_ok hm (evFn_ok hm n) c hev hA ρ O a W _ hH hT fun ρ' O' a' W' hH' hT' hE => ?_
    obtain ⟨h1, h2, h3, -⟩ := canon_ok hc hH' hT'
    exact hm' _ _ _ _ Q h1 h2 fun ρ'' O'' a'' W'' h4 h5 h6 => hK ρ'' O'' a'' W'' h4 h5 ((hE.toL hH).trans (h3.trans h6 hH'.low) hH.low)
  · cases h
theorem loop_end (hm : P.follows .mixedOrders = true) {ext : List FuncId} {fuel n : Nat} {im keep : List Nat} {c : Code} {s s1 : Sg} {orc : List Value} {x : Exit} {A : Prop} (hA : A) (hx : x ≠ .normal) (h : evRound P ext fuel n im keep c s orc = some (x, s1, A)) : LoopP P c s x s1 := by
  unfold evRound at h
  split at h
  · next x1 s2 ob hev =>
    obtain ⟨s3, hc, he⟩ := Option.map_eq_some_iff.1 h
    cases he
    refine ⟨1, fun ρ O a W Q hH hT hK => ?_⟩
    rw [rounds_succ]
    refine evCode_ok hm (evFn_ok hm n) c hev hA ρ O a W _ hH hT fun ρ' O' a' W' hH' hT' hE => ?_
    obtain ⟨h1, h2, h3, -⟩ := canon_ok hc hH' hT'
    have := hK _ _ a' W' h1 h2 ((hE.toL hH).trans h3 hH.low)
    cases x with
    | normal => exact absurd rfl hx
    | _ => exact this
  · cases h
/-- A call that hands back a struct with a slice of its own at place pos. -/
def evRunO (P : Program) (ext : List FuncId) (fuel n : Nat) (g : FuncId) (args orc : List Value) (pos : Nat) : Option (List Value × Nat × Prop) :=
  match evFn P ext fuel n g args [] orc with
  | some (.agg xs, H, [], ob) => match xs.toList[pos]? with
    | some (.slice (some ⟨i, 0, some 0⟩) m _) => match look H i with
      | some b => match lendL (lendA (look H)) (xs.toList.set pos (.slice none 0 0)) with
        | some (al, is, ps) => if is.all (fun i => (look H i).isSome) && !(is.any fun j => j == i) && b.arr then some (al.set pos (vRow b.n b.els), b.k, conj (ob ++ (m = b.n ∧ m = b.els.length) :: ps)) else none
        | none => none
      | none => none
    | _ => none
  | _ => none
theorem ao_path (hm : P.follows .mixedOrders = true) {ext : List FuncId} {fuel n : Nat} {g : FuncId} {args orc : List Value} {pos k : Nat} {cs : List Value} {A : Prop} (hA : A) (h : evRunO P ext fuel n g args orc pos = some (cs, k, A)) : AO P g args cs.toArray pos k := by
  unfold evRunO at h
  split at h
  · next xs H ob hev =>
    split at h
    · next i m m' hp =>
      split at h
      · next b hb =>
        split at h
        · next al is ps hl =>
          split at h
          · next hc =>
            cases h
            simp only [Bool.and_eq_true, Bool.not_eq_true'] at hc
            obtain ⟨⟨his, hni⟩, hba⟩ := hc
            obtain ⟨hb1, ⟨hmn, hme⟩, hb2⟩ := conj_append.1 hA
            subst hmn
            intro O W vs hlow hat
            have hH : HConc nowhere O [] W := ⟨hlow, fun _ _ => rfl, fun i => by simp [look, HAt], fun i j b b' g k k' h1 => by simp [look] at h1⟩
            refine (evFn_ok hm n _ _ _ _ _ _ _ _ hev hb1 nowhere O W vs hH hat).mono ?_
            rintro e W' ⟨c, ρ', O', rfl, hr, hH', hE⟩
            obtain ⟨us, rfl, hau⟩ := rp_agg.1 hr
            have hpl : pos < xs.toList.length := (List.getElem?_eq_some_iff.1 hp).1
            obtain ⟨u, hu, hru⟩ := hau.2 pos _ (by simpa using hp)
            obtain ⟨g0, k0, cap, h1, ⟨⟨h2, h2'⟩, h3⟩, rfl⟩ := rp_own.1 hru
            have h1' : ρ' i = some (g0, k0) := h1
            have hhp := hH'.hp i
            rw [hb] at hhp
            obtain ⟨g1, h4, hO', hB⟩ := hhp
            rw [h1'] at h4; cases h4
            simp only [Nat.zero_mul, Nat.zero_add] at h3 hu
            have fresh : ∀ j p, ρ' j = some p → W.heap.size ≤ p.1 := fun j p hj => by
              rcases hE.new j _ hj with h5 | ⟨-, h5 | ⟨m, bm, km, h5, -⟩⟩
              · cases h5
              · exact h5
              · simp [look] at h5
            have hkeep : ∀ g, O g → O' g := fun g hg => hE.keepO g hg fun i b hb => by simp [look] at hb
            have hstU : Still (Unlent ρ' O' is) W' (fun g => O g ∨ g = g0) W' := by
              refine ⟨Nat.le_refl _, fun g hg hn => ⟨fun h6 => hn ?_, rfl⟩, Shp.of_same fun _ _ => rfl⟩
              rcases h6 with h6 | rfl
              · refine ⟨hkeep g h6, fun j _ q hq => ?_⟩
                have := hlow g h6
                have := fresh j _ hq
                simp at this; omega
              · refine ⟨hO', fun j hj q hq => ?_⟩
                obtain ⟨bj, hbj⟩ := Option.isSome_iff_exists.1 (List.all_eq_true.1 his j hj)
                have := hH'.inj j i bj b g q _ hbj hb hq h1'
                subst this
                have h7 : (is.any fun y => y == j) = true := List.any_eq_true.2 ⟨j, hj, by simp⟩
                rw [hni] at h7; cases h7
            have hset : AtAll (Rp ρ' O' W') (xs.toList.set pos (.slice none 0 0)).toArray (us.toList.set pos (.slice none 0 0)).toArray := by
              refine ⟨by simpa using hau.1, fun j x hx => ?_⟩
              simp only [List.getElem?_toArray, List.getElem?_set] at hx ⊢
              have hsz : us.toList.length = xs.toList.length := by simpa using hau.1
              split at hx
              · next e =>
                subst e
                rw [if_pos rfl, hsz, if_pos hpl]
                cases hx
                exact ⟨_, rfl, rp_nils.2 ⟨rfl, rfl, rfl⟩⟩
              · next e =>
                rw [if_neg e]
                obtain ⟨y, hy, hr'⟩ := hau.2 j x (by simpa using hx)
                exact ⟨y, by simpa using hy, hr'⟩
            have h5 := lendL_ok (H := look H) (fun v v' c is ob => lendA_ok) hl hb2 hset (fun j _ => hH'.hp j)
            have hlen : al.length = us.toList.length := by have := h5.1; simpa using this.symm
            refine ⟨us, g0, b.n, b.els, cap, rfl, by simpa using hlen.symm, ⟨hE.str.2.1, hE.str.1, hE.str.2.2, hE.still.size, fun g hg => hE.blk g hg fun i b hb => by simp [look] at hb⟩, by have := fresh i _ h1'; simpa using this, ?_, h2, ⟨h2', h3⟩, by simpa using hu, ?_, fun j x hj hx => ?_⟩
            · have hlt : pos < al.length := by rw [hlen]; have : us.toList.length = xs.toList.length := by simpa using hau.1
                                               omega
              simp [List.getElem?_set, hlt, vRow]
            · have hpm : ∀ r : PMap, b.pm r = nowhere := fun r => by unfold Blk.pm; rw [hba]
              obtain ⟨arr, ty, h6, h7, h8⟩ := (blk_cells (arr_noMap hba)).1 hB
              rw [hpm] at h8
              refine (blk_cells (arr_noMap rfl)).2 ⟨arr, ty, h6, by simpa using h7, fun q el hq => ?_⟩
              obtain ⟨h9, h10⟩ := h8 q el (by simpa using hq)
              refine ⟨h9, fun j x hx => ?_⟩
              obtain ⟨y, hy, hr'⟩ := h10 j x hx
              refine ⟨y, hy, hr'.mono ⟨Nat.le_refl _, fun g hg hn => ⟨fun h11 => hn ?_, rfl⟩, Shp.of_same fun _ _ => rfl⟩ (Sub.refl _)⟩
              rcases h11 with h11 | rfl
              · exact hkeep g h11
              · exact hO'
            · rw [List.getElem?_toArray, List.getElem?_set, if_neg (Ne.symm hj)] at hx
              obtain ⟨y, hy, hr'⟩ := h5.2 j x (by simpa using hx)
              rw [List.getElem?_toArray, List.getElem?_set, if_neg (Ne.symm hj)] at hy
              exact ⟨y, by simpa using hy, hr'.mono hstU (Sub.refl _)⟩
          · cases h
        · cases h
      · cases h
    · cases h
  · cases h
end
end Go.Proofs.YtjbcfjfnobklkaaGreat
