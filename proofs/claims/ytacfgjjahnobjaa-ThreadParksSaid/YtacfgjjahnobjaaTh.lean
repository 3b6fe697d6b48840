/- A thread (api.Thread), by value: its cells, and how one is read off an argument; when two are one. -/
import Derived.Test.YtacfgjjahnobjaaRead
import Derived.Test.YtacfgjjahnobjaaRow
import Derived.Laws.StructEq
namespace Go.Proofs.Ytacfgjjahnobjaa
set_option linter.unusedVariables false
set_option linter.unusedSimpArgs false
open Go.ChangeShapes Go.WideShapes Go.ChangeAt Go.RowKit

/-- A thread. -/
@[ext] structure Th where
  st : Int
  ki : Int
  va : Int
  un : Int
  pc : Int
  re : Int
  se : Int
  tr : Int
  la : Bool
  rs : Int
  go : Int
def Th.cells (c : Th) : List Value := [.int .i64 c.st, .int .i64 c.ki, .int .i64 c.va, .int .i64 c.un, .int .i64 c.pc, .int .i64 c.re, .int .i64 c.se, .int .i64 c.tr, .bool c.la, .int .i64 c.rs, .int .i64 c.go]

def Th.shape : List (Ck 0) := [.int .i64, .int .i64, .int .i64, .int .i64, .int .i64, .int .i64, .int .i64, .int .i64, .bool, .int .i64, .int .i64]
abbrev Th.size : Nat := 11
def Th.ok (c : Th) : Prop := In64 c.st ∧ In64 c.ki ∧ In64 c.va ∧ In64 c.un ∧ In64 c.pc ∧ In64 c.re ∧ In64 c.se ∧ In64 c.tr ∧ In64 c.rs ∧ In64 c.go
def Th.zero : List Value := [.int .i64 0, .int .i64 0, .int .i64 0, .int .i64 0, .int .i64 0, .int .i64 0, .int .i64 0, .int .i64 0, .bool false, .int .i64 0, .int .i64 0]
theorem Th.of_read {W : World} {vs : List Value} (h : ReadL W Th.shape vs) : ∃ c : Th, vs = c.cells ∧ c.ok := by
  simp only [Th.shape, read_nil, read_cons, read_int, read_bool, read_str] at h
  obtain ⟨_, _, rfl, ⟨st, rfl, h0⟩, _, _, rfl, ⟨ki, rfl, h1⟩, _, _, rfl, ⟨va, rfl, h2⟩, _, _, rfl, ⟨un, rfl, h3⟩, _, _, rfl, ⟨pc, rfl, h4⟩, _, _, rfl, ⟨re, rfl, h5⟩, _, _, rfl, ⟨se, rfl, h6⟩, _, _, rfl, ⟨tr, rfl, h7⟩, _, _, rfl, ⟨la, rfl⟩, _, _, rfl, ⟨rs, rfl, h9⟩, _, _, rfl, ⟨go, rfl, h10⟩, rfl⟩ := h
  exact ⟨⟨st, ki, va, un, pc, re, se, tr, la, rs, go⟩, rfl, in64_of_wf h0, in64_of_wf h1, in64_of_wf h2, in64_of_wf h3, in64_of_wf h4, in64_of_wf h5, in64_of_wf h6, in64_of_wf h7, in64_of_wf h9, in64_of_wf h10⟩
theorem Th.enc : Enc 11 Th.cells := ⟨fun _ => rfl, fun x c hc => by simp [Th.cells] at hc; rcases hc with rfl | rfl | rfl | rfl | rfl | rfl | rfl | rfl | rfl | rfl | rfl <;> rfl⟩

theorem th_eq_iff {a b : Th} : a = b ↔ (a.st = b.st ∧ a.ki = b.ki ∧ a.va = b.va ∧ a.un = b.un ∧ a.pc = b.pc ∧ a.re = b.re ∧ a.se = b.se ∧ a.tr = b.tr ∧ a.la = b.la ∧ a.rs = b.rs ∧ a.go = b.go) := Th.ext_iff
instance thEq : DecidableEq Th := fun a b => decidable_of_iff _ th_eq_iff.symm
set_option maxHeartbeats 1000000 in
theorem th_equal (a b : Th) (w : World) : (Op.equal 23 (.agg #[.int .i64 a.st, .int .i64 a.ki, .int .i64 a.va, .int .i64 a.un, .int .i64 a.pc, .int .i64 a.re, .int .i64 a.se, .int .i64 a.tr, .bool a.la, .int .i64 a.rs, .int .i64 a.go]) (.agg #[.int .i64 b.st, .int .i64 b.ki, .int .i64 b.va, .int .i64 b.un, .int .i64 b.pc, .int .i64 b.re, .int .i64 b.se, .int .i64 b.tr, .bool b.la, .int .i64 b.rs, .int .i64 b.go])).run Try.prog w = .ok (decide (a = b)) w := by
  have hu := Try.underlying23
  have h3 := Try.underlying3
  have h4 := Try.underlying4
  have hp : Try.prog.stoodInHeld 23 = false := by kernel_rfl
  have hc : Try.prog.info? 3 = _ := rfl
  have hd : Try.prog.info? 4 = _ := rfl
  have e : decide (a = b) = (a.st == b.st && (a.ki == b.ki && (a.va == b.va && (a.un == b.un && (a.pc == b.pc && (a.re == b.re && (a.se == b.se && (a.tr == b.tr && (a.la == b.la && (a.rs == b.rs && a.go == b.go)))))))))) := by
    rw [Bool.eq_iff_iff]; simp only [decide_eq_true_eq, Bool.and_eq_true, beq_iff_eq]; exact th_eq_iff
  rw [e]
  unfold Op.equal Op.maxDepth
  rw [run_equalIn_struct w 9999 _ _ _ (by unfold Program.fieldsOf; rw [hu]) hp]
  unfold Program.fieldsOf
  rw [hu]
  cases c0 : (a.st == b.st)
  · simp [Op.eqFields, part, isAgg, run_underlying h3, run_underlying h4, run_equalIn_int _ _ _ _ _ _ _ h3, run_equalIn_bool _ _ _ _ _ h4, c0]
  cases c1 : (a.ki == b.ki)
  · simp [Op.eqFields, part, isAgg, run_underlying h3, run_underlying h4, run_equalIn_int _ _ _ _ _ _ _ h3, run_equalIn_bool _ _ _ _ _ h4, c0, c1]
  cases c2 : (a.va == b.va)
  · simp [Op.eqFields, part, isAgg, run_underlying h3, run_underlying h4, run_equalIn_int _ _ _ _ _ _ _ h3, run_equalIn_bool _ _ _ _ _ h4, c0, c1, c2]
  cases c3 : (a.un == b.un)
  · simp [Op.eqFields, part, isAgg, run_underlying h3, run_underlying h4, run_equalIn_int _ _ _ _ _ _ _ h3, run_equalIn_bool _ _ _ _ _ h4, c0, c1, c2, c3]
  cases c4 : (a.pc == b.pc)
  · simp [Op.eqFields, part, isAgg, run_underlying h3, run_underlying h4, run_equalIn_int _ _ _ _ _ _ _ h3, run_equalIn_bool _ _ _ _ _ h4, c0, c1, c2, c3, c4]
  cases c5 : (a.re == b.re)
  · simp [Op.eqFields, part, isAgg, run_underlying h3, run_underlying h4, run_equalIn_int _ _ _ _ _ _ _ h3, run_equalIn_bool _ _ _ _ _ h4, c0, c1, c2, c3, c4, c5]
  cases c6 : (a.se == b.se)
  · simp [Op.eqFields, part, isAgg, run_underlying h3, run_underlying h4, run_equalIn_int _ _ _ _ _ _ _ h3, run_equalIn_bool _ _ _ _ _ h4, c0, c1, c2, c3, c4, c5, c6]
  cases c7 : (a.tr == b.tr)
  · simp [Op.eqFields, part, isAgg, run_underlying h3, run_underlying h4, run_equalIn_int _ _ _ _ _ _ _ h3, run_equalIn_bool _ _ _ _ _ h4, c0, c1, c2, c3, c4, c5, c6, c7]
  cases c8 : (a.la == b.la)
  · simp [Op.eqFields, part, isAgg, run_underlying h3, run_underlying h4, run_equalIn_int _ _ _ _ _ _ _ h3, run_equalIn_bool _ _ _ _ _ h4, c0, c1, c2, c3, c4, c5, c6, c7, c8]
  cases c9 : (a.rs == b.rs)
  · simp [Op.eqFields, part, isAgg, run_underlying h3, run_underlying h4, run_equalIn_int _ _ _ _ _ _ _ h3, run_equalIn_bool _ _ _ _ _ h4, c0, c1, c2, c3, c4, c5, c6, c7, c8, c9]
  cases c10 : (a.go == b.go)
  · simp [Op.eqFields, part, isAgg, run_underlying h3, run_underlying h4, run_equalIn_int _ _ _ _ _ _ _ h3, run_equalIn_bool _ _ _ _ _ h4, c0, c1, c2, c3, c4, c5, c6, c7, c8, c9, c10]
  simp [Op.eqFields, part, isAgg, run_underlying h3, run_underlying h4, run_equalIn_int _ _ _ _ _ _ _ h3, run_equalIn_bool _ _ _ _ _ h4, c0, c1, c2, c3, c4, c5, c6, c7, c8, c9, c10]
theorem th_neq (a b : Th) (w : World) : (binOp .neq 23 (.agg #[.int .i64 a.st, .int .i64 a.ki, .int .i64 a.va, .int .i64 a.un, .int .i64 a.pc, .int .i64 a.re, .int .i64 a.se, .int .i64 a.tr, .bool a.la, .int .i64 a.rs, .int .i64 a.go]) (.agg #[.int .i64 b.st, .int .i64 b.ki, .int .i64 b.va, .int .i64 b.un, .int .i64 b.pc, .int .i64 b.re, .int .i64 b.se, .int .i64 b.tr, .bool b.la, .int .i64 b.rs, .int .i64 b.go])).run Try.prog w = .ok (.bool (!decide (a = b))) w := by
  have h := th_equal a b w
  have hu := Try.underlying23
  simp [binOp, h, run_underlying hu, Result.andThen]
theorem th_eql (a b : Th) (w : World) : (binOp .eql 23 (.agg #[.int .i64 a.st, .int .i64 a.ki, .int .i64 a.va, .int .i64 a.un, .int .i64 a.pc, .int .i64 a.re, .int .i64 a.se, .int .i64 a.tr, .bool a.la, .int .i64 a.rs, .int .i64 a.go]) (.agg #[.int .i64 b.st, .int .i64 b.ki, .int .i64 b.va, .int .i64 b.un, .int .i64 b.pc, .int .i64 b.re, .int .i64 b.se, .int .i64 b.tr, .bool b.la, .int .i64 b.rs, .int .i64 b.go])).run Try.prog w = .ok (.bool (decide (a = b))) w := by
  have h := th_equal a b w
  have hu := Try.underlying23
  simp [binOp, h, run_underlying hu, Result.andThen]
end Go.Proofs.Ytacfgjjahnobjaa
