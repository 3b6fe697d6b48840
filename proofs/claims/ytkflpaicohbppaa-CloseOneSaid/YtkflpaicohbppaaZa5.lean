/- Texts merged: ThQ, StQ, OpFQ, ThFQ, LineFQ, EventFQ, IterQ, ConfFQ, FabFQ, WordFQ, WordGQ, WayFQ, SendFQ, StInQ. -/
import Derived.Test.YtkflpaicohbppaaZa3
import Derived.Laws.StructEq
import Derived.Test.YtkflpaicohbppaaZa4
import Derived.Test.YtkflpaicohbppaaZa1
import Derived.Lib.Hide
import Derived.RangeFuncNested
import Derived.RangeFuncLeaves
import Derived.Shelf.Abstract
import Derived.Shelf.RegionOpen
import Derived.OwnWalkIn
import Derived.TacticsInMore
import Derived.LoopNIn
import Derived.LoopIn
/- A thread (api.Thread), by value: its cells, and how one is read off an argument; when two are one. -/
namespace Go.Proofs.Ytkflpaicohbppaa
set_option linter.unusedVariables false
set_option linter.unusedSimpArgs false
open Go.ChangeShapes Go.WideShapes Go.ChangeAt Go.RowKit

/-- A thread. -/
@[ext] structure Th where
  st : Int
  ki : Int
  va : Int
  un : Int
  pc : Int
  re : Int
  se : Int
  tr : Int
  la : Bool
  rs : Int
  go : Int
def Th.cells (c : Th) : List Value := [.int .i64 c.st, .int .i64 c.ki, .int .i64 c.va, .int .i64 c.un, .int .i64 c.pc, .int .i64 c.re, .int .i64 c.se, .int .i64 c.tr, .bool c.la, .int .i64 c.rs, .int .i64 c.go]

def Th.shape : List (Ck 0) := [.int .i64, .int .i64, .int .i64, .int .i64, .int .i64, .int .i64, .int .i64, .int .i64, .bool, .int .i64, .int .i64]
abbrev Th.size : Nat := 11
def Th.ok (c : Th) : Prop := In64 c.st ∧ In64 c.ki ∧ In64 c.va ∧ In64 c.un ∧ In64 c.pc ∧ In64 c.re ∧ In64 c.se ∧ In64 c.tr ∧ In64 c.rs ∧ In64 c.go
def Th.zero : List Value := [.int .i64 0, .int .i64 0, .int .i64 0, .int .i64 0, .int .i64 0, .int .i64 0, .int .i64 0, .int .i64 0, .bool false, .int .i64 0, .int .i64 0]
theorem Th.of_read {W : World} {vs : List Value} (h : ReadL W Th.shape vs) : ∃ c : Th, vs = c.cells ∧ c.ok := by
  simp only [Th.shape, read_nil, read_cons, read_int, read_bool, read_str] at h
  obtain ⟨_, _, rfl, ⟨st, rfl, h0⟩, _, _, rfl, ⟨ki, rfl, h1⟩, _, _, rfl, ⟨va, rfl, h2⟩, _, _, rfl, ⟨un, rfl, h3⟩, _, _, rfl, ⟨pc, rfl, h4⟩, _, _, rfl, ⟨re, rfl, h5⟩, _, _, rfl, ⟨se, rfl, h6⟩, _, _, rfl, ⟨tr, rfl, h7⟩, _, _, rfl, ⟨la, rfl⟩, _, _, rfl, ⟨rs, rfl, h9⟩, _, _, rfl, ⟨go, rfl, h10⟩, rfl⟩ := h
  exact ⟨⟨st, ki, va, un, pc, re, se, tr, la, rs, go⟩, rfl, in64_of_wf h0, in64_of_wf h1, in64_of_wf h2, in64_of_wf h3, in64_of_wf h4, in64_of_wf h5, in64_of_wf h6, in64_of_wf h7, in64_of_wf h9, in64_of_wf h10⟩
theorem Th.enc : Enc 11 Th.cells := ⟨fun _ => rfl, fun x c hc => by simp [Th.cells] at hc; rcases hc with rfl | rfl | rfl | rfl | rfl | rfl | rfl | rfl | rfl | rfl | rfl <;> rfl⟩

theorem th_eq_iff {a b : Th} : a = b ↔ (a.st = b.st ∧ a.ki = b.ki ∧ a.va = b.va ∧ a.un = b.un ∧ a.pc = b.pc ∧ a.re = b.re ∧ a.se = b.se ∧ a.tr = b.tr ∧ a.la = b.la ∧ a.rs = b.rs ∧ a.go = b.go) := Th.ext_iff
instance thEq : DecidableEq Th := fun a b => decidable_of_iff _ th_eq_iff.symm
set_option maxHeartbeats 1000000 in
theorem th_equal (a b : Th) (w : World) : (Op.equal 38 (.agg #[.int .i64 a.st, .int .i64 a.ki, .int .i64 a.va, .int .i64 a.un, .int .i64 a.pc, .int .i64 a.re, .int .i64 a.se, .int .i64 a.tr, .bool a.la, .int .i64 a.rs, .int .i64 a.go]) (.agg #[.int .i64 b.st, .int .i64 b.ki, .int .i64 b.va, .int .i64 b.un, .int .i64 b.pc, .int .i64 b.re, .int .i64 b.se, .int .i64 b.tr, .bool b.la, .int .i64 b.rs, .int .i64 b.go])).run Try.prog w = .ok (decide (a = b)) w := by
  have hu := Try.underlying38
  have h3 := Try.underlying3
  have h4 := Try.underlying4
  have hp : Try.prog.stoodInHeld 38 = false := by kernel_rfl
  have hc : Try.prog.info? 3 = _ := rfl
  have hd : Try.prog.info? 4 = _ := rfl
  have e : decide (a = b) = (a.st == b.st && (a.ki == b.ki && (a.va == b.va && (a.un == b.un && (a.pc == b.pc && (a.re == b.re && (a.se == b.se && (a.tr == b.tr && (a.la == b.la && (a.rs == b.rs && a.go == b.go)))))))))) := by
    rw [Bool.eq_iff_iff]; simp only [decide_eq_true_eq, Bool.and_eq_true, beq_iff_eq]; exact th_eq_iff
  rw [e]
  unfold Op.equal Op.maxDepth
  rw [run_equalIn_struct w 9999 _ _ _ (by unfold Program.fieldsOf; rw [hu]) hp]
  unfold Program.fieldsOf
  rw [hu]
  cases c0 : (a.st == b.st)
  · simp [Op.eqFields, part, isAgg, run_underlying h3, run_underlying h4, run_equalIn_int _ _ _ _ _ _ _ h3, run_equalIn_bool _ _ _ _ _ h4, c0]
  cases c1 : (a.ki == b.ki)
  · simp [Op.eqFields, part, isAgg, run_underlying h3, run_underlying h4, run_equalIn_int _ _ _ _ _ _ _ h3, run_equalIn_bool _ _ _ _ _ h4, c0, c1]
  cases c2 : (a.va == b.va)
  · simp [Op.eqFields, part, isAgg, run_underlying h3, run_underlying h4, run_equalIn_int _ _ _ _ _ _ _ h3, run_equalIn_bool _ _ _ _ _ h4, c0, c1, c2]
  cases c3 : (a.un == b.un)
  · simp [Op.eqFields, part, isAgg, run_underlying h3, run_underlying h4, run_equalIn_int _ _ _ _ _ _ _ h3, run_equalIn_bool _ _ _ _ _ h4, c0, c1, c2, c3]
  cases c4 : (a.pc == b.pc)
  · simp [Op.eqFields, part, isAgg, run_underlying h3, run_underlying h4, run_equalIn_int _ _ _ _ _ _ _ h3, run_equalIn_bool _ _ _ _ _ h4, c0, c1, c2, c3, c4]
  cases c5 : (a.re == b.re)
  · simp [Op.eqFields, part, isAgg, run_underlying h3, run_underlying h4, run_equalIn_int _ _ _ _ _ _ _ h3, run_equalIn_bool _ _ _ _ _ h4, c0, c1, c2, c3, c4, c5]
  cases c6 : (a.se == b.se)
  · simp [Op.eqFields, part, isAgg, run_underlying h3, run_underlying h4, run_equalIn_int _ _ _ _ _ _ _ h3, run_equalIn_bool _ _ _ _ _ h4, c0, c1, c2, c3, c4, c5, c6]
  cases c7 : (a.tr == b.tr)
  · simp [Op.eqFields, part, isAgg, run_underlying h3, run_underlying h4, run_equalIn_int _ _ _ _ _ _ _ h3, run_equalIn_bool _ _ _ _ _ h4, c0, c1, c2, c3, c4, c5, c6, c7]
  cases c8 : (a.la == b.la)
  · simp [Op.eqFields, part, isAgg, run_underlying h3, run_underlying h4, run_equalIn_int _ _ _ _ _ _ _ h3, run_equalIn_bool _ _ _ _ _ h4, c0, c1, c2, c3, c4, c5, c6, c7, c8]
  cases c9 : (a.rs == b.rs)
  · simp [Op.eqFields, part, isAgg, run_underlying h3, run_underlying h4, run_equalIn_int _ _ _ _ _ _ _ h3, run_equalIn_bool _ _ _ _ _ h4, c0, c1, c2, c3, c4, c5, c6, c7, c8, c9]
  cases c10 : (a.go == b.go)
  · simp [Op.eqFields, part, isAgg, run_underlying h3, run_underlying h4, run_equalIn_int _ _ _ _ _ _ _ h3, run_equalIn_bool _ _ _ _ _ h4, c0, c1, c2, c3, c4, c5, c6, c7, c8, c9, c10]
  simp [Op.eqFields, part, isAgg, run_underlying h3, run_underlying h4, run_equalIn_int _ _ _ _ _ _ _ h3, run_equalIn_bool _ _ _ _ _ h4, c0, c1, c2, c3, c4, c5, c6, c7, c8, c9, c10]
theorem th_neq (a b : Th) (w : World) : (binOp .neq 38 (.agg #[.int .i64 a.st, .int .i64 a.ki, .int .i64 a.va, .int .i64 a.un, .int .i64 a.pc, .int .i64 a.re, .int .i64 a.se, .int .i64 a.tr, .bool a.la, .int .i64 a.rs, .int .i64 a.go]) (.agg #[.int .i64 b.st, .int .i64 b.ki, .int .i64 b.va, .int .i64 b.un, .int .i64 b.pc, .int .i64 b.re, .int .i64 b.se, .int .i64 b.tr, .bool b.la, .int .i64 b.rs, .int .i64 b.go])).run Try.prog w = .ok (.bool (!decide (a = b))) w := by
  have h := th_equal a b w
  have hu := Try.underlying38
  simp [binOp, h, run_underlying hu, Result.andThen]
theorem th_eql (a b : Th) (w : World) : (binOp .eql 38 (.agg #[.int .i64 a.st, .int .i64 a.ki, .int .i64 a.va, .int .i64 a.un, .int .i64 a.pc, .int .i64 a.re, .int .i64 a.se, .int .i64 a.tr, .bool a.la, .int .i64 a.rs, .int .i64 a.go]) (.agg #[.int .i64 b.st, .int .i64 b.ki, .int .i64 b.va, .int .i64 b.un, .int .i64 b.pc, .int .i64 b.re, .int .i64 b.se, .int .i64 b.tr, .bool b.la, .int .i64 b.rs, .int .i64 b.go])).run Try.prog w = .ok (.bool (decide (a = b))) w := by
  have h := th_equal a b w
  have hu := Try.underlying38
  simp [binOp, h, run_underlying hu, Result.andThen]
end Go.Proofs.Ytkflpaicohbppaa

/- A state (api.State), by value: its lists in memory, and how one is read off an argument. -/
namespace Go.Proofs.Ytkflpaicohbppaa
set_option linter.unusedVariables false
set_option linter.unusedSimpArgs false
open Go.ChangeShapes Go.WideShapes Go.ChangeAt Go.RowKit


/-- A state: its configuration; its word; its slots; who sends, and receives, in order; the events Full and Empty, each with its epoch and its line; the time; its threads; its log. -/
structure St where
  cf : Cf
  hd : Int
  tl : Int
  md : Int
  sl : List Slo
  sn : List Int
  rc : List Int
  fe : Int
  fl : List Int
  ee : Int
  el : List Int
  nw : Int
  th : List Th
  lg : List En
/-- Where a state's lists lie: each one's address and capacity. -/
structure Pz where
  p1 : Option Addr
  k1 : Nat
  p2 : Option Addr
  k2 : Nat
  p3 : Option Addr
  k3 : Nat
  p4 : Option Addr
  k4 : Nat
  p5 : Option Addr
  k5 : Nat
  p6 : Option Addr
  k6 : Nat
  p7 : Option Addr
  k7 : Nat
def St.cells (s : St) (z : Pz) : List Value := [.int .i64 s.cf.lg, .int .i64 s.cf.th, .int .i64 s.cf.po, .int .i64 s.cf.wt, .int .i64 s.cf.sp, .int .i64 s.cf.yi, .bool s.cf.si, .int .i64 s.hd, .int .i64 s.tl, .int .i64 s.md,
  .slice z.p1 s.sl.length z.k1, .slice z.p2 s.sn.length z.k2, .slice z.p3 s.rc.length z.k3, .int .i64 s.fe, .slice z.p4 s.fl.length z.k4, .int .i64 s.ee, .slice z.p5 s.el.length z.k5, .int .i64 s.nw, .slice z.p6 s.th.length z.k6, .slice z.p7 s.lg.length z.k7]
def St.zero : List Value := [.int .i64 0, .int .i64 0, .int .i64 0, .int .i64 0, .int .i64 0, .int .i64 0, .bool false, .int .i64 0, .int .i64 0, .int .i64 0,
  .slice none 0 0, .slice none 0 0, .slice none 0 0, .int .i64 0, .slice none 0 0, .int .i64 0, .slice none 0 0, .int .i64 0, .slice none 0 0, .slice none 0 0]
def St.shape : List (Ck 1) := [.int .i64, .int .i64, .int .i64, .int .i64, .int .i64, .int .i64, .bool, .int .i64, .int .i64, .int .i64,
  .row Slo.shape, .row intShape, .row intShape, .int .i64, .row intShape, .int .i64, .row intShape, .int .i64, .row Th.shape, .row En.shape]
/-- The state's lists lie in memory so. -/
structure StAt (W : World) (s : St) (z : Pz) : Prop where
  sl : Sl W 2 Slo.cells s.sl (.slice z.p1 s.sl.length z.k1)
  sn : Sl W 1 intC s.sn (.slice z.p2 s.sn.length z.k2)
  rc : Sl W 1 intC s.rc (.slice z.p3 s.rc.length z.k3)
  fl : Sl W 1 intC s.fl (.slice z.p4 s.fl.length z.k4)
  el : Sl W 1 intC s.el (.slice z.p5 s.el.length z.k5)
  th : Sl W 11 Th.cells s.th (.slice z.p6 s.th.length z.k6)
  lg : Sl W 5 En.cells s.lg (.slice z.p7 s.lg.length z.k7)
theorem StAt.kept {W W' : World} {s : St} {z : Pz} (h : StAt W s z) (hk : Below W.heap.size W W') : StAt W' s z := ⟨h.sl.kept hk, h.sn.kept hk, h.rc.kept hk, h.fl.kept hk, h.el.kept hk, h.th.kept hk, h.lg.kept hk⟩
/-- Its numbers are those of an int, its lists no longer than memory lets a list be. -/
structure St.ok (s : St) : Prop where
  cf : s.cf.ok
  hd : In64 s.hd
  tl : In64 s.tl
  md : In64 s.md
  fe : In64 s.fe
  ee : In64 s.ee
  nw : In64 s.nw
  sl : (∀ x ∈ s.sl, x.ok) ∧ s.sl.length ≤ maxLen
  sn : (∀ x ∈ s.sn, In64 x) ∧ s.sn.length ≤ maxLen
  rc : (∀ x ∈ s.rc, In64 x) ∧ s.rc.length ≤ maxLen
  fl : (∀ x ∈ s.fl, In64 x) ∧ s.fl.length ≤ maxLen
  el : (∀ x ∈ s.el, In64 x) ∧ s.el.length ≤ maxLen
  th : (∀ x ∈ s.th, x.ok) ∧ s.th.length ≤ maxLen
  lg : s.lg.length ≤ maxLen
theorem row_of {α : Type} {W : World} {e : List (Ck 0)} {v : Value} (enc : α → List Value) (ok : α → Prop) (hne : 0 < e.length) (h : ReadC W (Ck.row e : Ck 1) v) (hd : ∀ vs, ReadL W e vs → ∃ x, vs = enc x ∧ ok x) :
    ∃ (xs : List α) (p : Option Addr) (k : Nat), v = .slice p xs.length k ∧ Sl W e.length enc xs (.slice p xs.length k) ∧ (∀ x ∈ xs, ok x) ∧ xs.length ≤ maxLen := by
  obtain ⟨xs, hs, ho, hl⟩ := Sl.of_read enc ok hne h hd
  obtain ⟨p, k, rfl, _⟩ := hs.is
  exact ⟨xs, p, k, rfl, hs, ho, hl⟩
theorem St.of_read {W : World} {vs : List Value} (h : ReadL W St.shape vs) : ∃ (s : St) (z : Pz), vs = s.cells z ∧ StAt W s z ∧ s.ok := by
  simp only [St.shape, read_nil, read_cons, read_int, read_bool, read_str] at h
  obtain ⟨_, _, rfl, ⟨c0, rfl, h0⟩, _, _, rfl, ⟨c1, rfl, h1⟩, _, _, rfl, ⟨c2, rfl, h2⟩, _, _, rfl, ⟨c3, rfl, h3⟩, _, _, rfl, ⟨c4, rfl, h4⟩, _, _, rfl, ⟨c5, rfl, h5⟩, _, _, rfl, ⟨c6, rfl⟩, _, _, rfl, ⟨c7, rfl, h7⟩, _, _, rfl, ⟨c8, rfl, h8⟩, _, _, rfl, ⟨c9, rfl, h9⟩,
    v1, _, rfl, r1, v2, _, rfl, r2, v3, _, rfl, r3, _, _, rfl, ⟨c13, rfl, h13⟩, v4, _, rfl, r4, _, _, rfl, ⟨c15, rfl, h15⟩, v5, _, rfl, r5, _, _, rfl, ⟨c17, rfl, h17⟩, v6, _, rfl, r6, v7, _, rfl, r7, rfl⟩ := h
  obtain ⟨sl, p1, k1, rfl, s1, o1, m1⟩ := row_of Slo.cells Slo.ok (by decide) r1 (fun vs h => Slo.of_read h)
  obtain ⟨sn, p2, k2, rfl, s2, o2, m2⟩ := row_of intC In64 (by decide) r2 (fun vs h => int_of_read h)
  obtain ⟨rc, p3, k3, rfl, s3, o3, m3⟩ := row_of intC In64 (by decide) r3 (fun vs h => int_of_read h)
  obtain ⟨fl, p4, k4, rfl, s4, o4, m4⟩ := row_of intC In64 (by decide) r4 (fun vs h => int_of_read h)
  obtain ⟨el, p5, k5, rfl, s5, o5, m5⟩ := row_of intC In64 (by decide) r5 (fun vs h => int_of_read h)
  obtain ⟨th, p6, k6, rfl, s6, o6, m6⟩ := row_of Th.cells Th.ok (by decide) r6 (fun vs h => Th.of_read h)
  obtain ⟨lg, p7, k7, rfl, s7, _, m7⟩ := row_of En.cells En.ok (by decide) r7 (fun vs h => En.of_read h)
  exact ⟨⟨⟨c0, c1, c2, c3, c4, c5, c6⟩, c7, c8, c9, sl, sn, rc, c13, fl, c15, el, c17, th, lg⟩, ⟨p1, k1, p2, k2, p3, k3, p4, k4, p5, k5, p6, k6, p7, k7⟩, rfl, ⟨s1, s2, s3, s4, s5, s6, s7⟩,
    ⟨⟨in64_of_wf h0, in64_of_wf h1, in64_of_wf h2, in64_of_wf h3, in64_of_wf h4, in64_of_wf h5⟩, in64_of_wf h7, in64_of_wf h8, in64_of_wf h9, in64_of_wf h13, in64_of_wf h15, in64_of_wf h17, ⟨o1, m1⟩, ⟨o2, m2⟩, ⟨o3, m3⟩, ⟨o4, m4⟩, ⟨o5, m5⟩, ⟨o6, m6⟩, m7⟩⟩
end Go.Proofs.Ytkflpaicohbppaa

/- Layer 11: what threads may do, as plain functions. -/
namespace Go.Proofs.Ytkflpaicohbppaa
set_option linter.unusedVariables false
set_option linter.unusedSimpArgs false

def opB (k : Int) : Bool := decide (1 ≤ k) && decide (k ≤ 8)
def opSide (k : Int) : Int := if 1 ≤ k ∧ k ≤ 3 then 1 else if 4 ≤ k ∧ k ≤ 6 then 2 else if 7 ≤ k ∧ k ≤ 8 then 3 else 0
def opTimed (k : Int) : Bool := (k == 3) || (k == 6)
def opMay (th : Int) (si : Bool) (i k : Int) : Int := if i < 0 ∨ th ≤ i then 123 else if opB k = false then 190 else if si = true ∧ opSide k = 2 ∧ i ≠ 0 then 123 else 0
theorem side_is (k : Int) : (opSide k = 1 ∧ 1 ≤ k ∧ k ≤ 3) ∨ (opSide k = 2 ∧ 4 ≤ k ∧ k ≤ 6) ∨ (opSide k = 3 ∧ 7 ≤ k ∧ k ≤ 8) ∨ (opSide k = 0 ∧ (k < 1 ∨ 8 < k)) := by
  unfold opSide
  repeat' split
  all_goals omega
theorem opB_iff {k : Int} : opB k = true ↔ 1 ≤ k ∧ k ≤ 8 := by simp [opB]
theorem opB_side (k : Int) : opB k = !(opSide k == 0) := by
  rw [Bool.eq_iff_iff]
  simp only [opB, Bool.and_eq_true, decide_eq_true_eq, Bool.not_eq_true', beq_eq_false_iff_ne]
  have := side_is k
  omega
end Go.Proofs.Ytkflpaicohbppaa

/- Layer 12: what is done to a thread, as plain functions and relations. -/
namespace Go.Proofs.Ytkflpaicohbppaa
set_option linter.unusedVariables false
set_option linter.unusedSimpArgs false

def thIn (n l h : Int) : Bool := decide (l ≤ n) && decide (n ≤ h)
def thDoes (st ki : Int) : Bool := (st == 0 && ki == 0) || (thIn st 0 2 && opB ki)
def thWaits (ki un : Int) (la : Bool) : Bool := if opTimed ki = true then thIn un 0 1099511627776 else (un == 0 && !la)
def thCounts (pc re se tr rs : Int) : Bool := thIn pc 0 11 && (thIn re 0 1099511627776 && (thIn se (-1) 1099511627776 && (thIn tr 0 1099511627776 && thIn rs 0 7)))
def thRests (st pc re se tr : Int) (la : Bool) : Bool := st == 0 && (pc == 0 && (re == 0 && (se == 0 && (tr == 0 && !la))))
/-- Whether a thread may be. -/
def thB (t : Th) : Bool := thDoes t.st t.ki && (thWaits t.ki t.un t.la && (thCounts t.pc t.re t.se t.tr t.rs && (!(t.st == 0) || thRests t.st t.pc t.re t.se t.tr t.la)))
/-- Why a thread may not step, or 0. -/
def thRuns (st : Int) : Int := if st = 0 then 121 else if st = 2 then 122 else 0
/-- One of which something is begun: E the error, r what it becomes. -/
def thBeg (t : Th) (k v u E : Int) (r : Th) : Prop :=
  (t.st ≠ 0 ∧ E = 120 ∧ r = t) ∨ (t.st = 0 ∧ opB k = false ∧ E = 190 ∧ r = t) ∨ (t.st = 0 ∧ opB k = true ∧ opTimed k = false ∧ E = 0 ∧ r = ⟨1, k, v, 0, 0, 0, 0, 0, false, 0, 0⟩) ∨
  (t.st = 0 ∧ opB k = true ∧ opTimed k = true ∧ ¬(0 ≤ u ∧ u ≤ 1099511627776) ∧ E = 50 ∧ r = t) ∨ (t.st = 0 ∧ opB k = true ∧ opTimed k = true ∧ (0 ≤ u ∧ u ≤ 1099511627776) ∧ E = 0 ∧ r = ⟨1, k, v, u, 0, 0, 0, 0, false, 0, 0⟩)
def thDone (t : Th) (E : Int) (r : Th) : Prop :=
  (t.st = 0 ∧ E = 121 ∧ r = t) ∨ (t.st = 2 ∧ E = 122 ∧ r = t) ∨ (t.st ≠ 0 ∧ t.st ≠ 2 ∧ E = 0 ∧ r = ⟨0, t.ki, t.va, t.un, 0, 0, 0, 0, false, t.rs, t.go⟩)
theorem beg_is (t : Th) (k v u : Int) : ∃ E r, thBeg t k v u E r := by
  unfold thBeg
  by_cases h : t.st = 0
  · cases h1 : opB k
    · exact ⟨190, t, .inr (.inl ⟨h, rfl, rfl, rfl⟩)⟩
    · cases h2 : opTimed k
      · exact ⟨0, _, .inr (.inr (.inl ⟨h, rfl, rfl, rfl, rfl⟩))⟩
      · by_cases h3 : 0 ≤ u ∧ u ≤ 1099511627776
        · exact ⟨0, _, .inr (.inr (.inr (.inr ⟨h, rfl, rfl, h3, rfl, rfl⟩)))⟩
        · exact ⟨50, t, .inr (.inr (.inr (.inl ⟨h, rfl, rfl, h3, rfl, rfl⟩)))⟩
  · exact ⟨120, t, .inl ⟨h, rfl, rfl⟩⟩
def bI (b : Bool) : Int := if b = true then 1 else 0
theorem timed_iff {k : Int} : opTimed k = true ↔ (k = 3 ∨ k = 6) := by simp [opTimed]
theorem thB_iff {st ki va un pc re se tr rs go : Int} {la : Bool} : thB ⟨st, ki, va, un, pc, re, se, tr, la, rs, go⟩ = true ↔
    ((st = 0 ∧ ki = 0) ∨ (0 ≤ st ∧ st ≤ 2 ∧ 1 ≤ ki ∧ ki ≤ 8)) ∧ (((ki = 3 ∨ ki = 6) ∧ 0 ≤ un ∧ un ≤ 1099511627776) ∨ (¬(ki = 3 ∨ ki = 6) ∧ un = 0 ∧ bI la = 0)) ∧
    (0 ≤ pc ∧ pc ≤ 11 ∧ 0 ≤ re ∧ re ≤ 1099511627776 ∧ -1 ≤ se ∧ se ≤ 1099511627776 ∧ 0 ≤ tr ∧ tr ≤ 1099511627776 ∧ 0 ≤ rs ∧ rs ≤ 7) ∧
    (st ≠ 0 ∨ (pc = 0 ∧ re = 0 ∧ se = 0 ∧ tr = 0 ∧ bI la = 0)) := by
  have hw : thWaits ki un la = true ↔ (((ki = 3 ∨ ki = 6) ∧ 0 ≤ un ∧ un ≤ 1099511627776) ∨ (¬(ki = 3 ∨ ki = 6) ∧ un = 0 ∧ bI la = 0)) := by
    unfold thWaits
    by_cases h : ki = 3 ∨ ki = 6
    · rw [if_pos (timed_iff.2 h)]; cases la <;> simp [h, thIn, bI]
    · rw [if_neg (fun h' => h (timed_iff.1 h'))]; cases la <;> simp [h, bI]
  simp only [thB, Bool.and_eq_true, hw]
  cases la <;> simp [thDoes, thCounts, thRests, thIn, opB, bI] <;> omega
end Go.Proofs.Ytkflpaicohbppaa

/- Layer 5: who stands behind whom, as plain mathematics. -/
namespace Go.Proofs.Ytkflpaicohbppaa
set_option linter.unusedVariables false
set_option linter.unusedSimpArgs false

/-- Not one of so many threads. -/
def noneB (th i : Int) : Bool := decide (i < 0) || decide (th ≤ i)
/-- Where one stands; -1: nowhere. -/
def ixI (l : List Int) (i : Int) : Int := if i ∈ l then (l.idxOf i : Int) else -1
def okLn (l : List Int) : Bool := !l.any (noneB 16) && decide l.Nodup
def nxB (l : List Int) : Bool := okLn l && !l.isEmpty
def nxI (l : List Int) : Int := if nxB l = true then l.headD 0 else 0
def nxL (l : List Int) : List Int := if nxB l = true then l.tail else l

theorem okl_iff {l : List Int} : okLn l = true ↔ (∀ x ∈ l, 0 ≤ x ∧ x ≤ 15) ∧ l.Nodup := by
  simp only [okLn, Bool.and_eq_true, Bool.not_eq_true', List.any_eq_false, decide_eq_true_eq, noneB, Bool.or_eq_true, not_or]
  refine and_congr_left fun _ => forall₂_congr fun x _ => ?_
  omega
/-! ### What a loop has looked at -/
theorem ix_hit {l : List Int} {i : Int} {j : Nat} (hj : j < l.length) (hi : l[j] = i) (h : i ∉ l.take j) : ixI l i = j := by
  have hm : i ∈ l := by rw [← hi]; exact List.getElem_mem hj
  have hs : l = l.take j ++ i :: l.drop (j + 1) := by rw [← hi]; simp
  unfold ixI
  rw [if_pos hm]
  have : l.idxOf i = j := by
    rw [hs, List.idxOf_append, if_neg h]
    simp; omega
  rw [this]
theorem ix_miss {l : List Int} {i : Int} (h : i ∉ l) : ixI l i = -1 := by simp [ixI, h]
theorem ix_nonneg {l : List Int} {i : Int} : 0 ≤ ixI l i ↔ i ∈ l := by
  unfold ixI
  split <;> simp [*]
theorem not_take_succ {l : List Int} {i : Int} {j : Nat} (hj : j < l.length) (hi : l[j] ≠ i) (h : i ∉ l.take j) : i ∉ l.take (j + 1) := by
  rw [List.take_succ_eq_append_getElem hj]
  simp only [List.mem_append, List.mem_singleton, not_or]
  exact ⟨h, Ne.symm hi⟩
/-- So far each is one, and unlike all others. -/
theorem nodup_take_succ {l : List Int} {j : Nat} (hj : j < l.length) : (l.take (j + 1)).Nodup ↔ (l.take j).Nodup ∧ l[j] ∉ l.take j := by
  rw [List.take_succ_eq_append_getElem hj, List.nodup_append]
  simp only [List.mem_singleton]
  constructor
  · rintro ⟨h1, -, h3⟩
    exact ⟨h1, fun h => h3 _ h _ rfl rfl⟩
  · rintro ⟨h1, h2⟩
    exact ⟨h1, by simp, fun a ha b hb e => h2 (by rw [← hb, ← e]; exact ha)⟩
theorem not_nodup_of_take {l : List Int} {j : Nat} (hj : j < l.length) (h : l[j] ∈ l.take j) : ¬ l.Nodup := fun hn =>
  ((nodup_take_succ hj).1 (hn.sublist (List.take_sublist _ _))).2 h
/-! ### Entering, leaving, the first -/
/-- One further in a line that is served. -/
theorem ok_drop {l : List Int} (h : okLn l = true) (j : Nat) : okLn (l.drop j) = true := by
  obtain ⟨a, b⟩ := okl_iff.1 h
  exact okl_iff.2 ⟨fun x hx => a x (List.mem_of_mem_drop hx), b.sublist (List.drop_sublist _ _)⟩
/-- There is room for no more than sixteen. -/
theorem nodup_le : ∀ (n : Nat) (l : List Int), l.Nodup → (∀ x ∈ l, 0 ≤ x ∧ x < n) → l.length ≤ n
  | 0, l, _, h => by
    cases l with
    | nil => simp
    | cons x r => have := h x (by simp); omega
  | n + 1, l, hd, h => by
    have h1 := nodup_le n (l.erase (n : Int)) (hd.sublist List.erase_sublist) (fun x hx => by
      have h2 := h x (List.mem_of_mem_erase hx)
      have h3 : x ≠ (n : Int) := fun e => by subst e; exact (hd.not_mem_erase) hx
      omega)
    have h4 := List.length_erase (a := (n : Int)) (l := l)
    split at h4 <;> omega
theorem ok_len {l : List Int} (h : okLn l = true) : l.length ≤ 16 := by
  obtain ⟨a, b⟩ := okl_iff.1 h
  exact nodup_le 16 l b (fun x hx => by have := a x hx; omega)
end Go.Proofs.Ytkflpaicohbppaa

/- Layer 6: what threads wait for, as plain mathematics: an event is its epoch and its line. -/
namespace Go.Proofs.Ytkflpaicohbppaa
set_option linter.unusedVariables false
set_option linter.unusedSimpArgs false

def okE (ep : Int) (l : List Int) : Bool := decide (0 ≤ ep) && decide (ep ≤ 1099511627776) && okLn l
/-- The next epoch. -/
def nxE (ep : Int) : Int := if ep + 1 ≤ 1099511627776 then ep + 1 else 1099511627776
def ntE (ep : Int) (l : List Int) : Int := if okE ep l = true then nxE ep else ep
/-- A notice for so many at most: who stays, and who is told. -/
def ntL (m : Nat) (ep : Int) (l : List Int) : List Int := if okE ep l = true then l.drop m else l
def ntT (m : Nat) (ep : Int) (l : List Int) : List Int := if okE ep l = true then l.take m else []
theorem okE_iff {ep : Int} {l : List Int} : okE ep l = true ↔ (0 ≤ ep ∧ ep ≤ 1099511627776) ∧ okLn l = true := by
  simp [okE]
theorem okE_ln {ep : Int} {l : List Int} (h : okE ep l = true) : okLn l = true := (okE_iff.1 h).2
theorem okE_nx {ep : Int} {l m : List Int} (h : okE ep l = true) (hm : okLn m = true) : okE (nxE ep) m = true := by
  obtain ⟨⟨h1, h2⟩, _⟩ := okE_iff.1 h
  refine okE_iff.2 ⟨?_, hm⟩
  unfold nxE
  split <;> omega
theorem ok_drop' {l : List Int} (h : okLn l = true) (m : Nat) : okLn (l.drop m) = true := ok_drop h m

/-! ### Who commits -/
/-! ### Notices, one by one -/
theorem nxE_min {ep : Int} : nxE ep = min (ep + 1) 1099511627776 := by unfold nxE; rw [Int.min_def]
end Go.Proofs.Ytkflpaicohbppaa

/- A RANGE OVER A FUNCTION whose value bears a receiver (a method value), or none: the iterator by its contract ('Iter': the list that it gives, one by one, as long as it is asked for more), the loop by one law ('wpIn_over'), at the wide fence. -/
namespace Go.Proofs.Ytkflpaicohbppaa
set_option linter.unusedVariables false
set_option linter.unusedSimpArgs false
open Go.RowKit

/-- What a round keeps: all below n₀; and of what lay from B on when the round began (the iterator's own blocks, and those of the loop's book-keeping) all. -/
structure Rnd (n₀ B S : Nat) (A C : World) : Prop where
  os : C.os = A.os
  tape : C.tape = A.tape
  output : C.output = A.output
  size : A.heap.size ≤ C.heap.size
  block : ∀ k, k < n₀ ∨ (B ≤ k ∧ k < S) → C.heap[k]? = A.heap[k]?

theorem Rnd.refl (n₀ B S : Nat) (A : World) : Rnd n₀ B S A A := ⟨rfl, rfl, rfl, Nat.le_refl _, fun _ _ => rfl⟩
theorem Rnd.trans {n₀ B S : Nat} {X Y Z : World} (h : Rnd n₀ B S X Y) (k : Rnd n₀ B S Y Z) : Rnd n₀ B S X Z :=
  ⟨k.os.trans h.os, k.tape.trans h.tape, k.output.trans h.output, Nat.le_trans h.size k.size, fun i hi => (k.block i hi).trans (h.block i hi)⟩
theorem Rnd.of_below {n₀ B S T : Nat} {A C : World} (h : Below T A C) (hn : n₀ ≤ T) (hS : S ≤ T) : Rnd n₀ B S A C :=
  ⟨h.os, h.tape, h.output, h.size, fun k hk => h.block k (by omega)⟩
theorem Rnd.setCell {n₀ B S : Nat} {A C : World} (h : Rnd n₀ B S A C) {p : Addr} (hp : n₀ ≤ p.block) (hp' : p.block < B ∨ S ≤ p.block) (u : Value) : Rnd n₀ B S A (C.setCell p u) :=
  h.trans ⟨rfl, rfl, rfl, by simp [World.setCell], fun k hk => Below.heap_setCell _ _ _ _ (by omega)⟩
theorem Rnd.alloc {n₀ B S : Nat} {A C : World} (h : Rnd n₀ B S A C) (hn : n₀ ≤ C.heap.size) (hS : S ≤ C.heap.size) (o : Obj) : Rnd n₀ B S A (C.alloc o) :=
  h.trans (Rnd.of_below ((Below.refl C.heap.size C).alloc (Nat.le_refl _) o) hn hS)
theorem Rnd.call {n₀ B S : Nat} {A C D : World} (h : Rnd n₀ B S A C) (k : Below C.heap.size C D) (hn : n₀ ≤ C.heap.size) (hS : S ≤ C.heap.size) : Rnd n₀ B S A D :=
  h.trans (Rnd.of_below k hn hS)

/-- The world turned at blocks alone that lie from B on and hold no cells, or at new ones: a step of the loop's book-keeping, or of an iterator's. -/
structure Turn (B : Nat) (A C : World) : Prop where
  os : C.os = A.os
  tape : C.tape = A.tape
  output : C.output = A.output
  size : A.heap.size ≤ C.heap.size
  block : ∀ k o, A.heap[k]? = some o → k < B ∨ o.isCells = true → C.heap[k]? = some o

theorem some_of_lt {W : World} {k : Nat} (h : k < W.heap.size) : ∃ o, W.heap[k]? = some o := ⟨W.heap[k], Array.getElem?_eq_getElem h⟩
theorem lt_of_some {W : World} {k : Nat} {o : Obj} (h : W.heap[k]? = some o) : k < W.heap.size := (Array.getElem?_eq_some_iff.1 h).1
theorem Turn.of_kept {B : Nat} {A C : World} (h : Below A.heap.size A C) : Turn B A C :=
  ⟨h.os, h.tape, h.output, h.size, fun k _ hk _ => (h.block k (lt_of_some hk)).trans hk⟩
theorem Turn.putObj {B : Nat} {A : World} {l : Nat} {o : Obj} (h : A.heap[l]? = some o) (ho : o.isCells = false) (hl : B ≤ l) (o' : Obj) : Turn B A (A.putObj l o') :=
  ⟨rfl, rfl, rfl, by simp, fun k p hk hp => by
    have : k ≠ l := by
      intro e; subst e; rw [h] at hk; cases hk
      rcases hp with hp | hp
      · omega
      · rw [ho] at hp; cases hp
    exact (World.putObj_heap_other this).trans hk⟩
theorem Turn.below {B : Nat} {A C w : World} (h : Turn B A C) (hB : w.heap.size ≤ B) (k : Below w.heap.size w A) : Below w.heap.size w C :=
  k.trans ⟨h.os, h.tape, h.output, h.size, fun i hi => by
    obtain ⟨o, ho⟩ := some_of_lt (W := A) (k := i) (Nat.lt_of_lt_of_le hi k.size)
    rw [ho, h.block i o ho (.inl (by omega))]⟩
theorem Turn.cell {B : Nat} {A C : World} (h : Turn B A C) {p : Addr} {v : Value} (hc : A.cell? p = some v) : C.cell? p = some v := by
  obtain ⟨o, ho, hi⟩ := cells_of_cell hc
  rw [World.cell?_of_block (w := A) ((h.block _ o ho (.inr hi)).trans ho.symm)]; exact hc
theorem Turn.frozen {B : Nat} {A C : World} (h : Turn B A C) {p : Addr} {v : Value} (hc : A.cell? p = some v) : C.frozen? p = A.frozen? p := by
  obtain ⟨o, ho, hi⟩ := cells_of_cell hc
  exact World.frozen?_of_block (w := A) ((h.block _ o ho (.inr hi)).trans ho.symm)

/-- An iterator's value (function gf, its receiver bd, what it captured lb) gives xs, one by one, as long as it is asked for more; of a round it wants just what 'Rnd' says. -/
def Iter {α : Type} (P : Program) (gf : Nat) (bd lb : Array Value) (enc : α → Value) (n₀ : Nat) (xs : List α) (w : World) : Prop :=
  ∀ (l : Nat) (J Jx : List α → World → Prop) (W : World), Below w.heap.size w W →
    (∀ s A C, J s A → Below A.heap.size A C → J s C) → (∀ s A C, Jx s A → Below A.heap.size A C → Jx s C) →
    (∀ (m : Nat) pre x suf A, 9 ≤ m → xs = pre ++ x :: suf → J pre A → YieldAt Fence.wide m P l #[enc x] A fun e C =>
      (e = .returned (.bool true) ∧ J (pre ++ [x]) C ∧ Rnd n₀ W.heap.size A.heap.size A C) ∨ (e = .returned (.bool false) ∧ Jx (pre ++ [x]) C)) →
    J [] W → Calls P gf (bd ++ #[.func (.yield l) #[] #[]] ++ lb) W fun e C => (∃ v, e = .returned v) ∧ (J xs C ∨ ∃ pre, Jx pre C)

/-- How a round's body may be left. -/
def rndPost {α : Type} (n₀ B S : Nat) (I : List α → World → Prop) (Ix : Code → List α → World → Prop) (xs : List α) (A : World) : Exit → Act → World → Prop
  | .normal, _, C => Rnd n₀ B S A C ∧ I xs C
  | .ret, _, C => Rnd n₀ B S A C ∧ Ix .ret xs C
  | .exit id, _, C => Rnd n₀ B S A C ∧ Ix (.exit id) xs C
  | _, _, _ => False

/-- The loop. -/
theorem wpIn_over {α : Type} {P : Program} {n : Nat} {g : Operand} {ps : Array Tmp} {assign body : Code} {Q : Exit → Act → World → Prop} {a : Act} {w : World}
    {gf : Nat} {bd lb : Array Value} (hg : a.eval g = .func (.func gf) bd lb) (eg : ∀ args w, (callFunc gf args).run P w = .ok (.enter gf args) w)
    {enc : α → Value} {n₀ : Nat} {xs : List α} (hseq : Iter P gf bd lb enc n₀ xs w) (hn₀ : n₀ ≤ w.heap.size) (hps : ps.size = 1)
    (I : List α → World → Prop) (Ix : Code → List α → World → Prop) (hI : ∀ s A C, I s A → Turn w.heap.size A C → I s C) (hIx : ∀ c s A C, Ix c s A → Turn w.heap.size A C → Ix c s C) (h0 : I [] w)
    (hround : ∀ (m l : Nat) (pre suf : List α) (x : α) (A : World), 9 ≤ m → xs = pre ++ x :: suf → w.heap.size + 2 ≤ A.heap.size → I pre A →
      assign.wpIn (Fence.wide.inRound l) m P (Exit.then (fun a₁ A₁ => Below A.heap.size A A₁ ∧ ∀ C, Turn w.heap.size A₁ C → C.heap.size = A₁.heap.size →
          body.wpIn (Fence.wide.inRound l) m P (rndPost n₀ w.heap.size A.heap.size I Ix (pre ++ [x]) C) a₁ C) (fun _ _ _ => False))
        { tmps := (ps.zip #[enc x]).foldl (fun t (p, v) => t.setIfInBounds p v) a.tmps, defers := [] } A)
    (hdone : ∀ (D : Nat) (W : World), w.heap.size ≤ D → I xs W → W.heap[D]? = some (.deferred (some [])) → Q .normal { a with defers := { target := .collected D, args := #[] } :: a.defers } W)
    (hstop : ∀ (D : Nat) (c : Code) (pre : List α) (W : World), w.heap.size ≤ D → Ix c pre W → W.heap[D]? = some (.deferred (some [])) → c.wpIn Fence.wide n P Q { a with defers := { target := .collected D, args := #[] } :: a.defers } W) :
    (Code.rangeFunc g ps assign body).wpIn Fence.wide n P Q a w := by
  refine wpIn_rangeFunc fun fn hfn => ?_
  obtain ⟨rec, hrec⟩ : ∃ rec : LoopState → Option Code → Loop, rec = fun st pe => { state := st, pending := pe, fn, tmps := a.tmps, params := ps, assign, body, defers := w.heap.size } := ⟨_, rfl⟩
  obtain ⟨V, hV⟩ : ∃ V, (w.alloc (.deferred (some []))).alloc (.loop (rec .ready none)) = V := ⟨_, rfl⟩
  have hwV : Below w.heap.size w V := by rw [← hV]; exact ((Below.refl _ w).alloc (Nat.le_refl _) _).alloc (by simp) _
  have hsV : V.heap.size = w.heap.size + 2 := by rw [← hV]; simp
  have hlV : V.heap[w.heap.size + 1]? = some (.loop (rec .ready none)) := by
    rw [← hV]; have := World.alloc_heap_new (w.alloc (.deferred (some []))) (.loop (rec .ready none)); rwa [World.size_alloc] at this
  have hdV : V.heap[w.heap.size]? = some (.deferred (some [])) := by
    rw [← hV]; exact (Below.heap_alloc _ _ _ (by simp)).trans (World.alloc_heap_new w _)
  refine ⟨w.heap.size + 1, [{ target := .collected w.heap.size, args := #[] }], V, { target := .fn (.func gf) lb, args := bd ++ #[.func (.yield (w.heap.size + 1)) #[] #[]] }, V, gf,
    bd ++ #[.func (.yield (w.heap.size + 1)) #[] #[]] ++ lb, V, ?_, ?_, fun _ _ => trivial, ?_, fun h => by simp [Fence.wide] at h, ?_⟩
  · rw [← hV, hrec]; exact run_enterLoop_outer _ _ _ _ _
  · simp only [resolve, hg]
    simp [go_sem, Deferred.ofValue]
  · simp [invoke, go_sem, eg]
  refine (callsIn_wide.2 (hseq (w.heap.size + 1)
    (fun pre W => I pre W ∧ W.heap[w.heap.size + 1]? = some (.loop (rec .ready none)) ∧ W.heap[w.heap.size]? = some (.deferred (some [])) ∧ w.heap.size + 2 ≤ W.heap.size)
    (fun pre W => ∃ c, Ix c pre W ∧ W.heap[w.heap.size + 1]? = some (.loop (rec .done (some c))) ∧ W.heap[w.heap.size]? = some (.deferred (some [])))
    V hwV
    (fun s A C hs hk => ⟨hI s A C hs.1 (Turn.of_kept hk), (hk.block _ (lt_of_some hs.2.1)).trans hs.2.1, (hk.block _ (lt_of_some hs.2.2.1)).trans hs.2.2.1, Nat.le_trans hs.2.2.2 hk.size⟩)
    (fun s A C hs hk => by obtain ⟨c, h1, h2, h3⟩ := hs; exact ⟨c, hIx c s A C h1 (Turn.of_kept hk), (hk.block _ (lt_of_some h2)).trans h2, (hk.block _ (lt_of_some h3)).trans h3⟩)
    ?_ ⟨hI _ _ _ h0 (Turn.of_kept hwV), hlV, hdV, by omega⟩)).mono ?_
  · rintro m pre x suf A hm hxs ⟨hi, hl, hd, hsz⟩
    have hy := run_yield (P := P) (args := #[enc x]) hl (by rw [hrec]; exact hps.symm)
    rw [hrec] at hy
    refine ⟨fn, _, assign, body, hy, roundIn_of_wpIn trivial (wpIn_mono (hround m (w.heap.size + 1) pre suf x A hm hxs hsz hi) ?_)⟩
    clear hy
    rintro e a₁ A₁ hq
    cases e with
    | normal =>
      obtain ⟨hk, hbody⟩ := hq
      have hl1 := (hk.block _ (lt_of_some hl)).trans hl
      have hd1 := (hk.block _ (lt_of_some hd)).trans hd
      refine ⟨_, run_beginRound hl1 (by rw [hrec]), wpIn_mono (hbody _ (Turn.putObj hl1 rfl (by omega) _) (by simp)) ?_⟩
      obtain ⟨A₂, hA₂⟩ : ∃ A₂, A₁.putObj (w.heap.size + 1) (.loop { rec .ready none with state := .busy }) = A₂ := ⟨_, rfl⟩
      rw [hA₂]
      have hl2 : A₂.heap[w.heap.size + 1]? = some (.loop (rec .busy none)) := by rw [← hA₂]; exact (World.putObj_heap_same (lt_of_some hl1)).trans (by rw [hrec])
      have hd2 : A₂.heap[w.heap.size]? = some (.deferred (some [])) := by rw [← hA₂]; exact (World.putObj_heap_other (by omega)).trans hd1
      have ho2 : ∀ k, k ≠ w.heap.size + 1 → A₂.heap[k]? = A₁.heap[k]? := fun k hk => by rw [← hA₂]; exact World.putObj_heap_other hk
      have hs2 : A₂.heap.size = A₁.heap.size := by rw [← hA₂]; simp
      have hos : A₂.os = A₁.os ∧ A₂.tape = A₁.tape ∧ A₂.output = A₁.output := by rw [← hA₂]; exact ⟨rfl, rfl, rfl⟩
      have fin : ∀ (jump : Option Code) (C : World), Rnd n₀ w.heap.size A.heap.size A₂ C →
          (Instr.endRound (w.heap.size + 1) jump).run P C = .ok (.bool jump.isNone) (C.putObj (w.heap.size + 1) (.loop (rec (if jump.isNone then .ready else .done) jump))) ∧
          Turn w.heap.size C (C.putObj (w.heap.size + 1) (.loop (rec (if jump.isNone then .ready else .done) jump))) ∧
          (C.putObj (w.heap.size + 1) (.loop (rec (if jump.isNone then .ready else .done) jump))).heap[w.heap.size + 1]? = some (.loop (rec (if jump.isNone then .ready else .done) jump)) ∧
          (C.putObj (w.heap.size + 1) (.loop (rec (if jump.isNone then .ready else .done) jump))).heap[w.heap.size]? = some (.deferred (some [])) := fun jump C hC => by
        have hl3 := (hC.block _ (.inr ⟨by omega, by omega⟩)).trans hl2
        have hd3 := (hC.block _ (.inr ⟨by omega, by omega⟩)).trans hd2
        have hr := run_endRound (P := P) jump hl3
        refine ⟨by rw [hr, hrec], Turn.putObj hl3 rfl (by omega) _, World.putObj_heap_same (lt_of_some hl3), (World.putObj_heap_other (by omega)).trans hd3⟩
      rintro e a₃ C hp
      cases e with
      | normal =>
        obtain ⟨hC, hi3⟩ := hp
        obtain ⟨hr, ht, hl4, hd4⟩ := fin none C hC
        refine ⟨_, _, hr, .inl ⟨rfl, ⟨hI _ _ _ hi3 ht, hl4, hd4, ?_⟩, ?_⟩⟩
        · have := hC.size; have := hk.size; simp; omega
        · refine ⟨?_, ?_, ?_, ?_, fun k hk' => ?_⟩
          · exact hC.os.trans (hos.1.trans hk.os)
          · exact hC.tape.trans (hos.2.1.trans hk.tape)
          · exact hC.output.trans (hos.2.2.trans hk.output)
          · have := hC.size; have := hk.size; simp; omega
          · rw [World.putObj_heap_other (by omega), hC.block k (by omega), ho2 k (by omega), hk.block k (by omega)]
      | ret =>
        obtain ⟨hC, hi3⟩ := hp
        obtain ⟨hr, ht, hl4, hd4⟩ := fin (some .ret) C hC
        exact ⟨_, _, hr, .inr ⟨rfl, _, hIx _ _ _ _ hi3 ht, hl4, hd4⟩⟩
      | exit id =>
        obtain ⟨hC, hi3⟩ := hp
        obtain ⟨hr, ht, hl4, hd4⟩ := fin (some (.exit id)) C hC
        exact ⟨_, _, hr, .inr ⟨rfl, _, hIx _ _ _ _ hi3 ht, hl4, hd4⟩⟩
      | goto t => exact hp.elim
      | panic ch => exact hp.elim
      | outgrown => exact hp.elim
    | ret => exact hq
    | exit id => exact hq
    | goto t => exact hq
    | panic ch => exact hq
    | outgrown => exact hq
  · rintro e C ⟨⟨v, rfl⟩, ⟨hi, hl, hd, -⟩ | ⟨pre, c, hi, hl, hd⟩⟩
    · have he := run_endLoop (P := P) hl (by rw [hrec]; simp)
      rw [hrec] at he
      exact ⟨none, _, he, hdone _ _ (Nat.le_refl _) (hI _ _ _ hi (Turn.putObj hl rfl (by omega) _)) ((World.putObj_heap_other (by omega)).trans hd)⟩
    · have he := run_endLoop (P := P) hl (by rw [hrec]; simp)
      rw [hrec] at he
      exact ⟨some c, _, he, hstop _ c pre _ (Nat.le_refl _) (hIx _ _ _ _ hi (Turn.putObj hl rfl (by omega) _)) ((World.putObj_heap_other (by omega)).trans hd)⟩
end Go.Proofs.Ytkflpaicohbppaa

/- Plain functions of layer 2 (how a fabric is laid), the program's and the document's, and that they are one. -/
namespace Go.Proofs.Ytkflpaicohbppaa
set_option linter.unusedVariables false
set_option linter.unusedSimpArgs false

/-- A number, and the least and the greatest that it may be. -/
structure Bd where
  n : Int
  low : Int
  high : Int
def Bd.val (b : Bd) : Value := .agg #[.int .i64 b.n, .int .i64 b.low, .int .i64 b.high]
def inB (n low high : Int) : Bool := decide (low ≤ n) && decide (n ≤ high)
def Bd.inB (b : Bd) : Bool := Go.Proofs.Ytkflpaicohbppaa.inB b.n b.low b.high
def triesI (wt : Int) : Int := if wt = 2 then 8 else 0
def bdsL (lg th po wt sp yi : Int) : List Bd := [⟨lg, 1, 6⟩, ⟨th, 1, 16⟩, ⟨po, 0, 2⟩, ⟨wt, 0, 3⟩, ⟨sp, 0, triesI wt⟩, ⟨yi, 0, triesI wt⟩]
def okL (l : List Bd) : Bool := l.all Bd.inB
def mayB (lg th po wt sp yi : Int) : Bool := okL (bdsL lg th po wt sp yi)
def ckI (lg th po wt sp yi : Int) : Int := if mayB lg th po wt sp yi then 0 else 20
theorem okL_snoc {l : List Bd} {x : Bd} (h : okL l = true) (k : x.inB = true) : okL (l ++ [x]) = true := by
  unfold okL at *; simp only [List.all_append, h, Bool.true_and, List.all_cons, k, List.all_nil]
theorem may_not {lg th po wt sp yi : Int} {pre suf : List Bd} {x : Bd} (h : bdsL lg th po wt sp yi = pre ++ x :: suf) (k : x.inB = false) : mayB lg th po wt sp yi = false := by
  unfold mayB okL; rw [h]; simp only [List.all_append, List.all_cons, k, Bool.false_and, Bool.and_false]
theorem may_iff {lg th po wt sp yi : Int} : mayB lg th po wt sp yi = true ↔
    1 ≤ lg ∧ lg ≤ 6 ∧ 1 ≤ th ∧ th ≤ 16 ∧ 0 ≤ po ∧ po ≤ 2 ∧ 0 ≤ wt ∧ wt ≤ 3 ∧ 0 ≤ sp ∧ sp ≤ 8 ∧ 0 ≤ yi ∧ yi ≤ 8 ∧ (wt = 2 ∨ sp = 0 ∧ yi = 0) := by
  unfold mayB okL bdsL triesI
  simp only [List.all_cons, List.all_nil, Bd.inB, inB, Bool.and_eq_true, decide_eq_true_eq, Bool.and_true]
  by_cases h : wt = 2
  · rw [if_pos h]; omega
  · rw [if_neg h]; omega
theorem ck_yes {lg th po wt sp yi : Int} (h : mayB lg th po wt sp yi = true) : ckI lg th po wt sp yi = 0 := by rw [ckI, if_pos h]
theorem ck_no {lg th po wt sp yi : Int} (h : mayB lg th po wt sp yi = false) : ckI lg th po wt sp yi = 20 := by rw [ckI, h]; rfl
def pw (lg : Int) : Int := if lg = 1 then 2 else if lg = 2 then 4 else if lg = 3 then 8 else if lg = 4 then 16 else if lg = 5 then 32 else 64
def roomI (lg th po wt sp yi : Int) : Int := if mayB lg th po wt sp yi then pw lg else 0
theorem room_no {lg th po wt sp yi : Int} (h : mayB lg th po wt sp yi = false) : roomI lg th po wt sp yi = 0 := by rw [roomI, h]; rfl
theorem room_yes {lg th po wt sp yi : Int} (h : mayB lg th po wt sp yi = true) : roomI lg th po wt sp yi = pw lg := by rw [roomI, if_pos h]
theorem pw_bd (lg : Int) : 2 ≤ pw lg ∧ pw lg ≤ 64 := by
  unfold pw
  repeat' split
  all_goals omega
theorem room_bd (lg th po wt sp yi : Int) : 0 ≤ roomI lg th po wt sp yi ∧ roomI lg th po wt sp yi ≤ 64 := by
  have := pw_bd lg
  unfold roomI; split <;> omega
end Go.Proofs.Ytkflpaicohbppaa

/- Layer 13: what a state is, and what becomes of it, as plain functions. -/
namespace Go.Proofs.Ytkflpaicohbppaa
set_option linter.unusedVariables false
set_option linter.unusedSimpArgs false

def cfB (c : Cf) : Bool := mayB c.lg c.th c.po c.wt c.sp c.yi
def cfR (c : Cf) : Int := roomI c.lg c.th c.po c.wt c.sp c.yi
/-- Whether a number is too great to be one of so many. -/
def overB (many i : Int) : Bool := decide (many ≤ i)
/-- Whether a line may be, of so many threads. -/
def stnB (many : Int) (l : List Int) : Bool := okLn l && !(l.any (overB many))
def notTh (t : Th) : Bool := !thB t
def ringSt (s : St) : Bool := checkB s.hd s.tl s.md (cfR s.cf) && (decide ((s.sl.length : Int) = cfR s.cf) && okSl s.sl)
def thsSt (s : St) : Bool := decide ((s.th.length : Int) = s.cf.th) && !(s.th.any notTh)
def lnsSt (s : St) : Bool := stnB s.cf.th s.sn && (stnB s.cf.th s.rc && (stnB s.cf.th s.fl && stnB s.cf.th s.el))
/-- Whether a state may be. -/
def stB (s : St) : Bool := cfB s.cf && (ringSt s && (lnsSt s && (okE s.fe s.fl && (okE s.ee s.el && (decide (0 ≤ s.nw) && (decide (s.nw ≤ 1099511627776) && thsSt s))))))

def th0 : Th := ⟨0, 0, 0, 0, 0, 0, 0, 0, false, 0, 0⟩
def gth (l : List Th) (i : Nat) : Th := l.getD i th0
theorem gth_eq {l : List Th} {i : Nat} (h : i < l.length) : gth l i = l[i] := by simp [gth, h]
theorem gth_set {l : List Th} {i j : Nat} {t : Th} (h : i < l.length) : gth (l.set i t) j = if i = j then t else gth l j := by
  simp only [gth, List.getD_eq_getElem?_getD, List.getElem?_set]
  by_cases e : i = j
  · subst e; simp [h]
  · simp [e]
theorem gth_set_self {l : List Th} {i : Nat} : l.set i (gth l i) = l := by
  apply List.ext_getElem?
  intro j
  rw [List.getElem?_set]
  by_cases e : i = j
  · subst e
    by_cases h : i < l.length
    · simp [h, gth]
    · simp [h, List.getElem?_eq_none (by omega : l.length ≤ i)]
  · simp [e]

def St.setTh (s : St) (i : Nat) (t : Th) : St := ⟨s.cf, s.hd, s.tl, s.md, s.sl, s.sn, s.rc, s.fe, s.fl, s.ee, s.el, s.nw, s.th.set i t, s.lg⟩
def St.addLg (s : St) (e : En) : St := ⟨s.cf, s.hd, s.tl, s.md, s.sl, s.sn, s.rc, s.fe, s.fl, s.ee, s.el, s.nw, s.th, s.lg ++ [e]⟩
def cf0 : Cf := ⟨0, 0, 0, 0, 0, 0, false⟩
def st0 : St := ⟨cf0, 0, 0, 0, [], [], [], 0, [], 0, [], 0, [], []⟩
def newSt (c : Cf) : St := ⟨c, 0, 0, 0, newL (cfR c), [], [], 0, [], 0, [], 0, List.replicate c.th.toNat th0, []⟩
/-- Whether it may be, and has that thread. -/
def hasB (s : St) (i : Int) : Bool := stB s && (decide (0 ≤ i) && decide (i < s.th.length))
/-- Of which something is begun: E the error, r what it becomes. -/
def stBeg (s : St) (i k v u E : Int) (r : St) : Prop :=
  (stB s = false ∧ E = 20 ∧ r = s) ∨ (stB s = true ∧ opMay s.cf.th s.cf.si i k ≠ 0 ∧ E = opMay s.cf.th s.cf.si i k ∧ r = s) ∨
  (stB s = true ∧ opMay s.cf.th s.cf.si i k = 0 ∧ ∃ (n : Nat) (t : Th), i = n ∧ n < s.th.length ∧ thBeg (gth s.th n) k v u E t ∧ r = s.setTh n t)
def tellT (t : Th) (k r g : Int) : Th := if k = 9 then t else ⟨t.st, t.ki, t.va, t.un, t.pc, t.re, t.se, t.tr, t.la, r, g⟩
def tellS (s : St) (i k r g : Int) : St := if hasB s i = true then (s.setTh i.toNat (tellT (gth s.th i.toNat) k r g)).addLg ⟨i, k, (gth s.th i.toNat).va, r, g⟩ else s

theorem st_iff {s : St} : stB s = true ↔ cfB s.cf = true ∧ ringSt s = true ∧ lnsSt s = true ∧ okE s.fe s.fl = true ∧ okE s.ee s.el = true ∧ 0 ≤ s.nw ∧ s.nw ≤ 1099511627776 ∧ thsSt s = true := by
  simp [stB, and_assoc]
theorem has_iff {s : St} {i : Int} : hasB s i = true ↔ stB s = true ∧ 0 ≤ i ∧ i < s.th.length := by simp [hasB]
theorem cf_room {c : Cf} (h : cfB c = true) : cfR c = 2 ∨ cfR c = 4 ∨ cfR c = 8 ∨ cfR c = 16 ∨ cfR c = 32 ∨ cfR c = 64 := by
  obtain ⟨lg, th, po, wt, sp, yi, si⟩ := c
  have hp := may_iff.1 (show mayB lg th po wt sp yi = true from h)
  have hc : cfR ⟨lg, th, po, wt, sp, yi, si⟩ = pw lg := room_yes h
  rw [hc]
  clear hc
  obtain rfl | rfl | rfl | rfl | rfl | rfl : lg = 1 ∨ lg = 2 ∨ lg = 3 ∨ lg = 4 ∨ lg = 5 ∨ lg = 6 := by omega
  all_goals decide
theorem cf_bd (c : Cf) : 0 ≤ cfR c ∧ cfR c ≤ 64 := room_bd _ _ _ _ _ _
theorem cf_th {c : Cf} (h : cfB c = true) : 1 ≤ c.th ∧ c.th ≤ 16 ∧ 1 ≤ c.lg ∧ c.lg ≤ 6 ∧ 0 ≤ c.po ∧ c.po ≤ 2 ∧ 0 ≤ c.wt ∧ c.wt ≤ 3 := by
  obtain ⟨lg, th, po, wt, sp, yi, si⟩ := c
  have hp := may_iff.1 (show mayB lg th po wt sp yi = true from h)
  simp only
  omega
theorem th0_ok : thB th0 = true := by decide
theorem line_nil : okLn [] = true := by decide
theorem new_stB {c : Cf} (h : cfB c = true) : stB (newSt c) = true := by
  have hr := cf_room h
  have ht := cf_th h
  have hb : ringB (cfR c) = true := ring_iff.2 (by omega)
  obtain ⟨k, hk⟩ : ∃ k : Nat, cfR c = k := ⟨(cfR c).toNat, by omega⟩
  have hk' : 1 ≤ k ∧ k ≤ 64 := by omega
  have hl : (newL (cfR c)).length = k := by rw [hk]; exact new_len hk'
  have hstn : ∀ m, stnB m [] = true := fun m => by simp [stnB, line_nil]
  have hE : okE 0 [] = true := by simp [okE, line_nil]
  refine st_iff.2 ⟨h, ?_, ?_, hE, hE, by simp [newSt], by simp [newSt], ?_⟩
  · unfold ringSt
    rw [Bool.and_eq_true, Bool.and_eq_true]
    refine ⟨?_, ?_, ?_⟩
    · have : lenI 0 0 = 0 := by decide
      show checkB 0 0 0 (cfR c) = true
      simp [checkB, this]; omega
    · exact decide_eq_true (show ((newL (cfR c)).length : Int) = cfR c by omega)
    · show okSl (newL (cfR c)) = true
      rw [hk]; exact new_ok hk'
  · simp [lnsSt, newSt, hstn]
  · have h1 : (List.replicate c.th.toNat th0).any notTh = false := by
      rw [List.any_eq_false]
      intro x hx
      rw [(List.mem_replicate.1 hx).2]
      simp [notTh, th0_ok]
    have h2 : ((List.replicate c.th.toNat th0).length : Int) = c.th := by rw [List.length_replicate]; omega
    show (decide (((List.replicate c.th.toNat th0).length : Int) = c.th) && !((List.replicate c.th.toNat th0).any notTh)) = true
    rw [h1, decide_eq_true h2]
    rfl
theorem beg_stB (s : St) (i k v u : Int) : ∃ E r, stBeg s i k v u E r := by
  cases h : stB s
  · exact ⟨20, s, .inl ⟨h, rfl, rfl⟩⟩
  · by_cases h1 : opMay s.cf.th s.cf.si i k = 0
    · have hth : thsSt s = true := (st_iff.1 h).2.2.2.2.2.2.2
      simp only [thsSt, Bool.and_eq_true, decide_eq_true_eq] at hth
      have hi : ¬ (i < 0 ∨ s.cf.th ≤ i) := fun h' => by unfold opMay at h1; rw [if_pos h'] at h1; cases h1
      obtain ⟨E, t, ht⟩ := beg_is (gth s.th i.toNat) k v u
      exact ⟨E, s.setTh i.toNat t, .inr (.inr ⟨h, h1, i.toNat, t, by omega, by omega, ht, rfl⟩)⟩
    · exact ⟨_, s, .inr (.inl ⟨h, h1, rfl, rfl⟩)⟩
end Go.Proofs.Ytkflpaicohbppaa

/- Layer 8, plain: what lets one in, takes one out, lets one go, and closes a ring's word. -/
namespace Go.Proofs.Ytkflpaicohbppaa
set_option linter.unusedVariables false
set_option linter.unusedSimpArgs false

def clM (m d : Int) : Int := if (d = 1 ∨ d = 2) ∧ m < d then d else m

end Go.Proofs.Ytkflpaicohbppaa

/- Layer 8, plain: what the laws ask. -/
namespace Go.Proofs.Ytkflpaicohbppaa
set_option linter.unusedVariables false
set_option linter.unusedSimpArgs false

theorem check_iff {h t m r : Int} : checkB h t m r = true ↔ 0 ≤ h ∧ h ≤ t ∧ t ≤ 1099511627776 ∧ 0 ≤ m ∧ m ≤ 2 ∧ t - h ≤ r := by
  constructor
  · intro c; have := check_len c; omega
  · intro c
    have : lenI h t = t - h := by unfold lenI; split <;> omega
    simp [checkB, this]; omega
end Go.Proofs.Ytkflpaicohbppaa

/- What one does who looks in vain, by plain functions. -/
namespace Go.Proofs.Ytkflpaicohbppaa
set_option linter.unusedVariables false
set_option linter.unusedSimpArgs false
end Go.Proofs.Ytkflpaicohbppaa

/- Layer 14: a step of who sends, as a plain function; what may be stays so. -/
namespace Go.Proofs.Ytkflpaicohbppaa
set_option linter.unusedVariables false
set_option linter.unusedSimpArgs false

/-! ### What becomes of a thread -/
def pcT (t : Th) (p : Int) : Th := ⟨t.st, t.ki, t.va, t.un, p, t.re, t.se, t.tr, t.la, t.rs, t.go⟩
def doneT (t : Th) : Th := ⟨0, t.ki, t.va, t.un, 0, 0, 0, 0, false, t.rs, t.go⟩
def wakeT (t : Th) : Th := if t.st = 2 then ⟨1, t.ki, t.va, t.un, t.pc, t.re, t.se, t.tr, t.la, t.rs, t.go⟩ else t
/-! ### What becomes of a state -/
def St.onTh (s : St) (n : Nat) (f : Th → Th) : St := s.setTh n (f (gth s.th n))
def St.toWord (s : St) (h t m : Int) : St := ⟨s.cf, h, t, m, s.sl, s.sn, s.rc, s.fe, s.fl, s.ee, s.el, s.nw, s.th, s.lg⟩
def St.toFull (s : St) (e : Int) (l : List Int) : St := ⟨s.cf, s.hd, s.tl, s.md, s.sl, s.sn, s.rc, e, l, s.ee, s.el, s.nw, s.th, s.lg⟩
def St.toEmpty (s : St) (e : Int) (l : List Int) : St := ⟨s.cf, s.hd, s.tl, s.md, s.sl, s.sn, s.rc, s.fe, s.fl, e, l, s.nw, s.th, s.lg⟩
def wakeS (s : St) (i : Int) : St := if hasB s i = true then s.onTh i.toNat wakeT else s
/-- A result told, and on to a step. -/
def toldS (s : St) (n : Nat) (k r g p : Int) : St := (tellS s n k r g).onTh n (pcT · p)
/-- Whether a thread runs what is of a side. -/
def runsB (s : St) (i d : Int) : Bool := hasB s i && ((gth s.th i.toNat).st == 1 && opSide (gth s.th i.toNat).ki == d)
/-! ### What may be stays so -/
theorem th_stB {s : St} (h : stB s = true) {n : Nat} {t : Th} (ht : thB t = true) : stB (s.setTh n t) = true := by
  obtain ⟨h1, h2, h3, h4, h5, h6, h7, h8⟩ := st_iff.1 h
  refine st_iff.2 ⟨h1, h2, h3, h4, h5, h6, h7, ?_⟩
  simp only [thsSt, Bool.and_eq_true, decide_eq_true_eq, Bool.not_eq_true'] at h8 ⊢
  refine ⟨by show ((s.th.set n t).length : Int) = s.cf.th; rw [List.length_set]; exact h8.1, ?_⟩
  rw [List.any_eq_false] at h8 ⊢
  intro x hx
  rcases List.mem_or_eq_of_mem_set hx with h9 | rfl
  · exact h8.2 x h9
  · simp [notTh, ht]
theorem onTh_stB {s : St} (h : stB s = true) {n : Nat} {f : Th → Th} (ht : thB (f (gth s.th n)) = true) : stB (s.onTh n f) = true := th_stB h ht
theorem gth_ok {s : St} (h : stB s = true) {n : Nat} (hn : n < s.th.length) : thB (gth s.th n) = true := by
  have h8 := (st_iff.1 h).2.2.2.2.2.2.2
  simp only [thsSt, Bool.and_eq_true, decide_eq_true_eq, Bool.not_eq_true', List.any_eq_false] at h8
  have := h8.2 (gth s.th n) (by rw [gth_eq hn]; exact List.getElem_mem hn)
  simpa [notTh] using this
theorem th_len {s : St} (h : stB s = true) : (s.th.length : Int) = s.cf.th ∧ 1 ≤ s.th.length ∧ s.th.length ≤ 16 := by
  have h8 := (st_iff.1 h).2.2.2.2.2.2.2
  simp only [thsSt, Bool.and_eq_true, decide_eq_true_eq] at h8
  have := cf_th (st_iff.1 h).1
  omega
theorem word_ok {s : St} (h : stB s = true) : checkB s.hd s.tl s.md s.sl.length = true ∧ okSl s.sl = true ∧ (s.sl.length : Int) = cfR s.cf := by
  have h2 := (st_iff.1 h).2.1
  simp only [ringSt, Bool.and_eq_true, decide_eq_true_eq] at h2
  exact ⟨by rw [h2.2.1]; exact h2.1, h2.2.2, h2.2.1⟩
theorem word_stB {s : St} (h : stB s = true) {a b c : Int} (hc : checkB a b c s.sl.length = true) : stB (s.toWord a b c) = true := by
  obtain ⟨h1, h2, h3, h4, h5, h6, h7, h8⟩ := st_iff.1 h
  refine st_iff.2 ⟨h1, ?_, h3, h4, h5, h6, h7, h8⟩
  simp only [ringSt, Bool.and_eq_true, decide_eq_true_eq] at h2 ⊢
  exact ⟨by rw [h2.2.1] at hc; exact hc, h2.2⟩
theorem stn_iff {m : Int} {l : List Int} : stnB m l = true ↔ okLn l = true ∧ ∀ x ∈ l, x < m := by
  simp only [stnB, Bool.and_eq_true, Bool.not_eq_true', List.any_eq_false]
  refine and_congr_right fun _ => forall_congr' fun x => ?_
  simp [overB]
theorem lns_iff {s : St} : lnsSt s = true ↔ stnB s.cf.th s.sn = true ∧ stnB s.cf.th s.rc = true ∧ stnB s.cf.th s.fl = true ∧ stnB s.cf.th s.el = true := by
  simp [lnsSt]
theorem full_stB {s : St} (h : stB s = true) {e : Int} {l : List Int} (he : okE e l = true) (hl : stnB s.cf.th l = true) : stB (s.toFull e l) = true := by
  obtain ⟨h1, h2, h3, h4, h5, h6, h7, h8⟩ := st_iff.1 h
  obtain ⟨a, b, c, d⟩ := lns_iff.1 h3
  exact st_iff.2 ⟨h1, h2, lns_iff.2 ⟨a, b, hl, d⟩, he, h5, h6, h7, h8⟩
theorem empty_stB {s : St} (h : stB s = true) {e : Int} {l : List Int} (he : okE e l = true) (hl : stnB s.cf.th l = true) : stB (s.toEmpty e l) = true := by
  obtain ⟨h1, h2, h3, h4, h5, h6, h7, h8⟩ := st_iff.1 h
  obtain ⟨a, b, c, d⟩ := lns_iff.1 h3
  exact st_iff.2 ⟨h1, h2, lns_iff.2 ⟨a, b, c, hl⟩, h4, he, h6, h7, h8⟩
theorem pcT_ok {t : Th} (h : thB t = true) (h1 : t.st ≠ 0) {p : Int} (hp : 0 ≤ p ∧ p ≤ 11) : thB (pcT t p) = true := by
  obtain ⟨st, ki, va, un, pc, re, se, tr, la, rs, go⟩ := t
  simp only [pcT] at *; rw [thB_iff] at *; omega
theorem doneT_ok {t : Th} (h : thB t = true) (h1 : t.st ≠ 0) : thB (doneT t) = true := by
  obtain ⟨st, ki, va, un, pc, re, se, tr, la, rs, go⟩ := t
  simp only [doneT] at *; rw [thB_iff] at *; have hf : bI false = 0 := rfl; omega
theorem wakeT_ok {t : Th} (h : thB t = true) : thB (wakeT t) = true := by
  unfold wakeT
  split
  · obtain ⟨st, ki, va, un, pc, re, se, tr, la, rs, go⟩ := t
    simp only at *; rw [thB_iff] at *; omega
  · exact h
theorem tellT_ok {t : Th} (h : thB t = true) {k r g : Int} (hr : 0 ≤ r ∧ r ≤ 7) : thB (tellT t k r g) = true := by
  unfold tellT
  split
  · exact h
  · obtain ⟨st, ki, va, un, pc, re, se, tr, la, rs, go⟩ := t
    simp only; rw [thB_iff] at *; omega
theorem lg_stB (s : St) (e : En) : stB (s.addLg e) = stB s := rfl
theorem tell_stB {s : St} (h : stB s = true) {i k r g : Int} (hr : 0 ≤ r ∧ r ≤ 7) : stB (tellS s i k r g) = true := by
  unfold tellS
  split
  · next hh =>
    have hi := has_iff.1 hh
    rw [lg_stB]
    exact th_stB h (tellT_ok (gth_ok h (by omega)) hr)
  · exact h
theorem has_of {s : St} (h : stB s = true) {n : Nat} (hn : n < s.th.length) : hasB s n = true := has_iff.2 ⟨h, by omega, by omega⟩
theorem tell_th {s : St} (h : stB s = true) {n : Nat} (hn : n < s.th.length) (k r g : Int) : tellS s n k r g = (s.setTh n (tellT (gth s.th n) k r g)).addLg ⟨n, k, (gth s.th n).va, r, g⟩ := by
  unfold tellS; rw [if_pos (has_of h hn)]; simp
theorem tellT_st (t : Th) (k r g : Int) : (tellT t k r g).st = t.st := by unfold tellT; split <;> rfl
theorem gth_tell {s : St} (h : stB s = true) {n : Nat} (hn : n < s.th.length) (k r g : Int) : gth (tellS s n k r g).th n = tellT (gth s.th n) k r g := by
  rw [tell_th h hn]
  show gth (s.th.set n _) n = _
  rw [gth_set hn, if_pos rfl]
theorem told_stB {s : St} (h : stB s = true) {n : Nat} (hn : n < s.th.length) (h1 : (gth s.th n).st ≠ 0) {k r g p : Int} (hr : 0 ≤ r ∧ r ≤ 7) (hp : 0 ≤ p ∧ p ≤ 11) : stB (toldS s n k r g p) = true := by
  refine onTh_stB (tell_stB h hr) ?_
  rw [gth_tell h hn]
  exact pcT_ok (tellT_ok (gth_ok h hn) hr) (by rw [tellT_st]; exact h1) hp
theorem wake_stB {s : St} (h : stB s = true) (i : Int) : stB (wakeS s i) = true := by
  unfold wakeS
  split
  · next hh => exact onTh_stB h (wakeT_ok (gth_ok h (by have := has_iff.1 hh; omega)))
  · exact h
theorem runs_iff {s : St} {i d : Int} : runsB s i d = true ↔ hasB s i = true ∧ (gth s.th i.toNat).st = 1 ∧ opSide (gth s.th i.toNat).ki = d := by simp [runsB]
theorem full_lines {s : St} (h : stB s = true) : stnB s.cf.th s.sn = true ∧ stnB s.cf.th s.rc = true ∧ stnB s.cf.th s.fl = true ∧ stnB s.cf.th s.el = true ∧ okE s.fe s.fl = true ∧ okE s.ee s.el = true := by
  obtain ⟨h1, h2, h3, h4, h5, h6, h7, h8⟩ := st_iff.1 h
  obtain ⟨a, b, c, d⟩ := lns_iff.1 h3
  exact ⟨a, b, c, d, h4, h5⟩
end Go.Proofs.Ytkflpaicohbppaa

/- A state whose lists lie where P says: kept over stores into blocks of which P does not hold. -/
namespace Go.Proofs.Ytkflpaicohbppaa
set_option linter.unusedVariables false
set_option linter.unusedSimpArgs false
open Go.ChangeShapes Go.WideShapes Go.ChangeAt Go.RowKit
/-- A slice that reads as a list, and, unless that is empty, lies in a block of which P holds. -/
structure SlP {α : Type} (P : Nat → Prop) (W : World) (k : Nat) (enc : α → List Value) (xs : List α) (p : Option Addr) (n c : Nat) : Prop where
  s : Sl W k enc xs (.slice p n c)
  i : xs ≠ [] → ∀ a, p = some a → P a.block
theorem Sl.out {α : Type} {W W' : World} {k n c b : Nat} {enc : α → List Value} {xs : List α} {p : Option Addr} (h : Sl W k enc xs (.slice p n c)) (ho : Out [b] W W') (hne : xs ≠ [] → ∀ a, p = some a → a.block ≠ b) : Sl W' k enc xs (.slice p n c) := by
  obtain ⟨q, cap, hv, h1, h2, h3, h4⟩ := h.is
  cases hv
  refine ⟨p, c, rfl, h1, h2, h3, fun hx => ?_⟩
  obtain ⟨g, o, rfl, hg, hc⟩ := h4 hx
  refine ⟨g, o, rfl, Nat.lt_of_lt_of_le hg ho.size, fun i x hi l hl => ?_⟩
  have hb := ho.block g hg (by simpa using hne hx _ rfl)
  rw [← hc i x hi l hl]
  simp [World.cell?, hb]
theorem SlP.kept {α : Type} {P : Nat → Prop} {W W' : World} {k n c : Nat} {enc : α → List Value} {xs : List α} {p : Option Addr} (h : SlP P W k enc xs p n c) (hg : Below W.heap.size W W') : SlP P W' k enc xs p n c := ⟨h.s.kept hg, h.i⟩
theorem SlP.out {α : Type} {P : Nat → Prop} {W W' : World} {k n c b : Nat} {enc : α → List Value} {xs : List α} {p : Option Addr} (h : SlP P W k enc xs p n c) (ho : Out [b] W W') (hb : ¬ P b) : SlP P W' k enc xs p n c := ⟨h.s.out ho (fun hx a ha e => hb (e ▸ h.i hx a ha)), h.i⟩
theorem SlP.mono {α : Type} {P P' : Nat → Prop} {W : World} {k n c : Nat} {enc : α → List Value} {xs : List α} {p : Option Addr} (h : SlP P W k enc xs p n c) (hp : ∀ g, P g → P' g) : SlP P' W k enc xs p n c := ⟨h.s, fun hx a ha => hp _ (h.i hx a ha)⟩
theorem SlP.lt {α : Type} {P : Nat → Prop} {W : World} {k n c : Nat} {enc : α → List Value} {xs : List α} {p : Option Addr} (h : SlP P W k enc xs p n c) : SlP (fun g => P g ∧ g < W.heap.size) W k enc xs p n c := ⟨h.s, fun hx a ha => ⟨h.i hx a ha, by
  obtain ⟨q, cap, hv, _, _, _, h4⟩ := h.s.is
  cases hv
  obtain ⟨g, o, e, hg, _⟩ := h4 hx
  rw [ha] at e; cases e; exact hg⟩⟩
theorem Sl.loc {α : Type} {W : World} {k n c : Nat} {enc : α → List Value} {xs : List α} {p : Option Addr} (h : Sl W k enc xs (.slice p n c)) : SlP (fun g => g < W.heap.size) W k enc xs p n c := ⟨h, fun hx a ha => by
  obtain ⟨q, cap, hv, _, _, _, h4⟩ := h.is
  cases hv
  obtain ⟨g, o, e, hg, _⟩ := h4 hx
  rw [ha] at e; cases e; exact hg⟩
theorem Ow.loc {α : Type} {W : World} {base k n c : Nat} {e : TypeId} {enc : α → List Value} {xs : List α} {p : Option Addr} (he : Enc k enc) (h : Ow W base e k enc xs (.slice p n c)) : SlP (fun g => base ≤ g) W k enc xs p n c := ⟨Ow.sl he h, fun _ a ha => by subst ha; exact (Ow.lt h a.block rfl).1⟩
/-- No list of a state is long. -/
structure St.few (s : St) : Prop where
  sl : s.sl.length ≤ 1000
  sn : s.sn.length ≤ 1000
  rc : s.rc.length ≤ 1000
  fl : s.fl.length ≤ 1000
  el : s.el.length ≤ 1000
  th : s.th.length ≤ 1000
  lg : s.lg.length ≤ 1000
structure StIn (P : Nat → Prop) (W : World) (s : St) (z : Pz) : Prop where
  sl : SlP P W 2 Slo.cells s.sl z.p1 s.sl.length z.k1
  sn : SlP P W 1 intC s.sn z.p2 s.sn.length z.k2
  rc : SlP P W 1 intC s.rc z.p3 s.rc.length z.k3
  fl : SlP P W 1 intC s.fl z.p4 s.fl.length z.k4
  el : SlP P W 1 intC s.el z.p5 s.el.length z.k5
  th : SlP P W 11 Th.cells s.th z.p6 s.th.length z.k6
  lg : SlP P W 5 En.cells s.lg z.p7 s.lg.length z.k7
variable {P P' : Nat → Prop} {W W' : World} {s : St} {z : Pz}
theorem StIn.at (h : StIn P W s z) : StAt W s z := ⟨h.sl.s, h.sn.s, h.rc.s, h.fl.s, h.el.s, h.th.s, h.lg.s⟩
theorem StIn.kept (h : StIn P W s z) (hg : Below W.heap.size W W') : StIn P W' s z := ⟨h.sl.kept hg, h.sn.kept hg, h.rc.kept hg, h.fl.kept hg, h.el.kept hg, h.th.kept hg, h.lg.kept hg⟩
theorem StIn.out {b : Nat} (h : StIn P W s z) (ho : Out [b] W W') (hb : ¬ P b) : StIn P W' s z := ⟨h.sl.out ho hb, h.sn.out ho hb, h.rc.out ho hb, h.fl.out ho hb, h.el.out ho hb, h.th.out ho hb, h.lg.out ho hb⟩
theorem StIn.mono (h : StIn P W s z) (hp : ∀ g, P g → P' g) : StIn P' W s z := ⟨h.sl.mono hp, h.sn.mono hp, h.rc.mono hp, h.fl.mono hp, h.el.mono hp, h.th.mono hp, h.lg.mono hp⟩
theorem StIn.lt (h : StIn P W s z) : StIn (fun g => P g ∧ g < W.heap.size) W s z := ⟨h.sl.lt, h.sn.lt, h.rc.lt, h.fl.lt, h.el.lt, h.th.lt, h.lg.lt⟩
theorem StAt.loc (h : StAt W s z) : StIn (fun g => g < W.heap.size) W s z := ⟨h.sl.loc, h.sn.loc, h.rc.loc, h.fl.loc, h.el.loc, h.th.loc, h.lg.loc⟩
def KP.st (P : Nat → Prop) (r : St) : KP := ⟨fun v W => ∃ z : Pz, v = .agg #[.int .i64 r.cf.lg, .int .i64 r.cf.th, .int .i64 r.cf.po, .int .i64 r.cf.wt, .int .i64 r.cf.sp, .int .i64 r.cf.yi, .bool r.cf.si, .int .i64 r.hd, .int .i64 r.tl, .int .i64 r.md, .slice z.p1 r.sl.length z.k1, .slice z.p2 r.sn.length z.k2, .slice z.p3 r.rc.length z.k3, .int .i64 r.fe, .slice z.p4 r.fl.length z.k4, .int .i64 r.ee, .slice z.p5 r.el.length z.k5, .int .i64 r.nw, .slice z.p6 r.th.length z.k6, .slice z.p7 r.lg.length z.k7] ∧ StIn P W r z, fun ⟨z, e, h⟩ hg => ⟨z, e, h.kept hg⟩⟩
end Go.Proofs.Ytkflpaicohbppaa
