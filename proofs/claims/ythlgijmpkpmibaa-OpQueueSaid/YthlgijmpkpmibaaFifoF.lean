/- Plain functions of layer 3 (the queue that a fabric is told by), and of the document's. -/
import Derived.Test.YthlgijmpkpmibaaInt
namespace Go.Proofs.Ythlgijmpkpmibaa
set_option linter.unusedVariables false
set_option linter.unusedSimpArgs false

/-- A queue. -/
structure Qu where
  vals : List Int
  cap : Int
  pol : Int
  mode : Int
/-- An entry. -/
structure En where
  th : Int
  ki : Int
  va : Int
  re : Int
  go : Int
def En.cells (e : En) : List Value := [.int .i64 e.th, .int .i64 e.ki, .int .i64 e.va, .int .i64 e.re, .int .i64 e.go]
def sendsB (k : Int) : Bool := decide (1 ≤ k) && decide (k ≤ 3)
def recvsB (k : Int) : Bool := decide (4 ≤ k) && decide (k ≤ 6)
def Qu.full (q : Qu) : Bool := decide (q.cap ≤ q.vals.length)
def Qu.with (q : Qu) (l : List Int) : Qu := ⟨l, q.cap, q.pol, q.mode⟩
def Qu.gone (q : Qu) (n : Int) : Qu × Bool :=
  match q.vals with
  | [] => (q, false)
  | v :: r => if v = n then (q.with r, true) else (q, false)
def Qu.send (q : Qu) (e : En) : Qu × Bool :=
  if e.re = 1 then (if decide (q.mode ≠ 0) || q.full then (q, false) else (q.with (q.vals ++ [e.va]), true))
  else if e.re = 2 then (q, decide (q.mode = 0) && q.full && decide (q.pol = 0) && decide (e.ki = 2))
  else if e.re = 3 then (q, decide (q.mode = 0) && q.full && decide (q.pol = 1))
  else if e.re = 5 then (q, decide (e.ki = 3))
  else if e.re = 6 then (q, decide (q.mode = 1))
  else if e.re = 7 then (q, decide (q.mode = 2))
  else (q, false)
/-- What a call that hands back a queue and whether it may be leaves: its values lie where those of the one that came in lay, or in memory of the call's own. -/
def RetQ (w : World) (l : List Int) (p0 : Option Addr) (r : Qu × Bool) (e : Ending) (w' : World) : Prop :=
  ∃ (p : Option Addr) (k : Nat), e = .returned (.tuple #[.agg #[.slice p r.1.vals.length k, .int .i64 r.1.cap, .int .i64 r.1.pol, .int .i64 r.1.mode], .bool r.2]) ∧ Sl w' 1 intC r.1.vals (.slice p r.1.vals.length k) ∧ Kept w w' ∧
    (r.1.vals ≠ [] → ∀ x, p = some x → (l ≠ [] ∧ ∃ y, p0 = some y ∧ x.block = y.block) ∨ w.heap.size ≤ x.block)
def Qu.recv (q : Qu) (e : En) : Qu × Bool :=
  if e.re = 1 then (if q.mode = 2 then (q, false) else q.gone e.go)
  else if e.re = 4 then (q, decide (q.mode = 0) && decide (q.vals.length = 0) && decide (e.ki = 5))
  else if e.re = 5 then (q, decide (e.ki = 6))
  else if e.re = 6 then (q, decide (q.mode = 1) && decide (q.vals.length = 0))
  else if e.re = 7 then (q, decide (q.mode = 2))
  else (q, false)
def drainI (m : Int) : Int := if m = 0 then 1 else m
def Qu.tell (q : Qu) (e : En) : Qu × Bool :=
  if sendsB e.ki then q.send e
  else if recvsB e.ki then q.recv e
  else if e.re ≠ 1 then (q, false)
  else if e.ki = 7 then (⟨q.vals, q.cap, q.pol, drainI q.mode⟩, true)
  else if e.ki = 8 then (⟨q.vals, q.cap, q.pol, 2⟩, true)
  else if e.ki = 9 then (if q.mode ≠ 0 ∨ q.pol ≠ 2 ∨ (q.vals.length : Int) < q.cap then (q, false) else q.gone e.go)
  else (q, false)
def Qu.all (q : Qu) : List En → Qu × Nat
  | [] => (q, 0)
  | e :: l => if (q.tell e).2 then (((q.tell e).1.all l).1, ((q.tell e).1.all l).2 + 1) else (q, 0)
def sameB (a b : Qu) : Bool := decide (a.vals = b.vals) && decide (a.cap = b.cap) && decide (a.pol = b.pol) && decide (a.mode = b.mode)
end Go.Proofs.Ythlgijmpkpmibaa
