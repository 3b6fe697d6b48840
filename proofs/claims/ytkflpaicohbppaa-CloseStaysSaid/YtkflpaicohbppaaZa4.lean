/- Texts merged: OutQ, ObjQ, FactsQ, FabTQ, FlQ, CfQ, IntQ, IntRQ, PosFQ, PosCQ, SlotFQ, SloRQ, FifoFQ, FifoXQ. -/
import Derived.Test.YtkflpaicohbppaaZa3
import Derived.Deep.MidRow
import Derived.Laws.CopyRow
import Derived.Laws.Rows
import Derived.Deep.Cut
import Derived.Test.YtkflpaicohbppaaZa1
/- Worlds in which all is kept but some blocks. -/
namespace Go.Proofs.Ytkflpaicohbppaa
set_option linter.unusedVariables false
set_option linter.unusedSimpArgs false
open Go.ChangeShapes Go.WideShapes Go.ChangeAt Go.RowKit

/-- What was there is kept, but for these blocks. -/
structure Out (S : List Nat) (w w' : World) : Prop where
  os : w'.os = w.os
  tape : w'.tape = w.tape
  output : w'.output = w.output
  size : w.heap.size ≤ w'.heap.size
  block : ∀ j, j < w.heap.size → j ∉ S → w'.heap[j]? = w.heap[j]?
theorem Out.refl (S : List Nat) (w : World) : Out S w w := ⟨rfl, rfl, rfl, Nat.le_refl _, fun _ _ _ => rfl⟩
theorem Out.of_kept {S : List Nat} {w w' : World} (h : Below w.heap.size w w') : Out S w w' := ⟨h.os, h.tape, h.output, h.size, fun j hj _ => h.block j hj⟩
theorem Out.trans {S T : List Nat} {a b c : World} (h : Out S a b) (k : Out T b c) (hs : ∀ j ∈ T, j ∈ S ∨ a.heap.size ≤ j) : Out S a c :=
  ⟨k.os.trans h.os, k.tape.trans h.tape, k.output.trans h.output, Nat.le_trans h.size k.size, fun j hj hn =>
    (k.block j (Nat.lt_of_lt_of_le hj h.size) (fun hT => by rcases hs j hT with h1 | h1; exact hn h1; omega)).trans (h.block j hj hn)⟩
theorem Out.then {S : List Nat} {a b c : World} (h : Out S a b) (k : Below b.heap.size b c) : Out S a c := h.trans (Out.of_kept (S := []) k) (by simp)
theorem Out.after {S : List Nat} {a b c : World} (k : Below a.heap.size a b) (h : Out S b c) : Out S a c := (Out.of_kept (S := S) k).trans h (fun _ h => .inl h)
theorem Out.set {S : List Nat} {w w' : World} (h : Out S w w') {x : Addr} (hx : x.block ∈ S ∨ w.heap.size ≤ x.block) (u : Value) : Out S w (w'.setCell x u) :=
  ⟨h.os, h.tape, h.output, by simpa using h.size, fun j hj hn => (Below.heap_setCell _ _ _ _ (by rcases hx with hx | hx; (intro e; subst e; exact hn hx); omega)).trans (h.block j hj hn)⟩
theorem Out.alloc {S : List Nat} {w w' : World} (h : Out S w w') (o : Obj) : Out S w (w'.alloc o) := h.then ((Below.refl _ _).alloc (Nat.le_refl _) o)
theorem Out.drewN {S : List Nat} {w w' : World} (h : Out S w w') (n : Nat) : Out S w (w'.drewN n) := h.then (below_drewN (Below.refl _ _) n)
theorem Out.grown {S : List Nat} {w w' w'' : World} (h : Out S w w') {row : Option Nat} (k : w'.grownBy w'' row) (hr : ∀ g, row = some g → g ∈ S ∨ w.heap.size ≤ g) : Out S w w'' :=
  h.trans (T := row.toList) ⟨k.os, k.tape, k.output, k.size, fun j hj hn => k.block j hj (fun e => hn (by simp [e]))⟩ (fun j hj => hr j (by simpa using hj))
theorem Out.below {S : List Nat} {base : Nat} {w0 w w' : World} (hb : Below base w0 w) (h : Out S w w') (hS : ∀ j ∈ S, base ≤ j) (hs : base ≤ w.heap.size) : Below base w0 w' :=
  hb.trans ⟨h.os, h.tape, h.output, h.size, fun j hj => h.block j (by omega) (fun hm => by have := hS j hm; omega)⟩
theorem Ow.of_block {α : Type} {W W' : World} {base k : Nat} {e : TypeId} {enc : α → List Value} {xs : List α} {v : Value} (h : Ow W base e k enc xs v) (hk : ∀ g, v.ownBlock = some g → W'.heap[g]? = W.heap[g]?) : Ow W' base e k enc xs v := by
  obtain ⟨h0, h1 | ⟨g, cap, cur, hv, hb, hg, hl, hm, hs, ht⟩⟩ := h
  · exact ⟨h0, .inl h1⟩
  · exact ⟨h0, .inr ⟨g, cap, cur, hv, hb, (hk g (by subst hv; rfl)).trans hg, hl, hm, hs, ht⟩⟩
end Go.Proofs.Ytkflpaicohbppaa

/- BOXES BY WHOLE ROWS: a box of many cells is loaded, and stored into, by a law; the world behind a store is any that holds the new row and has kept all else. -/
namespace Go.Proofs.Ytkflpaicohbppaa
set_option linter.unusedVariables false
set_option linter.unusedSimpArgs false
open Go.ChangeShapes Go.WideShapes Go.ChangeAt Go.RowKit
/-- Block b holds these cells, none of them frozen. -/
def Bk (W : World) (b : Nat) (cs : List Value) : Prop := ∃ t, W.heap[b]? = some (.cells cs.toArray t (0, 0))
section
variable {W W' w w0 : World} {b b' : Nat} {cs us : List Value}
theorem Bk.cell (h : Bk W b cs) (i : Nat) : W.cell? ⟨b, i, none⟩ = cs[i]? := by
  obtain ⟨t, ht⟩ := h
  simp [World.cell?, ht]
theorem Bk.frozen (h : Bk W b cs) (i : Nat) : W.frozen? ⟨b, i, none⟩ = false := by
  obtain ⟨t, ht⟩ := h
  simp [World.frozen?, ht]
theorem Bk.lt (h : Bk W b cs) : b < W.heap.size := by
  obtain ⟨t, ht⟩ := h
  exact (Array.getElem?_eq_some_iff.1 ht).1
theorem Bk.kept (h : Bk W b cs) (hg : Below W.heap.size W W') : Bk W' b cs := by
  obtain ⟨t, ht⟩ := h
  exact ⟨t, (hg.block b (Array.getElem?_eq_some_iff.1 ht).1).trans ht⟩
theorem Bk.out {S : List Nat} (h : Bk W b cs) (ho : Out S W W') (hne : b ∉ S) : Bk W' b cs := by
  obtain ⟨t, ht⟩ := h
  exact ⟨t, (ho.block b (Array.getElem?_eq_some_iff.1 ht).1 hne).trans ht⟩
theorem Bk.new {c : Array Value} {t : TypeId} (hb : b = W.heap.size) : Bk (W.alloc (.cells c t)) b c.toList := by
  subst hb
  exact ⟨t, by simpa using heap_alloc_new W _⟩
theorem Bk.apart {v : Value} (h : Bk W b cs) {base : Nat} {α : Type} {e : TypeId} {k : Nat} {enc : α → List Value} {xs : List α} (ho : Ow W base e k enc xs v) (hlt : b < base) : ∀ g, v.ownBlock = some g → g ≠ b := fun g hg => by have := (ho.lt g hg).1; omega
end
section
variable {P : Program} {ops : Array Oper} {rest : List Oper} {o : Oper} {a : Act} {w w0 : World} {Q : Exit → Act → World → Prop} {b off : Nat} {cs : List Value} {d : TypeDesc}
/-! ### Stores -/
theorem Ow.out {α : Type} {W W' : World} {b base k : Nat} {e : TypeId} {enc : α → List Value} {xs : List α} {v : Value} (h : Ow W base e k enc xs v) (ho : Out [b] W W') (hlt : b < base) : Ow W' base e k enc xs v :=
  Ow.of_block h fun g hg => ho.block g (h.lt g hg).2 (by have := (h.lt g hg).1; simp; omega)
end
section
variable {P : Program}
end
end Go.Proofs.Ytkflpaicohbppaa

/- A region that draws its order, each of whose operations hands back one value: by a fact on each value, whatever the order. -/
namespace Go.Proofs.Ytkflpaicohbppaa
set_option linter.unusedVariables false
set_option linter.unusedSimpArgs false
open Go.RowKit
section
variable {P : Program} {Q : Exit → Act → World → Prop}

/-- What is known while the region runs: what was there is kept; of each value of D (by number: in which temporary it stands) whose operation is done, a fact. -/
structure Facts (D : List Nat) (F : Nat → Value → World → Prop) (a : Act) (w : World) (done : Nat → Bool) (b : Act) (W : World) : Prop where
  kept : Below w.heap.size w W
  defers : b.defers = a.defers
  size : b.tmps.size = a.tmps.size
  rest : ∀ t, t ∉ D → b.tmps[t]? = a.tmps[t]?
  fact : ∀ i d, D[i]? = some d → done i = true → ∃ v, b.tmps[d]? = some v ∧ F i v W

theorem Facts.base {D : List Nat} {F : Nat → Value → World → Prop} {a b : Act} {w W : World} {done : Nat → Bool} (h : Facts D F a w done b W) (t : Nat) {v : Value} (ht : t ∉ D) (hv : a.tmps[t]? = some v) : b.tmps.getD t undef = v := by
  simp [h.rest t ht, hv]
theorem act_lit {b : Act} {n : Nat} {ds : List Deferred} (hz : b.tmps.size = n) (hd : b.defers = ds) : b = ⟨((List.range n).map fun i => b.tmps.getD i undef).toArray, ds⟩ := by
  obtain ⟨tm, df⟩ := b
  subst hz hd
  congr 1
  apply Array.ext
  · simp
  · intro i h1 h2
    simp [Array.getD, h1]
end
end Go.Proofs.Ytkflpaicohbppaa

/- A region that draws its order: its head hands back values, a fact on each, whatever the order; its tail waits for all that stands ahead and is walked in the text's order. -/
namespace Go.Proofs.Ytkflpaicohbppaa
set_option linter.unusedVariables false
set_option linter.unusedSimpArgs false
open Go.RowKit
/-- What is done waited for what is done. -/
def Closed (l : List Oper) (listed : Array Bool) : Prop := ∀ (k : Nat) (o : Oper), l[k]? = some o → listed.getD k false = true → ∀ e ∈ o.after, Region.binds .any e = true → listed.getD e.on false = true
theorem Closed.set {l : List Oper} {listed : Array Bool} {i : Nat} {o : Oper} (h : Closed l listed) (hi : l[i]? = some o) (hw : ∀ e ∈ o.after, Region.binds .any e = true → listed.getD e.on false = true) : Closed l (listed.setIfInBounds i true) := by
  have hmono : ∀ j, listed.getD j false = true → (listed.setIfInBounds i true).getD j false = true := fun j hj => by
    by_cases hjz : j < listed.size
    · by_cases e : i = j
      · subst e; simp [Array.getD, hjz]
      · simpa [Array.getD, hjz, Array.getElem_setIfInBounds, e] using hj
    · simp [Array.getD, hjz] at hj
  intro k o' hk hl e he hb
  by_cases e1 : k = i
  · subst e1
    rw [hi] at hk; cases hk
    exact hmono _ (hw e he hb)
  · refine hmono _ (h k o' hk ?_ e he hb)
    by_cases hkz : k < listed.size
    · simpa [Array.getD, hkz, Array.getElem_setIfInBounds, Ne.symm e1] using hl
    · simp [Array.getD, hkz] at hl
section
variable {P : Program} {Q : Exit → Act → World → Prop}
end
end Go.Proofs.Ytkflpaicohbppaa

/- A region that draws its order, by a list of facts, one on each value that its head hands back (each kept over all that keeps what was there); the steps one by one. -/
namespace Go.Proofs.Ytkflpaicohbppaa
set_option linter.unusedVariables false
set_option linter.unusedSimpArgs false
open Go.RowKit
/-- What is known of a value, kept. -/
structure KP where
  p : Value → World → Prop
  k : ∀ {v : Value} {W W' : World}, p v W → Below W.heap.size W W' → p v W'
/-- The act's values, written out. -/
def tab (f : Nat → Value) : Nat → List Value → List Value
  | 0, acc => acc
  | n + 1, acc => tab f n (f n :: acc)
theorem tab_eq (f : Nat → Value) : ∀ (n : Nat) (acc : List Value), tab f n acc = (List.range n).map f ++ acc
  | 0, acc => by simp [tab]
  | n + 1, acc => by rw [tab, tab_eq f n, List.range_succ]; simp
theorem Facts.lit {D : List Nat} {F : Nat → Value → World → Prop} {a b : Act} {w W : World} {done : Nat → Bool} (h : Facts D F a w done b W) {n : Nat} (hn : a.tmps.size = n) (hd : a.defers = []) :
    ∃ f : Nat → Value, b = ⟨(tab f n []).toArray, []⟩ ∧ ∀ t, b.tmps.getD t undef = f t :=
  ⟨fun t => b.tmps.getD t undef, by rw [tab_eq, List.append_nil]; exact act_lit (h.size.trans hn) (h.defers.trans hd), fun _ => rfl⟩
section
variable {P : Program} {Q : Exit → Act → World → Prop}
end
end Go.Proofs.Ytkflpaicohbppaa

/- A configuration (api.Config), by value: its cells, and how one is read off an argument. -/
namespace Go.Proofs.Ytkflpaicohbppaa
set_option linter.unusedVariables false
set_option linter.unusedSimpArgs false
open Go.ChangeShapes Go.WideShapes Go.ChangeAt Go.RowKit

/-- A configuration. -/
structure Cf where
  lg : Int
  th : Int
  po : Int
  wt : Int
  sp : Int
  yi : Int
  si : Bool
def Cf.cells (c : Cf) : List Value := [.int .i64 c.lg, .int .i64 c.th, .int .i64 c.po, .int .i64 c.wt, .int .i64 c.sp, .int .i64 c.yi, .bool c.si]

def Cf.shape : List (Ck 0) := [.int .i64, .int .i64, .int .i64, .int .i64, .int .i64, .int .i64, .bool]
abbrev Cf.size : Nat := 7
def Cf.ok (c : Cf) : Prop := In64 c.lg ∧ In64 c.th ∧ In64 c.po ∧ In64 c.wt ∧ In64 c.sp ∧ In64 c.yi
def Cf.zero : List Value := [.int .i64 0, .int .i64 0, .int .i64 0, .int .i64 0, .int .i64 0, .int .i64 0, .bool false]
theorem Cf.of_read {W : World} {vs : List Value} (h : ReadL W Cf.shape vs) : ∃ c : Cf, vs = c.cells ∧ c.ok := by
  simp only [Cf.shape, read_nil, read_cons, read_int, read_bool, read_str] at h
  obtain ⟨_, _, rfl, ⟨lg, rfl, h0⟩, _, _, rfl, ⟨th, rfl, h1⟩, _, _, rfl, ⟨po, rfl, h2⟩, _, _, rfl, ⟨wt, rfl, h3⟩, _, _, rfl, ⟨sp, rfl, h4⟩, _, _, rfl, ⟨yi, rfl, h5⟩, _, _, rfl, ⟨si, rfl⟩, rfl⟩ := h
  exact ⟨⟨lg, th, po, wt, sp, yi, si⟩, rfl, in64_of_wf h0, in64_of_wf h1, in64_of_wf h2, in64_of_wf h3, in64_of_wf h4, in64_of_wf h5⟩
theorem Cf.enc : Enc 7 Cf.cells := ⟨fun _ => rfl, fun x c hc => by simp [Cf.cells] at hc; rcases hc with rfl | rfl | rfl | rfl | rfl | rfl | rfl <;> rfl⟩
end Go.Proofs.Ytkflpaicohbppaa

/- Slices of integers, as lists. -/
namespace Go.Proofs.Ytkflpaicohbppaa
set_option linter.unusedVariables false
set_option linter.unusedSimpArgs false

def intC (n : Int) : List Value := [.int .i64 n]
theorem intEnc : Enc 1 intC := ⟨fun _ => rfl, fun x c hc => by simp [intC] at hc; subst hc; rfl⟩
theorem int_info : (Try.prog.info? 3).map (fun i => (i.zero, i.size, i.bytes)) = some (some (.int .i64 0), 1, 8) := by kernel_rfl
theorem take_snoc_eq {α : Type} {l m : List α} {k : Nat} (h : l.length = m.length) (hk : k < l.length) (ht : l.take k = m.take k) (he : l[k] = m[k]'(by omega)) : l.take (k + 1) = m.take (k + 1) := by
  rw [List.take_succ_eq_append_getElem hk, List.take_succ_eq_append_getElem (by omega), ht, he]
end Go.Proofs.Ytkflpaicohbppaa

/- Slices of integers as arguments: their shape. -/
namespace Go.Proofs.Ytkflpaicohbppaa
set_option linter.unusedVariables false
set_option linter.unusedSimpArgs false
def intShape : List (Ck 0) := [.int .i64]
theorem int_of_read {W : World} {vs : List Value} (h : ReadL W intShape vs) : ∃ d : Int, vs = intC d ∧ In64 d := by
  simp only [intShape, read_nil, read_cons, read_int, read_bool, read_str] at h
  obtain ⟨_, _, rfl, ⟨a, rfl, h0⟩, rfl⟩ := h
  exact ⟨a, rfl, in64_of_wf h0⟩
end Go.Proofs.Ytkflpaicohbppaa

/- Plain functions of layer 1 (positions of a ring, and its word), the program's and the document's, and that they are one. -/
namespace Go.Proofs.Ytkflpaicohbppaa
set_option linter.unusedVariables false
set_option linter.unusedSimpArgs false

def liesB (p r : Int) : Bool := decide (0 ≤ p) && decide (1 ≤ r)
def placeI (p r : Int) : Int := if liesB p r then p % r else 0
def emptyB (h t : Int) : Bool := decide (h = t)
def lenI (h t : Int) : Int := if t ≤ h then 0 else if t - h ≤ 9223372036854775807 then t - h else 9223372036854775807
def checkB (h t m r : Int) : Bool := decide (0 ≤ h) && decide (h ≤ t) && decide (t ≤ 1099511627776) && decide (0 ≤ m) && decide (m ≤ 2) && decide (lenI h t ≤ r)
theorem lies_of {p r : Int} (h : 0 ≤ p) (h' : 1 ≤ r) : liesB p r = true := by simp [liesB, h, h']
theorem empty_t {h t : Int} (e : emptyB h t = true) : h = t := by simpa [emptyB] using e
theorem place_of {p r : Int} (h : 0 ≤ p) (h' : 1 ≤ r) : placeI p r = p % r := by simp [placeI, lies_of h h']
theorem check_len {h t m r : Int} (c : checkB h t m r = true) : 0 ≤ h ∧ h ≤ t ∧ t ≤ 1099511627776 ∧ 0 ≤ m ∧ m ≤ 2 ∧ lenI h t = t - h ∧ t - h ≤ r := by
  simp [checkB] at c
  have : lenI h t = t - h := by unfold lenI; split <;> omega
  omega
end Go.Proofs.Ytkflpaicohbppaa

/- Contracts of layer 1's functions and of the document's: what each call returns, as the plain functions say; what was there is kept. -/
namespace Go.Proofs.Ytkflpaicohbppaa
set_option linter.unusedVariables false
set_option linter.unusedSimpArgs false
open Go.ChangeShapes Go.WideShapes Go.ChangeAt Go.RowKit

theorem lies_any (p r : Int) (hp : In64 p) (hr : In64 r) (w : World) :
    Calls Try.prog 92 #[.int .i64 p, .int .i64 r] w fun e w' => e = .returned (.bool (liesB p r)) ∧ Kept w w' := by
  go_enter Try.func92, Try.ntmps92
  go_wp2
  all_goals (go_ret; exact ⟨ret_bool (by first | (rw [Bool.eq_iff_iff]; simp [liesB]; omega) | (simp [liesB, *]; done) | (simp [liesB, *]; omega) | (simp [liesB, *]; intros; omega)), by repeat' (first | (with_reducible exact Below.refl _ _) | (with_reducible assumption) | (with_reducible refine kept_alloc ?_ _) | (with_reducible refine kept_drewN ?_ _) | (with_reducible refine Below.drew ?_) | (with_reducible refine Below.setCell ?_ (by first | omega | (simp; omega) | (simp; done)) _) | (refine kept_trans ?_ (by with_reducible assumption)))⟩)

theorem place_any (p r : Int) (hp : In64 p) (hr : In64 r) (w : World) :
    Calls Try.prog 77 #[.int .i64 p, .int .i64 r] w fun e w' => e = .returned (.int .i64 (placeI p r)) ∧ Kept w w' := by
  cases hl : liesB p r <;> (have hl' := hl; simp [liesB] at hl')
  all_goals
    go_enter Try.func77, Try.ntmps77
    go_wp2_with (go_at_call 92; refine (lies_any _ _ (by omega) (by omega) _).mono ?_; rintro e wx ⟨rfl, hgx⟩)
    all_goals (go_ret; exact ⟨ret_int (by first | (simp [placeI, *]; done) | (simp [placeI, *]; omega) | (simp [placeI, *]; intros; omega)), by repeat' (first | (with_reducible exact Below.refl _ _) | (with_reducible assumption) | (with_reducible refine kept_alloc ?_ _) | (with_reducible refine kept_drewN ?_ _) | (with_reducible refine Below.drew ?_) | (with_reducible refine Below.setCell ?_ (by first | omega | (simp; omega) | (simp; done)) _) | (refine kept_trans ?_ (by with_reducible assumption)))⟩)

theorem empty_any (h t m : Int) (w : World) :
    Calls Try.prog 91 #[.agg #[.int .i64 h, .int .i64 t, .int .i64 m]] w fun e w' => e = .returned (.bool (emptyB h t)) ∧ Kept w w' := by
  go_enter Try.func91, Try.ntmps91
  go_wp2
  all_goals (go_ret; exact ⟨ret_bool (by first | (rw [Bool.eq_iff_iff]; simp [emptyB]; omega) | (simp [emptyB, *]; done) | (simp [emptyB, *]; omega) | (simp [emptyB, *]; intros; omega)), by repeat' (first | (with_reducible exact Below.refl _ _) | (with_reducible assumption) | (with_reducible refine kept_alloc ?_ _) | (with_reducible refine kept_drewN ?_ _) | (with_reducible refine Below.drew ?_) | (with_reducible refine Below.setCell ?_ (by first | omega | (simp; omega) | (simp; done)) _) | (refine kept_trans ?_ (by with_reducible assumption)))⟩)

theorem len_any (h t m : Int) (hh : In64 h) (ht : In64 t) (w : World) :
    Calls Try.prog 76 #[.agg #[.int .i64 h, .int .i64 t, .int .i64 m]] w fun e w' => e = .returned (.int .i64 (lenI h t)) ∧ Kept w w' := by
  cases he : emptyB h t
  · have he' : h ≠ t := by simpa [emptyB] using he
    by_cases hlt : t < h
    · go_enter Try.func76, Try.ntmps76
      go_wp2_with (first | (go_at_call 91; refine (empty_any _ _ _ _).mono ?_; rintro e wx ⟨rfl, hgx⟩; obtain ⟨hcx, hfx⟩ := bcell hgx; have hz0 : w.heap.size < wx.heap.size := (by have := hgx.size; (try simp at this); omega)))
      all_goals (go_ret; exact ⟨ret_int (by first | (simp [lenI, *]; done) | (simp [lenI, *]; omega) | (simp [lenI, *]; intros; omega)), by repeat' (first | (with_reducible exact Below.refl _ _) | (with_reducible assumption) | (with_reducible refine kept_alloc ?_ _) | (with_reducible refine kept_drewN ?_ _) | (with_reducible refine Below.drew ?_) | (with_reducible refine Below.setCell ?_ (by first | omega | (simp; omega) | (simp; done)) _) | (refine kept_trans ?_ (by with_reducible assumption)))⟩)
    · by_cases hs : t - h ≤ 9223372036854775807
      · go_enter Try.func76, Try.ntmps76
        go_wp2_with (first | (go_at_call 91; refine (empty_any _ _ _ _).mono ?_; rintro e wx ⟨rfl, hgx⟩; obtain ⟨hcx, hfx⟩ := bcell hgx; have hz0 : w.heap.size < wx.heap.size := (by have := hgx.size; (try simp at this); omega)))
        go_ret
        exact ⟨ret_int (by rw [lenI, if_neg (by omega), if_pos hs]), by repeat' (first | (with_reducible exact Below.refl _ _) | (with_reducible assumption) | (with_reducible refine kept_alloc ?_ _) | (with_reducible refine kept_drewN ?_ _) | (with_reducible refine Below.drew ?_) | (with_reducible refine Below.setCell ?_ (by first | omega | (simp; omega) | (simp; done)) _) | (refine kept_trans ?_ (by with_reducible assumption)))⟩
      · have hw : ¬ 0 < wrap64 (t - h) := by unfold wrap64; omega
        go_enter Try.func76, Try.ntmps76
        go_wp2_with (first | (go_at_call 91; refine (empty_any _ _ _ _).mono ?_; rintro e wx ⟨rfl, hgx⟩; obtain ⟨hcx, hfx⟩ := bcell hgx; have hz0 : w.heap.size < wx.heap.size := (by have := hgx.size; (try simp at this); omega)))
        go_ret
        exact ⟨ret_int (by rw [lenI, if_neg (by omega), if_neg (by omega)]), by repeat' (first | (with_reducible exact Below.refl _ _) | (with_reducible assumption) | (with_reducible refine kept_alloc ?_ _) | (with_reducible refine kept_drewN ?_ _) | (with_reducible refine Below.drew ?_) | (with_reducible refine Below.setCell ?_ (by first | omega | (simp; omega) | (simp; done)) _) | (refine kept_trans ?_ (by with_reducible assumption)))⟩
  · go_enter Try.func76, Try.ntmps76
    go_wp2_with (first | (go_at_call 91; refine (empty_any _ _ _ _).mono ?_; rintro e wx ⟨rfl, hgx⟩; obtain ⟨hcx, hfx⟩ := bcell hgx; have hz0 : w.heap.size < wx.heap.size := (by have := hgx.size; (try simp at this); omega)))
    go_ret
    exact ⟨ret_int (by rw [lenI, if_pos (by have := empty_t he; omega)]), by repeat' (first | (with_reducible exact Below.refl _ _) | (with_reducible assumption) | (with_reducible refine kept_alloc ?_ _) | (with_reducible refine kept_drewN ?_ _) | (with_reducible refine Below.drew ?_) | (with_reducible refine Below.setCell ?_ (by first | omega | (simp; omega) | (simp; done)) _) | (refine kept_trans ?_ (by with_reducible assumption)))⟩

theorem check_any (h t m r : Int) (hh : In64 h) (ht : In64 t) (hm : In64 m) (hr : In64 r) (w : World) :
    Calls Try.prog 49 #[.agg #[.int .i64 h, .int .i64 t, .int .i64 m], .int .i64 r] w fun e w' => e = .returned (.bool (checkB h t m r)) ∧ Kept w w' := by
  go_enter Try.func49, Try.ntmps49
  go_wp2_with (first | (go_at_call 76; refine (len_any _ _ _ (by omega) (by omega) _).mono ?_; rintro e wx ⟨rfl, hgx⟩; obtain ⟨hcx, hfx⟩ := bcell hgx; have hz0 : w.heap.size < wx.heap.size := (by have := hgx.size; (try simp at this); omega)) | go_in)
  all_goals (go_ret; exact ⟨ret_bool (by first | (rw [Bool.eq_iff_iff]; simp [checkB]; omega) | (simp [checkB, *]; done) | (simp [checkB, *]; omega) | (simp [checkB, *]; intros; omega)), by repeat' (first | (with_reducible exact Below.refl _ _) | (with_reducible assumption) | (with_reducible refine kept_alloc ?_ _) | (with_reducible refine kept_drewN ?_ _) | (with_reducible refine Below.drew ?_) | (with_reducible refine Below.setCell ?_ (by first | omega | (simp; omega) | (simp; done)) _) | (refine kept_trans ?_ (by with_reducible assumption)))⟩)

/- The document's. -/
end Go.Proofs.Ytkflpaicohbppaa

/- Layer 9, plain: the places of a ring. -/
namespace Go.Proofs.Ytkflpaicohbppaa
set_option linter.unusedVariables false
set_option linter.unusedSimpArgs false

/-- A slot: its stamp, its value. -/
structure Slo where
  st : Int
  vl : Int
def Slo.cells (s : Slo) : List Value := [.int .i64 s.st, .int .i64 s.vl]
theorem Slo.enc : Enc 2 Slo.cells := ⟨fun _ => rfl, fun x c hc => by simp [Slo.cells] at hc; rcases hc with rfl | rfl <;> rfl⟩
instance sloEq : DecidableEq Slo := fun a b => decidable_of_iff (a.st = b.st ∧ a.vl = b.vl) (by cases a; cases b; simp)
def gs (l : List Slo) (i : Nat) : Slo := l.getD i ⟨0, 0⟩
theorem gs_some {l : List Slo} {i : Nat} (h : i < l.length) : l[i]? = some (gs l i) := by simp [gs, h]
theorem gs_eq {l : List Slo} {i : Nat} (h : i < l.length) : gs l i = l[i] := by simp [gs, h]
theorem gs_take {l : List Slo} {j : Nat} (h : j < l.length) : l.take (j + 1) = l.take j ++ [gs l j] := by
  rw [List.take_succ_eq_append_getElem h, gs_eq h]

def ringB (r : Int) : Bool := decide (1 ≤ r) && decide (r ≤ 64)
def newL (r : Int) : List Slo := if ringB r = true then (List.range r.toNat).map fun (i : Nat) => (⟨(i : Int), 0⟩ : Slo) else []
/-- Whether a slot may lie at place i of n. -/
def slotB (n i : Nat) (s : Slo) : Bool := decide (0 ≤ s.st) && decide (s.st ≤ 2199023255552) && placeI s.st n == i
def okSl (l : List Slo) : Bool := ringB l.length && (List.range l.length).all fun i => slotB l.length i (gs l i)
theorem ring_iff {r : Int} : ringB r = true ↔ 1 ≤ r ∧ r ≤ 64 := by simp [ringB]
theorem slot_iff {n i : Nat} {s : Slo} : slotB n i s = true ↔ 0 ≤ s.st ∧ s.st ≤ 2199023255552 ∧ placeI s.st n = i := by simp [slotB, and_assoc]
theorem ok_iff {l : List Slo} : okSl l = true ↔ (1 ≤ l.length ∧ l.length ≤ 64) ∧ ∀ i, i < l.length → slotB l.length i (gs l i) = true := by
  unfold okSl
  rw [Bool.and_eq_true, ring_iff, List.all_eq_true]
  simp only [List.mem_range]
  constructor
  · rintro ⟨h1, h2⟩; exact ⟨by omega, h2⟩
  · rintro ⟨h1, h2⟩; exact ⟨by omega, h2⟩
/-! ### What stamps alone tell -/
/-! ### What the statements ask -/
/-! ### Lap by lap -/
theorem new_len {k : Nat} (h : 1 ≤ k ∧ k ≤ 64) : (newL k).length = k := by
  unfold newL; rw [if_pos (ring_iff.2 (by omega))]; simp
theorem new_gs {k : Nat} (h : 1 ≤ k ∧ k ≤ 64) {i : Nat} (hi : i < k) : gs (newL k) i = ⟨i, 0⟩ := by
  unfold newL; rw [if_pos (ring_iff.2 (by omega))]; simp [gs, hi]
theorem place_small {i k : Nat} (hi : i < k) : placeI i k = i := by
  rw [place_of (by omega) (by omega)]
  exact Int.emod_eq_of_lt (by omega) (by omega)
theorem new_ok {k : Nat} (h : 1 ≤ k ∧ k ≤ 64) : okSl (newL k) = true := by
  rw [ok_iff, new_len h]
  refine ⟨h, fun i hi => ?_⟩
  rw [new_gs h hi]
  exact slot_iff.2 ⟨by simp only; omega, by simp only; omega, place_small hi⟩
end Go.Proofs.Ytkflpaicohbppaa

/- A slot as an argument, opened. -/
namespace Go.Proofs.Ytkflpaicohbppaa
set_option linter.unusedVariables false
set_option linter.unusedSimpArgs false
open Go.ChangeShapes Go.WideShapes Go.ChangeAt Go.RowKit
def Slo.shape : List (Ck 0) := [.int .i64, .int .i64]
abbrev Slo.size : Nat := 2
def Slo.ok (d : Slo) : Prop := In64 d.st ∧ In64 d.vl
def Slo.zero : List Value := [.int .i64 0, .int .i64 0]
theorem Slo.of_read {W : World} {vs : List Value} (h : ReadL W Slo.shape vs) : ∃ d : Slo, vs = d.cells ∧ d.ok := by
  simp only [Slo.shape, read_nil, read_cons, read_int, read_bool, read_str] at h
  obtain ⟨_, _, rfl, ⟨a, rfl, h0⟩, _, _, rfl, ⟨b, rfl, h1⟩, rfl⟩ := h
  exact ⟨⟨a, b⟩, rfl, in64_of_wf h0, in64_of_wf h1⟩
end Go.Proofs.Ytkflpaicohbppaa

/- Plain functions of layer 3 (the queue that a fabric is told by), and of the document's. -/
namespace Go.Proofs.Ytkflpaicohbppaa
set_option linter.unusedVariables false
set_option linter.unusedSimpArgs false

/-- A queue. -/
structure Qu where
  vals : List Int
  cap : Int
  pol : Int
  mode : Int
/-- An entry. -/
structure En where
  th : Int
  ki : Int
  va : Int
  re : Int
  go : Int
def En.cells (e : En) : List Value := [.int .i64 e.th, .int .i64 e.ki, .int .i64 e.va, .int .i64 e.re, .int .i64 e.go]
def sendsB (k : Int) : Bool := decide (1 ≤ k) && decide (k ≤ 3)
def recvsB (k : Int) : Bool := decide (4 ≤ k) && decide (k ≤ 6)
def Qu.full (q : Qu) : Bool := decide (q.cap ≤ q.vals.length)
def Qu.with (q : Qu) (l : List Int) : Qu := ⟨l, q.cap, q.pol, q.mode⟩
def Qu.gone (q : Qu) (n : Int) : Qu × Bool :=
  match q.vals with
  | [] => (q, false)
  | v :: r => if v = n then (q.with r, true) else (q, false)
def Qu.send (q : Qu) (e : En) : Qu × Bool :=
  if e.re = 1 then (if decide (q.mode ≠ 0) || q.full then (q, false) else (q.with (q.vals ++ [e.va]), true))
  else if e.re = 2 then (q, decide (q.mode = 0) && q.full && decide (q.pol = 0) && decide (e.ki = 2))
  else if e.re = 3 then (q, decide (q.mode = 0) && q.full && decide (q.pol = 1))
  else if e.re = 5 then (q, decide (e.ki = 3))
  else if e.re = 6 then (q, decide (q.mode = 1))
  else if e.re = 7 then (q, decide (q.mode = 2))
  else (q, false)
def Qu.recv (q : Qu) (e : En) : Qu × Bool :=
  if e.re = 1 then (if q.mode = 2 then (q, false) else q.gone e.go)
  else if e.re = 4 then (q, decide (q.mode = 0) && decide (q.vals.length = 0) && decide (e.ki = 5))
  else if e.re = 5 then (q, decide (e.ki = 6))
  else if e.re = 6 then (q, decide (q.mode = 1) && decide (q.vals.length = 0))
  else if e.re = 7 then (q, decide (q.mode = 2))
  else (q, false)
def drainI (m : Int) : Int := if m = 0 then 1 else m
def Qu.tell (q : Qu) (e : En) : Qu × Bool :=
  if sendsB e.ki then q.send e
  else if recvsB e.ki then q.recv e
  else if e.re ≠ 1 then (q, false)
  else if e.ki = 7 then (⟨q.vals, q.cap, q.pol, drainI q.mode⟩, true)
  else if e.ki = 8 then (⟨q.vals, q.cap, q.pol, 2⟩, true)
  else if e.ki = 9 then (if q.mode ≠ 0 ∨ q.pol ≠ 2 ∨ (q.vals.length : Int) < q.cap then (q, false) else q.gone e.go)
  else (q, false)
def Qu.all (q : Qu) : List En → Qu × Nat
  | [] => (q, 0)
  | e :: l => if (q.tell e).2 then (((q.tell e).1.all l).1, ((q.tell e).1.all l).2 + 1) else (q, 0)
end Go.Proofs.Ytkflpaicohbppaa

/- Layer 3: arguments of the statements, opened. -/
namespace Go.Proofs.Ytkflpaicohbppaa
set_option linter.unusedVariables false
set_option linter.unusedSimpArgs false
open Go.ChangeShapes Go.WideShapes Go.ChangeAt Go.RowKit

def En.shape : List (Ck 0) := [.int .i64, .int .i64, .int .i64, .int .i64, .int .i64]
abbrev En.size : Nat := 5
def En.ok (_ : En) : Prop := True
def En.zero : List Value := [.int .i64 0, .int .i64 0, .int .i64 0, .int .i64 0, .int .i64 0]
theorem En.of_read {W : World} {vs : List Value} (h : ReadL W En.shape vs) : ∃ e : En, vs = e.cells ∧ e.ok := by
  simp only [En.shape, read_nil, read_cons, read_int, read_bool, read_str] at h
  obtain ⟨_, _, rfl, ⟨th, rfl, h0⟩, _, _, rfl, ⟨ki, rfl, h1⟩, _, _, rfl, ⟨va, rfl, h2⟩, _, _, rfl, ⟨re, rfl, h3⟩, _, _, rfl, ⟨go, rfl, h4⟩, rfl⟩ := h
  exact ⟨⟨th, ki, va, re, go⟩, rfl, trivial⟩
theorem En.enc : Enc 5 En.cells := ⟨fun _ => rfl, fun x c hc => by simp [En.cells] at hc; rcases hc with rfl | rfl | rfl | rfl | rfl <;> rfl⟩

def Qu.shape : List (Ck 1) := [.row [.int .i64], .int .i64, .int .i64, .int .i64]
def Qu.ok (q : Qu) : Prop := In64 q.cap ∧ In64 q.pol ∧ In64 q.mode
theorem Qu.of_read {W : World} {vs : List Value} (h : ReadL W Qu.shape vs) : ∃ (q : Qu) (p : Option Addr) (k : Nat), vs = [.slice p q.vals.length k, .int .i64 q.cap, .int .i64 q.pol, .int .i64 q.mode] ∧ Sl W 1 intC q.vals (.slice p q.vals.length k) ∧ q.ok ∧ q.vals.length ≤ maxLen := by
  simp only [Qu.shape, read_cons, read_nil, read_int] at h
  obtain ⟨v, _, rfl, hv, _, _, rfl, ⟨c, rfl, h1⟩, _, _, rfl, ⟨po, rfl, h2⟩, _, _, rfl, ⟨m, rfl, h3⟩, rfl⟩ := h
  obtain ⟨xs, hs, _, hl⟩ := Sl.of_read (α := Int) intC (fun _ => True) (by decide) hv (fun vs h => by
    simp only [read_cons, read_nil, read_int] at h
    obtain ⟨_, _, rfl, ⟨x, rfl, _⟩, rfl⟩ := h
    exact ⟨x, rfl, trivial⟩)
  obtain ⟨p, k, rfl, _⟩ := hs.is
  exact ⟨⟨xs, c, po, m⟩, p, k, rfl, hs, ⟨in64_of_wf h1, in64_of_wf h2, in64_of_wf h3⟩, hl⟩
end Go.Proofs.Ytkflpaicohbppaa
