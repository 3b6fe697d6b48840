/- Texts merged: Base, Read, Row, Cf, Int, IntR, PosF, PosC, SlotF, SloR, FifoF, FifoX, Th, St. -/
import Derived.Test.YtbbfdaehaiimiaaRows
import Derived.WalkKit
import Derived.ProofKit
import Derived.OpenShut
import Derived.Handy
import Derived.Deep.QuietTactic
import Derived.BigQuiet
import Derived.WalkSmall
import Derived.Outline
import Derived.Lib.SmallJoins
import Derived.Deep.Quiet
import Derived.Deep.Slices
import Derived.Deep.Fields
import Derived.ChangeSame
import Derived.OwnWalk
import Derived.Laws.AppendOwnNone
import Derived.Laws.StructEq
/- What every claim of this repo uses: worlds that keep what was there, integers' bounds, and the frame of a law: from 'the call returns true and keeps what was there' to the given statement. -/
namespace Go.Proofs.Ytbbfdaehaiimiaa
set_option linter.unusedVariables false
set_option linter.unusedSimpArgs false
open Go.ChangeShapes Go.WideShapes Go.ChangeAt Go.RowKit

abbrev Kept (w w' : World) : Prop := Below w.heap.size w w'

theorem kept_trans {A B C : World} (h : Below A.heap.size A B) (k : Below B.heap.size B C) : Below A.heap.size A C := h.trans (k.mono h.size)
theorem kept_alloc {A B : World} (h : Below A.heap.size A B) (o : Obj) : Below A.heap.size A (B.alloc o) := h.alloc h.size o
theorem kept_drewN {A B : World} (h : Below A.heap.size A B) (n : Nat) : Below A.heap.size A (B.drewN n) := below_drewN h n

/- Every old cell, and every old mark, reads behind a call that kept what was there as it did. -/
theorem bcell {W w1 : World} (hb : Below W.heap.size W w1) : (∀ b o, b < W.heap.size → w1.cell? ⟨b, o, none⟩ = W.cell? ⟨b, o, none⟩) ∧ (∀ b o, b < W.heap.size → w1.frozen? ⟨b, o, none⟩ = W.frozen? ⟨b, o, none⟩) :=
  ⟨fun b o h => hb.cell (p := ⟨b, o, none⟩) h, fun b o h => hb.frozen (p := ⟨b, o, none⟩) h⟩

/- What a drawn region's loads read stays so behind a call that kept what was there. -/
def CellsAt (W : World) : List (Nat × Nat × Value) → Prop
  | [] => True
  | x :: r => (x.1 < W.heap.size ∧ W.cell? ⟨x.1, x.2.1, none⟩ = some x.2.2) ∧ CellsAt W r
theorem cells_keep {W w1 : World} (hg : Below W.heap.size W w1) : ∀ {l : List (Nat × Nat × Value)}, CellsAt W l → CellsAt w1 l
  | [], _ => trivial
  | _ :: _, h => ⟨⟨Nat.lt_of_lt_of_le h.1.1 hg.size, ((bcell hg).1 _ _ h.1.1).trans h.1.2⟩, cells_keep hg h.2⟩
/- THE CLASS OF WORLDS of a region that draws its order: what was there is kept, and these cells hold these values. A call that keeps what was there is quiet in it, so one walk in the text's order serves every order. -/
def Wd (w : World) (l : List (Nat × Nat × Value)) : Type := { w' : World // Below w.heap.size w w' ∧ CellsAt w' l }
def Wd.at {w : World} {l : List (Nat × Nat × Value)} (x : Wd w l) : World := x.1
theorem Wd.kept {w : World} {l : List (Nat × Nat × Value)} (x : Wd w l) : Below w.heap.size w x.at := x.2.1
theorem Wd.cells {w : World} {l : List (Nat × Nat × Value)} (x : Wd w l) : CellsAt x.at l := x.2.2
theorem Wd.mk {w W : World} {l : List (Nat × Nat × Value)} (h : Below w.heap.size w W) (c : CellsAt W l) : ∃ x : Wd w l, W = x.at := ⟨⟨W, h, c⟩, rfl⟩
theorem quiet_call {P : Program} {f : FuncId} {args : Array Value} {w : World} {l : List (Nat × Nat × Value)} {x : Wd w l} {v : Value}
    (h : Calls P f args x.at fun e w' => e = .returned v ∧ Kept x.at w') : Calls P f args x.at fun e w'' => e = .returned v ∧ ∃ y : Wd w l, w'' = y.at :=
  h.mono fun _ _ ⟨he, hk⟩ => ⟨he, Wd.mk (kept_trans x.kept hk) (cells_keep hk x.cells)⟩
theorem wp_region_kept {P : Program} {id : Nat} {Q : Exit → Act → World → Prop} {a : Act} {w W : World} {l : List Oper} (cs : List (Nat × Nat × Value)) (hm : P.follows .mixedOrders = true) (hB : Region.lexB .any l.toArray = true)
    (hk : Below w.heap.size w W) (hC : CellsAt W cs)
    (h : Nonempty (Wd w cs) → wpQuiet P l.toArray (fun w' => ∃ x : Wd w cs, w' = x.at) (fun a' => ∀ w', (∃ x : Wd w cs, w' = x.at) → Q .normal a' w') l a) : (Code.region id l.toArray true).wp P Q a W := by
  have hd : Below W.heap.size W { W with drawn := W.drawn + 1 } := ⟨rfl, rfl, rfl, Nat.le_refl _, fun _ _ => rfl⟩
  refine wp_region_quiet (C := fun w' => ∃ x : Wd w cs, w' = x.at) hm hB (Wd.mk (kept_trans hk hd) (cells_keep hd hC)) ?_
  simpa using h ⟨⟨W, hk, hC⟩⟩

theorem ret_int {k : IntKind} {a b : Int} (h : a = b) : Ending.returned (.int k a) = .returned (.int k b) := by rw [h]
theorem ret_bool {a b : Bool} (h : a = b) : Ending.returned (.bool a) = .returned (.bool b) := by rw [h]

abbrev In64 (p : Int) : Prop := -9223372036854775808 ≤ p ∧ p ≤ 9223372036854775807

theorem in64_of_wf {p : Int} (h : (Lit.int .i64 p).wf = true) : In64 p := bounds_i64 h
theorem wf_of_in64 {p : Int} (h : In64 p) : (Lit.int .i64 p).wf = true := by
  obtain ⟨h1, h2⟩ := h
  simp [Lit.wf, IntKind.min, IntKind.max, IntKind.signed, IntKind.bits]; omega

/-! ### The frame of a law -/
section
variable {H : Type} {enc : TypeId × Value → H} {P : Program}

theorem trodAll_kept (hl : laidOutB P = true) {W W' : World} (hb : Below W.heap.size W W') :
    ∀ {ts : List TypeId} {vs : List Value} {ds : List (DataW H)} {ps : List MemPlace}, ts.all (fun t => P.readableRec t && decide (t < P.types.size)) = true →
      DataW.TrodAll enc P W 0 (fun _ => true) true ts vs ds ps → (∀ x ∈ ps, x.block < W.heap.size) → DataW.TrodAll enc P W' 0 (fun b => decide (b < W.heap.size)) true ts vs ds ps
  | [], [], [], _, _, h, _ => h
  | t :: ts, v :: vs, d :: ds, ps, hr, h, hlt => by
    obtain ⟨p, q, h1, h2, rfl⟩ := h
    simp only [List.all_cons, Bool.and_eq_true, decide_eq_true_eq] at hr
    exact ⟨p, q, Below.trod hl hr.1.1 hr.1.2 h1 hb (fun x hx => hlt x (by simp [hx])), trodAll_kept hl hb hr.2 h2 (fun x hx => hlt x (by simp [hx])), rfl⟩
  | [], _ :: _, _, _, _, h, _ => by simp [DataW.TrodAll] at h
  | [], [], _ :: _, _, _, h, _ => by simp [DataW.TrodAll] at h
  | _ :: _, [], _, _, _, h, _ => by simp [DataW.TrodAll] at h
  | _ :: _, _ :: _, [], _, _, h, _ => by simp [DataW.TrodAll] at h

theorem law_post (hl : laidOutB P = true) {f : Func} {s : ChangeSpec} {apart : Bool} {W W' : World} {args : Array Value} {ds gs : List (DataW H)} {before : List MemPlace} {tb : TypeId}
    (hW : DataW.Whole enc P f.params.toList s.vars apart W args.toList ds gs before) (hv : s.vars = []) (hr : f.params.toList.all (fun t => P.readableRec t && decide (t < P.types.size)) = true)
    (hres : f.resultTypes = #[tb]) (htb : P.underlying tb = some .bool) (hfn : s.fn H (ds ++ gs) = { results := [.lit (.bool true)], args := ds })
    (hb : Below W.heap.size W W') : s.post enc P f apart true false false W args (.bool true) W' := by
  have hW' := hW
  obtain ⟨p, q, hA, hV, rfl, hfz, hnd⟩ := hW
  have hV' : gs = [] ∧ q = [] := by
    rw [hv] at hV
    cases gs with
    | nil => exact ⟨rfl, by simpa [DataW.TrodVars] using hV⟩
    | cons _ _ => simp [DataW.TrodVars] at hV
  obtain ⟨rfl, rfl⟩ := hV'
  have hlt : ∀ x ∈ p, x.block < W.heap.size := fun x hx => by have := hW'.lt x (by simp [hx]); simpa using this
  refine ⟨ds, [], p ++ [], [], p, [], hW', ?_, ?_, ?_, hb.frame _, fun h => by cases h⟩
  · rw [hfn, hres]
    exact trodAll_cons_mk (shut_bool htb _) trodAll_mk0
  · rw [hfn]
    exact trodAll_kept hl hb hr hA hlt
  · rw [hfn, hv]
    rfl
end

/-! ### Opening a struct of integers by value -/
section
variable {H : Type} {enc : TypeId × Value → H} {P : Program} {w : World} {base : Nat} {spare : Nat → Bool} {held : Bool}
theorem open_ints3 {r : Reach} {b0 : Nat} {t t0 t1 t2 : TypeId} {f0 f1 f2 : Field} {v : Value} {d : DataW H} {p : List MemPlace} (hs : P.underlying t = some (.struct #[f0, f1, f2])) (hone : Deep.oneCellFields P #[f0, f1, f2] = true) (hC : P.cellsOf t = 3)
    (e0 : f0.type = t0) (e1 : f1.type = t1) (e2 : f2.type = t2) (h0 : P.underlying t0 = some (.int .i64)) (h1 : P.underlying t1 = some (.int .i64)) (h2 : P.underlying t2 = some (.int .i64))
    (hv : Value.okWide P w r b0 t v) (h : DataW.Trod enc P w base spare held t v d p) : ∃ a b c : Int, v = .agg #[.int .i64 a, .int .i64 b, .int .i64 c] ∧ In64 a ∧ In64 b ∧ In64 c := by
  subst e0 e1 e2
  obtain ⟨c0, c1, c2, y0, y1, y2, n, rfl, _, _, r0, r1, r2⟩ := Joins.open_agg3 hs hone hC hv h
  obtain ⟨a, k0, _, w0⟩ := DataW.trod_int h0 r0
  obtain ⟨b, k1, _, w1⟩ := DataW.trod_int h1 r1
  obtain ⟨c, k2, _, w2⟩ := DataW.trod_int h2 r2
  simp at k0 k1 k2; subst k0 k1 k2
  exact ⟨a, b, c, rfl, in64_of_wf w0, in64_of_wf w1, in64_of_wf w2⟩
end
theorem own : ownKnob Try.prog.godebug = none := by kernel_rfl
theorem laid : laidOutB Try.prog = true := by kernel_rfl
end Go.Proofs.Ytbbfdaehaiimiaa

/- ARGUMENTS, OPENED BY THEIR SHAPE: whatever type of ints, bools, strings, structs and slices of these: the cells that a reading met, as plain data ('ReadL'); slices as lists ('Sl'). -/
namespace Go.Proofs.Ytbbfdaehaiimiaa
set_option linter.unusedVariables false
set_option linter.unusedSimpArgs false
open Go.ChangeShapes Go.WideShapes Go.ChangeAt Go.RowKit

theorem ret_two {a b c d : Int} (h : a = c) (k : b = d) : Ending.returned (.tuple #[.int .i64 a, .int .i64 b]) = .returned (.tuple #[.int .i64 c, .int .i64 d]) := by rw [h, k]

/-- What a cell of one value is: an integer of a kind; a bool; a string. -/
abbrev Bs : Type := Option (Option IntKind)
/-- What a cell is: one value, or a slice of elements whose cells are so, one level lower. -/
def Ck : Nat → Type
  | 0 => Bs
  | n + 1 => Sum Bs (List (Ck n))
def Ck.base : (n : Nat) → Bs → Ck n
  | 0, b => b
  | _ + 1, b => Sum.inl b
def Ck.int {n : Nat} (k : IntKind) : Ck n := Ck.base n (some (some k))
def Ck.bool {n : Nat} : Ck n := Ck.base n (some none)
def Ck.str {n : Nat} : Ck n := Ck.base n none
def Ck.row {n : Nat} (e : List (Ck n)) : Ck (n + 1) := Sum.inr e

def ReadB : Bs → Value → Prop
  | some (some k), v => ∃ q, v = .int k q ∧ (Lit.int k q).wf = true
  | some none, v => ∃ b, v = .bool b
  | none, v => ∃ s, v = .string s ∧ s.size ≤ maxLen
def AllZ {α β : Type} (R : α → β → Prop) : List α → List β → Prop
  | [], vs => vs = []
  | c :: l, vs => ∃ v r, vs = v :: r ∧ R c v ∧ AllZ R l r
/-- A cell that reads so. -/
def ReadCn (W : World) : (n : Nat) → Ck n → Value → Prop
  | 0, b, v => ReadB b v
  | n + 1, c, v =>
    match (show Sum Bs (List (Ck n)) from c) with
    | Sum.inl b => ReadB b v
    | Sum.inr e => ∃ (p : Option Addr) (len cap : Nat), v = .slice p len cap ∧ len ≤ cap ∧ cap ≤ maxLen ∧ (p = none → cap = 0) ∧
      ∀ a, p = some a → ∀ i, i < cap → ∃ vs : List Value, vs.length = e.length ∧ (∀ j, j < e.length → W.cell? (a.add (i * e.length + j)) = vs[j]?) ∧ AllZ (ReadCn W n) e vs
def ReadC (W : World) {n : Nat} (c : Ck n) (v : Value) : Prop := ReadCn W n c v
/-- Cells that read so, in turn. -/
def ReadL (W : World) {n : Nat} (l : List (Ck n)) (vs : List Value) : Prop := AllZ (ReadCn W n) l vs

theorem read_nil {W : World} {n : Nat} {vs : List Value} : ReadL W ([] : List (Ck n)) vs ↔ vs = [] := Iff.rfl
theorem read_cons {W : World} {n : Nat} {c : Ck n} {l : List (Ck n)} {vs : List Value} : ReadL W (c :: l) vs ↔ ∃ v r, vs = v :: r ∧ ReadC W c v ∧ ReadL W l r := Iff.rfl
theorem read_base {W : World} {n : Nat} {b : Bs} {v : Value} : ReadC W (Ck.base n b) v ↔ ReadB b v := by cases n <;> exact Iff.rfl
theorem read_int {W : World} {n : Nat} {k : IntKind} {v : Value} : ReadC W (Ck.int k : Ck n) v ↔ ∃ q, v = .int k q ∧ (Lit.int k q).wf = true := read_base
theorem read_bool {W : World} {n : Nat} {v : Value} : ReadC W (Ck.bool : Ck n) v ↔ ∃ b, v = .bool b := read_base
theorem read_str {W : World} {n : Nat} {v : Value} : ReadC W (Ck.str : Ck n) v ↔ ∃ s, v = .string s ∧ s.size ≤ maxLen := read_base
theorem read_row {W : World} {n : Nat} {e : List (Ck n)} {v : Value} : ReadC W (Ck.row e) v ↔ ∃ (p : Option Addr) (len cap : Nat), v = .slice p len cap ∧ len ≤ cap ∧ cap ≤ maxLen ∧ (p = none → cap = 0) ∧
      ∀ a, p = some a → ∀ i, i < cap → ∃ vs : List Value, vs.length = e.length ∧ (∀ j, j < e.length → W.cell? (a.add (i * e.length + j)) = vs[j]?) ∧ ReadL W e vs := Iff.rfl
theorem read_one {W : World} {n : Nat} {c : Ck n} {v : Value} (h : ReadC W c v) : ReadL W [c] [v] := ⟨v, [], rfl, h, rfl⟩

theorem ReadL.append {W : World} {n : Nat} : ∀ {l k : List (Ck n)} {vs us : List Value}, ReadL W l vs → ReadL W k us → ReadL W (l ++ k) (vs ++ us)
  | [], _, _, _, h, h' => by rw [read_nil] at h; subst h; exact h'
  | _ :: _, _, _, _, h, h' => by
    obtain ⟨v, r, rfl, hv, hr⟩ := read_cons.1 h
    exact read_cons.2 ⟨v, _, rfl, hv, ReadL.append hr h'⟩

def joinFs {α : Type} (P : Program) (sh : TypeId → Option (List α)) : List Field → Nat → Option (List α)
  | [], _ => some []
  | f :: r, o => if f.offset = o then (sh f.type).bind fun l => if P.cellsOf f.type = l.length then (joinFs P sh r (o + l.length)).map (l ++ ·) else none else none
/-- A slice's cell, where there is a level for it. -/
def rowOf (sh : (n : Nat) → Option (List (Ck n))) (cells : Nat) : (n : Nat) → Option (List (Ck n))
  | 0 => none
  | n + 1 => (sh n).bind fun l => if cells = l.length then some [Ck.row l] else none
/-- A type's cells. -/
def shapeOf (P : Program) : Nat → (n : Nat) → TypeId → Option (List (Ck n))
  | 0, _, _ => none
  | f + 1, n, t =>
    match P.underlying t with
    | some .bool => some [Ck.bool]
    | some (.int k) => some [Ck.int k]
    | some .string => some [Ck.str]
    | some (.slice e) => rowOf (fun m => shapeOf P f m e) (P.cellsOf e) n
    | some (.struct fs) => (joinFs P (shapeOf P f n) fs.toList 0).bind fun l => if P.cellsOf t = l.length then some l else none
    | _ => none

section
variable {H : Type} {enc : TypeId × Value → H} {P : Program} {w : World} {base : Nat} {held : Bool}

theorem reads_fields {g n m : Nat} (ih : ∀ {t : TypeId} {cs : List Value} {x : DataW H × List MemPlace} {l : List (Ck n)}, shapeOf P g n t = some l → DataW.trod enc P w base (fun _ => true) held m t cs = some x → ReadL w l cs) :
    ∀ {fs : List Field} {o : Nat} {l : List (Ck n)} {cs : List Value}, joinFs P (shapeOf P g n) fs o = some l → o + l.length ≤ cs.length →
      (∀ f ∈ fs, ∃ x, DataW.trod enc P w base (fun _ => true) held m f.type ((cs.drop f.offset).take (P.cellsOf f.type)) = some x) → ReadL w l ((cs.drop o).take l.length)
  | [], o, l, cs, h, _, _ => by
    simp only [joinFs, Option.some.injEq] at h
    subst h
    exact read_nil.2 (by simp)
  | f :: r, o, l, cs, h, hlen, hf => by
    simp only [joinFs] at h
    split at h
    · rename_i ho
      subst ho
      obtain ⟨k, hk, h⟩ := Option.bind_eq_some_iff.1 h
      split at h
      · rename_i hc
        obtain ⟨r', hr', rfl⟩ := Option.map_eq_some_iff.1 h
        obtain ⟨x, hx⟩ := hf f (by simp)
        have h1 := ih hk hx
        rw [hc] at h1
        have h2 := reads_fields (fs := r) ih hr' (by simp at hlen; omega) (fun g hg => hf g (by simp [hg]))
        have := ReadL.append h1 h2
        rw [List.length_append, List.take_add, List.drop_drop]
        exact this
      · cases h
    · cases h

theorem mapM_some_each {α β : Type} {f : α → Option β} : ∀ {l : List α} {r : List β}, l.mapM f = some r → ∀ x ∈ l, ∃ y, f x = some y
  | [], _, _ => by simp
  | a :: l, r, h => by
    simp only [List.mapM_cons, Option.bind_eq_bind, Option.bind_eq_some_iff, Option.pure_def] at h
    obtain ⟨y, hy, ys, hys, _⟩ := h
    intro x hx
    rcases List.mem_cons.1 hx with rfl | hx
    · exact ⟨y, hy⟩
    · exact mapM_some_each hys x hx

theorem reads_trod : ∀ {g n fuel : Nat} {t : TypeId} {cs : List Value} {x : DataW H × List MemPlace} {l : List (Ck n)}, shapeOf P g n t = some l → DataW.trod enc P w base (fun _ => true) held fuel t cs = some x → ReadL w l cs
  | 0, _, _, _, _, _, _, h, _ => by simp [shapeOf] at h
  | g + 1, n, fuel, t, cs, x, l, h, ht => by
    simp only [shapeOf] at h
    split at h
    · rename_i hu
      cases h
      obtain ⟨b, rfl, _⟩ := DataW.trod_bool hu ht
      exact read_one (read_bool.2 ⟨b, rfl⟩)
    · rename_i k hu
      cases h
      obtain ⟨q, rfl, _, hw⟩ := DataW.trod_int hu ht
      exact read_one (read_int.2 ⟨q, rfl, hw⟩)
    · rename_i hu
      cases h
      obtain ⟨s, rfl, _, hw⟩ := DataW.trod_string hu ht
      exact read_one (read_str.2 ⟨s, rfl, hw⟩)
    · rename_i e hu
      cases n with
      | zero => simp [rowOf] at h
      | succ n =>
        simp only [rowOf] at h
        obtain ⟨k, hk, h⟩ := Option.bind_eq_some_iff.1 h
        split at h
        · rename_i hc
          cases h
          rcases Deep.open_slice hu ht with ⟨rfl, _⟩ | ⟨a, len, cap, m, n', D, Pl, rfl, _, hl, hm, hmm, _, hi⟩
          · exact read_one (read_row.2 ⟨none, 0, 0, rfl, by omega, by omega, fun _ => rfl, fun _ h => by cases h⟩)
          · refine read_one (read_row.2 ⟨some a, len, cap, rfl, hl, hm, (fun h => by cases h), ?_⟩)
            intro _ hae i hic
            cases hae
            obtain ⟨vs, h1, h2⟩ := hi i (by rw [hmm]; simpa using hic)
            rw [hc] at h1
            obtain ⟨_, hvl, hva⟩ := World.cells?_some h1
            refine ⟨vs, hvl, fun j hj => ?_, reads_trod hk h2⟩
            rw [← hva j hj, Go.Deep.add_add]
        · cases h
    · rename_i fs hu
      obtain ⟨k, hk, h⟩ := Option.bind_eq_some_iff.1 h
      split at h
      · rename_i hc
        cases h
        obtain ⟨xs, m, _, _, hlen, hxl, hf⟩ := DataW.trod_struct hu ht
        have := reads_fields (enc := enc) (w := w) (base := base) (held := held) (m := m) (fun h h' => reads_trod h h') hk (cs := cs) (by omega) (fun f hfm => by
          obtain ⟨i, hi, rfl⟩ := List.getElem_of_mem hfm
          have h0 : i < fs.size := by simpa using hi
          have := hf i fs[i] (by simp [h0])
          exact ⟨xs[i]'(by omega), by simpa [hxl, h0] using this⟩)
        simpa [← hc, ← hlen] using this
      · cases h
    · cases h

/-- A struct by value, opened: its cells. -/
theorem open_struct {r : Reach} {b0 g n : Nat} {t : TypeId} {fs : Array Field} {l : List (Ck n)} {v : Value} {d : DataW H} {p : List MemPlace} (hs : P.underlying t = some (.struct fs)) (hl : shapeOf P g n t = some l)
    (hv : Value.okWide P w r b0 t v) (h : DataW.Trod enc P w base (fun _ => true) held t v d p) : ∃ cs, v = .agg ⟨cs⟩ ∧ ReadL w l cs := by
  obtain ⟨cs, rfl, _⟩ := okWide_struct hs hv
  obtain ⟨fuel, hf⟩ := h
  exact ⟨cs.toList, rfl, reads_trod hl hf⟩
/-- A slice, opened. -/
theorem open_row {r : Reach} {b0 g n : Nat} {t e : TypeId} {l : List (Ck n)} {v : Value} {d : DataW H} {p : List MemPlace} (hs : P.underlying t = some (.slice e)) (hl : shapeOf P g (n + 1) t = some [Ck.row l])
    (hv : Value.okWide P w r b0 t v) (h : DataW.Trod enc P w base (fun _ => true) held t v d p) : ReadC w (Ck.row l) v := by
  obtain ⟨fuel, hf⟩ := h
  have hc : v.cells.toList = [v] := by
    simp only [Value.okWide, hs, Cell.okWide, Cell.ok] at hv
    split at hv <;> simp_all [Value.cells]
  rw [hc] at hf
  obtain ⟨u, r', h1, h2, _⟩ := read_cons.1 (reads_trod hl hf)
  cases h1
  exact h2
end

/-- v IS A SLICE THAT READS AS xs: x's cells: 'enc x', k of them. -/
structure Sl {α : Type} (W : World) (k : Nat) (enc : α → List Value) (xs : List α) (v : Value) : Prop where
  is : ∃ (p : Option Addr) (cap : Nat), v = .slice p xs.length cap ∧ xs.length ≤ cap ∧ cap ≤ maxLen ∧ (p = none → cap = 0) ∧
    (xs ≠ [] → ∃ b o, p = some ⟨b, o, none⟩ ∧ b < W.heap.size ∧ ∀ i x, xs[i]? = some x → ∀ j, j < k → W.cell? ⟨b, o + i * k + j, none⟩ = (enc x)[j]?)

theorem Sl.kept {α : Type} {W W' : World} {k : Nat} {enc : α → List Value} {xs : List α} {v : Value} (h : Sl W k enc xs v) (hk : Below W.heap.size W W') : Sl W' k enc xs v := by
  obtain ⟨p, cap, hv, h1, h2, h3, h4⟩ := h.is
  refine ⟨p, cap, hv, h1, h2, h3, fun hne => ?_⟩
  obtain ⟨b, o, hp, hb, hc⟩ := h4 hne
  exact ⟨b, o, hp, Nat.lt_of_lt_of_le hb hk.size, fun i x hx j hj => (hk.cell (p := ⟨b, _, none⟩) hb).trans (hc i x hx j hj)⟩

theorem addr_plain {W : World} {a : Addr} {v : Value} (h : W.cell? a = some v) : a = ⟨a.block, a.off, none⟩ ∧ a.block < W.heap.size := by
  obtain ⟨b, o, s⟩ := a
  simp only [World.cell?] at h
  split at h
  · rename_i ho
    split at h
    · cases h
    · rename_i hs
      cases s with
      | none => exact ⟨rfl, (Array.getElem?_eq_some_iff.1 ho).1⟩
      | some _ => simp at hs
  · cases h

/-- Whatever list of elements a slice's cells read as: a list. -/
theorem Sl.of_read {α : Type} {W : World} {n : Nat} {e : List (Ck n)} {v : Value} (enc : α → List Value) (ok : α → Prop) (hne : 0 < e.length) (h : ReadC W (Ck.row e) v) (hd : ∀ vs, ReadL W e vs → ∃ x, vs = enc x ∧ ok x) :
    ∃ xs : List α, Sl W e.length enc xs v ∧ (∀ x ∈ xs, ok x) ∧ xs.length ≤ maxLen := by
  obtain ⟨p, len, cap, rfl, h1, h2, h3, h4⟩ := read_row.1 h
  cases p with
  | none =>
    have : cap = 0 := h3 rfl
    have : len = 0 := by omega
    subst this
    exact ⟨[], ⟨none, cap, rfl, by simp, h2, h3, fun h => absurd rfl h⟩, by simp, by simp⟩
  | some a =>
    have hx : ∀ i, i < cap → ∃ x : α, ok x ∧ ∀ j, j < e.length → W.cell? (a.add (i * e.length + j)) = (enc x)[j]? := fun i hi => by
      obtain ⟨vs, hl, hc, hr⟩ := h4 a rfl i hi
      obtain ⟨x, rfl, ho⟩ := hd vs hr
      exact ⟨x, ho, hc⟩
    by_cases hl : len = 0
    · subst hl
      exact ⟨[], ⟨some a, cap, rfl, by simp, h2, h3, fun h => absurd rfl h⟩, by simp, by simp⟩
    · have hpl : a = ⟨a.block, a.off, none⟩ ∧ a.block < W.heap.size := by
        obtain ⟨vs, hvl, hc, _⟩ := h4 a rfl 0 (by omega)
        have h0 := hc 0 (by omega)
        rw [List.getElem?_eq_getElem (by omega)] at h0
        have : a.add (0 * e.length + 0) = a := by simp [Addr.add]
        rw [this] at h0
        exact addr_plain h0
      let f : Nat → α := fun i => if h : i < cap then Classical.choose (hx i h) else Classical.choose (hx 0 (by omega))
      have hf : ∀ i, i < cap → ok (f i) ∧ ∀ j, j < e.length → W.cell? (a.add (i * e.length + j)) = (enc (f i))[j]? := fun i hi => by
        simp only [f, hi, dif_pos]; exact Classical.choose_spec (hx i hi)
      refine ⟨(List.range len).map f, ⟨some a, cap, by simp, by simp; omega, h2, h3, fun _ => ⟨a.block, a.off, by rw [← hpl.1], hpl.2, fun i x hix j hj => ?_⟩⟩, ?_, by simp; omega⟩
      · simp only [List.getElem?_map, Option.map_eq_some_iff] at hix
        obtain ⟨i', hi', rfl⟩ := hix
        obtain ⟨hlt, rfl⟩ := List.getElem?_eq_some_iff.1 hi'
        simp only [List.length_range, List.getElem_range] at hlt ⊢
        rw [← (hf i (by omega)).2 j hj]
        congr 1
        rw [hpl.1]
        unfold Addr.add
        split
        · rename_i h0; rw [Nat.add_assoc, h0]; rfl
        · simp [Nat.add_assoc]
      · intro x hx
        obtain ⟨i, hi, rfl⟩ := List.mem_map.1 hx
        exact (hf i (by have := List.mem_range.1 hi; omega)).1
end Go.Proofs.Ytbbfdaehaiimiaa

/- SLICES OF THE CALL'S OWN: made, appended to, read: as lists ('Ow'), and as arguments of a callee ('Sl'). -/
namespace Go.Proofs.Ytbbfdaehaiimiaa
set_option linter.unusedVariables false
set_option linter.unusedSimpArgs false
open Go.ChangeShapes Go.WideShapes Go.ChangeAt Go.RowKit

/-- An element's cells: k of them, none of them more than a cell. -/
structure Enc {α : Type} (k : Nat) (enc : α → List Value) : Prop where
  len : ∀ x, (enc x).length = k
  one : ∀ x, ∀ c ∈ enc x, c.oneCell' = true

theorem flat_len {α : Type} {k : Nat} {enc : α → List Value} (h : Enc k enc) (xs : List α) : (xs.flatMap enc).length = xs.length * k := by
  induction xs with
  | nil => simp
  | cons x xs ih => simp [ih, h.len, Nat.add_mul, Nat.add_comm]
theorem flat_get {α : Type} {k : Nat} {enc : α → List Value} (h : Enc k enc) : ∀ (xs : List α) (i j : Nat) (x : α), xs[i]? = some x → j < k → (xs.flatMap enc)[i * k + j]? = (enc x)[j]?
  | [], i, j, x, hx, _ => by simp at hx
  | y :: ys, 0, j, x, hx, hj => by
    simp only [List.getElem?_cons_zero, Option.some.injEq] at hx
    subst hx
    rw [List.flatMap_cons, Nat.zero_mul, Nat.zero_add, List.getElem?_append_left (by rw [h.len]; exact hj)]
  | y :: ys, i + 1, j, x, hx, hj => by
    simp only [List.getElem?_cons_succ] at hx
    have := flat_get h ys i j x hx hj
    rw [List.flatMap_cons, List.getElem?_append_right (by rw [h.len, Nat.add_mul]; omega), h.len, ← this]
    congr 1
    rw [Nat.add_mul]; omega

/-- What stands from place i on: 's[i:]', in the walk's own spelling. -/
theorem Sl.drop {α : Type} {W : World} {k : Nat} {enc : α → List Value} {xs : List α} {b o n c : Nat} (i : Nat) (h : Sl W k enc xs (.slice (some ⟨b, o, none⟩) n c)) (hi : i ≤ xs.length) {a : Addr} (ha : i < c → a = ⟨b, o + i * k, none⟩) {n' c' : Nat} (hn : n' = n - i) (hc' : c' = c - i) :
    Sl W k enc (xs.drop i) (.slice (some a) n' c') := by
  obtain ⟨p, cap, hv, h1, h2, h3, h4⟩ := h.is
  cases hv
  subst hn hc'
  refine ⟨some a, c - i, by simp, by simp; omega, by omega, (fun h => by cases h), fun hne => ?_⟩
  have hlt : i < xs.length := by
    rcases Nat.lt_or_ge i xs.length with h | h
    · exact h
    · exact absurd (List.drop_eq_nil_of_le h) hne
  obtain ⟨b', o', hp, hb, hcell⟩ := h4 (by intro h; subst h; simp at hlt)
  cases hp
  refine ⟨b, o + i * k, by rw [ha (by omega)], hb, fun j x hx l hl => ?_⟩
  rw [List.getElem?_drop] at hx
  rw [← hcell (i + j) x hx l hl]
  congr 2
  rw [Nat.add_mul]; omega

/-- v IS A SLICE OF THE CALL's OWN (no block below base) that holds xs. -/
def Ow {α : Type} (W : World) (base : Nat) (e : TypeId) (k : Nat) (enc : α → List Value) (xs : List α) (v : Value) : Prop := W.ownsRow base e k v xs.length (xs.flatMap enc)

theorem Ow.sl {α : Type} {W : World} {base k : Nat} {e : TypeId} {enc : α → List Value} {xs : List α} {v : Value} (he : Enc k enc) (h : Ow W base e k enc xs v) : Sl W k enc xs v := by
  obtain ⟨_, ⟨rfl, h0⟩ | ⟨g, cap, cur, rfl, hb, hg, hl, hm, hs, ht⟩⟩ := h
  · have : xs = [] := List.length_eq_zero_iff.1 h0
    subst this
    exact ⟨none, 0, rfl, by simp, by simp, fun _ => rfl, fun h => absurd rfl h⟩
  · refine ⟨some ⟨g, 0, none⟩, cap, rfl, hl, hm, (fun h => by cases h), fun _ => ⟨g, 0, rfl, (Array.getElem?_eq_some_iff.1 hg).1, fun i x hx j hj => ?_⟩⟩
    have hc : W.cell? ⟨g, 0 + i * k + j, none⟩ = cur[0 + i * k + j]? := by simp [World.cell?, hg]
    have hi : i < xs.length := (List.getElem?_eq_some_iff.1 hx).1
    have hik : i * k + j < xs.length * k := by
      have := Nat.mul_le_mul_right k (show i + 1 ≤ xs.length by omega)
      rw [Nat.add_mul] at this; omega
    rw [hc, ← flat_get he xs i j x hx hj, ← ht, List.getElem?_take_of_lt hik, Nat.zero_add]
    simp
theorem Ow.kept {α : Type} {W W' : World} {base k : Nat} {e : TypeId} {enc : α → List Value} {xs : List α} {v : Value} (h : Ow W base e k enc xs v) (hk : Below W.heap.size W W') : Ow W' base e k enc xs v := by
  obtain ⟨h0, h1 | ⟨g, cap, cur, hv, hb, hg, hl, hm, hs, ht⟩⟩ := h
  · exact ⟨h0, .inl h1⟩
  · exact ⟨h0, .inr ⟨g, cap, cur, hv, hb, (hk.block g (Array.getElem?_eq_some_iff.1 hg).1).trans hg, hl, hm, hs, ht⟩⟩
/-- A literal's row. -/
theorem Ow.made {α : Type} {W : World} {base k : Nat} {e : TypeId} {enc : α → List Value} (he : Enc k enc) (xs : List α) (cells : Array Value) (hc : cells.toList = xs.flatMap enc) (hb : base ≤ W.heap.size) (hm : xs.length ≤ maxLen) {g n : Nat} (hg : W.heap.size = g) (hn : xs.length = n) :
    Ow (W.alloc (.cells cells e)) base e k enc xs (.slice (some ⟨g, 0, none⟩) n n) := by
  subst hg hn
  have hl := flat_len he xs
  have hs : cells.size = xs.length * k := by rw [← hl, ← hc]; simp
  exact ⟨hl, .inr ⟨W.heap.size, xs.length, cells, rfl, hb, heap_alloc_new W _, Nat.le_refl _, hm, hs, by rw [← hc, List.take_of_length_le (by simp [hs])]⟩⟩
theorem Ow.below {α : Type} {w W W' : World} {k : Nat} {e : TypeId} {enc : α → List Value} {xs : List α} {v : Value} (h : Ow W w.heap.size e k enc xs v) (hB : Below w.heap.size w W) (hg : W.grownBy W' v.ownBlock) : Below w.heap.size w W' :=
  hB.grown hg hB.size (fun i e => (World.ownsRow.lt h i e).1)

theorem Ow.lt {α : Type} {W : World} {base k : Nat} {e : TypeId} {enc : α → List Value} {xs : List α} {v : Value} (h : Ow W base e k enc xs v) : ∀ g, v.ownBlock = some g → base ≤ g ∧ g < W.heap.size := World.ownsRow.lt h
/-- An append to another row leaves this one. -/
theorem Ow.grown {α : Type} {W W' : World} {base k : Nat} {e : TypeId} {enc : α → List Value} {xs : List α} {v : Value} {row : Option Nat} (h : Ow W base e k enc xs v) (hg : W.grownBy W' row) (hne : ∀ g, v.ownBlock = some g → row ≠ some g) : Ow W' base e k enc xs v := by
  obtain ⟨h0, h1 | ⟨g, cap, cur, rfl, hb, hg', hl, hm, hs, ht⟩⟩ := h
  · exact ⟨h0, .inl h1⟩
  · exact ⟨h0, .inr ⟨g, cap, cur, rfl, hb, (hg.block g (Array.getElem?_eq_some_iff.1 hg').1 (fun e => hne g rfl e.symm)).trans hg', hl, hm, hs, ht⟩⟩

theorem Ow.setCell {α : Type} {W : World} {base k : Nat} {e : TypeId} {enc : α → List Value} {xs : List α} {v : Value} (h : Ow W base e k enc xs v) {p : Addr} (hp : p.block < base) (u : Value) : Ow (W.setCell p u) base e k enc xs v := ownsRow_setCell_below h hp u

/-- 'append(s, x...)', s the call's own, x whatever slice: one operation. -/
theorem wp_app {P : Program} {w : World} {α : Type} {o : Oper} {a : Act} {K : Act → World → Prop} {Q : Exit → Act → World → Prop} (s x : Operand) (t : TypeId)
    (ho : o.op = .call { callee := .builtin .append, args := #[s, x], argTypes := #[t, t] }) {base k : Nat} {e : TypeId} {enc : α → List Value} (z : Value) (bytes : Nat) (ht : P.underlying t = some (.slice e))
    (hinfo : (P.info? e).map (fun i => (i.zero, i.size, i.bytes)) = some (some z, k, bytes)) (hzs : z.cells.size = k) (hk : 0 < k) (he : Enc k enc)
    {v u : Value} {xs ys : List α} (hs : a.eval s = v) (hx : a.eval x = u) (hown : Ow w base e k enc xs v) (hu : Sl w k enc ys u)
    (hm : xs.length + ys.length ≤ maxLen) (hbytes : (xs.length + ys.length) * bytes ≤ 140737488355328) (hbase : base ≤ w.heap.size)
    (h : ∀ v' w', Ow w' base e k enc (xs ++ ys) v' → w.grownBy w' v.ownBlock → K (a.put o.dst v') w') : o.wp P a w K Q := by
  obtain ⟨i, hi, hz0, hz1, hz2⟩ := info_parts hinfo
  obtain ⟨p, cap, rfl, hlc, hcm, hp, hc⟩ := hu.is
  cases p with
  | none =>
    have : cap = 0 := hp rfl
    subst this
    have : ys = [] := List.length_eq_zero_iff.1 (by omega)
    subst this
    have hrun := run_append_owned_none (P := P) (w := w) base t o.type e i k ht hi v _ _ hown
    have hx' : a.eval x = .slice none 0 0 := by rw [hx]; rfl
    unfold Oper.wp
    simp [execOp, ho, resolve, invoke, builtin, hs, hx', hrun, Result.andThen]
    exact h v w (by rw [List.append_nil]; exact hown) ⟨rfl, rfl, rfl, Nat.le_refl _, fun _ _ _ => rfl⟩
  | some ad =>
    refine wp_append_own w s x t ho base e i z k bytes ht hi hz0 hz1 hz2 hzs hk v _ _ hs hown ad ys.length cap (ys.flatMap enc) hx (flat_len he ys) ?_ ?_ hm hbytes hbase (fun v' w' h1 h2 _ => h v' w' ?_ h2)
    · intro j c hj
      have hj' := (List.getElem?_eq_some_iff.1 hj).1
      rw [flat_len he] at hj'
      have hne : ys ≠ [] := by rintro rfl; simp at hj'
      obtain ⟨b, off, hab, _, hcell⟩ := hc hne
      cases hab
      have hd : j / k < ys.length := Nat.div_lt_of_lt_mul (by rw [Nat.mul_comm]; exact hj')
      have hmo := Nat.mod_lt j hk
      have hdm : j / k * k + j % k = j := by rw [Nat.mul_comm]; exact Nat.div_add_mod j k
      have h1 := hcell (j / k) ys[j / k] (List.getElem?_eq_getElem hd) (j % k) hmo
      have h2 := flat_get he ys (j / k) (j % k) ys[j / k] (List.getElem?_eq_getElem hd) hmo
      rw [hdm, hj] at h2
      rw [← h2, Nat.add_assoc, hdm] at h1
      rw [← h1]
      congr 1
      unfold Addr.add
      split
      · rename_i h0; rw [h0]; rfl
      · rfl
    · intro c hc'
      obtain ⟨y, _, hy⟩ := List.mem_flatMap.1 hc'
      exact he.one y c hy
    · unfold Ow; rw [List.length_append, List.flatMap_append]; exact h1
theorem wpList_app {P : Program} {w : World} {α : Type} {ops : Array Oper} {rest : List Oper} {o : Oper} {a : Act} {Q : Exit → Act → World → Prop} (hgd : o.guard = none) (s x : Operand) (t : TypeId)
    (ho : o.op = .call { callee := .builtin .append, args := #[s, x], argTypes := #[t, t] }) {base k : Nat} {e : TypeId} {enc : α → List Value} (z : Value) (bytes : Nat) (ht : P.underlying t = some (.slice e))
    (hinfo : (P.info? e).map (fun i => (i.zero, i.size, i.bytes)) = some (some z, k, bytes)) (hzs : z.cells.size = k) (hk : 0 < k) (he : Enc k enc)
    {v u : Value} {xs ys : List α} (hs : a.eval s = v) (hx : a.eval x = u) (hown : Ow w base e k enc xs v) (hu : Sl w k enc ys u)
    (hm : xs.length + ys.length ≤ maxLen) (hbytes : (xs.length + ys.length) * bytes ≤ 140737488355328) (hbase : base ≤ w.heap.size)
    (h : ∀ v' w', Ow w' base e k enc (xs ++ ys) v' → w.grownBy w' v.ownBlock → wpList P ops Q rest (a.put o.dst v') w') : wpList P ops Q (o :: rest) a w :=
  wpList_plain hgd fun _ hK => wp_app s x t ho z bytes ht hinfo hzs hk he hs hx hown hu hm hbytes hbase (fun v' w' h1 h2 => hK _ _ (h v' w' h1 h2))
/-- A step of a region that draws its order. -/
theorem step_app {P : Program} {w wb : World} {α : Type} {ops : Array Oper} {o : Oper} {a : Act} {K : Act → World → Prop} {Q : Exit → Act → World → Prop} {E : Prop} (hgd : o.guard = none) (s x : Operand) (t : TypeId)
    (ho : o.op = .call { callee := .builtin .append, args := #[s, x], argTypes := #[t, t] }) {k : Nat} {e : TypeId} {enc : α → List Value} (z : Value) (bytes : Nat) (ht : P.underlying t = some (.slice e))
    (hinfo : (P.info? e).map (fun i => (i.zero, i.size, i.bytes)) = some (some z, k, bytes)) (hzs : z.cells.size = k) (hk : 0 < k) (he : Enc k enc)
    {v u : Value} {xs ys : List α} (hs : a.eval s = v) (hx : a.eval x = u) (hown : Ow w wb.heap.size e k enc xs v) (hu : Sl w k enc ys u) (hB : Below wb.heap.size wb w)
    (hm : xs.length + ys.length ≤ maxLen) (hbytes : (xs.length + ys.length) * bytes ≤ 140737488355328)
    (h : ∀ v' w', Ow w' wb.heap.size e k enc (xs ++ ys) v' → Below wb.heap.size wb w' → w.grownBy w' v.ownBlock → K (a.put o.dst v') w') : if Region.wanted o (yielded ops a.tmps) = true then Oper.wp P o a w K Q else E := by
  rw [if_pos (by simp [Region.wanted, hgd])]
  exact wp_app s x t ho z bytes ht hinfo hzs hk he hs hx hown hu hm hbytes hB.size (fun v' w' h1 h2 => h v' w' h1 (Ow.below hown hB h2) h2)
/-- The same, where the call's own blocks begin at wb's end. -/
theorem wpList_app' {P : Program} {w wb : World} {α : Type} {ops : Array Oper} {rest : List Oper} {o : Oper} {a : Act} {Q : Exit → Act → World → Prop} (hgd : o.guard = none) (s x : Operand) (t : TypeId)
    (ho : o.op = .call { callee := .builtin .append, args := #[s, x], argTypes := #[t, t] }) {k : Nat} {e : TypeId} {enc : α → List Value} (z : Value) (bytes : Nat) (ht : P.underlying t = some (.slice e))
    (hinfo : (P.info? e).map (fun i => (i.zero, i.size, i.bytes)) = some (some z, k, bytes)) (hzs : z.cells.size = k) (hk : 0 < k) (he : Enc k enc)
    {v u : Value} {xs ys : List α} (hs : a.eval s = v) (hx : a.eval x = u) (hown : Ow w wb.heap.size e k enc xs v) (hu : Sl w k enc ys u) (hB : Below wb.heap.size wb w)
    (hm : xs.length + ys.length ≤ maxLen) (hbytes : (xs.length + ys.length) * bytes ≤ 140737488355328)
    (h : ∀ v' w', Ow w' wb.heap.size e k enc (xs ++ ys) v' → Below wb.heap.size wb w' → wpList P ops Q rest (a.put o.dst v') w') : wpList P ops Q (o :: rest) a w :=
  wpList_app hgd s x t ho z bytes ht hinfo hzs hk he hs hx hown hu hm hbytes hB.size (fun v' w' h1 h2 => h v' w' h1 (Ow.below hown hB h2))
end Go.Proofs.Ytbbfdaehaiimiaa

/- A configuration (api.Config), by value: its cells, and how one is read off an argument. -/
namespace Go.Proofs.Ytbbfdaehaiimiaa
set_option linter.unusedVariables false
set_option linter.unusedSimpArgs false
open Go.ChangeShapes Go.WideShapes Go.ChangeAt Go.RowKit

/-- A configuration. -/
structure Cf where
  lg : Int
  th : Int
  po : Int
  wt : Int
  sp : Int
  yi : Int
  si : Bool
def Cf.cells (c : Cf) : List Value := [.int .i64 c.lg, .int .i64 c.th, .int .i64 c.po, .int .i64 c.wt, .int .i64 c.sp, .int .i64 c.yi, .bool c.si]

def Cf.shape : List (Ck 0) := [.int .i64, .int .i64, .int .i64, .int .i64, .int .i64, .int .i64, .bool]
abbrev Cf.size : Nat := 7
def Cf.ok (c : Cf) : Prop := In64 c.lg ∧ In64 c.th ∧ In64 c.po ∧ In64 c.wt ∧ In64 c.sp ∧ In64 c.yi
def Cf.zero : List Value := [.int .i64 0, .int .i64 0, .int .i64 0, .int .i64 0, .int .i64 0, .int .i64 0, .bool false]
theorem Cf.of_read {W : World} {vs : List Value} (h : ReadL W Cf.shape vs) : ∃ c : Cf, vs = c.cells ∧ c.ok := by
  simp only [Cf.shape, read_nil, read_cons, read_int, read_bool, read_str] at h
  obtain ⟨_, _, rfl, ⟨lg, rfl, h0⟩, _, _, rfl, ⟨th, rfl, h1⟩, _, _, rfl, ⟨po, rfl, h2⟩, _, _, rfl, ⟨wt, rfl, h3⟩, _, _, rfl, ⟨sp, rfl, h4⟩, _, _, rfl, ⟨yi, rfl, h5⟩, _, _, rfl, ⟨si, rfl⟩, rfl⟩ := h
  exact ⟨⟨lg, th, po, wt, sp, yi, si⟩, rfl, in64_of_wf h0, in64_of_wf h1, in64_of_wf h2, in64_of_wf h3, in64_of_wf h4, in64_of_wf h5⟩
theorem Cf.enc : Enc 7 Cf.cells := ⟨fun _ => rfl, fun x c hc => by simp [Cf.cells] at hc; rcases hc with rfl | rfl | rfl | rfl | rfl | rfl | rfl <;> rfl⟩
end Go.Proofs.Ytbbfdaehaiimiaa

/- Slices of integers, as lists. -/
namespace Go.Proofs.Ytbbfdaehaiimiaa
set_option linter.unusedVariables false
set_option linter.unusedSimpArgs false

def intC (n : Int) : List Value := [.int .i64 n]
theorem intEnc : Enc 1 intC := ⟨fun _ => rfl, fun x c hc => by simp [intC] at hc; subst hc; rfl⟩
theorem int_info : (Try.prog.info? 3).map (fun i => (i.zero, i.size, i.bytes)) = some (some (.int .i64 0), 1, 8) := by kernel_rfl
theorem take_snoc_eq {α : Type} {l m : List α} {k : Nat} (h : l.length = m.length) (hk : k < l.length) (ht : l.take k = m.take k) (he : l[k] = m[k]'(by omega)) : l.take (k + 1) = m.take (k + 1) := by
  rw [List.take_succ_eq_append_getElem hk, List.take_succ_eq_append_getElem (by omega), ht, he]
end Go.Proofs.Ytbbfdaehaiimiaa

/- Slices of integers as arguments: their shape. -/
namespace Go.Proofs.Ytbbfdaehaiimiaa
set_option linter.unusedVariables false
set_option linter.unusedSimpArgs false
def intShape : List (Ck 0) := [.int .i64]
theorem int_of_read {W : World} {vs : List Value} (h : ReadL W intShape vs) : ∃ d : Int, vs = intC d ∧ In64 d := by
  simp only [intShape, read_nil, read_cons, read_int, read_bool, read_str] at h
  obtain ⟨_, _, rfl, ⟨a, rfl, h0⟩, rfl⟩ := h
  exact ⟨a, rfl, in64_of_wf h0⟩
end Go.Proofs.Ytbbfdaehaiimiaa

/- Plain functions of layer 1 (positions of a ring, and its word), the program's and the document's, and that they are one. -/
namespace Go.Proofs.Ytbbfdaehaiimiaa
set_option linter.unusedVariables false
set_option linter.unusedSimpArgs false

def liesB (p r : Int) : Bool := decide (0 ≤ p) && decide (1 ≤ r)
def placeI (p r : Int) : Int := if liesB p r then p % r else 0
def lapI (p r : Int) : Int := if liesB p r then p / r else 0
def aheadB (p q r : Int) : Bool := liesB p r && liesB q r && decide (p < q) && decide (placeI p r = placeI q r)
def emptyB (h t : Int) : Bool := decide (h = t)
def lenI (h t : Int) : Int := if t ≤ h then 0 else if t - h ≤ 9223372036854775807 then t - h else 9223372036854775807
def checkB (h t m r : Int) : Bool := decide (0 ≤ h) && decide (h ≤ t) && decide (t ≤ 1099511627776) && decide (0 ≤ m) && decide (m ≤ 2) && decide (lenI h t ≤ r)
def fullB (h t r : Int) : Bool := decide (r ≤ lenI h t)

theorem lies_t {p r : Int} (h : liesB p r = true) : 0 ≤ p ∧ 1 ≤ r := by simpa [liesB] using h
theorem lies_f {p r : Int} (h : liesB p r = false) : p < 0 ∨ r < 1 := by simp [liesB] at h; omega
theorem lies_of {p r : Int} (h : 0 ≤ p) (h' : 1 ≤ r) : liesB p r = true := by simp [liesB, h, h']
theorem empty_t {h t : Int} (e : emptyB h t = true) : h = t := by simpa [emptyB] using e
theorem place_of {p r : Int} (h : 0 ≤ p) (h' : 1 ≤ r) : placeI p r = p % r := by simp [placeI, lies_of h h']
theorem lap_of {p r : Int} (h : 0 ≤ p) (h' : 1 ≤ r) : lapI p r = p / r := by simp [lapI, lies_of h h']
theorem place_in (p r : Int) (hp : In64 p) (hr : In64 r) : In64 (placeI p r) := by
  unfold placeI
  split
  · rename_i h
    obtain ⟨h1, h2⟩ := lies_t h
    have := Int.emod_nonneg p (show r ≠ 0 by omega)
    have := Int.emod_lt_of_pos p (show 0 < r by omega)
    unfold In64; omega
  · unfold In64; omega
theorem lap_in (p r : Int) (hp : In64 p) (hr : In64 r) : In64 (lapI p r) := by
  unfold lapI
  split
  · rename_i h
    obtain ⟨h1, h2⟩ := lies_t h
    have h3 : 0 ≤ p / r := Int.ediv_nonneg h1 (by omega)
    have h4 : p / r ≤ p := Int.ediv_le_self _ h1
    unfold In64 at *; omega
  · unfold In64; omega
theorem len_in (h t : Int) : 0 ≤ lenI h t ∧ lenI h t ≤ 9223372036854775807 := by
  unfold lenI; split
  · omega
  · split <;> omega
theorem ahead_of {p q r : Int} (hp : 0 ≤ p) (hq : 0 ≤ q) (hr : 1 ≤ r) : aheadB p q r = (decide (p < q) && decide (p % r = q % r)) := by
  simp [aheadB, lies_of, place_of, *]

/- The document's. -/
def rLenI (h t : Int) : Int := if t < h then 0 else if h < 0 ∧ 0 ≤ t ∧ 9223372036854775807 + h < t then 9223372036854775807 else t - h
def rCheckB (h t m r : Int) : Bool := decide (0 ≤ h) && decide (h ≤ t) && decide (t ≤ 1099511627776) && decide (t - h ≤ r) && decide (0 ≤ m) && decide (m ≤ 2)
def rPlaceI (p r : Int) : Int := if p < 0 ∨ r < 1 then 0 else p - p / r * r
def rLapI (p r : Int) : Int := if p < 0 ∨ r < 1 then 0 else (p - rPlaceI p r) / r
def rAheadB (p q r : Int) : Bool := if p < 0 ∨ q < 0 ∨ r < 1 then false else decide (p < q) && decide ((q - p) % r = 0)

theorem len_ref {h t : Int} (hh : In64 h) (ht : In64 t) : lenI h t = rLenI h t := by
  unfold lenI rLenI In64 at *
  (repeat' split) <;> omega
theorem check_ref {h t m r : Int} (hr : In64 r) : checkB h t m r = rCheckB h t m r := by
  unfold checkB rCheckB lenI In64 at *
  rw [Bool.eq_iff_iff]
  simp only [Bool.and_eq_true, decide_eq_true_eq]
  constructor
  · intro ⟨⟨⟨⟨⟨a, b⟩, c⟩, d⟩, e⟩, f⟩
    split at f
    · omega
    · split at f <;> omega
  · intro ⟨⟨⟨⟨⟨a, b⟩, c⟩, d⟩, e⟩, f⟩
    split
    · omega
    · split <;> omega
theorem place_ref {p r : Int} : placeI p r = rPlaceI p r := by
  unfold rPlaceI
  split
  · rename_i h
    have : liesB p r = false := by simp [liesB]; omega
    simp [placeI, this]
  · rename_i h
    rw [place_of (by omega) (by omega), Int.emod_def, Int.mul_comm]
theorem lap_ref {p r : Int} : lapI p r = rLapI p r := by
  unfold rLapI
  rw [← place_ref]
  split
  · rename_i h
    have : liesB p r = false := by simp [liesB]; omega
    simp [lapI, this]
  · rename_i h
    rw [place_of (by omega) (by omega), lap_of (by omega) (by omega), Int.emod_def]
    rw [show p - (p - r * (p / r)) = (p / r) * r by rw [Int.mul_comm r]; omega, Int.mul_ediv_cancel _ (by omega)]
theorem ahead_ref {p q r : Int} : aheadB p q r = rAheadB p q r := by
  unfold rAheadB
  split
  · rename_i h
    by_cases h1 : 0 ≤ p
    · by_cases h2 : 0 ≤ q
      · simp [aheadB, liesB]; omega
      · simp [aheadB, liesB]; omega
    · simp [aheadB, liesB]; omega
  · rename_i h
    rw [ahead_of (by omega) (by omega) (by omega)]
    congr 1
    rw [Bool.eq_iff_iff]
    simp only [decide_eq_true_eq]
    rw [Int.sub_emod]
    constructor
    · intro h; rw [h]; simp
    · intro h'
      have a1 := Int.emod_nonneg p (show r ≠ 0 by omega)
      have a2 := Int.emod_lt_of_pos p (show 0 < r by omega)
      have b1 := Int.emod_nonneg q (show r ≠ 0 by omega)
      have b2 := Int.emod_lt_of_pos q (show 0 < r by omega)
      by_cases hc : p % r ≤ q % r
      · rw [Int.emod_eq_of_lt (by omega) (by omega)] at h'; omega
      · have : (q % r - p % r + r) % r = 0 := by rw [Int.add_emod_right]; exact h'
        rw [Int.emod_eq_of_lt (by omega) (by omega)] at this; omega

theorem place_bd {p r : Int} (h : 0 ≤ p) (h' : 1 ≤ r) : 0 ≤ placeI p r ∧ placeI p r < r := by
  rw [place_of h h']; exact ⟨Int.emod_nonneg _ (by omega), Int.emod_lt_of_pos _ (by omega)⟩
theorem lap_bd {p r : Int} (h : 0 ≤ p) (h' : 1 ≤ r) : 0 ≤ lapI p r ∧ lapI p r ≤ p := by
  rw [lap_of h h']; exact ⟨Int.ediv_nonneg h (by omega), Int.ediv_le_self _ h⟩
theorem splits {p r : Int} (h : 0 ≤ p) (h' : 1 ≤ r) : p = lapI p r * r + placeI p r := by
  rw [place_of h h', lap_of h h', Int.mul_comm]; exact (Int.mul_ediv_add_emod p r).symm
/- A position's lap and place are the only ones that make it. -/
theorem splits_one {p r a b : Int} (h : 0 ≤ p) (h' : 1 ≤ r) (hb : 0 ≤ b) (hb' : b < r) (e : p = a * r + b) : lapI p r = a ∧ placeI p r = b := by
  have h1 : placeI p r = b := by
    rw [place_of h h', e, Int.add_comm, Int.add_mul_emod_self_right, Int.emod_eq_of_lt hb hb']
  refine ⟨?_, h1⟩
  rw [lap_of h h', e, Int.add_comm, Int.add_mul_ediv_right _ _ (by omega), Int.ediv_eq_zero_of_lt hb hb']
  omega
theorem next_same {p r : Int} (h : 0 ≤ p) (h' : 1 ≤ r) (hn : placeI p r + 1 < r) : lapI (p + 1) r = lapI p r ∧ placeI (p + 1) r = placeI p r + 1 := by
  have := splits h h'
  have := place_bd h h'
  exact splits_one (by omega) h' (by omega) hn (by omega)
theorem next_lap {p r : Int} (h : 0 ≤ p) (h' : 1 ≤ r) (hn : placeI p r + 1 = r) : lapI (p + 1) r = lapI p r + 1 ∧ placeI (p + 1) r = 0 := by
  have := splits h h'
  exact splits_one (by omega) h' (by omega) (by omega) (by rw [Int.add_mul]; omega)
theorem laps_later {p r k : Int} (h : 0 ≤ p) (h' : 1 ≤ r) (hk : 0 ≤ k) : lapI (p + k * r) r = lapI p r + k ∧ placeI (p + k * r) r = placeI p r := by
  have := splits h h'
  have := place_bd h h'
  have : 0 ≤ k * r := Int.mul_nonneg hk (by omega)
  exact splits_one (by omega) h' (by omega) (by omega) (by rw [Int.add_mul]; omega)
theorem ahead_is {p q r : Int} (hp : 0 ≤ p) (hq : 0 ≤ q) (hr : 1 ≤ r) : aheadB p q r = (decide (p < q) && decide (placeI p r = placeI q r)) := by
  simp [aheadB, lies_of, *]
/- Two positions less than a room apart lie at one place only if they are one. -/
theorem place_apart {p q r : Int} (hp : 0 ≤ p) (hq : 0 ≤ q) (hr : 1 ≤ r) (h1 : q < p + r) (h2 : p < q + r) : placeI p r = placeI q r ↔ p = q := by
  constructor
  · intro e
    have a := splits hp hr
    have b := splits hq hr
    have hc : (lapI p r - lapI q r) * r = p - q := by rw [Int.sub_mul]; omega
    by_cases h : lapI p r - lapI q r ≤ -1
    · have := Int.mul_le_mul_of_nonneg_right h (show 0 ≤ r by omega); omega
    · by_cases h : 1 ≤ lapI p r - lapI q r
      · have := Int.mul_le_mul_of_nonneg_right h (show 0 ≤ r by omega); omega
      · have : lapI p r - lapI q r = 0 := by omega
        rw [this] at hc; omega
  · intro e; rw [e]
theorem check_len {h t m r : Int} (c : checkB h t m r = true) : 0 ≤ h ∧ h ≤ t ∧ t ≤ 1099511627776 ∧ 0 ≤ m ∧ m ≤ 2 ∧ lenI h t = t - h ∧ t - h ≤ r := by
  simp [checkB] at c
  have : lenI h t = t - h := by unfold lenI; split <;> omega
  omega
end Go.Proofs.Ytbbfdaehaiimiaa

/- Contracts of layer 1's functions and of the document's: what each call returns, as the plain functions say; what was there is kept. -/
namespace Go.Proofs.Ytbbfdaehaiimiaa
set_option linter.unusedVariables false
set_option linter.unusedSimpArgs false
open Go.ChangeShapes Go.WideShapes Go.ChangeAt Go.RowKit

theorem lies_any (p r : Int) (hp : In64 p) (hr : In64 r) (w : World) :
    Calls Try.prog 67 #[.int .i64 p, .int .i64 r] w fun e w' => e = .returned (.bool (liesB p r)) ∧ Kept w w' := by
  go_enter Try.func67, Try.ntmps67
  go_wp2
  all_goals (go_ret; exact ⟨ret_bool (by first | (rw [Bool.eq_iff_iff]; simp [liesB]; omega) | (simp [liesB, *]; done) | (simp [liesB, *]; omega) | (simp [liesB, *]; intros; omega)), by repeat' (first | (with_reducible exact Below.refl _ _) | (with_reducible assumption) | (with_reducible refine kept_alloc ?_ _) | (with_reducible refine kept_drewN ?_ _) | (with_reducible refine Below.drew ?_) | (with_reducible refine Below.setCell ?_ (by first | omega | (simp; omega) | (simp; done)) _) | (refine kept_trans ?_ (by with_reducible assumption)))⟩)

theorem place_any (p r : Int) (hp : In64 p) (hr : In64 r) (w : World) :
    Calls Try.prog 48 #[.int .i64 p, .int .i64 r] w fun e w' => e = .returned (.int .i64 (placeI p r)) ∧ Kept w w' := by
  cases hl : liesB p r <;> (have hl' := hl; simp [liesB] at hl')
  all_goals
    go_enter Try.func48, Try.ntmps48
    go_wp2_with (go_at_call 67; refine (lies_any _ _ (by omega) (by omega) _).mono ?_; rintro e wx ⟨rfl, hgx⟩)
    all_goals (go_ret; exact ⟨ret_int (by first | (simp [placeI, *]; done) | (simp [placeI, *]; omega) | (simp [placeI, *]; intros; omega)), by repeat' (first | (with_reducible exact Below.refl _ _) | (with_reducible assumption) | (with_reducible refine kept_alloc ?_ _) | (with_reducible refine kept_drewN ?_ _) | (with_reducible refine Below.drew ?_) | (with_reducible refine Below.setCell ?_ (by first | omega | (simp; omega) | (simp; done)) _) | (refine kept_trans ?_ (by with_reducible assumption)))⟩)

theorem empty_any (h t m : Int) (w : World) :
    Calls Try.prog 47 #[.agg #[.int .i64 h, .int .i64 t, .int .i64 m]] w fun e w' => e = .returned (.bool (emptyB h t)) ∧ Kept w w' := by
  go_enter Try.func47, Try.ntmps47
  go_wp2
  all_goals (go_ret; exact ⟨ret_bool (by first | (rw [Bool.eq_iff_iff]; simp [emptyB]; omega) | (simp [emptyB, *]; done) | (simp [emptyB, *]; omega) | (simp [emptyB, *]; intros; omega)), by repeat' (first | (with_reducible exact Below.refl _ _) | (with_reducible assumption) | (with_reducible refine kept_alloc ?_ _) | (with_reducible refine kept_drewN ?_ _) | (with_reducible refine Below.drew ?_) | (with_reducible refine Below.setCell ?_ (by first | omega | (simp; omega) | (simp; done)) _) | (refine kept_trans ?_ (by with_reducible assumption)))⟩)

theorem len_any (h t m : Int) (hh : In64 h) (ht : In64 t) (w : World) :
    Calls Try.prog 22 #[.agg #[.int .i64 h, .int .i64 t, .int .i64 m]] w fun e w' => e = .returned (.int .i64 (lenI h t)) ∧ Kept w w' := by
  cases he : emptyB h t
  · have he' : h ≠ t := by simpa [emptyB] using he
    by_cases hlt : t < h
    · go_enter Try.func22, Try.ntmps22
      go_wp2_with (first | (go_at_call 47; refine (empty_any _ _ _ _).mono ?_; rintro e wx ⟨rfl, hgx⟩; obtain ⟨hcx, hfx⟩ := bcell hgx; have hz0 : w.heap.size < wx.heap.size := (by have := hgx.size; (try simp at this); omega)))
      all_goals (go_ret; exact ⟨ret_int (by first | (simp [lenI, *]; done) | (simp [lenI, *]; omega) | (simp [lenI, *]; intros; omega)), by repeat' (first | (with_reducible exact Below.refl _ _) | (with_reducible assumption) | (with_reducible refine kept_alloc ?_ _) | (with_reducible refine kept_drewN ?_ _) | (with_reducible refine Below.drew ?_) | (with_reducible refine Below.setCell ?_ (by first | omega | (simp; omega) | (simp; done)) _) | (refine kept_trans ?_ (by with_reducible assumption)))⟩)
    · by_cases hs : t - h ≤ 9223372036854775807
      · go_enter Try.func22, Try.ntmps22
        go_wp2_with (first | (go_at_call 47; refine (empty_any _ _ _ _).mono ?_; rintro e wx ⟨rfl, hgx⟩; obtain ⟨hcx, hfx⟩ := bcell hgx; have hz0 : w.heap.size < wx.heap.size := (by have := hgx.size; (try simp at this); omega)))
        go_ret
        exact ⟨ret_int (by rw [lenI, if_neg (by omega), if_pos hs]), by repeat' (first | (with_reducible exact Below.refl _ _) | (with_reducible assumption) | (with_reducible refine kept_alloc ?_ _) | (with_reducible refine kept_drewN ?_ _) | (with_reducible refine Below.drew ?_) | (with_reducible refine Below.setCell ?_ (by first | omega | (simp; omega) | (simp; done)) _) | (refine kept_trans ?_ (by with_reducible assumption)))⟩
      · have hw : ¬ 0 < wrap64 (t - h) := by unfold wrap64; omega
        go_enter Try.func22, Try.ntmps22
        go_wp2_with (first | (go_at_call 47; refine (empty_any _ _ _ _).mono ?_; rintro e wx ⟨rfl, hgx⟩; obtain ⟨hcx, hfx⟩ := bcell hgx; have hz0 : w.heap.size < wx.heap.size := (by have := hgx.size; (try simp at this); omega)))
        go_ret
        exact ⟨ret_int (by rw [lenI, if_neg (by omega), if_neg (by omega)]), by repeat' (first | (with_reducible exact Below.refl _ _) | (with_reducible assumption) | (with_reducible refine kept_alloc ?_ _) | (with_reducible refine kept_drewN ?_ _) | (with_reducible refine Below.drew ?_) | (with_reducible refine Below.setCell ?_ (by first | omega | (simp; omega) | (simp; done)) _) | (refine kept_trans ?_ (by with_reducible assumption)))⟩
  · go_enter Try.func22, Try.ntmps22
    go_wp2_with (first | (go_at_call 47; refine (empty_any _ _ _ _).mono ?_; rintro e wx ⟨rfl, hgx⟩; obtain ⟨hcx, hfx⟩ := bcell hgx; have hz0 : w.heap.size < wx.heap.size := (by have := hgx.size; (try simp at this); omega)))
    go_ret
    exact ⟨ret_int (by rw [lenI, if_pos (by have := empty_t he; omega)]), by repeat' (first | (with_reducible exact Below.refl _ _) | (with_reducible assumption) | (with_reducible refine kept_alloc ?_ _) | (with_reducible refine kept_drewN ?_ _) | (with_reducible refine Below.drew ?_) | (with_reducible refine Below.setCell ?_ (by first | omega | (simp; omega) | (simp; done)) _) | (refine kept_trans ?_ (by with_reducible assumption)))⟩

theorem check_any (h t m r : Int) (hh : In64 h) (ht : In64 t) (hm : In64 m) (hr : In64 r) (w : World) :
    Calls Try.prog 39 #[.agg #[.int .i64 h, .int .i64 t, .int .i64 m], .int .i64 r] w fun e w' => e = .returned (.bool (checkB h t m r)) ∧ Kept w w' := by
  go_enter Try.func39, Try.ntmps39
  go_wp2_with (first | (go_at_call 22; refine (len_any _ _ _ (by omega) (by omega) _).mono ?_; rintro e wx ⟨rfl, hgx⟩; obtain ⟨hcx, hfx⟩ := bcell hgx; have hz0 : w.heap.size < wx.heap.size := (by have := hgx.size; (try simp at this); omega)) | go_in)
  all_goals (go_ret; exact ⟨ret_bool (by first | (rw [Bool.eq_iff_iff]; simp [checkB]; omega) | (simp [checkB, *]; done) | (simp [checkB, *]; omega) | (simp [checkB, *]; intros; omega)), by repeat' (first | (with_reducible exact Below.refl _ _) | (with_reducible assumption) | (with_reducible refine kept_alloc ?_ _) | (with_reducible refine kept_drewN ?_ _) | (with_reducible refine Below.drew ?_) | (with_reducible refine Below.setCell ?_ (by first | omega | (simp; omega) | (simp; done)) _) | (refine kept_trans ?_ (by with_reducible assumption)))⟩)

/- The document's. -/
end Go.Proofs.Ytbbfdaehaiimiaa

/- Layer 9, plain: the places of a ring. -/
namespace Go.Proofs.Ytbbfdaehaiimiaa
set_option linter.unusedVariables false
set_option linter.unusedSimpArgs false

/-- A slot: its stamp, its value. -/
structure Slo where
  st : Int
  vl : Int
def Slo.cells (s : Slo) : List Value := [.int .i64 s.st, .int .i64 s.vl]
theorem Slo.enc : Enc 2 Slo.cells := ⟨fun _ => rfl, fun x c hc => by simp [Slo.cells] at hc; rcases hc with rfl | rfl <;> rfl⟩
instance sloEq : DecidableEq Slo := fun a b => decidable_of_iff (a.st = b.st ∧ a.vl = b.vl) (by cases a; cases b; simp)
def gs (l : List Slo) (i : Nat) : Slo := l.getD i ⟨0, 0⟩
theorem gs_some {l : List Slo} {i : Nat} (h : i < l.length) : l[i]? = some (gs l i) := by simp [gs, h]
theorem gs_eq {l : List Slo} {i : Nat} (h : i < l.length) : gs l i = l[i] := by simp [gs, h]
theorem gs_set {l : List Slo} {i j : Nat} {s : Slo} (h : i < l.length) : gs (l.set i s) j = if i = j then s else gs l j := by
  simp only [gs, List.getD_eq_getElem?_getD, List.getElem?_set]
  by_cases e : i = j
  · subst e; simp [h]
  · simp [e]
theorem gs_take {l : List Slo} {j : Nat} (h : j < l.length) : l.take (j + 1) = l.take j ++ [gs l j] := by
  rw [List.take_succ_eq_append_getElem h, gs_eq h]

def ringB (r : Int) : Bool := decide (1 ≤ r) && decide (r ≤ 64)
def newL (r : Int) : List Slo := if ringB r = true then (List.range r.toNat).map fun (i : Nat) => (⟨(i : Int), 0⟩ : Slo) else []
/-- Whether a slot may lie at place i of n. -/
def slotB (n i : Nat) (s : Slo) : Bool := decide (0 ≤ s.st) && decide (s.st ≤ 2199023255552) && placeI s.st n == i
def okSl (l : List Slo) : Bool := ringB l.length && (List.range l.length).all fun i => slotB l.length i (gs l i)
def liesS (l : List Slo) (p : Int) : Bool := decide (0 ≤ p) && okSl l
def plc (l : List Slo) (p : Int) : Nat := (placeI p l.length).toNat
def rdyB (l : List Slo) (p : Int) : Bool := liesS l p && (gs l (plc l p)).st == p
def wrE (l : List Slo) (p : Int) : Int := if liesS l p = false then 40 else if rdyB l p = false then 30 else 0
def wrL (l : List Slo) (p v : Int) : List Slo := if rdyB l p = true then l.set (plc l p) ⟨p, v⟩ else l
def rdE (l : List Slo) (p : Int) : Int := if rdyB l p = true then 0 else 40
def rdV (l : List Slo) (p : Int) : Int := if rdyB l p = true then (gs l (plc l p)).vl else 0
def rlB (l : List Slo) (p : Int) : Bool := rdyB l p && decide (p ≤ 1099511627776)
def rlE (l : List Slo) (p : Int) : Int := if rlB l p = true then 0 else 40
def rlL (l : List Slo) (p : Int) : List Slo := if rlB l p = true then l.set (plc l p) ⟨p + l.length, (gs l (plc l p)).vl⟩ else l

theorem ring_iff {r : Int} : ringB r = true ↔ 1 ≤ r ∧ r ≤ 64 := by simp [ringB]
theorem slot_iff {n i : Nat} {s : Slo} : slotB n i s = true ↔ 0 ≤ s.st ∧ s.st ≤ 2199023255552 ∧ placeI s.st n = i := by simp [slotB, and_assoc]
theorem ok_iff {l : List Slo} : okSl l = true ↔ (1 ≤ l.length ∧ l.length ≤ 64) ∧ ∀ i, i < l.length → slotB l.length i (gs l i) = true := by
  unfold okSl
  rw [Bool.and_eq_true, ring_iff, List.all_eq_true]
  simp only [List.mem_range]
  constructor
  · rintro ⟨h1, h2⟩; exact ⟨by omega, h2⟩
  · rintro ⟨h1, h2⟩; exact ⟨by omega, h2⟩
theorem lies_iff {l : List Slo} {p : Int} : liesS l p = true ↔ 0 ≤ p ∧ okSl l = true := by simp [liesS]
theorem plc_lt {l : List Slo} {p : Int} (h : liesS l p = true) : plc l p < l.length ∧ placeI p l.length = (plc l p : Int) := by
  obtain ⟨h1, h2⟩ := lies_iff.1 h
  have := (ok_iff.1 h2).1
  have := place_bd h1 (show (1 : Int) ≤ (l.length : Int) by omega)
  unfold plc
  omega
theorem rdy_lies {l : List Slo} {p : Int} (h : rdyB l p = true) : liesS l p = true ∧ (gs l (plc l p)).st = p := by
  simpa [rdyB] using h
theorem rdy_iff {l : List Slo} {p : Int} : rdyB l p = true ↔ liesS l p = true ∧ (gs l (plc l p)).st = p := by simp [rdyB]

/-! ### What stamps alone tell -/
abbrev sts (l : List Slo) : List Int := l.map Slo.st
theorem sts_len {l m : List Slo} (h : sts l = sts m) : l.length = m.length := by simpa using congrArg List.length h
theorem sts_gs {l m : List Slo} (h : sts l = sts m) (i : Nat) : (gs l i).st = (gs m i).st := by
  have hl := sts_len h
  by_cases hi : i < l.length
  · rw [gs_eq hi, gs_eq (by omega)]
    have h1 := congrArg (·[i]?) h
    simp only [sts, List.getElem?_map, List.getElem?_eq_getElem hi, List.getElem?_eq_getElem (show i < m.length by omega), Option.map_some, Option.some.injEq] at h1
    exact h1
  · simp [gs, List.getElem?_eq_none (show l.length ≤ i by omega), List.getElem?_eq_none (show m.length ≤ i by omega)]
theorem ok_sts {l m : List Slo} (h : sts l = sts m) : okSl l = okSl m := by
  rw [Bool.eq_iff_iff, ok_iff, ok_iff, sts_len h]
  refine and_congr_right fun _ => forall₂_congr fun i _ => ?_
  rw [slot_iff, slot_iff, sts_gs h]
theorem plc_sts {l m : List Slo} (h : sts l = sts m) (p : Int) : plc l p = plc m p := by unfold plc; rw [sts_len h]
theorem lies_sts {l m : List Slo} (h : sts l = sts m) (p : Int) : liesS l p = liesS m p := by unfold liesS; rw [ok_sts h]
theorem rdy_sts {l m : List Slo} (h : sts l = sts m) (p : Int) : rdyB l p = rdyB m p := by unfold rdyB; rw [lies_sts h, plc_sts h, sts_gs h]
theorem wrE_sts {l m : List Slo} (h : sts l = sts m) (p : Int) : wrE l p = wrE m p := by unfold wrE; rw [lies_sts h, rdy_sts h]
theorem rdE_sts {l m : List Slo} (h : sts l = sts m) (p : Int) : rdE l p = rdE m p := by unfold rdE; rw [rdy_sts h]
theorem wr_sts (l : List Slo) (p v : Int) : sts (wrL l p v) = sts l := by
  unfold wrL
  split
  · rename_i h
    obtain ⟨h1, h2⟩ := rdy_lies h
    have h3 := (plc_lt h1).1
    apply List.ext_getElem?
    intro j
    simp only [sts, List.getElem?_map, List.getElem?_set]
    by_cases e : plc l p = j
    · subst e
      rw [if_pos rfl, if_pos h3, List.getElem?_eq_getElem h3, ← gs_eq h3]
      simp [h2]
    · rw [if_neg e]
  · rfl
theorem wr_len (l : List Slo) (p v : Int) : (wrL l p v).length = l.length := sts_len (wr_sts l p v)
theorem rl_len (l : List Slo) (p : Int) : (rlL l p).length = l.length := by unfold rlL; split <;> simp

/-! ### What the statements ask -/
theorem wr_or (l : List Slo) (p v : Int) : (wrE l p = 0 ∧ rdyB l p = true ∧ liesS l p = true) ∨ (wrE l p = 30 ∧ wrL l p v = l ∧ liesS l p = true) ∨ (wrE l p = 40 ∧ wrL l p v = l ∧ liesS l p = false) := by
  unfold wrE wrL
  cases h : liesS l p
  · have : rdyB l p = false := by simp [rdyB, h]
    simp [this]
  · cases h2 : rdyB l p <;> simp
theorem wr_read {l : List Slo} {p v : Int} (h : rdyB l p = true) : rdV (wrL l p v) p = v ∧ rdE (wrL l p v) p = 0 := by
  have hs := wr_sts l p v
  unfold rdV rdE
  rw [rdy_sts hs, h, plc_sts hs]
  simp only [if_true, and_true]
  obtain ⟨h1, _⟩ := rdy_lies h
  unfold wrL
  rw [if_pos h, gs_set (plc_lt h1).1, if_pos rfl]
theorem plc_apart {l : List Slo} {p q : Int} (h : rdyB l p = true) (k : rdyB l q = true) (hne : p ≠ q) : plc l p ≠ plc l q := by
  intro e
  have h1 := (rdy_lies h).2
  have h2 := (rdy_lies k).2
  rw [e, h2] at h1
  exact hne h1.symm
theorem wr_other {l : List Slo} {p q v : Int} (h : rdyB l p = true) (hne : q ≠ p) : rdV (wrL l p v) q = rdV l q := by
  have hs := wr_sts l p v
  unfold rdV
  rw [rdy_sts hs, plc_sts hs]
  split
  · rename_i k
    unfold wrL
    rw [if_pos h, gs_set (plc_lt (rdy_lies h).1).1, if_neg (plc_apart h k (Ne.symm hne))]
  · rfl
theorem wr_comm (l : List Slo) {p q : Int} (a b : Int) (hne : p ≠ q) : wrL (wrL l p a) q b = wrL (wrL l q b) p a := by
  have h1 := wr_sts l p a
  have h2 := wr_sts l q b
  have e1 : wrL (wrL l p a) q b = if rdyB l q = true then (wrL l p a).set (plc l q) ⟨q, b⟩ else wrL l p a := by
    conv => lhs; unfold wrL
    rw [rdy_sts (show sts (if rdyB l p = true then l.set (plc l p) ⟨p, a⟩ else l) = sts l from h1), plc_sts (show sts (if rdyB l p = true then l.set (plc l p) ⟨p, a⟩ else l) = sts l from h1)]
    rfl
  have e2 : wrL (wrL l q b) p a = if rdyB l p = true then (wrL l q b).set (plc l p) ⟨p, a⟩ else wrL l q b := by
    conv => lhs; unfold wrL
    rw [rdy_sts (show sts (if rdyB l q = true then l.set (plc l q) ⟨q, b⟩ else l) = sts l from h2), plc_sts (show sts (if rdyB l q = true then l.set (plc l q) ⟨q, b⟩ else l) = sts l from h2)]
    rfl
  rw [e1, e2]
  unfold wrL
  cases hp : rdyB l p <;> cases hq : rdyB l q <;> simp
  exact List.set_comm _ _ (plc_apart hp hq hne)
/-- A lap later a position lies at the same place. -/
theorem place_lap {p n : Int} (h : 0 ≤ p) (hn : 1 ≤ n) : placeI (p + n) n = placeI p n := by
  have := (laps_later h hn (show (0 : Int) ≤ 1 by omega)).2
  rwa [Int.one_mul] at this
/-- Who is released. -/
theorem rl_laid {a : List Slo} {p : Int} (h : rdyB a p = true) (hp : p ≤ 1099511627776) :
    okSl (rlL a p) = true ∧ rlE a p = 0 ∧ rdyB (rlL a p) p = false ∧ rdyB (rlL a p) (p + a.length) = true ∧ rlL a p = a.set (plc a p) ⟨p + a.length, (gs a (plc a p)).vl⟩ := by
  obtain ⟨h1, h2⟩ := rdy_lies h
  obtain ⟨h3, h4⟩ := plc_lt h1
  obtain ⟨h5, h6⟩ := lies_iff.1 h1
  obtain ⟨h7, h8⟩ := ok_iff.1 h6
  have hB : rlB a p = true := by simp [rlB, h, hp]
  have hL : rlL a p = a.set (plc a p) ⟨p + a.length, (gs a (plc a p)).vl⟩ := by unfold rlL; rw [if_pos hB]
  have hlap : placeI (p + a.length) a.length = (plc a p : Int) := by rw [place_lap h5 (by omega)]; exact h4
  have hok : okSl (rlL a p) = true := by
    rw [ok_iff, rl_len]
    refine ⟨h7, fun i hi => ?_⟩
    rw [hL, gs_set h3]
    split
    · rename_i e
      subst e
      exact slot_iff.2 ⟨by simp only; omega, by simp only; omega, hlap⟩
    · exact h8 i hi
  have hg : ∀ q : Int, placeI q a.length = (plc a p : Int) → gs (rlL a p) (plc (rlL a p) q) = ⟨p + a.length, (gs a (plc a p)).vl⟩ := by
    intro q hq
    have : plc (rlL a p) q = plc a p := by unfold plc at *; rw [rl_len, hq]; omega
    rw [this, hL, gs_set h3, if_pos rfl]
  refine ⟨hok, by simp [rlE, hB], ?_, ?_, hL⟩
  · unfold rdyB
    rw [hg p h4]
    simp; intro _; omega
  · rw [rdy_iff, hg _ hlap]
    exact ⟨lies_iff.2 ⟨by omega, hok⟩, rfl⟩
theorem rl_far {a : List Slo} {p : Int} (hp : 1099511627776 < p) : rlE a p = 40 := by
  have : rlB a p = false := by simp [rlB]; intro _; omega
  simp [rlE, this]
/-- Each slot's own position has its turn. -/
theorem own_turn {l : List Slo} (h : okSl l = true) {i : Nat} (hi : i < l.length) : 0 ≤ (gs l i).st ∧ (gs l i).st ≤ 2199023255552 ∧ rdyB l (gs l i).st = true := by
  obtain ⟨h1, h2, h3⟩ := slot_iff.1 ((ok_iff.1 h).2 i hi)
  refine ⟨h1, h2, rdy_iff.2 ⟨lies_iff.2 ⟨h1, h⟩, ?_⟩⟩
  have : plc l (gs l i).st = i := by unfold plc; rw [h3]; omega
  rw [this]
/-- How many of the first j positions, a lap apart, lie at the stamp. -/
def tn (s p n : Int) : Nat → Int
  | 0 => 0
  | j + 1 => tn s p n j + if s = p + j * n then 1 else 0
theorem tn_or {s p n : Int} (hn : 1 ≤ n) : ∀ j : Nat, tn s p n j = 0 ∨ tn s p n j = 1 ∧ s < p + j * n
  | 0 => .inl rfl
  | j + 1 => by
    have ih := tn_or (s := s) (p := p) hn j
    have e : ((j + 1 : Nat) : Int) * n = j * n + n := by rw [Int.natCast_add, Int.add_mul]; omega
    unfold tn
    rw [e]
    by_cases h : s = p + j * n
    · rw [if_pos h]; rcases ih with ih | ⟨_, ih⟩
      · right; omega
      · omega
    · rw [if_neg h]; rcases ih with ih | ih
      · left; omega
      · right; omega
theorem turn_at {l : List Slo} (h : okSl l = true) {p : Int} (hp : 0 ≤ p) (j : Nat) : rdyB l (p + j * l.length) = decide ((gs l (plc l p)).st = p + j * l.length) := by
  have h1 := (ok_iff.1 h).1
  have hj : 0 ≤ (j : Int) * l.length := Int.mul_nonneg (by omega) (by omega)
  have h2 := (laps_later hp (show (1 : Int) ≤ (l.length : Int) by omega) (show (0 : Int) ≤ (j : Int) by omega)).2
  have h3 : plc l (p + j * l.length) = plc l p := by unfold plc; rw [h2]
  have h4 : liesS l (p + j * l.length) = true := lies_iff.2 ⟨by omega, h⟩
  unfold rdyB
  rw [h3, h4]
  rw [Bool.eq_iff_iff]; simp

/-! ### Lap by lap -/
/-- At p it is each position's turn, up to a lap. -/
structure Lap (k : Nat) (p : Nat) (l : List Slo) : Prop where
  len : l.length = k
  ok : okSl l = true
  its : ∀ q : Nat, p ≤ q → q < p + k → rdyB l q = true
theorem new_len {k : Nat} (h : 1 ≤ k ∧ k ≤ 64) : (newL k).length = k := by
  unfold newL; rw [if_pos (ring_iff.2 (by omega))]; simp
theorem new_gs {k : Nat} (h : 1 ≤ k ∧ k ≤ 64) {i : Nat} (hi : i < k) : gs (newL k) i = ⟨i, 0⟩ := by
  unfold newL; rw [if_pos (ring_iff.2 (by omega))]; simp [gs, hi]
theorem place_small {i k : Nat} (hi : i < k) : placeI i k = i := by
  rw [place_of (by omega) (by omega)]
  exact Int.emod_eq_of_lt (by omega) (by omega)
theorem new_ok {k : Nat} (h : 1 ≤ k ∧ k ≤ 64) : okSl (newL k) = true := by
  rw [ok_iff, new_len h]
  refine ⟨h, fun i hi => ?_⟩
  rw [new_gs h hi]
  exact slot_iff.2 ⟨by simp only; omega, by simp only; omega, place_small hi⟩
theorem lap_new {k : Nat} (h : 1 ≤ k ∧ k ≤ 64) : Lap k 0 (newL k) := by
  refine ⟨new_len h, new_ok h, fun q _ hq => rdy_iff.2 ⟨lies_iff.2 ⟨by omega, new_ok h⟩, ?_⟩⟩
  have : plc (newL k) q = q := by unfold plc; rw [new_len h, place_small (by omega)]; omega
  rw [this, new_gs h (by omega)]
theorem lap_step {k p : Nat} {l : List Slo} (h : Lap k p l) (hp : p ≤ 300) : let a := wrL l p (3 * (p : Int)); wrE l p = 0 ∧ wrE a ((p : Int) + k) = 30 ∧ rdV a p = 3 * (p : Int) ∧ rdE a p = 0 ∧ rlE a p = 0 ∧ okSl (rlL a p) = true ∧ Lap k (p + 1) (rlL a p) := by
  intro a
  have hk := (ok_iff.1 h.ok).1
  rw [h.len] at hk
  have hr := h.its p (Nat.le_refl _) (by omega)
  have hs : sts a = sts l := wr_sts l _ _
  have hl : a.length = k := (sts_len hs).trans h.len
  have hra : rdyB a p = true := by rw [rdy_sts hs]; exact hr
  obtain ⟨h1, h2, h3, h4, h5⟩ := rl_laid hra (by omega)
  obtain ⟨h6, h7⟩ := rdy_lies hra
  have hoka := (lies_iff.1 h6).2
  have hw : wrE l p = 0 := by unfold wrE; rw [(rdy_lies hr).1, hr]; rfl
  have hf : wrE a ((p : Int) + k) = 30 := by
    have e1 : liesS a ((p : Int) + k) = true := lies_iff.2 ⟨by omega, hoka⟩
    have e2 : rdyB a ((p : Int) + k) = false := by
      have := turn_at hoka (p := (p : Int)) (by omega) 1
      rw [hl, h7] at this
      simp only [Int.natCast_one, Int.one_mul] at this
      rw [this, decide_eq_false_iff_not]; omega
    unfold wrE; rw [e1, e2]; rfl
  obtain ⟨h8, h9⟩ := wr_read (v := 3 * (p : Int)) hr
  refine ⟨hw, hf, h8, h9, h2, h1, ⟨(rl_len _ _).trans hl, h1, fun q hq hq' => ?_⟩⟩
  by_cases e : q = p + k
  · subst e
    rw [hl] at h4
    rw [Int.natCast_add]; exact h4
  · have hrq : rdyB a q = true := by rw [rdy_sts hs]; exact h.its q (by omega) (by omega)
    obtain ⟨g1, g2⟩ := rdy_lies hrq
    refine rdy_iff.2 ⟨lies_iff.2 ⟨by omega, h1⟩, ?_⟩
    have e1 : plc (rlL a p) q = plc a q := by unfold plc; rw [rl_len]
    rw [e1, h5, gs_set (plc_lt h6).1, if_neg (plc_apart hra hrq (by omega))]
    exact g2
end Go.Proofs.Ytbbfdaehaiimiaa

/- A slot as an argument, opened. -/
namespace Go.Proofs.Ytbbfdaehaiimiaa
set_option linter.unusedVariables false
set_option linter.unusedSimpArgs false
open Go.ChangeShapes Go.WideShapes Go.ChangeAt Go.RowKit
def Slo.shape : List (Ck 0) := [.int .i64, .int .i64]
abbrev Slo.size : Nat := 2
def Slo.ok (d : Slo) : Prop := In64 d.st ∧ In64 d.vl
def Slo.zero : List Value := [.int .i64 0, .int .i64 0]
theorem Slo.of_read {W : World} {vs : List Value} (h : ReadL W Slo.shape vs) : ∃ d : Slo, vs = d.cells ∧ d.ok := by
  simp only [Slo.shape, read_nil, read_cons, read_int, read_bool, read_str] at h
  obtain ⟨_, _, rfl, ⟨a, rfl, h0⟩, _, _, rfl, ⟨b, rfl, h1⟩, rfl⟩ := h
  exact ⟨⟨a, b⟩, rfl, in64_of_wf h0, in64_of_wf h1⟩
end Go.Proofs.Ytbbfdaehaiimiaa

/- Plain functions of layer 3 (the queue that a fabric is told by), and of the document's. -/
namespace Go.Proofs.Ytbbfdaehaiimiaa
set_option linter.unusedVariables false
set_option linter.unusedSimpArgs false

/-- A queue. -/
structure Qu where
  vals : List Int
  cap : Int
  pol : Int
  mode : Int
/-- An entry. -/
structure En where
  th : Int
  ki : Int
  va : Int
  re : Int
  go : Int
def En.cells (e : En) : List Value := [.int .i64 e.th, .int .i64 e.ki, .int .i64 e.va, .int .i64 e.re, .int .i64 e.go]
def sendsB (k : Int) : Bool := decide (1 ≤ k) && decide (k ≤ 3)
def recvsB (k : Int) : Bool := decide (4 ≤ k) && decide (k ≤ 6)
def Qu.full (q : Qu) : Bool := decide (q.cap ≤ q.vals.length)
def Qu.with (q : Qu) (l : List Int) : Qu := ⟨l, q.cap, q.pol, q.mode⟩
def Qu.gone (q : Qu) (n : Int) : Qu × Bool :=
  match q.vals with
  | [] => (q, false)
  | v :: r => if v = n then (q.with r, true) else (q, false)
def Qu.send (q : Qu) (e : En) : Qu × Bool :=
  if e.re = 1 then (if decide (q.mode ≠ 0) || q.full then (q, false) else (q.with (q.vals ++ [e.va]), true))
  else if e.re = 2 then (q, decide (q.mode = 0) && q.full && decide (q.pol = 0) && decide (e.ki = 2))
  else if e.re = 3 then (q, decide (q.mode = 0) && q.full && decide (q.pol = 1))
  else if e.re = 5 then (q, decide (e.ki = 3))
  else if e.re = 6 then (q, decide (q.mode = 1))
  else if e.re = 7 then (q, decide (q.mode = 2))
  else (q, false)
/-- What a call that hands back a queue and whether it may be leaves: its values lie where those of the one that came in lay, or in memory of the call's own. -/
def RetQ (w : World) (l : List Int) (p0 : Option Addr) (r : Qu × Bool) (e : Ending) (w' : World) : Prop :=
  ∃ (p : Option Addr) (k : Nat), e = .returned (.tuple #[.agg #[.slice p r.1.vals.length k, .int .i64 r.1.cap, .int .i64 r.1.pol, .int .i64 r.1.mode], .bool r.2]) ∧ Sl w' 1 intC r.1.vals (.slice p r.1.vals.length k) ∧ Kept w w' ∧
    (r.1.vals ≠ [] → ∀ x, p = some x → (l ≠ [] ∧ ∃ y, p0 = some y ∧ x.block = y.block) ∨ w.heap.size ≤ x.block)
def Qu.recv (q : Qu) (e : En) : Qu × Bool :=
  if e.re = 1 then (if q.mode = 2 then (q, false) else q.gone e.go)
  else if e.re = 4 then (q, decide (q.mode = 0) && decide (q.vals.length = 0) && decide (e.ki = 5))
  else if e.re = 5 then (q, decide (e.ki = 6))
  else if e.re = 6 then (q, decide (q.mode = 1) && decide (q.vals.length = 0))
  else if e.re = 7 then (q, decide (q.mode = 2))
  else (q, false)
def drainI (m : Int) : Int := if m = 0 then 1 else m
def Qu.tell (q : Qu) (e : En) : Qu × Bool :=
  if sendsB e.ki then q.send e
  else if recvsB e.ki then q.recv e
  else if e.re ≠ 1 then (q, false)
  else if e.ki = 7 then (⟨q.vals, q.cap, q.pol, drainI q.mode⟩, true)
  else if e.ki = 8 then (⟨q.vals, q.cap, q.pol, 2⟩, true)
  else if e.ki = 9 then (if q.mode ≠ 0 ∨ q.pol ≠ 2 ∨ (q.vals.length : Int) < q.cap then (q, false) else q.gone e.go)
  else (q, false)
def Qu.all (q : Qu) : List En → Qu × Nat
  | [] => (q, 0)
  | e :: l => if (q.tell e).2 then (((q.tell e).1.all l).1, ((q.tell e).1.all l).2 + 1) else (q, 0)
def sameB (a b : Qu) : Bool := decide (a.vals = b.vals) && decide (a.cap = b.cap) && decide (a.pol = b.pol) && decide (a.mode = b.mode)
end Go.Proofs.Ytbbfdaehaiimiaa

/- Layer 3: arguments of the statements, opened. -/
namespace Go.Proofs.Ytbbfdaehaiimiaa
set_option linter.unusedVariables false
set_option linter.unusedSimpArgs false
open Go.ChangeShapes Go.WideShapes Go.ChangeAt Go.RowKit

def En.shape : List (Ck 0) := [.int .i64, .int .i64, .int .i64, .int .i64, .int .i64]
abbrev En.size : Nat := 5
def En.ok (_ : En) : Prop := True
def En.zero : List Value := [.int .i64 0, .int .i64 0, .int .i64 0, .int .i64 0, .int .i64 0]
theorem En.of_read {W : World} {vs : List Value} (h : ReadL W En.shape vs) : ∃ e : En, vs = e.cells ∧ e.ok := by
  simp only [En.shape, read_nil, read_cons, read_int, read_bool, read_str] at h
  obtain ⟨_, _, rfl, ⟨th, rfl, h0⟩, _, _, rfl, ⟨ki, rfl, h1⟩, _, _, rfl, ⟨va, rfl, h2⟩, _, _, rfl, ⟨re, rfl, h3⟩, _, _, rfl, ⟨go, rfl, h4⟩, rfl⟩ := h
  exact ⟨⟨th, ki, va, re, go⟩, rfl, trivial⟩
theorem En.enc : Enc 5 En.cells := ⟨fun _ => rfl, fun x c hc => by simp [En.cells] at hc; rcases hc with rfl | rfl | rfl | rfl | rfl <;> rfl⟩

def Qu.shape : List (Ck 1) := [.row [.int .i64], .int .i64, .int .i64, .int .i64]
def Qu.ok (q : Qu) : Prop := In64 q.cap ∧ In64 q.pol ∧ In64 q.mode
theorem Qu.of_read {W : World} {vs : List Value} (h : ReadL W Qu.shape vs) : ∃ (q : Qu) (p : Option Addr) (k : Nat), vs = [.slice p q.vals.length k, .int .i64 q.cap, .int .i64 q.pol, .int .i64 q.mode] ∧ Sl W 1 intC q.vals (.slice p q.vals.length k) ∧ q.ok ∧ q.vals.length ≤ maxLen := by
  simp only [Qu.shape, read_cons, read_nil, read_int] at h
  obtain ⟨v, _, rfl, hv, _, _, rfl, ⟨c, rfl, h1⟩, _, _, rfl, ⟨po, rfl, h2⟩, _, _, rfl, ⟨m, rfl, h3⟩, rfl⟩ := h
  obtain ⟨xs, hs, _, hl⟩ := Sl.of_read (α := Int) intC (fun _ => True) (by decide) hv (fun vs h => by
    simp only [read_cons, read_nil, read_int] at h
    obtain ⟨_, _, rfl, ⟨x, rfl, _⟩, rfl⟩ := h
    exact ⟨x, rfl, trivial⟩)
  obtain ⟨p, k, rfl, _⟩ := hs.is
  exact ⟨⟨xs, c, po, m⟩, p, k, rfl, hs, ⟨in64_of_wf h1, in64_of_wf h2, in64_of_wf h3⟩, hl⟩
end Go.Proofs.Ytbbfdaehaiimiaa

/- A thread (api.Thread), by value: its cells, and how one is read off an argument; when two are one. -/
namespace Go.Proofs.Ytbbfdaehaiimiaa
set_option linter.unusedVariables false
set_option linter.unusedSimpArgs false
open Go.ChangeShapes Go.WideShapes Go.ChangeAt Go.RowKit

/-- A thread. -/
@[ext] structure Th where
  st : Int
  ki : Int
  va : Int
  un : Int
  pc : Int
  re : Int
  se : Int
  tr : Int
  la : Bool
  rs : Int
  go : Int
def Th.cells (c : Th) : List Value := [.int .i64 c.st, .int .i64 c.ki, .int .i64 c.va, .int .i64 c.un, .int .i64 c.pc, .int .i64 c.re, .int .i64 c.se, .int .i64 c.tr, .bool c.la, .int .i64 c.rs, .int .i64 c.go]

def Th.shape : List (Ck 0) := [.int .i64, .int .i64, .int .i64, .int .i64, .int .i64, .int .i64, .int .i64, .int .i64, .bool, .int .i64, .int .i64]
abbrev Th.size : Nat := 11
def Th.ok (c : Th) : Prop := In64 c.st ∧ In64 c.ki ∧ In64 c.va ∧ In64 c.un ∧ In64 c.pc ∧ In64 c.re ∧ In64 c.se ∧ In64 c.tr ∧ In64 c.rs ∧ In64 c.go
def Th.zero : List Value := [.int .i64 0, .int .i64 0, .int .i64 0, .int .i64 0, .int .i64 0, .int .i64 0, .int .i64 0, .int .i64 0, .bool false, .int .i64 0, .int .i64 0]
theorem Th.of_read {W : World} {vs : List Value} (h : ReadL W Th.shape vs) : ∃ c : Th, vs = c.cells ∧ c.ok := by
  simp only [Th.shape, read_nil, read_cons, read_int, read_bool, read_str] at h
  obtain ⟨_, _, rfl, ⟨st, rfl, h0⟩, _, _, rfl, ⟨ki, rfl, h1⟩, _, _, rfl, ⟨va, rfl, h2⟩, _, _, rfl, ⟨un, rfl, h3⟩, _, _, rfl, ⟨pc, rfl, h4⟩, _, _, rfl, ⟨re, rfl, h5⟩, _, _, rfl, ⟨se, rfl, h6⟩, _, _, rfl, ⟨tr, rfl, h7⟩, _, _, rfl, ⟨la, rfl⟩, _, _, rfl, ⟨rs, rfl, h9⟩, _, _, rfl, ⟨go, rfl, h10⟩, rfl⟩ := h
  exact ⟨⟨st, ki, va, un, pc, re, se, tr, la, rs, go⟩, rfl, in64_of_wf h0, in64_of_wf h1, in64_of_wf h2, in64_of_wf h3, in64_of_wf h4, in64_of_wf h5, in64_of_wf h6, in64_of_wf h7, in64_of_wf h9, in64_of_wf h10⟩
theorem Th.enc : Enc 11 Th.cells := ⟨fun _ => rfl, fun x c hc => by simp [Th.cells] at hc; rcases hc with rfl | rfl | rfl | rfl | rfl | rfl | rfl | rfl | rfl | rfl | rfl <;> rfl⟩

theorem th_eq_iff {a b : Th} : a = b ↔ (a.st = b.st ∧ a.ki = b.ki ∧ a.va = b.va ∧ a.un = b.un ∧ a.pc = b.pc ∧ a.re = b.re ∧ a.se = b.se ∧ a.tr = b.tr ∧ a.la = b.la ∧ a.rs = b.rs ∧ a.go = b.go) := Th.ext_iff
instance thEq : DecidableEq Th := fun a b => decidable_of_iff _ th_eq_iff.symm
set_option maxHeartbeats 1000000 in
theorem th_equal (a b : Th) (w : World) : (Op.equal 50 (.agg #[.int .i64 a.st, .int .i64 a.ki, .int .i64 a.va, .int .i64 a.un, .int .i64 a.pc, .int .i64 a.re, .int .i64 a.se, .int .i64 a.tr, .bool a.la, .int .i64 a.rs, .int .i64 a.go]) (.agg #[.int .i64 b.st, .int .i64 b.ki, .int .i64 b.va, .int .i64 b.un, .int .i64 b.pc, .int .i64 b.re, .int .i64 b.se, .int .i64 b.tr, .bool b.la, .int .i64 b.rs, .int .i64 b.go])).run Try.prog w = .ok (decide (a = b)) w := by
  have hu := Try.underlying50
  have h3 := Try.underlying3
  have h4 := Try.underlying4
  have hp : Try.prog.stoodInHeld 50 = false := by kernel_rfl
  have hc : Try.prog.info? 3 = _ := rfl
  have hd : Try.prog.info? 4 = _ := rfl
  have e : decide (a = b) = (a.st == b.st && (a.ki == b.ki && (a.va == b.va && (a.un == b.un && (a.pc == b.pc && (a.re == b.re && (a.se == b.se && (a.tr == b.tr && (a.la == b.la && (a.rs == b.rs && a.go == b.go)))))))))) := by
    rw [Bool.eq_iff_iff]; simp only [decide_eq_true_eq, Bool.and_eq_true, beq_iff_eq]; exact th_eq_iff
  rw [e]
  unfold Op.equal Op.maxDepth
  rw [run_equalIn_struct w 9999 _ _ _ (by unfold Program.fieldsOf; rw [hu]) hp]
  unfold Program.fieldsOf
  rw [hu]
  cases c0 : (a.st == b.st)
  · simp [Op.eqFields, part, isAgg, run_underlying h3, run_underlying h4, run_equalIn_int _ _ _ _ _ _ _ h3, run_equalIn_bool _ _ _ _ _ h4, c0]
  cases c1 : (a.ki == b.ki)
  · simp [Op.eqFields, part, isAgg, run_underlying h3, run_underlying h4, run_equalIn_int _ _ _ _ _ _ _ h3, run_equalIn_bool _ _ _ _ _ h4, c0, c1]
  cases c2 : (a.va == b.va)
  · simp [Op.eqFields, part, isAgg, run_underlying h3, run_underlying h4, run_equalIn_int _ _ _ _ _ _ _ h3, run_equalIn_bool _ _ _ _ _ h4, c0, c1, c2]
  cases c3 : (a.un == b.un)
  · simp [Op.eqFields, part, isAgg, run_underlying h3, run_underlying h4, run_equalIn_int _ _ _ _ _ _ _ h3, run_equalIn_bool _ _ _ _ _ h4, c0, c1, c2, c3]
  cases c4 : (a.pc == b.pc)
  · simp [Op.eqFields, part, isAgg, run_underlying h3, run_underlying h4, run_equalIn_int _ _ _ _ _ _ _ h3, run_equalIn_bool _ _ _ _ _ h4, c0, c1, c2, c3, c4]
  cases c5 : (a.re == b.re)
  · simp [Op.eqFields, part, isAgg, run_underlying h3, run_underlying h4, run_equalIn_int _ _ _ _ _ _ _ h3, run_equalIn_bool _ _ _ _ _ h4, c0, c1, c2, c3, c4, c5]
  cases c6 : (a.se == b.se)
  · simp [Op.eqFields, part, isAgg, run_underlying h3, run_underlying h4, run_equalIn_int _ _ _ _ _ _ _ h3, run_equalIn_bool _ _ _ _ _ h4, c0, c1, c2, c3, c4, c5, c6]
  cases c7 : (a.tr == b.tr)
  · simp [Op.eqFields, part, isAgg, run_underlying h3, run_underlying h4, run_equalIn_int _ _ _ _ _ _ _ h3, run_equalIn_bool _ _ _ _ _ h4, c0, c1, c2, c3, c4, c5, c6, c7]
  cases c8 : (a.la == b.la)
  · simp [Op.eqFields, part, isAgg, run_underlying h3, run_underlying h4, run_equalIn_int _ _ _ _ _ _ _ h3, run_equalIn_bool _ _ _ _ _ h4, c0, c1, c2, c3, c4, c5, c6, c7, c8]
  cases c9 : (a.rs == b.rs)
  · simp [Op.eqFields, part, isAgg, run_underlying h3, run_underlying h4, run_equalIn_int _ _ _ _ _ _ _ h3, run_equalIn_bool _ _ _ _ _ h4, c0, c1, c2, c3, c4, c5, c6, c7, c8, c9]
  cases c10 : (a.go == b.go)
  · simp [Op.eqFields, part, isAgg, run_underlying h3, run_underlying h4, run_equalIn_int _ _ _ _ _ _ _ h3, run_equalIn_bool _ _ _ _ _ h4, c0, c1, c2, c3, c4, c5, c6, c7, c8, c9, c10]
  simp [Op.eqFields, part, isAgg, run_underlying h3, run_underlying h4, run_equalIn_int _ _ _ _ _ _ _ h3, run_equalIn_bool _ _ _ _ _ h4, c0, c1, c2, c3, c4, c5, c6, c7, c8, c9, c10]
theorem th_neq (a b : Th) (w : World) : (binOp .neq 50 (.agg #[.int .i64 a.st, .int .i64 a.ki, .int .i64 a.va, .int .i64 a.un, .int .i64 a.pc, .int .i64 a.re, .int .i64 a.se, .int .i64 a.tr, .bool a.la, .int .i64 a.rs, .int .i64 a.go]) (.agg #[.int .i64 b.st, .int .i64 b.ki, .int .i64 b.va, .int .i64 b.un, .int .i64 b.pc, .int .i64 b.re, .int .i64 b.se, .int .i64 b.tr, .bool b.la, .int .i64 b.rs, .int .i64 b.go])).run Try.prog w = .ok (.bool (!decide (a = b))) w := by
  have h := th_equal a b w
  have hu := Try.underlying50
  simp [binOp, h, run_underlying hu, Result.andThen]
theorem th_eql (a b : Th) (w : World) : (binOp .eql 50 (.agg #[.int .i64 a.st, .int .i64 a.ki, .int .i64 a.va, .int .i64 a.un, .int .i64 a.pc, .int .i64 a.re, .int .i64 a.se, .int .i64 a.tr, .bool a.la, .int .i64 a.rs, .int .i64 a.go]) (.agg #[.int .i64 b.st, .int .i64 b.ki, .int .i64 b.va, .int .i64 b.un, .int .i64 b.pc, .int .i64 b.re, .int .i64 b.se, .int .i64 b.tr, .bool b.la, .int .i64 b.rs, .int .i64 b.go])).run Try.prog w = .ok (.bool (decide (a = b))) w := by
  have h := th_equal a b w
  have hu := Try.underlying50
  simp [binOp, h, run_underlying hu, Result.andThen]
end Go.Proofs.Ytbbfdaehaiimiaa

/- A state (api.State), by value: its lists in memory, and how one is read off an argument. -/
namespace Go.Proofs.Ytbbfdaehaiimiaa
set_option linter.unusedVariables false
set_option linter.unusedSimpArgs false
open Go.ChangeShapes Go.WideShapes Go.ChangeAt Go.RowKit


/-- A state: its configuration; its word; its slots; who sends, and receives, in order; the events Full and Empty, each with its epoch and its line; the time; its threads; its log. -/
structure St where
  cf : Cf
  hd : Int
  tl : Int
  md : Int
  sl : List Slo
  sn : List Int
  rc : List Int
  fe : Int
  fl : List Int
  ee : Int
  el : List Int
  nw : Int
  th : List Th
  lg : List En
/-- Where a state's lists lie: each one's address and capacity. -/
structure Pz where
  p1 : Option Addr
  k1 : Nat
  p2 : Option Addr
  k2 : Nat
  p3 : Option Addr
  k3 : Nat
  p4 : Option Addr
  k4 : Nat
  p5 : Option Addr
  k5 : Nat
  p6 : Option Addr
  k6 : Nat
  p7 : Option Addr
  k7 : Nat
def St.cells (s : St) (z : Pz) : List Value := [.int .i64 s.cf.lg, .int .i64 s.cf.th, .int .i64 s.cf.po, .int .i64 s.cf.wt, .int .i64 s.cf.sp, .int .i64 s.cf.yi, .bool s.cf.si, .int .i64 s.hd, .int .i64 s.tl, .int .i64 s.md,
  .slice z.p1 s.sl.length z.k1, .slice z.p2 s.sn.length z.k2, .slice z.p3 s.rc.length z.k3, .int .i64 s.fe, .slice z.p4 s.fl.length z.k4, .int .i64 s.ee, .slice z.p5 s.el.length z.k5, .int .i64 s.nw, .slice z.p6 s.th.length z.k6, .slice z.p7 s.lg.length z.k7]
def St.zero : List Value := [.int .i64 0, .int .i64 0, .int .i64 0, .int .i64 0, .int .i64 0, .int .i64 0, .bool false, .int .i64 0, .int .i64 0, .int .i64 0,
  .slice none 0 0, .slice none 0 0, .slice none 0 0, .int .i64 0, .slice none 0 0, .int .i64 0, .slice none 0 0, .int .i64 0, .slice none 0 0, .slice none 0 0]
def St.shape : List (Ck 1) := [.int .i64, .int .i64, .int .i64, .int .i64, .int .i64, .int .i64, .bool, .int .i64, .int .i64, .int .i64,
  .row Slo.shape, .row intShape, .row intShape, .int .i64, .row intShape, .int .i64, .row intShape, .int .i64, .row Th.shape, .row En.shape]
/-- The state's lists lie in memory so. -/
structure StAt (W : World) (s : St) (z : Pz) : Prop where
  sl : Sl W 2 Slo.cells s.sl (.slice z.p1 s.sl.length z.k1)
  sn : Sl W 1 intC s.sn (.slice z.p2 s.sn.length z.k2)
  rc : Sl W 1 intC s.rc (.slice z.p3 s.rc.length z.k3)
  fl : Sl W 1 intC s.fl (.slice z.p4 s.fl.length z.k4)
  el : Sl W 1 intC s.el (.slice z.p5 s.el.length z.k5)
  th : Sl W 11 Th.cells s.th (.slice z.p6 s.th.length z.k6)
  lg : Sl W 5 En.cells s.lg (.slice z.p7 s.lg.length z.k7)
theorem StAt.kept {W W' : World} {s : St} {z : Pz} (h : StAt W s z) (hk : Below W.heap.size W W') : StAt W' s z := ⟨h.sl.kept hk, h.sn.kept hk, h.rc.kept hk, h.fl.kept hk, h.el.kept hk, h.th.kept hk, h.lg.kept hk⟩
/-- Its numbers are those of an int, its lists no longer than memory lets a list be. -/
structure St.ok (s : St) : Prop where
  cf : s.cf.ok
  hd : In64 s.hd
  tl : In64 s.tl
  md : In64 s.md
  fe : In64 s.fe
  ee : In64 s.ee
  nw : In64 s.nw
  sl : (∀ x ∈ s.sl, x.ok) ∧ s.sl.length ≤ maxLen
  sn : (∀ x ∈ s.sn, In64 x) ∧ s.sn.length ≤ maxLen
  rc : (∀ x ∈ s.rc, In64 x) ∧ s.rc.length ≤ maxLen
  fl : (∀ x ∈ s.fl, In64 x) ∧ s.fl.length ≤ maxLen
  el : (∀ x ∈ s.el, In64 x) ∧ s.el.length ≤ maxLen
  th : (∀ x ∈ s.th, x.ok) ∧ s.th.length ≤ maxLen
  lg : s.lg.length ≤ maxLen
theorem row_of {α : Type} {W : World} {e : List (Ck 0)} {v : Value} (enc : α → List Value) (ok : α → Prop) (hne : 0 < e.length) (h : ReadC W (Ck.row e : Ck 1) v) (hd : ∀ vs, ReadL W e vs → ∃ x, vs = enc x ∧ ok x) :
    ∃ (xs : List α) (p : Option Addr) (k : Nat), v = .slice p xs.length k ∧ Sl W e.length enc xs (.slice p xs.length k) ∧ (∀ x ∈ xs, ok x) ∧ xs.length ≤ maxLen := by
  obtain ⟨xs, hs, ho, hl⟩ := Sl.of_read enc ok hne h hd
  obtain ⟨p, k, rfl, _⟩ := hs.is
  exact ⟨xs, p, k, rfl, hs, ho, hl⟩
theorem St.of_read {W : World} {vs : List Value} (h : ReadL W St.shape vs) : ∃ (s : St) (z : Pz), vs = s.cells z ∧ StAt W s z ∧ s.ok := by
  simp only [St.shape, read_nil, read_cons, read_int, read_bool, read_str] at h
  obtain ⟨_, _, rfl, ⟨c0, rfl, h0⟩, _, _, rfl, ⟨c1, rfl, h1⟩, _, _, rfl, ⟨c2, rfl, h2⟩, _, _, rfl, ⟨c3, rfl, h3⟩, _, _, rfl, ⟨c4, rfl, h4⟩, _, _, rfl, ⟨c5, rfl, h5⟩, _, _, rfl, ⟨c6, rfl⟩, _, _, rfl, ⟨c7, rfl, h7⟩, _, _, rfl, ⟨c8, rfl, h8⟩, _, _, rfl, ⟨c9, rfl, h9⟩,
    v1, _, rfl, r1, v2, _, rfl, r2, v3, _, rfl, r3, _, _, rfl, ⟨c13, rfl, h13⟩, v4, _, rfl, r4, _, _, rfl, ⟨c15, rfl, h15⟩, v5, _, rfl, r5, _, _, rfl, ⟨c17, rfl, h17⟩, v6, _, rfl, r6, v7, _, rfl, r7, rfl⟩ := h
  obtain ⟨sl, p1, k1, rfl, s1, o1, m1⟩ := row_of Slo.cells Slo.ok (by decide) r1 (fun vs h => Slo.of_read h)
  obtain ⟨sn, p2, k2, rfl, s2, o2, m2⟩ := row_of intC In64 (by decide) r2 (fun vs h => int_of_read h)
  obtain ⟨rc, p3, k3, rfl, s3, o3, m3⟩ := row_of intC In64 (by decide) r3 (fun vs h => int_of_read h)
  obtain ⟨fl, p4, k4, rfl, s4, o4, m4⟩ := row_of intC In64 (by decide) r4 (fun vs h => int_of_read h)
  obtain ⟨el, p5, k5, rfl, s5, o5, m5⟩ := row_of intC In64 (by decide) r5 (fun vs h => int_of_read h)
  obtain ⟨th, p6, k6, rfl, s6, o6, m6⟩ := row_of Th.cells Th.ok (by decide) r6 (fun vs h => Th.of_read h)
  obtain ⟨lg, p7, k7, rfl, s7, _, m7⟩ := row_of En.cells En.ok (by decide) r7 (fun vs h => En.of_read h)
  exact ⟨⟨⟨c0, c1, c2, c3, c4, c5, c6⟩, c7, c8, c9, sl, sn, rc, c13, fl, c15, el, c17, th, lg⟩, ⟨p1, k1, p2, k2, p3, k3, p4, k4, p5, k5, p6, k6, p7, k7⟩, rfl, ⟨s1, s2, s3, s4, s5, s6, s7⟩,
    ⟨⟨in64_of_wf h0, in64_of_wf h1, in64_of_wf h2, in64_of_wf h3, in64_of_wf h4, in64_of_wf h5⟩, in64_of_wf h7, in64_of_wf h8, in64_of_wf h9, in64_of_wf h13, in64_of_wf h15, in64_of_wf h17, ⟨o1, m1⟩, ⟨o2, m2⟩, ⟨o3, m3⟩, ⟨o4, m4⟩, ⟨o5, m5⟩, ⟨o6, m6⟩, m7⟩⟩
end Go.Proofs.Ytbbfdaehaiimiaa
