/- ARGUMENTS, OPENED BY THEIR SHAPE: whatever type of ints, bools, strings, structs and slices of these: the cells that a reading met, as plain data ('ReadL'); slices as lists ('Sl'). -/
import Derived.Test.YtacfgjjahnobjaaBase
import Derived.Deep.Slices
import Derived.Deep.Fields
import Derived.ChangeSame
namespace Go.Proofs.Ytacfgjjahnobjaa
set_option linter.unusedVariables false
set_option linter.unusedSimpArgs false
open Go.ChangeShapes Go.WideShapes Go.ChangeAt Go.RowKit

theorem ret_two {a b c d : Int} (h : a = c) (k : b = d) : Ending.returned (.tuple #[.int .i64 a, .int .i64 b]) = .returned (.tuple #[.int .i64 c, .int .i64 d]) := by rw [h, k]

/-- What a cell of one value is: an integer of a kind; a bool; a string. -/
abbrev Bs : Type := Option (Option IntKind)
/-- What a cell is: one value, or a slice of elements whose cells are so, one level lower. -/
def Ck : Nat → Type
  | 0 => Bs
  | n + 1 => Sum Bs (List (Ck n))
def Ck.base : (n : Nat) → Bs → Ck n
  | 0, b => b
  | _ + 1, b => Sum.inl b
def Ck.int {n : Nat} (k : IntKind) : Ck n := Ck.base n (some (some k))
def Ck.bool {n : Nat} : Ck n := Ck.base n (some none)
def Ck.str {n : Nat} : Ck n := Ck.base n none
def Ck.row {n : Nat} (e : List (Ck n)) : Ck (n + 1) := Sum.inr e

def ReadB : Bs → Value → Prop
  | some (some k), v => ∃ q, v = .int k q ∧ (Lit.int k q).wf = true
  | some none, v => ∃ b, v = .bool b
  | none, v => ∃ s, v = .string s ∧ s.size ≤ maxLen
def AllZ {α β : Type} (R : α → β → Prop) : List α → List β → Prop
  | [], vs => vs = []
  | c :: l, vs => ∃ v r, vs = v :: r ∧ R c v ∧ AllZ R l r
/-- A cell that reads so. -/
def ReadCn (W : World) : (n : Nat) → Ck n → Value → Prop
  | 0, b, v => ReadB b v
  | n + 1, c, v =>
    match (show Sum Bs (List (Ck n)) from c) with
    | Sum.inl b => ReadB b v
    | Sum.inr e => ∃ (p : Option Addr) (len cap : Nat), v = .slice p len cap ∧ len ≤ cap ∧ cap ≤ maxLen ∧ (p = none → cap = 0) ∧
      ∀ a, p = some a → ∀ i, i < cap → ∃ vs : List Value, vs.length = e.length ∧ (∀ j, j < e.length → W.cell? (a.add (i * e.length + j)) = vs[j]?) ∧ AllZ (ReadCn W n) e vs
def ReadC (W : World) {n : Nat} (c : Ck n) (v : Value) : Prop := ReadCn W n c v
/-- Cells that read so, in turn. -/
def ReadL (W : World) {n : Nat} (l : List (Ck n)) (vs : List Value) : Prop := AllZ (ReadCn W n) l vs

theorem read_nil {W : World} {n : Nat} {vs : List Value} : ReadL W ([] : List (Ck n)) vs ↔ vs = [] := Iff.rfl
theorem read_cons {W : World} {n : Nat} {c : Ck n} {l : List (Ck n)} {vs : List Value} : ReadL W (c :: l) vs ↔ ∃ v r, vs = v :: r ∧ ReadC W c v ∧ ReadL W l r := Iff.rfl
theorem read_base {W : World} {n : Nat} {b : Bs} {v : Value} : ReadC W (Ck.base n b) v ↔ ReadB b v := by cases n <;> exact Iff.rfl
theorem read_int {W : World} {n : Nat} {k : IntKind} {v : Value} : ReadC W (Ck.int k : Ck n) v ↔ ∃ q, v = .int k q ∧ (Lit.int k q).wf = true := read_base
theorem read_bool {W : World} {n : Nat} {v : Value} : ReadC W (Ck.bool : Ck n) v ↔ ∃ b, v = .bool b := read_base
theorem read_str {W : World} {n : Nat} {v : Value} : ReadC W (Ck.str : Ck n) v ↔ ∃ s, v = .string s ∧ s.size ≤ maxLen := read_base
theorem read_row {W : World} {n : Nat} {e : List (Ck n)} {v : Value} : ReadC W (Ck.row e) v ↔ ∃ (p : Option Addr) (len cap : Nat), v = .slice p len cap ∧ len ≤ cap ∧ cap ≤ maxLen ∧ (p = none → cap = 0) ∧
      ∀ a, p = some a → ∀ i, i < cap → ∃ vs : List Value, vs.length = e.length ∧ (∀ j, j < e.length → W.cell? (a.add (i * e.length + j)) = vs[j]?) ∧ ReadL W e vs := Iff.rfl
theorem read_one {W : World} {n : Nat} {c : Ck n} {v : Value} (h : ReadC W c v) : ReadL W [c] [v] := ⟨v, [], rfl, h, rfl⟩

theorem ReadL.append {W : World} {n : Nat} : ∀ {l k : List (Ck n)} {vs us : List Value}, ReadL W l vs → ReadL W k us → ReadL W (l ++ k) (vs ++ us)
  | [], _, _, _, h, h' => by rw [read_nil] at h; subst h; exact h'
  | _ :: _, _, _, _, h, h' => by
    obtain ⟨v, r, rfl, hv, hr⟩ := read_cons.1 h
    exact read_cons.2 ⟨v, _, rfl, hv, ReadL.append hr h'⟩

def joinFs {α : Type} (P : Program) (sh : TypeId → Option (List α)) : List Field → Nat → Option (List α)
  | [], _ => some []
  | f :: r, o => if f.offset = o then (sh f.type).bind fun l => if P.cellsOf f.type = l.length then (joinFs P sh r (o + l.length)).map (l ++ ·) else none else none
/-- A slice's cell, where there is a level for it. -/
def rowOf (sh : (n : Nat) → Option (List (Ck n))) (cells : Nat) : (n : Nat) → Option (List (Ck n))
  | 0 => none
  | n + 1 => (sh n).bind fun l => if cells = l.length then some [Ck.row l] else none
/-- A type's cells. -/
def shapeOf (P : Program) : Nat → (n : Nat) → TypeId → Option (List (Ck n))
  | 0, _, _ => none
  | f + 1, n, t =>
    match P.underlying t with
    | some .bool => some [Ck.bool]
    | some (.int k) => some [Ck.int k]
    | some .string => some [Ck.str]
    | some (.slice e) => rowOf (fun m => shapeOf P f m e) (P.cellsOf e) n
    | some (.struct fs) => (joinFs P (shapeOf P f n) fs.toList 0).bind fun l => if P.cellsOf t = l.length then some l else none
    | _ => none

section
variable {H : Type} {enc : TypeId × Value → H} {P : Program} {w : World} {base : Nat} {held : Bool}

theorem reads_fields {g n m : Nat} (ih : ∀ {t : TypeId} {cs : List Value} {x : DataW H × List MemPlace} {l : List (Ck n)}, shapeOf P g n t = some l → DataW.trod enc P w base (fun _ => true) held m t cs = some x → ReadL w l cs) :
    ∀ {fs : List Field} {o : Nat} {l : List (Ck n)} {cs : List Value}, joinFs P (shapeOf P g n) fs o = some l → o + l.length ≤ cs.length →
      (∀ f ∈ fs, ∃ x, DataW.trod enc P w base (fun _ => true) held m f.type ((cs.drop f.offset).take (P.cellsOf f.type)) = some x) → ReadL w l ((cs.drop o).take l.length)
  | [], o, l, cs, h, _, _ => by
    simp only [joinFs, Option.some.injEq] at h
    subst h
    exact read_nil.2 (by simp)
  | f :: r, o, l, cs, h, hlen, hf => by
    simp only [joinFs] at h
    split at h
    · rename_i ho
      subst ho
      obtain ⟨k, hk, h⟩ := Option.bind_eq_some_iff.1 h
      split at h
      · rename_i hc
        obtain ⟨r', hr', rfl⟩ := Option.map_eq_some_iff.1 h
        obtain ⟨x, hx⟩ := hf f (by simp)
        have h1 := ih hk hx
        rw [hc] at h1
        have h2 := reads_fields (fs := r) ih hr' (by simp at hlen; omega) (fun g hg => hf g (by simp [hg]))
        have := ReadL.append h1 h2
        rw [List.length_append, List.take_add, List.drop_drop]
        exact this
      · cases h
    · cases h

theorem mapM_some_each {α β : Type} {f : α → Option β} : ∀ {l : List α} {r : List β}, l.mapM f = some r → ∀ x ∈ l, ∃ y, f x = some y
  | [], _, _ => by simp
  | a :: l, r, h => by
    simp only [List.mapM_cons, Option.bind_eq_bind, Option.bind_eq_some_iff, Option.pure_def] at h
    obtain ⟨y, hy, ys, hys, _⟩ := h
    intro x hx
    rcases List.mem_cons.1 hx with rfl | hx
    · exact ⟨y, hy⟩
    · exact mapM_some_each hys x hx

theorem reads_trod : ∀ {g n fuel : Nat} {t : TypeId} {cs : List Value} {x : DataW H × List MemPlace} {l : List (Ck n)}, shapeOf P g n t = some l → DataW.trod enc P w base (fun _ => true) held fuel t cs = some x → ReadL w l cs
  | 0, _, _, _, _, _, _, h, _ => by simp [shapeOf] at h
  | g + 1, n, fuel, t, cs, x, l, h, ht => by
    simp only [shapeOf] at h
    split at h
    · rename_i hu
      cases h
      obtain ⟨b, rfl, _⟩ := DataW.trod_bool hu ht
      exact read_one (read_bool.2 ⟨b, rfl⟩)
    · rename_i k hu
      cases h
      obtain ⟨q, rfl, _, hw⟩ := DataW.trod_int hu ht
      exact read_one (read_int.2 ⟨q, rfl, hw⟩)
    · rename_i hu
      cases h
      obtain ⟨s, rfl, _, hw⟩ := DataW.trod_string hu ht
      exact read_one (read_str.2 ⟨s, rfl, hw⟩)
    · rename_i e hu
      cases n with
      | zero => simp [rowOf] at h
      | succ n =>
        simp only [rowOf] at h
        obtain ⟨k, hk, h⟩ := Option.bind_eq_some_iff.1 h
        split at h
        · rename_i hc
          cases h
          rcases Deep.open_slice hu ht with ⟨rfl, _⟩ | ⟨a, len, cap, m, n', D, Pl, rfl, _, hl, hm, hmm, _, hi⟩
          · exact read_one (read_row.2 ⟨none, 0, 0, rfl, by omega, by omega, fun _ => rfl, fun _ h => by cases h⟩)
          · refine read_one (read_row.2 ⟨some a, len, cap, rfl, hl, hm, (fun h => by cases h), ?_⟩)
            intro _ hae i hic
            cases hae
            obtain ⟨vs, h1, h2⟩ := hi i (by rw [hmm]; simpa using hic)
            rw [hc] at h1
            obtain ⟨_, hvl, hva⟩ := World.cells?_some h1
            refine ⟨vs, hvl, fun j hj => ?_, reads_trod hk h2⟩
            rw [← hva j hj, Go.Deep.add_add]
        · cases h
    · rename_i fs hu
      obtain ⟨k, hk, h⟩ := Option.bind_eq_some_iff.1 h
      split at h
      · rename_i hc
        cases h
        obtain ⟨xs, m, _, _, hlen, hxl, hf⟩ := DataW.trod_struct hu ht
        have := reads_fields (enc := enc) (w := w) (base := base) (held := held) (m := m) (fun h h' => reads_trod h h') hk (cs := cs) (by omega) (fun f hfm => by
          obtain ⟨i, hi, rfl⟩ := List.getElem_of_mem hfm
          have h0 : i < fs.size := by simpa using hi
          have := hf i fs[i] (by simp [h0])
          exact ⟨xs[i]'(by omega), by simpa [hxl, h0] using this⟩)
        simpa [← hc, ← hlen] using this
      · cases h
    · cases h

/-- A struct by value, opened: its cells. -/
theorem open_struct {r : Reach} {b0 g n : Nat} {t : TypeId} {fs : Array Field} {l : List (Ck n)} {v : Value} {d : DataW H} {p : List MemPlace} (hs : P.underlying t = some (.struct fs)) (hl : shapeOf P g n t = some l)
    (hv : Value.okWide P w r b0 t v) (h : DataW.Trod enc P w base (fun _ => true) held t v d p) : ∃ cs, v = .agg ⟨cs⟩ ∧ ReadL w l cs := by
  obtain ⟨cs, rfl, _⟩ := okWide_struct hs hv
  obtain ⟨fuel, hf⟩ := h
  exact ⟨cs.toList, rfl, reads_trod hl hf⟩
/-- A slice, opened. -/
theorem open_row {r : Reach} {b0 g n : Nat} {t e : TypeId} {l : List (Ck n)} {v : Value} {d : DataW H} {p : List MemPlace} (hs : P.underlying t = some (.slice e)) (hl : shapeOf P g (n + 1) t = some [Ck.row l])
    (hv : Value.okWide P w r b0 t v) (h : DataW.Trod enc P w base (fun _ => true) held t v d p) : ReadC w (Ck.row l) v := by
  obtain ⟨fuel, hf⟩ := h
  have hc : v.cells.toList = [v] := by
    simp only [Value.okWide, hs, Cell.okWide, Cell.ok] at hv
    split at hv <;> simp_all [Value.cells]
  rw [hc] at hf
  obtain ⟨u, r', h1, h2, _⟩ := read_cons.1 (reads_trod hl hf)
  cases h1
  exact h2
end

/-- v IS A SLICE THAT READS AS xs: x's cells: 'enc x', k of them. -/
structure Sl {α : Type} (W : World) (k : Nat) (enc : α → List Value) (xs : List α) (v : Value) : Prop where
  is : ∃ (p : Option Addr) (cap : Nat), v = .slice p xs.length cap ∧ xs.length ≤ cap ∧ cap ≤ maxLen ∧ (p = none → cap = 0) ∧
    (xs ≠ [] → ∃ b o, p = some ⟨b, o, none⟩ ∧ b < W.heap.size ∧ ∀ i x, xs[i]? = some x → ∀ j, j < k → W.cell? ⟨b, o + i * k + j, none⟩ = (enc x)[j]?)

theorem Sl.kept {α : Type} {W W' : World} {k : Nat} {enc : α → List Value} {xs : List α} {v : Value} (h : Sl W k enc xs v) (hk : Below W.heap.size W W') : Sl W' k enc xs v := by
  obtain ⟨p, cap, hv, h1, h2, h3, h4⟩ := h.is
  refine ⟨p, cap, hv, h1, h2, h3, fun hne => ?_⟩
  obtain ⟨b, o, hp, hb, hc⟩ := h4 hne
  exact ⟨b, o, hp, Nat.lt_of_lt_of_le hb hk.size, fun i x hx j hj => (hk.cell (p := ⟨b, _, none⟩) hb).trans (hc i x hx j hj)⟩

theorem addr_plain {W : World} {a : Addr} {v : Value} (h : W.cell? a = some v) : a = ⟨a.block, a.off, none⟩ ∧ a.block < W.heap.size := by
  obtain ⟨b, o, s⟩ := a
  simp only [World.cell?] at h
  split at h
  · rename_i ho
    split at h
    · cases h
    · rename_i hs
      cases s with
      | none => exact ⟨rfl, (Array.getElem?_eq_some_iff.1 ho).1⟩
      | some _ => simp at hs
  · cases h

/-- Whatever list of elements a slice's cells read as: a list. -/
theorem Sl.of_read {α : Type} {W : World} {n : Nat} {e : List (Ck n)} {v : Value} (enc : α → List Value) (ok : α → Prop) (hne : 0 < e.length) (h : ReadC W (Ck.row e) v) (hd : ∀ vs, ReadL W e vs → ∃ x, vs = enc x ∧ ok x) :
    ∃ xs : List α, Sl W e.length enc xs v ∧ (∀ x ∈ xs, ok x) ∧ xs.length ≤ maxLen := by
  obtain ⟨p, len, cap, rfl, h1, h2, h3, h4⟩ := read_row.1 h
  cases p with
  | none =>
    have : cap = 0 := h3 rfl
    have : len = 0 := by omega
    subst this
    exact ⟨[], ⟨none, cap, rfl, by simp, h2, h3, fun h => absurd rfl h⟩, by simp, by simp⟩
  | some a =>
    have hx : ∀ i, i < cap → ∃ x : α, ok x ∧ ∀ j, j < e.length → W.cell? (a.add (i * e.length + j)) = (enc x)[j]? := fun i hi => by
      obtain ⟨vs, hl, hc, hr⟩ := h4 a rfl i hi
      obtain ⟨x, rfl, ho⟩ := hd vs hr
      exact ⟨x, ho, hc⟩
    by_cases hl : len = 0
    · subst hl
      exact ⟨[], ⟨some a, cap, rfl, by simp, h2, h3, fun h => absurd rfl h⟩, by simp, by simp⟩
    · have hpl : a = ⟨a.block, a.off, none⟩ ∧ a.block < W.heap.size := by
        obtain ⟨vs, hvl, hc, _⟩ := h4 a rfl 0 (by omega)
        have h0 := hc 0 (by omega)
        rw [List.getElem?_eq_getElem (by omega)] at h0
        have : a.add (0 * e.length + 0) = a := by simp [Addr.add]
        rw [this] at h0
        exact addr_plain h0
      let f : Nat → α := fun i => if h : i < cap then Classical.choose (hx i h) else Classical.choose (hx 0 (by omega))
      have hf : ∀ i, i < cap → ok (f i) ∧ ∀ j, j < e.length → W.cell? (a.add (i * e.length + j)) = (enc (f i))[j]? := fun i hi => by
        simp only [f, hi, dif_pos]; exact Classical.choose_spec (hx i hi)
      refine ⟨(List.range len).map f, ⟨some a, cap, by simp, by simp; omega, h2, h3, fun _ => ⟨a.block, a.off, by rw [← hpl.1], hpl.2, fun i x hix j hj => ?_⟩⟩, ?_, by simp; omega⟩
      · simp only [List.getElem?_map, Option.map_eq_some_iff] at hix
        obtain ⟨i', hi', rfl⟩ := hix
        obtain ⟨hlt, rfl⟩ := List.getElem?_eq_some_iff.1 hi'
        simp only [List.length_range, List.getElem_range] at hlt ⊢
        rw [← (hf i (by omega)).2 j hj]
        congr 1
        rw [hpl.1]
        unfold Addr.add
        split
        · rename_i h0; rw [Nat.add_assoc, h0]; rfl
        · simp [Nat.add_assoc]
      · intro x hx
        obtain ⟨i, hi, rfl⟩ := List.mem_map.1 hx
        exact (hf i (by have := List.mem_range.1 hi; omega)).1
end Go.Proofs.Ytacfgjjahnobjaa
