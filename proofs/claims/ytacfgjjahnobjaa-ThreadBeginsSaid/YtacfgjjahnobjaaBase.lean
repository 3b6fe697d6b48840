/- What every claim of this repo uses: worlds that keep what was there, integers' bounds, and the frame of a law: from 'the call returns true and keeps what was there' to the given statement. -/
import Derived.Test.YtacfgjjahnobjaaRows
import Derived.WalkKit
import Derived.ProofKit
import Derived.OpenShut
import Derived.Handy
import Derived.Deep.QuietTactic
import Derived.BigQuiet
import Derived.WalkSmall
import Derived.Outline
import Derived.Lib.SmallJoins
import Derived.Deep.Quiet
namespace Go.Proofs.Ytacfgjjahnobjaa
set_option linter.unusedVariables false
set_option linter.unusedSimpArgs false
open Go.ChangeShapes Go.WideShapes Go.ChangeAt Go.RowKit

abbrev Kept (w w' : World) : Prop := Below w.heap.size w w'

theorem kept_trans {A B C : World} (h : Below A.heap.size A B) (k : Below B.heap.size B C) : Below A.heap.size A C := h.trans (k.mono h.size)
theorem kept_alloc {A B : World} (h : Below A.heap.size A B) (o : Obj) : Below A.heap.size A (B.alloc o) := h.alloc h.size o
theorem kept_drewN {A B : World} (h : Below A.heap.size A B) (n : Nat) : Below A.heap.size A (B.drewN n) := below_drewN h n

/- Every old cell, and every old mark, reads behind a call that kept what was there as it did. -/
theorem bcell {W w1 : World} (hb : Below W.heap.size W w1) : (∀ b o, b < W.heap.size → w1.cell? ⟨b, o, none⟩ = W.cell? ⟨b, o, none⟩) ∧ (∀ b o, b < W.heap.size → w1.frozen? ⟨b, o, none⟩ = W.frozen? ⟨b, o, none⟩) :=
  ⟨fun b o h => hb.cell (p := ⟨b, o, none⟩) h, fun b o h => hb.frozen (p := ⟨b, o, none⟩) h⟩

/- What a drawn region's loads read stays so behind a call that kept what was there. -/
def CellsAt (W : World) : List (Nat × Nat × Value) → Prop
  | [] => True
  | x :: r => (x.1 < W.heap.size ∧ W.cell? ⟨x.1, x.2.1, none⟩ = some x.2.2) ∧ CellsAt W r
theorem cells_keep {W w1 : World} (hg : Below W.heap.size W w1) : ∀ {l : List (Nat × Nat × Value)}, CellsAt W l → CellsAt w1 l
  | [], _ => trivial
  | _ :: _, h => ⟨⟨Nat.lt_of_lt_of_le h.1.1 hg.size, ((bcell hg).1 _ _ h.1.1).trans h.1.2⟩, cells_keep hg h.2⟩
/- THE CLASS OF WORLDS of a region that draws its order: what was there is kept, and these cells hold these values. A call that keeps what was there is quiet in it, so one walk in the text's order serves every order. -/
def Wd (w : World) (l : List (Nat × Nat × Value)) : Type := { w' : World // Below w.heap.size w w' ∧ CellsAt w' l }
def Wd.at {w : World} {l : List (Nat × Nat × Value)} (x : Wd w l) : World := x.1
theorem Wd.kept {w : World} {l : List (Nat × Nat × Value)} (x : Wd w l) : Below w.heap.size w x.at := x.2.1
theorem Wd.cells {w : World} {l : List (Nat × Nat × Value)} (x : Wd w l) : CellsAt x.at l := x.2.2
theorem Wd.mk {w W : World} {l : List (Nat × Nat × Value)} (h : Below w.heap.size w W) (c : CellsAt W l) : ∃ x : Wd w l, W = x.at := ⟨⟨W, h, c⟩, rfl⟩
theorem quiet_call {P : Program} {f : FuncId} {args : Array Value} {w : World} {l : List (Nat × Nat × Value)} {x : Wd w l} {v : Value}
    (h : Calls P f args x.at fun e w' => e = .returned v ∧ Kept x.at w') : Calls P f args x.at fun e w'' => e = .returned v ∧ ∃ y : Wd w l, w'' = y.at :=
  h.mono fun _ _ ⟨he, hk⟩ => ⟨he, Wd.mk (kept_trans x.kept hk) (cells_keep hk x.cells)⟩
theorem wp_region_kept {P : Program} {id : Nat} {Q : Exit → Act → World → Prop} {a : Act} {w W : World} {l : List Oper} (cs : List (Nat × Nat × Value)) (hm : P.follows .mixedOrders = true) (hB : Region.lexB .any l.toArray = true)
    (hk : Below w.heap.size w W) (hC : CellsAt W cs)
    (h : Nonempty (Wd w cs) → wpQuiet P l.toArray (fun w' => ∃ x : Wd w cs, w' = x.at) (fun a' => ∀ w', (∃ x : Wd w cs, w' = x.at) → Q .normal a' w') l a) : (Code.region id l.toArray true).wp P Q a W := by
  have hd : Below W.heap.size W { W with drawn := W.drawn + 1 } := ⟨rfl, rfl, rfl, Nat.le_refl _, fun _ _ => rfl⟩
  refine wp_region_quiet (C := fun w' => ∃ x : Wd w cs, w' = x.at) hm hB (Wd.mk (kept_trans hk hd) (cells_keep hd hC)) ?_
  simpa using h ⟨⟨W, hk, hC⟩⟩

theorem ret_int {k : IntKind} {a b : Int} (h : a = b) : Ending.returned (.int k a) = .returned (.int k b) := by rw [h]
theorem ret_bool {a b : Bool} (h : a = b) : Ending.returned (.bool a) = .returned (.bool b) := by rw [h]

abbrev In64 (p : Int) : Prop := -9223372036854775808 ≤ p ∧ p ≤ 9223372036854775807

theorem in64_of_wf {p : Int} (h : (Lit.int .i64 p).wf = true) : In64 p := bounds_i64 h
theorem wf_of_in64 {p : Int} (h : In64 p) : (Lit.int .i64 p).wf = true := by
  obtain ⟨h1, h2⟩ := h
  simp [Lit.wf, IntKind.min, IntKind.max, IntKind.signed, IntKind.bits]; omega

/-! ### The frame of a law -/
section
variable {H : Type} {enc : TypeId × Value → H} {P : Program}

theorem trodAll_kept (hl : laidOutB P = true) {W W' : World} (hb : Below W.heap.size W W') :
    ∀ {ts : List TypeId} {vs : List Value} {ds : List (DataW H)} {ps : List MemPlace}, ts.all (fun t => P.readableRec t && decide (t < P.types.size)) = true →
      DataW.TrodAll enc P W 0 (fun _ => true) true ts vs ds ps → (∀ x ∈ ps, x.block < W.heap.size) → DataW.TrodAll enc P W' 0 (fun b => decide (b < W.heap.size)) true ts vs ds ps
  | [], [], [], _, _, h, _ => h
  | t :: ts, v :: vs, d :: ds, ps, hr, h, hlt => by
    obtain ⟨p, q, h1, h2, rfl⟩ := h
    simp only [List.all_cons, Bool.and_eq_true, decide_eq_true_eq] at hr
    exact ⟨p, q, Below.trod hl hr.1.1 hr.1.2 h1 hb (fun x hx => hlt x (by simp [hx])), trodAll_kept hl hb hr.2 h2 (fun x hx => hlt x (by simp [hx])), rfl⟩
  | [], _ :: _, _, _, _, h, _ => by simp [DataW.TrodAll] at h
  | [], [], _ :: _, _, _, h, _ => by simp [DataW.TrodAll] at h
  | _ :: _, [], _, _, _, h, _ => by simp [DataW.TrodAll] at h
  | _ :: _, _ :: _, [], _, _, h, _ => by simp [DataW.TrodAll] at h

theorem law_post (hl : laidOutB P = true) {f : Func} {s : ChangeSpec} {apart : Bool} {W W' : World} {args : Array Value} {ds gs : List (DataW H)} {before : List MemPlace} {tb : TypeId}
    (hW : DataW.Whole enc P f.params.toList s.vars apart W args.toList ds gs before) (hv : s.vars = []) (hr : f.params.toList.all (fun t => P.readableRec t && decide (t < P.types.size)) = true)
    (hres : f.resultTypes = #[tb]) (htb : P.underlying tb = some .bool) (hfn : s.fn H (ds ++ gs) = { results := [.lit (.bool true)], args := ds })
    (hb : Below W.heap.size W W') : s.post enc P f apart true false false W args (.bool true) W' := by
  have hW' := hW
  obtain ⟨p, q, hA, hV, rfl, hfz, hnd⟩ := hW
  have hV' : gs = [] ∧ q = [] := by
    rw [hv] at hV
    cases gs with
    | nil => exact ⟨rfl, by simpa [DataW.TrodVars] using hV⟩
    | cons _ _ => simp [DataW.TrodVars] at hV
  obtain ⟨rfl, rfl⟩ := hV'
  have hlt : ∀ x ∈ p, x.block < W.heap.size := fun x hx => by have := hW'.lt x (by simp [hx]); simpa using this
  refine ⟨ds, [], p ++ [], [], p, [], hW', ?_, ?_, ?_, hb.frame _, fun h => by cases h⟩
  · rw [hfn, hres]
    exact trodAll_cons_mk (shut_bool htb _) trodAll_mk0
  · rw [hfn]
    exact trodAll_kept hl hb hr hA hlt
  · rw [hfn, hv]
    rfl
end

/-! ### Opening a struct of integers by value -/
section
variable {H : Type} {enc : TypeId × Value → H} {P : Program} {w : World} {base : Nat} {spare : Nat → Bool} {held : Bool}
theorem open_ints3 {r : Reach} {b0 : Nat} {t t0 t1 t2 : TypeId} {f0 f1 f2 : Field} {v : Value} {d : DataW H} {p : List MemPlace} (hs : P.underlying t = some (.struct #[f0, f1, f2])) (hone : Deep.oneCellFields P #[f0, f1, f2] = true) (hC : P.cellsOf t = 3)
    (e0 : f0.type = t0) (e1 : f1.type = t1) (e2 : f2.type = t2) (h0 : P.underlying t0 = some (.int .i64)) (h1 : P.underlying t1 = some (.int .i64)) (h2 : P.underlying t2 = some (.int .i64))
    (hv : Value.okWide P w r b0 t v) (h : DataW.Trod enc P w base spare held t v d p) : ∃ a b c : Int, v = .agg #[.int .i64 a, .int .i64 b, .int .i64 c] ∧ In64 a ∧ In64 b ∧ In64 c := by
  subst e0 e1 e2
  obtain ⟨c0, c1, c2, y0, y1, y2, n, rfl, _, _, r0, r1, r2⟩ := Joins.open_agg3 hs hone hC hv h
  obtain ⟨a, k0, _, w0⟩ := DataW.trod_int h0 r0
  obtain ⟨b, k1, _, w1⟩ := DataW.trod_int h1 r1
  obtain ⟨c, k2, _, w2⟩ := DataW.trod_int h2 r2
  simp at k0 k1 k2; subst k0 k1 k2
  exact ⟨a, b, c, rfl, in64_of_wf w0, in64_of_wf w1, in64_of_wf w2⟩
end
theorem own : ownKnob Try.prog.godebug = none := by kernel_rfl
theorem laid : laidOutB Try.prog = true := by kernel_rfl
end Go.Proofs.Ytacfgjjahnobjaa
