/- A RANGE OVER A FUNCTION whose value bears a receiver (a method value), or none: the iterator by its contract ('Iter': the list that it gives, one by one, as long as it is asked for more), the loop by one law ('wpIn_over'), at the wide fence. -/
import Derived.Test.YtmdpgaihbkjjgaaBase
import Derived.Lib.Hide
import Derived.RangeFuncNested
import Derived.RangeFuncLeaves
import Derived.Shelf.Abstract
import Derived.Shelf.RegionOpen
import Derived.OwnWalkIn
import Derived.TacticsInMore
import Derived.LoopNIn
import Derived.LoopIn
namespace Go.Proofs.Ytmdpgaihbkjjgaa
set_option linter.unusedVariables false
set_option linter.unusedSimpArgs false
open Go.RowKit

/-- What a round keeps: all below n₀; and of what lay from B on when the round began (the iterator's own blocks, and those of the loop's book-keeping) all. -/
structure Rnd (n₀ B S : Nat) (A C : World) : Prop where
  os : C.os = A.os
  tape : C.tape = A.tape
  output : C.output = A.output
  size : A.heap.size ≤ C.heap.size
  block : ∀ k, k < n₀ ∨ (B ≤ k ∧ k < S) → C.heap[k]? = A.heap[k]?

theorem Rnd.refl (n₀ B S : Nat) (A : World) : Rnd n₀ B S A A := ⟨rfl, rfl, rfl, Nat.le_refl _, fun _ _ => rfl⟩
theorem Rnd.trans {n₀ B S : Nat} {X Y Z : World} (h : Rnd n₀ B S X Y) (k : Rnd n₀ B S Y Z) : Rnd n₀ B S X Z :=
  ⟨k.os.trans h.os, k.tape.trans h.tape, k.output.trans h.output, Nat.le_trans h.size k.size, fun i hi => (k.block i hi).trans (h.block i hi)⟩
theorem Rnd.of_below {n₀ B S T : Nat} {A C : World} (h : Below T A C) (hn : n₀ ≤ T) (hS : S ≤ T) : Rnd n₀ B S A C :=
  ⟨h.os, h.tape, h.output, h.size, fun k hk => h.block k (by omega)⟩
theorem Rnd.setCell {n₀ B S : Nat} {A C : World} (h : Rnd n₀ B S A C) {p : Addr} (hp : n₀ ≤ p.block) (hp' : p.block < B ∨ S ≤ p.block) (u : Value) : Rnd n₀ B S A (C.setCell p u) :=
  h.trans ⟨rfl, rfl, rfl, by simp [World.setCell], fun k hk => Below.heap_setCell _ _ _ _ (by omega)⟩
theorem Rnd.alloc {n₀ B S : Nat} {A C : World} (h : Rnd n₀ B S A C) (hn : n₀ ≤ C.heap.size) (hS : S ≤ C.heap.size) (o : Obj) : Rnd n₀ B S A (C.alloc o) :=
  h.trans (Rnd.of_below ((Below.refl C.heap.size C).alloc (Nat.le_refl _) o) hn hS)
theorem Rnd.call {n₀ B S : Nat} {A C D : World} (h : Rnd n₀ B S A C) (k : Below C.heap.size C D) (hn : n₀ ≤ C.heap.size) (hS : S ≤ C.heap.size) : Rnd n₀ B S A D :=
  h.trans (Rnd.of_below k hn hS)

/-- The world turned at blocks alone that lie from B on and hold no cells, or at new ones: a step of the loop's book-keeping, or of an iterator's. -/
structure Turn (B : Nat) (A C : World) : Prop where
  os : C.os = A.os
  tape : C.tape = A.tape
  output : C.output = A.output
  size : A.heap.size ≤ C.heap.size
  block : ∀ k o, A.heap[k]? = some o → k < B ∨ o.isCells = true → C.heap[k]? = some o

theorem some_of_lt {W : World} {k : Nat} (h : k < W.heap.size) : ∃ o, W.heap[k]? = some o := ⟨W.heap[k], Array.getElem?_eq_getElem h⟩
theorem lt_of_some {W : World} {k : Nat} {o : Obj} (h : W.heap[k]? = some o) : k < W.heap.size := (Array.getElem?_eq_some_iff.1 h).1
theorem Turn.of_kept {B : Nat} {A C : World} (h : Below A.heap.size A C) : Turn B A C :=
  ⟨h.os, h.tape, h.output, h.size, fun k _ hk _ => (h.block k (lt_of_some hk)).trans hk⟩
theorem Turn.putObj {B : Nat} {A : World} {l : Nat} {o : Obj} (h : A.heap[l]? = some o) (ho : o.isCells = false) (hl : B ≤ l) (o' : Obj) : Turn B A (A.putObj l o') :=
  ⟨rfl, rfl, rfl, by simp, fun k p hk hp => by
    have : k ≠ l := by
      intro e; subst e; rw [h] at hk; cases hk
      rcases hp with hp | hp
      · omega
      · rw [ho] at hp; cases hp
    exact (World.putObj_heap_other this).trans hk⟩
theorem Turn.below {B : Nat} {A C w : World} (h : Turn B A C) (hB : w.heap.size ≤ B) (k : Below w.heap.size w A) : Below w.heap.size w C :=
  k.trans ⟨h.os, h.tape, h.output, h.size, fun i hi => by
    obtain ⟨o, ho⟩ := some_of_lt (W := A) (k := i) (Nat.lt_of_lt_of_le hi k.size)
    rw [ho, h.block i o ho (.inl (by omega))]⟩
theorem Turn.cell {B : Nat} {A C : World} (h : Turn B A C) {p : Addr} {v : Value} (hc : A.cell? p = some v) : C.cell? p = some v := by
  obtain ⟨o, ho, hi⟩ := cells_of_cell hc
  rw [World.cell?_of_block (w := A) ((h.block _ o ho (.inr hi)).trans ho.symm)]; exact hc
theorem Turn.frozen {B : Nat} {A C : World} (h : Turn B A C) {p : Addr} {v : Value} (hc : A.cell? p = some v) : C.frozen? p = A.frozen? p := by
  obtain ⟨o, ho, hi⟩ := cells_of_cell hc
  exact World.frozen?_of_block (w := A) ((h.block _ o ho (.inr hi)).trans ho.symm)

/-- An iterator's value (function gf, its receiver bd, what it captured lb) gives xs, one by one, as long as it is asked for more; of a round it wants just what 'Rnd' says. -/
def Iter {α : Type} (P : Program) (gf : Nat) (bd lb : Array Value) (enc : α → Value) (n₀ : Nat) (xs : List α) (w : World) : Prop :=
  ∀ (l : Nat) (J Jx : List α → World → Prop) (W : World), Below w.heap.size w W →
    (∀ s A C, J s A → Below A.heap.size A C → J s C) → (∀ s A C, Jx s A → Below A.heap.size A C → Jx s C) →
    (∀ (m : Nat) pre x suf A, 9 ≤ m → xs = pre ++ x :: suf → J pre A → YieldAt Fence.wide m P l #[enc x] A fun e C =>
      (e = .returned (.bool true) ∧ J (pre ++ [x]) C ∧ Rnd n₀ W.heap.size A.heap.size A C) ∨ (e = .returned (.bool false) ∧ Jx (pre ++ [x]) C)) →
    J [] W → Calls P gf (bd ++ #[.func (.yield l) #[] #[]] ++ lb) W fun e C => (∃ v, e = .returned v) ∧ (J xs C ∨ ∃ pre, Jx pre C)

/-- How a round's body may be left. -/
def rndPost {α : Type} (n₀ B S : Nat) (I : List α → World → Prop) (Ix : Code → List α → World → Prop) (xs : List α) (A : World) : Exit → Act → World → Prop
  | .normal, _, C => Rnd n₀ B S A C ∧ I xs C
  | .ret, _, C => Rnd n₀ B S A C ∧ Ix .ret xs C
  | .exit id, _, C => Rnd n₀ B S A C ∧ Ix (.exit id) xs C
  | _, _, _ => False

/-- The loop. -/
theorem wpIn_over {α : Type} {P : Program} {n : Nat} {g : Operand} {ps : Array Tmp} {assign body : Code} {Q : Exit → Act → World → Prop} {a : Act} {w : World}
    {gf : Nat} {bd lb : Array Value} (hg : a.eval g = .func (.func gf) bd lb) (eg : ∀ args w, (callFunc gf args).run P w = .ok (.enter gf args) w)
    {enc : α → Value} {n₀ : Nat} {xs : List α} (hseq : Iter P gf bd lb enc n₀ xs w) (hn₀ : n₀ ≤ w.heap.size) (hps : ps.size = 1)
    (I : List α → World → Prop) (Ix : Code → List α → World → Prop) (hI : ∀ s A C, I s A → Turn w.heap.size A C → I s C) (hIx : ∀ c s A C, Ix c s A → Turn w.heap.size A C → Ix c s C) (h0 : I [] w)
    (hround : ∀ (m l : Nat) (pre suf : List α) (x : α) (A : World), 9 ≤ m → xs = pre ++ x :: suf → w.heap.size + 2 ≤ A.heap.size → I pre A →
      assign.wpIn (Fence.wide.inRound l) m P (Exit.then (fun a₁ A₁ => Below A.heap.size A A₁ ∧ ∀ C, Turn w.heap.size A₁ C → C.heap.size = A₁.heap.size →
          body.wpIn (Fence.wide.inRound l) m P (rndPost n₀ w.heap.size A.heap.size I Ix (pre ++ [x]) C) a₁ C) (fun _ _ _ => False))
        { tmps := (ps.zip #[enc x]).foldl (fun t (p, v) => t.setIfInBounds p v) a.tmps, defers := [] } A)
    (hdone : ∀ (D : Nat) (W : World), w.heap.size ≤ D → I xs W → W.heap[D]? = some (.deferred (some [])) → Q .normal { a with defers := { target := .collected D, args := #[] } :: a.defers } W)
    (hstop : ∀ (D : Nat) (c : Code) (pre : List α) (W : World), w.heap.size ≤ D → Ix c pre W → W.heap[D]? = some (.deferred (some [])) → c.wpIn Fence.wide n P Q { a with defers := { target := .collected D, args := #[] } :: a.defers } W) :
    (Code.rangeFunc g ps assign body).wpIn Fence.wide n P Q a w := by
  refine wpIn_rangeFunc fun fn hfn => ?_
  obtain ⟨rec, hrec⟩ : ∃ rec : LoopState → Option Code → Loop, rec = fun st pe => { state := st, pending := pe, fn, tmps := a.tmps, params := ps, assign, body, defers := w.heap.size } := ⟨_, rfl⟩
  obtain ⟨V, hV⟩ : ∃ V, (w.alloc (.deferred (some []))).alloc (.loop (rec .ready none)) = V := ⟨_, rfl⟩
  have hwV : Below w.heap.size w V := by rw [← hV]; exact ((Below.refl _ w).alloc (Nat.le_refl _) _).alloc (by simp) _
  have hsV : V.heap.size = w.heap.size + 2 := by rw [← hV]; simp
  have hlV : V.heap[w.heap.size + 1]? = some (.loop (rec .ready none)) := by
    rw [← hV]; have := World.alloc_heap_new (w.alloc (.deferred (some []))) (.loop (rec .ready none)); rwa [World.size_alloc] at this
  have hdV : V.heap[w.heap.size]? = some (.deferred (some [])) := by
    rw [← hV]; exact (Below.heap_alloc _ _ _ (by simp)).trans (World.alloc_heap_new w _)
  refine ⟨w.heap.size + 1, [{ target := .collected w.heap.size, args := #[] }], V, { target := .fn (.func gf) lb, args := bd ++ #[.func (.yield (w.heap.size + 1)) #[] #[]] }, V, gf,
    bd ++ #[.func (.yield (w.heap.size + 1)) #[] #[]] ++ lb, V, ?_, ?_, fun _ _ => trivial, ?_, fun h => by simp [Fence.wide] at h, ?_⟩
  · rw [← hV, hrec]; exact run_enterLoop_outer _ _ _ _ _
  · simp only [resolve, hg]
    simp [go_sem, Deferred.ofValue]
  · simp [invoke, go_sem, eg]
  refine (callsIn_wide.2 (hseq (w.heap.size + 1)
    (fun pre W => I pre W ∧ W.heap[w.heap.size + 1]? = some (.loop (rec .ready none)) ∧ W.heap[w.heap.size]? = some (.deferred (some [])) ∧ w.heap.size + 2 ≤ W.heap.size)
    (fun pre W => ∃ c, Ix c pre W ∧ W.heap[w.heap.size + 1]? = some (.loop (rec .done (some c))) ∧ W.heap[w.heap.size]? = some (.deferred (some [])))
    V hwV
    (fun s A C hs hk => ⟨hI s A C hs.1 (Turn.of_kept hk), (hk.block _ (lt_of_some hs.2.1)).trans hs.2.1, (hk.block _ (lt_of_some hs.2.2.1)).trans hs.2.2.1, Nat.le_trans hs.2.2.2 hk.size⟩)
    (fun s A C hs hk => by obtain ⟨c, h1, h2, h3⟩ := hs; exact ⟨c, hIx c s A C h1 (Turn.of_kept hk), (hk.block _ (lt_of_some h2)).trans h2, (hk.block _ (lt_of_some h3)).trans h3⟩)
    ?_ ⟨hI _ _ _ h0 (Turn.of_kept hwV), hlV, hdV, by omega⟩)).mono ?_
  · rintro m pre x suf A hm hxs ⟨hi, hl, hd, hsz⟩
    have hy := run_yield (P := P) (args := #[enc x]) hl (by rw [hrec]; exact hps.symm)
    rw [hrec] at hy
    refine ⟨fn, _, assign, body, hy, roundIn_of_wpIn trivial (wpIn_mono (hround m (w.heap.size + 1) pre suf x A hm hxs hsz hi) ?_)⟩
    clear hy
    rintro e a₁ A₁ hq
    cases e with
    | normal =>
      obtain ⟨hk, hbody⟩ := hq
      have hl1 := (hk.block _ (lt_of_some hl)).trans hl
      have hd1 := (hk.block _ (lt_of_some hd)).trans hd
      refine ⟨_, run_beginRound hl1 (by rw [hrec]), wpIn_mono (hbody _ (Turn.putObj hl1 rfl (by omega) _) (by simp)) ?_⟩
      obtain ⟨A₂, hA₂⟩ : ∃ A₂, A₁.putObj (w.heap.size + 1) (.loop { rec .ready none with state := .busy }) = A₂ := ⟨_, rfl⟩
      rw [hA₂]
      have hl2 : A₂.heap[w.heap.size + 1]? = some (.loop (rec .busy none)) := by rw [← hA₂]; exact (World.putObj_heap_same (lt_of_some hl1)).trans (by rw [hrec])
      have hd2 : A₂.heap[w.heap.size]? = some (.deferred (some [])) := by rw [← hA₂]; exact (World.putObj_heap_other (by omega)).trans hd1
      have ho2 : ∀ k, k ≠ w.heap.size + 1 → A₂.heap[k]? = A₁.heap[k]? := fun k hk => by rw [← hA₂]; exact World.putObj_heap_other hk
      have hs2 : A₂.heap.size = A₁.heap.size := by rw [← hA₂]; simp
      have hos : A₂.os = A₁.os ∧ A₂.tape = A₁.tape ∧ A₂.output = A₁.output := by rw [← hA₂]; exact ⟨rfl, rfl, rfl⟩
      have fin : ∀ (jump : Option Code) (C : World), Rnd n₀ w.heap.size A.heap.size A₂ C →
          (Instr.endRound (w.heap.size + 1) jump).run P C = .ok (.bool jump.isNone) (C.putObj (w.heap.size + 1) (.loop (rec (if jump.isNone then .ready else .done) jump))) ∧
          Turn w.heap.size C (C.putObj (w.heap.size + 1) (.loop (rec (if jump.isNone then .ready else .done) jump))) ∧
          (C.putObj (w.heap.size + 1) (.loop (rec (if jump.isNone then .ready else .done) jump))).heap[w.heap.size + 1]? = some (.loop (rec (if jump.isNone then .ready else .done) jump)) ∧
          (C.putObj (w.heap.size + 1) (.loop (rec (if jump.isNone then .ready else .done) jump))).heap[w.heap.size]? = some (.deferred (some [])) := fun jump C hC => by
        have hl3 := (hC.block _ (.inr ⟨by omega, by omega⟩)).trans hl2
        have hd3 := (hC.block _ (.inr ⟨by omega, by omega⟩)).trans hd2
        have hr := run_endRound (P := P) jump hl3
        refine ⟨by rw [hr, hrec], Turn.putObj hl3 rfl (by omega) _, World.putObj_heap_same (lt_of_some hl3), (World.putObj_heap_other (by omega)).trans hd3⟩
      rintro e a₃ C hp
      cases e with
      | normal =>
        obtain ⟨hC, hi3⟩ := hp
        obtain ⟨hr, ht, hl4, hd4⟩ := fin none C hC
        refine ⟨_, _, hr, .inl ⟨rfl, ⟨hI _ _ _ hi3 ht, hl4, hd4, ?_⟩, ?_⟩⟩
        · have := hC.size; have := hk.size; simp; omega
        · refine ⟨?_, ?_, ?_, ?_, fun k hk' => ?_⟩
          · exact hC.os.trans (hos.1.trans hk.os)
          · exact hC.tape.trans (hos.2.1.trans hk.tape)
          · exact hC.output.trans (hos.2.2.trans hk.output)
          · have := hC.size; have := hk.size; simp; omega
          · rw [World.putObj_heap_other (by omega), hC.block k (by omega), ho2 k (by omega), hk.block k (by omega)]
      | ret =>
        obtain ⟨hC, hi3⟩ := hp
        obtain ⟨hr, ht, hl4, hd4⟩ := fin (some .ret) C hC
        exact ⟨_, _, hr, .inr ⟨rfl, _, hIx _ _ _ _ hi3 ht, hl4, hd4⟩⟩
      | exit id =>
        obtain ⟨hC, hi3⟩ := hp
        obtain ⟨hr, ht, hl4, hd4⟩ := fin (some (.exit id)) C hC
        exact ⟨_, _, hr, .inr ⟨rfl, _, hIx _ _ _ _ hi3 ht, hl4, hd4⟩⟩
      | goto t => exact hp.elim
      | panic ch => exact hp.elim
      | outgrown => exact hp.elim
    | ret => exact hq
    | exit id => exact hq
    | goto t => exact hq
    | panic ch => exact hq
    | outgrown => exact hq
  · rintro e C ⟨⟨v, rfl⟩, ⟨hi, hl, hd, -⟩ | ⟨pre, c, hi, hl, hd⟩⟩
    · have he := run_endLoop (P := P) hl (by rw [hrec]; simp)
      rw [hrec] at he
      exact ⟨none, _, he, hdone _ _ (Nat.le_refl _) (hI _ _ _ hi (Turn.putObj hl rfl (by omega) _)) ((World.putObj_heap_other (by omega)).trans hd)⟩
    · have he := run_endLoop (P := P) hl (by rw [hrec]; simp)
      rw [hrec] at he
      exact ⟨some c, _, he, hstop _ c pre _ (Nat.le_refl _) (hIx _ _ _ _ hi (Turn.putObj hl rfl (by omega) _)) ((World.putObj_heap_other (by omega)).trans hd)⟩
end Go.Proofs.Ytmdpgaihbkjjgaa
