/- Layer 10: picks that go by are counted by function values, up to a label: over any invariant; Count. -/
import Derived.Test.YtlmiedgpibollaaTurnF
import Derived.Test.YtlmiedgpibollaaMapI
import Derived.Test.YtlmiedgpibollaaIntR
import Derived.LoopTactic
import Derived.Lib.Hide
import Derived.Shelf.Abstract
import Derived.WalkMore
namespace Go.Proofs.Ytlmiedgpibollaa
set_option linter.unusedVariables false
set_option linter.unusedSimpArgs false
open Go.ChangeShapes Go.WideShapes Go.ChangeAt Go.RowKit

theorem sl_int {W : World} {l : List Int} {b o n c : Nat} (h : Sl W 1 intC l (.slice (some ⟨b, o, none⟩) n c)) {j : Nat} (hj : j < l.length) : W.cell? ⟨b, o + j, none⟩ = some (.int .i64 l[j]) := by
  obtain ⟨p, k, e, _, _, _, h4⟩ := h.is
  cases e
  obtain ⟨b', o', e, _, h5⟩ := h4 (by intro h; subst h; simp at hj)
  cases e
  have h6 := h5 j l[j] (List.getElem?_eq_getElem hj) 0 (by omega)
  simpa [intC] using h6
theorem cells_out {S : List Nat} {W W' : World} (hk : Out S W W') : ∀ {l : List (Nat × Nat × Value)}, CellsAt W l → (∀ x ∈ l, x.1 ∉ S) → CellsAt W' l
  | [], _, _ => trivial
  | x :: _, h, hn => ⟨⟨Nat.lt_of_lt_of_le h.1.1 hk.size, (cell_of_block (hk.block _ h.1.1 (hn x (by simp)))).trans h.1.2⟩, cells_out hk h.2 (fun y hy => hn y (by simp [hy]))⟩

/-- What a tally leaves: its sum, up to which pick it went. -/
def RetTal (n : Nat) (I : Nat → Int → World → Prop) (stop : Int → Bool) (w0 : World) (e : Ending) (w' : World) : Prop :=
  ∃ (s : Int) (j : Nat), e = .returned (.int .i64 s) ∧ I j s w' ∧ j ≤ n ∧ (stop s = true ∨ j = n) ∧ Below w0.heap.size w0 w'
def RetAdd (I : Nat → Int → World → Prop) (S : List Nat) (j : Nat) (W : World) (e : Ending) (W' : World) : Prop := ∃ s', e = .returned (.int .i64 s') ∧ I (j + 1) s' W' ∧ Out S W W'

set_option maxHeartbeats 2000000 in
theorem tof_any (l : List Int) (p : Option Addr) (k : Nat) (g1 g2 g3 : Nat) (lb1 lb2 lb3 : Array Value) (S : List Nat) (I : Nat → Int → World → Prop) (asks stop : Int → Bool) (w0 w : World)
    (eg1 : ∀ args w, (callFunc g1 args).run Try.prog w = .ok (.enter g1 args) w) (eg2 : ∀ args w, (callFunc g2 args).run Try.prog w = .ok (.enter g2 args) w) (eg3 : ∀ args w, (callFunc g3 args).run Try.prog w = .ok (.enter g3 args) w)
    (hB0 : Below w0.heap.size w0 w) (hS : ∀ b ∈ S, w0.heap.size ≤ b ∧ b < w.heap.size) (hl : Sl w0 1 intC l (.slice p l.length k))
    (hI : ∀ j s W W', I j s W → Below W.heap.size W W' → I j s W') (h0 : I 0 0 w)
    (hstop : ∀ j s W, I j s W → Calls Try.prog g3 (#[.int .i64 s] ++ lb3) W fun e W' => e = .returned (.bool (stop s)) ∧ Kept W W')
    (hask : ∀ j s W y, I j s W → Calls Try.prog g1 (#[.int .i64 y] ++ lb1) W fun e W' => e = .returned (.bool (asks y)) ∧ Kept W W')
    (hadd : ∀ (j : Nat) s W y, I j s W → l[j]? = some y → asks y = true → Calls Try.prog g2 (#[.int .i64 s, .int .i64 j, .int .i64 y] ++ lb2) W (RetAdd I S j W))
    (hskip : ∀ j s W y, I j s W → l[j]? = some y → asks y = false → I (j + 1) s W) :
    Calls Try.prog 25 #[.agg #[Value.func (.func (g1)) #[] lb1, Value.func (.func (g2)) #[] lb2, Value.func (.func (g3)) #[] lb3], .slice p l.length k] w (RetTal l.length I stop w0) := by
  have H := Lib.hid hl
  obtain ⟨_, _, e1, hlk, hkm, _, hne⟩ := hl.is
  cases e1
  have hbig : l.length ≤ 9223372036854775807 := by unfold maxLen at hkm; omega
  clear hl hkm
  obtain ⟨N, hN⟩ : ∃ N, l.length = N := ⟨_, rfl⟩
  rw [hN] at hbig hlk ⊢
  have HN := Lib.hid hN
  have HNE := Lib.hid hne
  have H0 := Lib.hid h0
  have HS := Lib.hid hS
  have HB0 := Lib.hid hB0
  have HF := Lib.hid (And.intro hI (And.intro hstop (And.intro hask (And.intro hadd hskip))))
  have hsz0 : w0.heap.size ≤ w.heap.size := hB0.size
  clear hN hne h0 hS hB0 hI hstop hask hadd hskip
  go_enter Try.func25, Try.ntmps25
  go_wp2
  have hcs0 : CellsAt (w.alloc (.cells #[Value.func (.func (g1)) #[] lb1, Value.func (.func (g2)) #[] lb2, Value.func (.func (g3)) #[] lb3] 38)) [(w.heap.size, 0, Value.func (.func (g1)) #[] lb1), (w.heap.size, 1, Value.func (.func (g2)) #[] lb2), (w.heap.size, 2, Value.func (.func (g3)) #[] lb3)] := by (simp only [CellsAt]; (repeat' (first | exact trivial | (refine And.intro ?_ ?_))); all_goals (first | (focus ((try simp only [World.size_setCell, World.size_alloc]); omega)) | (repeat (first | rfl | assumption | (refine (World.cell?_alloc_past _ _ _ ?_).trans ?_; focus ((try simp only [World.size_setCell, World.size_alloc]); omega)) | (refine (World.cell?_alloc_at _ _ _ _ ?_).trans ?_; focus ((try simp only [World.size_setCell, World.size_alloc]); done)) | (refine (World.cell?_setCell_other _ _ _ _ ?_).trans ?_; focus (simp; done)) | (refine (World.cell?_setCell_other _ _ _ _ ?_).trans ?_; focus (simp; omega)) | (refine World.cell?_setCell_same' _ _ _ ?_; focus (simp; done))))))
  have HC := Lib.hid hcs0
  clear hcs0
  go_step3
  go_wp2
  go_step3
  go_wp2
  go_loopw [5, 6, 7, 10] (fun s5 _ _ s10 wr => ∃ (j : Nat) (s : Int), j ≤ N ∧ s10 = .int .i64 j ∧ s5 = .int .i64 s ∧ I j s wr ∧ CellsAt wr [(w.heap.size, 0, Value.func (.func (g1)) #[] lb1), (w.heap.size, 1, Value.func (.func (g2)) #[] lb2), (w.heap.size, 2, Value.func (.func (g3)) #[] lb3)] ∧ Below w0.heap.size w0 wr) (fun _ _ _ s10 _ => N - (intOf s10).toNat)
  case atStart => exact ⟨0, 0, by omega, rfl, rfl, HF.out.1 _ _ _ _ H0.out ((Below.refl _ _).alloc (Nat.le_refl _) _), HC.out, HB0.out.alloc hsz0 _⟩
  case round =>
    obtain ⟨j, s, hj, rfl, rfl, hIj, hcs, hB⟩ := hrel
    have hrs := HF.out.2.1 j s wr hIj
    have hbx : w.heap.size < wr.heap.size := hcs.1.1
    have hSx : ∀ x ∈ [(w.heap.size, 0, Value.func (.func (g1)) #[] lb1), (w.heap.size, 1, Value.func (.func (g2)) #[] lb2), (w.heap.size, 2, Value.func (.func (g3)) #[] lb3)], x.1 ∉ S := by
      intro x hx hS
      have := (HS.out x.1 hS).2
      simp at hx
      rcases hx with rfl | rfl | rfl <;> exact absurd this (by simp)
    have HX := Lib.hid hSx
    have HI := Lib.hid hIj
    have HBR := Lib.hid hB
    clear hSx hIj hB H0 HC HB0
    by_cases hlt : j < N
    · have hlt' : j < l.length := by rw [HN.out]; exact hlt
      obtain ⟨b, o, rfl, hb, -⟩ := HNE.out (by intro h; subst h; simp at hlt')
      have c1 := (HBR.out.cell (p := ⟨b, o + j, none⟩) hb).trans (sl_int H.out hlt')
      have hbw : b < wr.heap.size := Nat.lt_of_lt_of_le hb HBR.out.size
      have hy := List.getElem?_eq_getElem hlt'
      have i1 : (0 : Int) ≤ (j : Int) := by omega
      have i2 : (j : Int) < (N : Int) := by omega
      generalize l[j] = y at *
      have HY := Lib.hid hy
      clear hy
      have hq0 := hcs.1.2; have hq1 := hcs.2.1.2; have hq2 := hcs.2.2.1.2; have hz0 := hcs.1.1
      have HCS := Lib.hid hcs
      clear hcs
      obtain ⟨st, hst⟩ : ∃ st, stop s = st := ⟨_, rfl⟩
      have HST := Lib.hid hst
      rw [hst] at hrs
      clear hst
      cases st
      · obtain ⟨ak, has⟩ : ∃ ak, asks y = ak := ⟨_, rfl⟩
        have HAS := Lib.hid has
        clear has
        go_wp2_with (go_at_fn g3; refine hrs.mono ?_; rintro e w1 ⟨rfl, hg1⟩; have hI1 := HF.out.1 _ _ _ _ HI.out hg1; have hra := HF.out.2.2.1 j s w1 y hI1; have hcs : CellsAt w1 [(w.heap.size, 0, Value.func (.func (g1)) #[] lb1), (w.heap.size, 1, Value.func (.func (g2)) #[] lb2), (w.heap.size, 2, Value.func (.func (g3)) #[] lb3)] := cells_keep hg1 HCS.out; clear hz0 hq0 hq1 hq2; have hq0 := hcs.1.2; have hq1 := hcs.2.1.2; have hq2 := hcs.2.2.1.2; have hz0 := hcs.1.1; have HCS1 := Lib.hid hcs; have HI1 := Lib.hid hI1; clear hcs hI1; rw [HAS.out] at hra)
        cases ak
        · go_wp2_with (go_at_fn g1; refine hra.mono ?_; rintro e w2 ⟨rfl, hg2⟩)
          exact ⟨⟨j + 1, s, by omega, by go_num, rfl, HF.out.2.2.2.2 _ _ _ _ (HF.out.1 _ _ _ _ HI1.out hg2) HY.out HAS.out, cells_keep hg2 HCS1.out, kept_trans (kept_trans HBR.out hg1) hg2⟩, by simp [intOf]; omega⟩
        · go_wp2_with (go_at_fn g1; refine hra.mono ?_; rintro e w2 ⟨rfl, hg2⟩; have hI2 := HF.out.1 _ _ _ _ HI1.out hg2; have hrd := HF.out.2.2.2.1 j s w2 y hI2 HY.out HAS.out; have hcs : CellsAt w2 [(w.heap.size, 0, Value.func (.func (g1)) #[] lb1), (w.heap.size, 1, Value.func (.func (g2)) #[] lb2), (w.heap.size, 2, Value.func (.func (g3)) #[] lb3)] := cells_keep hg2 HCS1.out; clear hz0 hq0 hq1 hq2; have hq0 := hcs.1.2; have hq1 := hcs.2.1.2; have hq2 := hcs.2.2.1.2; have hz0 := hcs.1.1; have HCS2 := Lib.hid hcs; clear hcs hI2)
          go_wp2_with (go_at_fn g2; refine hrd.mono ?_; rintro e w3 ⟨s', rfl, hI3, hO3⟩)
          exact ⟨⟨j + 1, s', by omega, by go_num, rfl, hI3, cells_out hO3 HCS2.out HX.out, Out.below (kept_trans (kept_trans HBR.out hg1) hg2) hO3 (fun b hb => (HS.out b hb).1) (Nat.le_trans (Nat.le_trans HBR.out.size hg1.size) hg2.size)⟩, by simp [intOf]; omega⟩
      · go_wp2_with (go_at_fn g3; refine hrs.mono ?_; rintro e w1 ⟨rfl, hg1⟩)
        rw [Exit.noGoto_ret]
        go_ret
        exact ⟨s, j, rfl, HF.out.1 _ _ _ _ HI.out hg1, by omega, .inl HST.out, kept_trans HBR.out hg1⟩
    · have : j = N := by omega
      subst this
      clear hrs
      go_wp2
      rw [Exit.noGoto_ret]
      go_ret
      exact ⟨s, j, rfl, HI.out, Nat.le_refl _, .inr rfl, HBR.out⟩
end Go.Proofs.Ytlmiedgpibollaa
