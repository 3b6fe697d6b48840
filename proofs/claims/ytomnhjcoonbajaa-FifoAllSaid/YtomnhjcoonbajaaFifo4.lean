/- Layer 3: FifoRoom holds for every input. -/
import Derived.Test.YtomnhjcoonbajaaFifo1
import Derived.Test.YtomnhjcoonbajaaFifoW
import Derived.LoopTactic
import Derived.Deep.RegionHeld3
namespace Go.Proofs.Ytomnhjcoonbajaa
set_option linter.unusedVariables false
set_option linter.unusedSimpArgs false
open Go.ChangeShapes Go.WideShapes Go.ChangeAt Go.RowKit

theorem set4_far (wx : World) (n : Nat) (v0 v1 v2 v3 : Value) {b i : Nat} (h : b < n) : ((((wx.setCell ⟨n, 0, none⟩ v0).setCell ⟨n, 1, none⟩ v1).setCell ⟨n, 2, none⟩ v2).setCell ⟨n, 3, none⟩ v3).cell? ⟨b, i, none⟩ = wx.cell? ⟨b, i, none⟩ :=
  (((((Below.refl n wx).setCell (p := ⟨n, 0, none⟩) (Nat.le_refl _) v0).setCell (p := ⟨n, 1, none⟩) (Nat.le_refl _) v1).setCell (p := ⟨n, 2, none⟩) (Nat.le_refl _) v2).setCell (p := ⟨n, 3, none⟩) (Nat.le_refl _) v3).cell (p := ⟨b, i, none⟩) h
theorem set4_at {wx : World} {n : Nat} {u : Value} (v0 v1 v2 v3 : Value) (h : wx.cell? ⟨n, 3, none⟩ = some u) :
    ((((wx.setCell ⟨n, 0, none⟩ v0).setCell ⟨n, 1, none⟩ v1).setCell ⟨n, 2, none⟩ v2).setCell ⟨n, 3, none⟩ v3).cell? ⟨n, 0, none⟩ = some v0 ∧ ((((wx.setCell ⟨n, 0, none⟩ v0).setCell ⟨n, 1, none⟩ v1).setCell ⟨n, 2, none⟩ v2).setCell ⟨n, 3, none⟩ v3).cell? ⟨n, 1, none⟩ = some v1 ∧
    ((((wx.setCell ⟨n, 0, none⟩ v0).setCell ⟨n, 1, none⟩ v1).setCell ⟨n, 2, none⟩ v2).setCell ⟨n, 3, none⟩ v3).cell? ⟨n, 2, none⟩ = some v2 ∧ ((((wx.setCell ⟨n, 0, none⟩ v0).setCell ⟨n, 1, none⟩ v1).setCell ⟨n, 2, none⟩ v2).setCell ⟨n, 3, none⟩ v3).cell? ⟨n, 3, none⟩ = some v3 := by
  unfold World.cell? at h
  simp only at h
  split at h
  · rename_i c T f ho
    split at h
    · cases h
    · have hlt : 3 < c.size := (Array.getElem?_eq_some_iff.1 h).1
      have e := heap_set (i := 3) (heap_set (i := 2) (heap_set (i := 1) (heap_set (i := 0) ho v0) v1) v2) v3
      have l0 : 0 < c.size := by omega
      have l1 : 1 < c.size := by omega
      have l2 : 2 < c.size := by omega
      refine ⟨?_, ?_, ?_, ?_⟩ <;> (simp only [World.cell?, e]; simp [Array.getElem?_setIfInBounds, l0, l1, l2, hlt])
  · cases h
theorem fresh_nil {wr wx : World} (h : Kept (wr.alloc (.cells #[.slice none 0 0, .int .i64 0, .int .i64 0, .int .i64 0] 24)).drew wx) :
    (wx.cell? ⟨wr.heap.size, 0, none⟩ = some (.slice none 0 0) ∧ wx.cell? ⟨wr.heap.size, 1, none⟩ = some (.int .i64 0) ∧ wx.cell? ⟨wr.heap.size, 2, none⟩ = some (.int .i64 0) ∧ wx.cell? ⟨wr.heap.size, 3, none⟩ = some (.int .i64 0)) ∧
    (wx.frozen? ⟨wr.heap.size, 0, none⟩ = false ∧ wx.frozen? ⟨wr.heap.size, 1, none⟩ = false ∧ wx.frozen? ⟨wr.heap.size, 2, none⟩ = false ∧ wx.frozen? ⟨wr.heap.size, 3, none⟩ = false) ∧ wr.heap.size < wx.heap.size := by
  have hlt : wr.heap.size < (wr.alloc (.cells #[.slice none 0 0, .int .i64 0, .int .i64 0, .int .i64 0] 24)).drew.heap.size := by
    show wr.heap.size < (wr.alloc (.cells #[.slice none 0 0, .int .i64 0, .int .i64 0, .int .i64 0] 24)).heap.size
    simp
  have c : ∀ i, wx.cell? ⟨wr.heap.size, i, none⟩ = (#[.slice none 0 0, .int .i64 0, .int .i64 0, .int .i64 0] : Array Value)[i]? := fun i => (h.cell (p := ⟨wr.heap.size, i, none⟩) hlt).trans (World.cell?_alloc_at (w := wr) _ 24 wr.heap.size i rfl)
  have f : ∀ i, wx.frozen? ⟨wr.heap.size, i, none⟩ = false := fun i => (h.frozen (p := ⟨wr.heap.size, i, none⟩) hlt).trans (World.frozen?_alloc_at (w := wr) _ 24 wr.heap.size i rfl)
  exact ⟨⟨c 0, c 1, c 2, c 3⟩, ⟨f 0, f 1, f 2, f 3⟩, Nat.lt_of_lt_of_le hlt h.size⟩
/-- A call's queue that lies in a box of its own, made ahead of the call or behind it. -/
def Next (wr : World) (l : List Int) (ap : Option Addr) (r : Qu) (p1 : Option Addr) (k1 : Nat) (xb : Nat) (W : World) : Prop :=
  (W.cell? ⟨xb, 0, none⟩ = some (.slice p1 r.vals.length k1) ∧ W.cell? ⟨xb, 1, none⟩ = some (.int .i64 r.cap) ∧ W.cell? ⟨xb, 2, none⟩ = some (.int .i64 r.pol) ∧ W.cell? ⟨xb, 3, none⟩ = some (.int .i64 r.mode)) ∧ Below wr.heap.size wr W ∧ Sl W 1 intC r.vals (.slice p1 r.vals.length k1) ∧
    (r.vals ≠ [] → ∀ x, p1 = some x → (l ≠ [] ∧ ∃ y, ap = some y ∧ x.block = y.block) ∨ wr.heap.size ≤ x.block) ∧ wr.heap.size ≤ xb ∧ xb < W.heap.size
theorem Sl.setFar {W : World} {l : List Int} {p : Option Addr} {n k : Nat} (h : Sl W 1 intC l (.slice p n k)) {c : Addr} (hc : l ≠ [] → ∀ x, p = some x → x.block ≠ c.block) (u : Value) : Sl (W.setCell c u) 1 intC l (.slice p n k) := by
  obtain ⟨p, cap, hv, h1, h2, h3, h4⟩ := h.is
  cases hv
  refine ⟨p, k, rfl, h1, h2, h3, fun hne => ?_⟩
  obtain ⟨b, o, hp, hb, hcell⟩ := h4 hne
  subst hp
  refine ⟨b, o, rfl, by simpa using hb, fun i x hx j hj => ?_⟩
  have hbk : b ≠ c.block := hc hne _ rfl
  rw [World.cell?_of_block (w := W) (Below.heap_setCell _ _ _ _ hbk)]
  exact hcell i x hx j hj
theorem next_late {wr wx : World} {l : List Int} {ap p1 : Option Addr} {k1 : Nat} {r : Qu} (hgx : Kept wr.drew wx) (hS1 : Sl wx 1 intC r.vals (.slice p1 r.vals.length k1)) (hf : r.vals ≠ [] → ∀ x, p1 = some x → (l ≠ [] ∧ ∃ y, ap = some y ∧ x.block = y.block) ∨ wr.drew.heap.size ≤ x.block) :
    Next wr l ap r p1 k1 wx.heap.size (wx.alloc (.cells #[.slice p1 r.vals.length k1, .int .i64 r.cap, .int .i64 r.pol, .int .i64 r.mode] 24)) := by
  have hg : Below wr.heap.size wr wx := kept_trans (A := wr) (B := wr.drew) (by repeat' (first | (with_reducible exact Below.refl _ _) | (with_reducible assumption) | (with_reducible refine kept_alloc ?_ _) | (with_reducible refine kept_drewN ?_ _) | (with_reducible refine Below.drew ?_) | (with_reducible refine Below.setCell ?_ (by first | omega | (simp; omega) | (simp; done)) _) | (refine kept_trans ?_ (by with_reducible assumption)))) hgx
  have hgs : wr.heap.size ≤ wx.heap.size := hg.size
  exact ⟨⟨World.cell?_alloc_at (w := wx) _ _ _ 0 rfl, World.cell?_alloc_at (w := wx) _ _ _ 1 rfl, World.cell?_alloc_at (w := wx) _ _ _ 2 rfl, World.cell?_alloc_at (w := wx) _ _ _ 3 rfl⟩, hg.alloc hgs _, hS1.kept ((Below.refl _ _).alloc (Nat.le_refl _) _), hf, hgs, by simp⟩
theorem next_early {wr wx : World} {l : List Int} {ap p1 : Option Addr} {ak k1 : Nat} {r : Qu} (hS : Sl wr 1 intC l (.slice ap l.length ak)) (hgx : Kept (wr.alloc (.cells #[.slice none 0 0, .int .i64 0, .int .i64 0, .int .i64 0] 24)).drew wx) (hS1 : Sl wx 1 intC r.vals (.slice p1 r.vals.length k1))
    (hf : r.vals ≠ [] → ∀ x, p1 = some x → (l ≠ [] ∧ ∃ y, ap = some y ∧ x.block = y.block) ∨ (wr.alloc (.cells #[.slice none 0 0, .int .i64 0, .int .i64 0, .int .i64 0] 24)).drew.heap.size ≤ x.block) :
    Next wr l ap r p1 k1 wr.heap.size ((((wx.setCell ⟨wr.heap.size, 0, none⟩ (.slice p1 r.vals.length k1)).setCell ⟨wr.heap.size, 1, none⟩ (.int .i64 r.cap)).setCell ⟨wr.heap.size, 2, none⟩ (.int .i64 r.pol)).setCell ⟨wr.heap.size, 3, none⟩ (.int .i64 r.mode)) := by
  obtain ⟨⟨n0, n1, n2, n3⟩, -, hzn⟩ := fresh_nil hgx
  have hsz : (wr.alloc (.cells #[.slice none 0 0, .int .i64 0, .int .i64 0, .int .i64 0] 24)).drew.heap.size = wr.heap.size + 1 := by
    show (wr.alloc (.cells #[.slice none 0 0, .int .i64 0, .int .i64 0, .int .i64 0] 24)).heap.size = _
    simp
  have hg : Below wr.heap.size wr wx := kept_trans (A := wr) (B := (wr.alloc (.cells #[.slice none 0 0, .int .i64 0, .int .i64 0, .int .i64 0] 24)).drew) (by repeat' (first | (with_reducible exact Below.refl _ _) | (with_reducible assumption) | (with_reducible refine kept_alloc ?_ _) | (with_reducible refine kept_drewN ?_ _) | (with_reducible refine Below.drew ?_) | (with_reducible refine Below.setCell ?_ (by first | omega | (simp; omega) | (simp; done)) _) | (refine kept_trans ?_ (by with_reducible assumption)))) hgx
  have hne : r.vals ≠ [] → ∀ x, p1 = some x → x.block ≠ wr.heap.size := fun h x hx => by
    rcases hf h x hx with ⟨hl, y, hy, e⟩ | h'
    · obtain ⟨_, _, e1, _, _, _, h4⟩ := hS.is
      cases e1
      obtain ⟨b, o, h1, h2, _⟩ := h4 hl
      rw [hy] at h1; cases h1
      rw [e]; simp at h2 ⊢; omega
    · rw [hsz] at h'; omega
  refine ⟨set4_at _ _ _ _ n3, ?_, Sl.setFar (Sl.setFar (Sl.setFar (Sl.setFar hS1 hne _) hne _) hne _) hne _, fun h x hx => (hf h x hx).imp id (fun h' => by rw [hsz] at h'; omega), Nat.le_refl _, by simpa using hzn⟩
  · exact (((hg.setCell (p := ⟨wr.heap.size, 0, none⟩) (Nat.le_refl _) _).setCell (p := ⟨wr.heap.size, 1, none⟩) (Nat.le_refl _) _).setCell (p := ⟨wr.heap.size, 2, none⟩) (Nat.le_refl _) _).setCell (p := ⟨wr.heap.size, 3, none⟩) (Nat.le_refl _) _
/-- What stands at the head of a round: the queue is in the first box. -/
def Held (w : World) (q : Qu) (j : Nat) (a : Qu) (wr : World) : Prop :=
  ∃ (ap : Option Addr) (ak : Nat), CellsAt wr [(w.heap.size, 0, .slice ap a.vals.length ak), (w.heap.size, 1, .int .i64 a.cap), (w.heap.size, 2, .int .i64 a.pol), (w.heap.size, 3, .int .i64 a.mode)] ∧ (∀ i, wr.frozen? ⟨w.heap.size, i, none⟩ = false) ∧ Sl wr 1 intC a.vals (.slice ap a.vals.length ak) ∧ (a.vals ≠ [] → ∀ x, ap = some x → x.block ≠ w.heap.size) ∧
    a.vals.length ≤ q.vals.length + j ∧ Below w.heap.size w wr

set_option maxRecDepth 100000 in
set_option maxHeartbeats 8000000 in
theorem fifoRoom_walk (q : Qu) (qp : Option Addr) (qk : Nat) (hq : q.ok) (hqm : q.vals.length ≤ maxLen) (l : List En) (lv : Value) (hl : ∀ x ∈ l, x.ok) (hlm : l.length ≤ maxLen) (w : World) (hqs : Sl w 1 intC q.vals (.slice qp q.vals.length qk)) (hls : Sl w En.size En.cells l lv) :
    Calls Try.prog 5 #[.agg #[.slice qp q.vals.length qk, .int .i64 q.cap, .int .i64 q.pol, .int .i64 q.mode], lv] w fun e w' => e = .returned (.bool true) ∧ Kept w w' := by
  by_cases a1 : (100 : Int) < (q.vals.length : Int)
  · obtain ⟨lp, lk, rfl, _⟩ := hls.is
    go_enter Try.func5, Try.ntmps5; go_wp2_with fail; refine (fifoawake_any _).mono ?_; rintro e wy ⟨rfl, hgy⟩; have hcs : CellsAt wy [(w.heap.size, 0, .slice qp q.vals.length qk), (w.heap.size, 1, .int .i64 q.cap), (w.heap.size, 2, .int .i64 q.pol), (w.heap.size, 3, .int .i64 q.mode)] := cells_keep hgy (by (simp only [CellsAt]; (repeat' (first | exact trivial | (refine And.intro ?_ ?_))); all_goals (first | (focus ((try simp only [World.size_setCell, World.size_alloc]); omega)) | (repeat (first | rfl | assumption | (refine (World.cell?_alloc_past _ _ _ ?_).trans ?_; focus ((try simp only [World.size_setCell, World.size_alloc]); omega)) | (refine (World.cell?_alloc_at _ _ _ _ ?_).trans ?_; focus ((try simp only [World.size_setCell, World.size_alloc]); done)) | (refine (World.cell?_setCell_other _ _ _ _ ?_).trans ?_; focus (simp; done)) | (refine (World.cell?_setCell_other _ _ _ _ ?_).trans ?_; focus (simp; omega)) | (refine World.cell?_setCell_same' _ _ _ ?_; focus (first | (simp; done) | (simp [*]; done)))))))); have hq0 := hcs.1.2; have hq1 := hcs.2.1.2; have hq2 := hcs.2.2.1.2; have hq3 := hcs.2.2.2.1.2; have hz0 := hcs.1.1; go_wp2; all_goals (go_ret; exact ⟨rfl, by repeat' (first | (with_reducible exact Below.refl _ _) | (with_reducible assumption) | (with_reducible refine kept_alloc ?_ _) | (with_reducible refine kept_drewN ?_ _) | (with_reducible refine Below.drew ?_) | (with_reducible refine Below.setCell ?_ (by first | omega | (simp; omega) | (simp; done)) _) | (refine kept_trans ?_ (by with_reducible assumption)))⟩)
  by_cases a2 : (100 : Int) < (l.length : Int)
  · obtain ⟨lp, lk, rfl, _⟩ := hls.is
    go_enter Try.func5, Try.ntmps5; go_wp2_with fail; refine (fifoawake_any _).mono ?_; rintro e wy ⟨rfl, hgy⟩; have hcs : CellsAt wy [(w.heap.size, 0, .slice qp q.vals.length qk), (w.heap.size, 1, .int .i64 q.cap), (w.heap.size, 2, .int .i64 q.pol), (w.heap.size, 3, .int .i64 q.mode)] := cells_keep hgy (by (simp only [CellsAt]; (repeat' (first | exact trivial | (refine And.intro ?_ ?_))); all_goals (first | (focus ((try simp only [World.size_setCell, World.size_alloc]); omega)) | (repeat (first | rfl | assumption | (refine (World.cell?_alloc_past _ _ _ ?_).trans ?_; focus ((try simp only [World.size_setCell, World.size_alloc]); omega)) | (refine (World.cell?_alloc_at _ _ _ _ ?_).trans ?_; focus ((try simp only [World.size_setCell, World.size_alloc]); done)) | (refine (World.cell?_setCell_other _ _ _ _ ?_).trans ?_; focus (simp; done)) | (refine (World.cell?_setCell_other _ _ _ _ ?_).trans ?_; focus (simp; omega)) | (refine World.cell?_setCell_same' _ _ _ ?_; focus (first | (simp; done) | (simp [*]; done)))))))); have hq0 := hcs.1.2; have hq1 := hcs.2.1.2; have hq2 := hcs.2.2.1.2; have hq3 := hcs.2.2.2.1.2; have hz0 := hcs.1.1; go_wp2; all_goals (go_ret; exact ⟨rfl, by repeat' (first | (with_reducible exact Below.refl _ _) | (with_reducible assumption) | (with_reducible refine kept_alloc ?_ _) | (with_reducible refine kept_drewN ?_ _) | (with_reducible refine Below.drew ?_) | (with_reducible refine Below.setCell ?_ (by first | omega | (simp; omega) | (simp; done)) _) | (refine kept_trans ?_ (by with_reducible assumption)))⟩)
  by_cases a3 : q.cap < (q.vals.length : Int)
  · obtain ⟨lp, lk, rfl, _⟩ := hls.is
    go_enter Try.func5, Try.ntmps5; go_wp2_with fail; refine (fifoawake_any _).mono ?_; rintro e wy ⟨rfl, hgy⟩; have hcs : CellsAt wy [(w.heap.size, 0, .slice qp q.vals.length qk), (w.heap.size, 1, .int .i64 q.cap), (w.heap.size, 2, .int .i64 q.pol), (w.heap.size, 3, .int .i64 q.mode)] := cells_keep hgy (by (simp only [CellsAt]; (repeat' (first | exact trivial | (refine And.intro ?_ ?_))); all_goals (first | (focus ((try simp only [World.size_setCell, World.size_alloc]); omega)) | (repeat (first | rfl | assumption | (refine (World.cell?_alloc_past _ _ _ ?_).trans ?_; focus ((try simp only [World.size_setCell, World.size_alloc]); omega)) | (refine (World.cell?_alloc_at _ _ _ _ ?_).trans ?_; focus ((try simp only [World.size_setCell, World.size_alloc]); done)) | (refine (World.cell?_setCell_other _ _ _ _ ?_).trans ?_; focus (simp; done)) | (refine (World.cell?_setCell_other _ _ _ _ ?_).trans ?_; focus (simp; omega)) | (refine World.cell?_setCell_same' _ _ _ ?_; focus (first | (simp; done) | (simp [*]; done)))))))); have hq0 := hcs.1.2; have hq1 := hcs.2.1.2; have hq2 := hcs.2.2.1.2; have hq3 := hcs.2.2.2.1.2; have hz0 := hcs.1.1; go_wp2; all_goals (go_ret; exact ⟨rfl, by repeat' (first | (with_reducible exact Below.refl _ _) | (with_reducible assumption) | (with_reducible refine kept_alloc ?_ _) | (with_reducible refine kept_drewN ?_ _) | (with_reducible refine Below.drew ?_) | (with_reducible refine Below.setCell ?_ (by first | omega | (simp; omega) | (simp; done)) _) | (refine kept_trans ?_ (by with_reducible assumption)))⟩)
  have d1 : decide ((100 : Int) < (q.vals.length : Int)) = false := by simp; omega
  have d2 : decide ((100 : Int) < (l.length : Int)) = false := by simp; omega
  have d3 : decide (q.cap < (q.vals.length : Int)) = false := by simp; omega
  have hlen : q.vals.length ≤ 100 := by omega
  have hlen2 : l.length ≤ 100 := by omega
  have hroom : (q.vals.length : Int) ≤ q.cap := by omega
  have hls5 : Sl w 5 En.cells l lv := hls
  obtain ⟨lp, lk, rfl, _, _, _, hec⟩ := hls5.is
  have hech := Lib.hid hec
  clear a1 a2 a3 hec
  go_enter Try.func5, Try.ntmps5; go_wp2_with fail; refine (fifoawake_any _).mono ?_; rintro e wy ⟨rfl, hgy⟩; have hcs : CellsAt wy [(w.heap.size, 0, .slice qp q.vals.length qk), (w.heap.size, 1, .int .i64 q.cap), (w.heap.size, 2, .int .i64 q.pol), (w.heap.size, 3, .int .i64 q.mode)] := cells_keep hgy (by (simp only [CellsAt]; (repeat' (first | exact trivial | (refine And.intro ?_ ?_))); all_goals (first | (focus ((try simp only [World.size_setCell, World.size_alloc]); omega)) | (repeat (first | rfl | assumption | (refine (World.cell?_alloc_past _ _ _ ?_).trans ?_; focus ((try simp only [World.size_setCell, World.size_alloc]); omega)) | (refine (World.cell?_alloc_at _ _ _ _ ?_).trans ?_; focus ((try simp only [World.size_setCell, World.size_alloc]); done)) | (refine (World.cell?_setCell_other _ _ _ _ ?_).trans ?_; focus (simp; done)) | (refine (World.cell?_setCell_other _ _ _ _ ?_).trans ?_; focus (simp; omega)) | (refine World.cell?_setCell_same' _ _ _ ?_; focus (first | (simp; done) | (simp [*]; done)))))))); have hq0 := hcs.1.2; have hq1 := hcs.2.1.2; have hq2 := hcs.2.2.1.2; have hq3 := hcs.2.2.2.1.2; have hz0 := hcs.1.1
  have hB0 : Below w.heap.size w wy := kept_trans (by repeat' (first | (with_reducible exact Below.refl _ _) | (with_reducible assumption) | (with_reducible refine kept_alloc ?_ _) | (with_reducible refine kept_drewN ?_ _) | (with_reducible refine Below.drew ?_) | (with_reducible refine Below.setCell ?_ (by first | omega | (simp; omega) | (simp; done)) _) | (refine kept_trans ?_ (by with_reducible assumption)))) hgy
  have hfr0 : ∀ i, wy.frozen? ⟨w.heap.size, i, none⟩ = false := fun i => (hgy.frozen (p := ⟨w.heap.size, i, none⟩) (by simp)).trans (World.frozen?_alloc_at _ _ _ _ rfl)
  have hfar0 : q.vals ≠ [] → ∀ x, qp = some x → x.block ≠ w.heap.size := fun hne x hx => by
    obtain ⟨_, _, e1, _, _, _, h4⟩ := hqs.is
    cases e1
    obtain ⟨b, o, h1, h2, _⟩ := h4 hne
    rw [hx] at h1; cases h1
    simp; omega
  have hfr0h := Lib.hid hfr0
  clear hfr0
  go_wp2
  go_loopw [6] (fun i wr => ∃ (j : Nat) (a : Qu), j ≤ l.length ∧ i = .int .i64 j ∧ (a.vals.length : Int) ≤ q.cap ∧ a.cap = q.cap ∧ Held w q j a wr) (fun i _ => l.length - (intOf i).toNat)
  case atStart => exact ⟨0, q, by omega, rfl, hroom, rfl, qp, qk, hcs, hfr0h.out, hqs.kept hB0, hfar0, by omega, hB0⟩
  case round =>
    obtain ⟨j, a, hj, rfl, hra, hca, ap, ak, hcs, hfr, hS, hfar, hal, hB⟩ := hrel
    clear hq0 hq1 hq2 hq3 hz0
    have hq0 := hcs.1.2; have hq1 := hcs.2.1.2; have hq2 := hcs.2.2.1.2; have hq3 := hcs.2.2.2.1.2; have hz0 := hcs.1.1
    have hfrh := Lib.hid hfr
    have hfarh := Lib.hid hfar
    have hcah := Lib.hid hca
    clear hfr hfar hca
    by_cases hlt : j < l.length
    · obtain ⟨bl, o, rfl, hblk, hcell⟩ := hech.out (by intro h; subst h; simp at hlt)
      have hx := hcell j l[j] (List.getElem?_eq_getElem hlt)
      generalize l[j] = x at hx
      have c0 := (hB.cell (p := ⟨bl, _, none⟩) hblk).trans (hx 0 (by omega))
      have c1 := (hB.cell (p := ⟨bl, _, none⟩) hblk).trans (hx 1 (by omega))
      have c2 := (hB.cell (p := ⟨bl, _, none⟩) hblk).trans (hx 2 (by omega))
      have c3 := (hB.cell (p := ⟨bl, _, none⟩) hblk).trans (hx 3 (by omega))
      have c4 := (hB.cell (p := ⟨bl, _, none⟩) hblk).trans (hx 4 (by omega))
      simp [En.cells] at c0 c1 c2 c3 c4
      clear hx hcell
      have hblw : bl < wr.heap.size := Nat.lt_of_lt_of_le hblk hB.size
      have i1 : (0 : Int) ≤ (j : Int) := by omega
      have i2 : (j : Int) < (l.length : Int) := by omega
      have hrt := tell_room (a := a) x (by rw [hcah.out]; exact hra)
      have htl := tell_len a x
      have hts := tell_stays a x
      have hrth := Lib.hid hrt
      have htsh := Lib.hid hts
      clear hrt hts
      generalize hrr : a.tell x = rr at *
      have hrrh := Lib.hid hrr
      clear hrr
      obtain ⟨r, may⟩ := rr
      simp only at hrth htsh htl
      go_wp2
      go_region_held3? (fun w' => w'.cell? ⟨w.heap.size, 0, none⟩ = some (.slice ap a.vals.length ak) ∧ w'.cell? ⟨w.heap.size, 1, none⟩ = some (.int .i64 a.cap) ∧ w'.cell? ⟨w.heap.size, 2, none⟩ = some (.int .i64 a.pol) ∧ w'.cell? ⟨w.heap.size, 3, none⟩ = some (.int .i64 a.mode) ∧
          w'.cell? ⟨bl, o + j * 5, none⟩ = some (.int .i64 x.th) ∧ w'.cell? ⟨bl, o + j * 5 + 1, none⟩ = some (.int .i64 x.ki) ∧ w'.cell? ⟨bl, o + j * 5 + 2, none⟩ = some (.int .i64 x.va) ∧ w'.cell? ⟨bl, o + j * 5 + 3, none⟩ = some (.int .i64 x.re) ∧ w'.cell? ⟨bl, o + j * 5 + 4, none⟩ = some (.int .i64 x.go))
        (first
          | (go_split_ands; refine ⟨?_, ?_, ?_, ?_, ?_, ?_, ?_, ?_, ?_⟩ <;> first
              | (with_reducible assumption)
              | (with_reducible (refine (World.cell?_alloc_past _ _ _ (by with_reducible assumption)).trans ?_; assumption))
              | (with_reducible (refine (set4_far _ _ _ _ _ _ (by with_reducible assumption)).trans ?_; assumption)))
          | go_keep)
        ((go_at_call 11; refine (pdo_any a x ap ak _ (hS.kept (by repeat' (first | (with_reducible exact Below.refl _ _) | (with_reducible assumption) | (with_reducible refine kept_alloc ?_ _) | (with_reducible refine kept_drewN ?_ _) | (with_reducible refine Below.drew ?_) | (with_reducible refine Below.setCell ?_ (by first | omega | (simp; omega) | (simp; done)) _) | (refine kept_trans ?_ (by with_reducible assumption))))) (by omega)).mono ?_; rw [hrrh.out]; rintro e wx ⟨p1, k1, rfl, hS1, hgx, hf1⟩; simp only at hS1 hf1; have hgw : Below wr.heap.size wr wx := kept_trans (by repeat' (first | (with_reducible exact Below.refl _ _) | (with_reducible assumption) | (with_reducible refine kept_alloc ?_ _) | (with_reducible refine kept_drewN ?_ _) | (with_reducible refine Below.drew ?_) | (with_reducible refine Below.setCell ?_ (by first | omega | (simp; omega) | (simp; done)) _) | (refine kept_trans ?_ (by with_reducible assumption)))) hgx; have s0 := (hgw.cell (p := ⟨w.heap.size, 0, none⟩) hz0).trans hq0; have s1 := (hgw.cell (p := ⟨w.heap.size, 1, none⟩) hz0).trans hq1; have s2 := (hgw.cell (p := ⟨w.heap.size, 2, none⟩) hz0).trans hq2; have s3 := (hgw.cell (p := ⟨w.heap.size, 3, none⟩) hz0).trans hq3; have s4 := (hgw.cell (p := ⟨bl, _, none⟩) hblw).trans c0; have s5 := (hgw.cell (p := ⟨bl, _, none⟩) hblw).trans c1; have s6 := (hgw.cell (p := ⟨bl, _, none⟩) hblw).trans c2; have s7 := (hgw.cell (p := ⟨bl, _, none⟩) hblw).trans c3; have s8 := (hgw.cell (p := ⟨bl, _, none⟩) hblw).trans c4; have hzw : w.heap.size < wx.heap.size := (by have := hgw.size; omega); have hbw : bl < wx.heap.size := (by have := hgw.size; omega); (first | (have hlate : Kept wr.drew wx := (by with_reducible exact hgx)) | (obtain ⟨⟨n0, n1, n2, n3⟩, ⟨nf0, nf1, nf2, nf3⟩, hzn⟩ := fresh_nil hgx))))
      all_goals
        first
          | (have hN := next_late (wr := wr) hgx hS1 hf1; generalize wx.alloc (.cells #[.slice p1 r.vals.length k1, .int .i64 r.cap, .int .i64 r.pol, .int .i64 r.mode] 24) = W at hN ⊢; generalize wx.heap.size = xb at hN ⊢)
          | (have hN := next_early (wr := wr) hS hgx hS1 hf1; generalize ((((wx.setCell ⟨wr.heap.size, 0, none⟩ (.slice p1 r.vals.length k1)).setCell ⟨wr.heap.size, 1, none⟩ (.int .i64 r.cap)).setCell ⟨wr.heap.size, 2, none⟩ (.int .i64 r.pol)).setCell ⟨wr.heap.size, 3, none⟩ (.int .i64 r.mode)) = W at hN ⊢; generalize wr.heap.size = xb at hN ⊢)
      all_goals
        obtain ⟨⟨x0, x1, x2, x3⟩, hgW, hSW, hfW, hxb, hxs⟩ := hN
        clear hgx hS1 hf1 hgw s0 s1 s2 s3 s4 s5 s6 s7 s8 hzw hbw
        have t0 := (hgW.cell (p := ⟨w.heap.size, 0, none⟩) hz0).trans hq0
        have t1 := (hgW.cell (p := ⟨w.heap.size, 1, none⟩) hz0).trans hq1
        have t2 := (hgW.cell (p := ⟨w.heap.size, 2, none⟩) hz0).trans hq2
        have t3 := (hgW.cell (p := ⟨w.heap.size, 3, none⟩) hz0).trans hq3
        have tf := fun i => (hgW.frozen (p := ⟨w.heap.size, i, none⟩) hz0).trans (hfrh.out i)
        have tf0 := tf 0
        have tf1 := tf 1
        have tf2 := tf 2
        have tf3 := tf 3
        have tfh := Lib.hid tf
        have hzW : w.heap.size < W.heap.size := by have := hgW.size; omega
        have hne : w.heap.size ≠ xb := by omega
        have hBW : Below w.heap.size w W := hB.trans (hgW.mono hB.size)
        have r1 : (r.vals.length : Int) ≤ a.cap := hrth.out.1
        have r1b : decide (a.cap < (r.vals.length : Int)) = false := by simp; omega
        have hapc := hcah.out
        have hcapr : r.cap = a.cap := hrth.out.2.2
        clear tf hq0 hq1 hq2 hq3 c0 c1 c2 c3 c4
        have hfin : ∀ W2, Below W.heap.size W W2 → Held w q (j + 1) r ((((W2.setCell ⟨w.heap.size, 0, none⟩ (.slice p1 r.vals.length k1)).setCell ⟨w.heap.size, 1, none⟩ (.int .i64 r.cap)).setCell ⟨w.heap.size, 2, none⟩ (.int .i64 r.pol)).setCell ⟨w.heap.size, 3, none⟩ (.int .i64 r.mode)) := fun W2 hW2 => by
          have hnw : r.vals ≠ [] → ∀ x, p1 = some x → x.block ≠ w.heap.size := fun h x hx => by
            rcases hfW h x hx with ⟨hl, y, hy, e⟩ | h'
            · rw [e]; exact hfarh.out hl y hy
            · omega
          have h3 : W2.cell? ⟨w.heap.size, 3, none⟩ = some (.int .i64 a.mode) := (hW2.cell (p := ⟨w.heap.size, 3, none⟩) hzW).trans t3
          have hs4 := set4_at (.slice p1 r.vals.length k1) (.int .i64 r.cap) (.int .i64 r.pol) (.int .i64 r.mode) h3
          have hB2 : Below w.heap.size w W2 := hBW.trans (hW2.mono hBW.size)
          refine ⟨p1, k1, ⟨⟨?_, hs4.1⟩, ⟨?_, hs4.2.1⟩, ⟨?_, hs4.2.2.1⟩, ⟨?_, hs4.2.2.2⟩, trivial⟩, fun i => ?_, Sl.setFar (Sl.setFar (Sl.setFar (Sl.setFar (hSW.kept hW2) hnw _) hnw _) hnw _) hnw _, hnw, by omega, ?_⟩
          · have := hW2.size; simp; omega
          · have := hW2.size; simp; omega
          · have := hW2.size; simp; omega
          · have := hW2.size; simp; omega
          · have hf2 : W2.frozen? ⟨w.heap.size, i, none⟩ = false := (hW2.frozen (p := ⟨w.heap.size, i, none⟩) hzW).trans (tfh.out i)
            simpa using hf2
          · exact (((hB2.setCell (p := ⟨w.heap.size, 0, none⟩) (Nat.le_refl _) _).setCell (p := ⟨w.heap.size, 1, none⟩) (Nat.le_refl _) _).setCell (p := ⟨w.heap.size, 2, none⟩) (Nat.le_refl _) _).setCell (p := ⟨w.heap.size, 3, none⟩) (Nat.le_refl _) _
        have hfinh := Lib.hid hfin
        have hcaprh := Lib.hid hcapr
        have hapch := Lib.hid hapc
        clear hfin hcapr hapc
        cases hmo : (a.mode != 0) <;> cases may
        · go_wp2_with fail
          refine (rsame_any r a p1 ap k1 ak _ (hSW.kept (by repeat' (first | (with_reducible exact Below.refl _ _) | (with_reducible assumption) | (with_reducible refine kept_alloc ?_ _) | (with_reducible refine kept_drewN ?_ _) | (with_reducible refine Below.drew ?_) | (with_reducible refine Below.setCell ?_ (by first | omega | (simp; omega) | (simp; done)) _) | (refine kept_trans ?_ (by with_reducible assumption))))) (hS.kept (by repeat' (first | (with_reducible exact Below.refl _ _) | (with_reducible assumption) | (with_reducible refine kept_alloc ?_ _) | (with_reducible refine kept_drewN ?_ _) | (with_reducible refine Below.drew ?_) | (with_reducible refine Below.setCell ?_ (by first | omega | (simp; omega) | (simp; done)) _) | (refine kept_trans ?_ (by with_reducible assumption))))) (by omega)).mono ?_
          rintro e wz ⟨rfl, hgz⟩
          rw [show sameB r a = true by have := htsh.out (by first | rfl | trivial); rw [this]; exact same_refl a]
          have x0 := (hgz.cell (p := ⟨xb, 0, none⟩) hxs).trans x0
          have x1 := (hgz.cell (p := ⟨xb, 1, none⟩) hxs).trans x1
          have x2 := (hgz.cell (p := ⟨xb, 2, none⟩) hxs).trans x2
          have x3 := (hgz.cell (p := ⟨xb, 3, none⟩) hxs).trans x3
          have t0 := (hgz.cell (p := ⟨w.heap.size, 0, none⟩) hzW).trans t0
          have t1 := (hgz.cell (p := ⟨w.heap.size, 1, none⟩) hzW).trans t1
          have t2 := (hgz.cell (p := ⟨w.heap.size, 2, none⟩) hzW).trans t2
          have t3 := (hgz.cell (p := ⟨w.heap.size, 3, none⟩) hzW).trans t3
          have tf0 := (hgz.frozen (p := ⟨w.heap.size, 0, none⟩) hzW).trans tf0
          have tf1 := (hgz.frozen (p := ⟨w.heap.size, 1, none⟩) hzW).trans tf1
          have tf2 := (hgz.frozen (p := ⟨w.heap.size, 2, none⟩) hzW).trans tf2
          have tf3 := (hgz.frozen (p := ⟨w.heap.size, 3, none⟩) hzW).trans tf3
          have hzW2 : w.heap.size < wz.heap.size := by have := hgz.size; omega
          have hxs2 : xb < wz.heap.size := by have := hgz.size; omega
          go_wp2
          go_roundw
          case rel => exact ⟨j + 1, r, by omega, by go_num, by rw [← hapch.out]; exact r1, hcaprh.out.trans hapch.out, hfinh.out _ (by repeat' (first | (with_reducible exact Below.refl _ _) | (with_reducible assumption) | (with_reducible refine kept_alloc ?_ _) | (with_reducible refine kept_drewN ?_ _) | (with_reducible refine Below.drew ?_) | (with_reducible refine Below.setCell ?_ (by first | omega | (simp; omega) | (simp; done)) _) | (refine kept_trans ?_ (by with_reducible assumption))))⟩
          case measure => simp [intOf]; omega
        · go_wp2
          go_roundw
          case rel => exact ⟨j + 1, r, by omega, by go_num, by rw [← hapch.out]; exact r1, hcaprh.out.trans hapch.out, hfinh.out _ (by repeat' (first | (with_reducible exact Below.refl _ _) | (with_reducible assumption) | (with_reducible refine kept_alloc ?_ _) | (with_reducible refine kept_drewN ?_ _) | (with_reducible refine Below.drew ?_) | (with_reducible refine Below.setCell ?_ (by first | omega | (simp; omega) | (simp; done)) _) | (refine kept_trans ?_ (by with_reducible assumption))))⟩
          case measure => simp [intOf]; omega
        · have hm1 : r.vals.length ≤ a.vals.length := hrth.out.2.1 (by simpa using hmo)
          have hm2 : decide (a.vals.length < r.vals.length) = false := by simp; omega
          go_wp2_with fail
          refine (rsame_any r a p1 ap k1 ak _ (hSW.kept (by repeat' (first | (with_reducible exact Below.refl _ _) | (with_reducible assumption) | (with_reducible refine kept_alloc ?_ _) | (with_reducible refine kept_drewN ?_ _) | (with_reducible refine Below.drew ?_) | (with_reducible refine Below.setCell ?_ (by first | omega | (simp; omega) | (simp; done)) _) | (refine kept_trans ?_ (by with_reducible assumption))))) (hS.kept (by repeat' (first | (with_reducible exact Below.refl _ _) | (with_reducible assumption) | (with_reducible refine kept_alloc ?_ _) | (with_reducible refine kept_drewN ?_ _) | (with_reducible refine Below.drew ?_) | (with_reducible refine Below.setCell ?_ (by first | omega | (simp; omega) | (simp; done)) _) | (refine kept_trans ?_ (by with_reducible assumption))))) (by omega)).mono ?_
          rintro e wz ⟨rfl, hgz⟩
          rw [show sameB r a = true by have := htsh.out (by first | rfl | trivial); rw [this]; exact same_refl a]
          have x0 := (hgz.cell (p := ⟨xb, 0, none⟩) hxs).trans x0
          have x1 := (hgz.cell (p := ⟨xb, 1, none⟩) hxs).trans x1
          have x2 := (hgz.cell (p := ⟨xb, 2, none⟩) hxs).trans x2
          have x3 := (hgz.cell (p := ⟨xb, 3, none⟩) hxs).trans x3
          have t0 := (hgz.cell (p := ⟨w.heap.size, 0, none⟩) hzW).trans t0
          have t1 := (hgz.cell (p := ⟨w.heap.size, 1, none⟩) hzW).trans t1
          have t2 := (hgz.cell (p := ⟨w.heap.size, 2, none⟩) hzW).trans t2
          have t3 := (hgz.cell (p := ⟨w.heap.size, 3, none⟩) hzW).trans t3
          have tf0 := (hgz.frozen (p := ⟨w.heap.size, 0, none⟩) hzW).trans tf0
          have tf1 := (hgz.frozen (p := ⟨w.heap.size, 1, none⟩) hzW).trans tf1
          have tf2 := (hgz.frozen (p := ⟨w.heap.size, 2, none⟩) hzW).trans tf2
          have tf3 := (hgz.frozen (p := ⟨w.heap.size, 3, none⟩) hzW).trans tf3
          have hzW2 : w.heap.size < wz.heap.size := by have := hgz.size; omega
          have hxs2 : xb < wz.heap.size := by have := hgz.size; omega
          go_wp2
          go_roundw
          case rel => exact ⟨j + 1, r, by omega, by go_num, by rw [← hapch.out]; exact r1, hcaprh.out.trans hapch.out, hfinh.out _ (by repeat' (first | (with_reducible exact Below.refl _ _) | (with_reducible assumption) | (with_reducible refine kept_alloc ?_ _) | (with_reducible refine kept_drewN ?_ _) | (with_reducible refine Below.drew ?_) | (with_reducible refine Below.setCell ?_ (by first | omega | (simp; omega) | (simp; done)) _) | (refine kept_trans ?_ (by with_reducible assumption))))⟩
          case measure => simp [intOf]; omega
        · have hm1 : r.vals.length ≤ a.vals.length := hrth.out.2.1 (by simpa using hmo)
          have hm2 : decide (a.vals.length < r.vals.length) = false := by simp; omega
          go_wp2
          go_roundw
          case rel => exact ⟨j + 1, r, by omega, by go_num, by rw [← hapch.out]; exact r1, hcaprh.out.trans hapch.out, hfinh.out _ (by repeat' (first | (with_reducible exact Below.refl _ _) | (with_reducible assumption) | (with_reducible refine kept_alloc ?_ _) | (with_reducible refine kept_drewN ?_ _) | (with_reducible refine Below.drew ?_) | (with_reducible refine Below.setCell ?_ (by first | omega | (simp; omega) | (simp; done)) _) | (refine kept_trans ?_ (by with_reducible assumption))))⟩
          case measure => simp [intOf]; omega
    · have : j = l.length := by omega
      subst this
      go_wp2
      all_goals (go_ret; exact ⟨rfl, by repeat' (first | (with_reducible exact Below.refl _ _) | (with_reducible assumption) | (with_reducible refine kept_alloc ?_ _) | (with_reducible refine kept_drewN ?_ _) | (with_reducible refine Below.drew ?_) | (with_reducible refine Below.setCell ?_ (by first | omega | (simp; omega) | (simp; done)) _) | (refine kept_trans ?_ (by with_reducible assumption)))⟩)
set_option maxRecDepth 100000 in
theorem fifoRoom_lifted (os : Os) (started : os.Started) (H : Type) (enc : TypeId × Value → H) :
    ReturnsInHanded {} Try.checked os 5 .any (Rows.fifoRoomSpec.pre6 enc Try.prog Try.f5 Rows.fifoRoomRow.domain false) (Rows.fifoRoomSpec.post enc Try.prog Try.f5 false true false false) := by
  refine returnsInHanded_of_change (C := Try.checked) own started (by kernel_rfl) Try.func5
    (ChangeSpec.witness6 (enc := enc) (C := Try.checked) false ⟨#[], #[.agg #[.slice none 0 0, .int .i64 0, .int .i64 0, .int .i64 0], .slice none 0 0], []⟩ 8 (by kernel_rfl) (by kernel_rfl) (by kernel_rfl) (by kernel_rfl)) ?_
  intro W base args ds gs before hval0 hW hcnd _
  have hval : ∀ (j : Nat) t v, Try.f5.params[j]? = some t → args[j]? = some v → Value.okWide Try.prog W .any base t v := hval0
  have hW' := hW
  obtain ⟨p, q, hA0, hV, rfl, hfz, hnd⟩ := hW
  have hA : DataW.TrodAll enc Try.prog W 0 (fun _ => true) true Try.f5.params.toList args.toList ds p := hA0
  rw [Try.params5] at hA hval
  obtain ⟨v0, vs0, d0, ds0, p0, q0, hargs, rfl, rfl, h0, r0⟩ := trodAll_cons hA
  obtain ⟨v1, vs1, d1, ds1, p1, q1, rfl, rfl, rfl, h1, r1⟩ := trodAll_cons r0
  obtain ⟨rfl, rfl, rfl⟩ := trodAll_nil r1
  obtain rfl : args = #[v0, v1] := by cases args; simp_all
  obtain ⟨rfl, rfl⟩ := trodVars_none hV
  obtain ⟨qcs, rfl, qrd⟩ := open_struct (g := 9) (l := Qu.shape) Try.underlying24 (by kernel_rfl) (hval 0 24 v0 rfl rfl) h0
  obtain ⟨q, qp, qk, hcs0, qsl, qok, qml⟩ := Qu.of_read qrd
  subst hcs0
  obtain ⟨l, lsl, lok, lml⟩ := Sl.of_read En.cells En.ok (by decide) (open_row (g := 9) (l := En.shape) Try.underlying25 (by kernel_rfl) (hval 1 25 v1 rfl rfl) h1) (fun vs h => En.of_read h)
  clear hA0 hval0
  refine (fifoRoom_walk q qp qk qok qml l v1 lok lml W qsl lsl).mono fun e W' ⟨he, hg⟩ => ?_
  subst he
  exact ⟨_, rfl, law_post laid hW' rfl (by kernel_rfl) rfl Try.underlying4 rfl hg⟩

/-- The statement, whole. -/
theorem fifoRoom_holds : Rows.FifoRoomSaid :=
  OpenClaim.holds_of_wide 5 Try.f5 rfl rfl rfl rfl rfl rfl rfl ⟨rfl, rfl, rfl, rfl, rfl⟩ rfl rfl rfl rfl rfl (by kernel_rfl) Try.func5 (by kernel_rfl)
    (of_decide_eq_true (by kernel_rfl)) (by unfold Func.isWrapper; rw [if_neg (of_decide_eq_false (by kernel_rfl))]; exact ⟨rfl, rfl⟩)
    (fun os started H enc _ => fifoRoom_lifted os started H enc)
end Go.Proofs.Ytomnhjcoonbajaa
