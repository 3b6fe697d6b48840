/- Texts merged: EventIQ, EventJQ, EventKQ, AcWQ, ConfEQ, ConfAQ, WaitFQ, MapQ, WaitGQ, WaitHQ, WaitIQ, AcDQ, AcEQ. -/
import Derived.Test.YtfllnpcoggmepaaGreatZb8
import Derived.Test.YtfllnpcoggmepaaGreatZb5
import Derived.Test.YtfllnpcoggmepaaGreatZb3
import Derived.Test.YtfllnpcoggmepaaGreatZb7
import Derived.LoopTactic
import Derived.Lib.Hide
import Derived.Test.YtfllnpcoggmepaaGreatZb1
import Derived.MapKept
import Derived.Maps.RangeRun
import Derived.ChangeMaps4
import Derived.Carry
import Derived.Test.YtfllnpcoggmepaaGreatZb6
import Derived.Test.YtfllnpcoggmepaaGreatZb4
/- Layer 6: a notice: for so many at most; Notify, NotifyAll. -/
namespace Go.Proofs.YtfllnpcoggmepaaGreat
set_option linter.unusedVariables false
set_option linter.unusedSimpArgs false
open Go.ChangeShapes Go.WideShapes Go.ChangeAt Go.RowKit

/-- What a call that hands back an event and a list leaves. -/
def RetEL (w : World) (ep : Int) (r t : List Int) (e : Ending) (w' : World) : Prop :=
  ∃ (p q : Option Addr) (k k' : Nat), e = .returned (.tuple #[.agg #[.int .i64 ep, .slice p r.length k], .slice q t.length k']) ∧ Ow w' w.heap.size 3 1 intC r (.slice p r.length k) ∧ Ow w' w.heap.size 3 1 intC t (.slice q t.length k') ∧ Kept w w'
theorem ntE_ok {ep : Int} {l : List Int} (h : okE ep l = true) (m : Nat) : ntE ep l = nxE ep ∧ ntL m ep l = l.drop m ∧ ntT m ep l = l.take m := by simp [ntE, ntL, ntT, h]
theorem ntE_no {ep : Int} {l : List Int} (h : okE ep l = false) (m : Nat) : ntE ep l = ep ∧ ntL m ep l = l ∧ ntT m ep l = [] := by simp [ntE, ntL, ntT, h]
set_option maxHeartbeats 4000000 in
theorem enotice_any (ep : Int) (l : List Int) (m : Nat) (p : Option Addr) (k : Nat) (w : World) (lb : Array Value) (hl : Sl w 1 intC l (.slice p l.length k)) (hm : l.length ≤ 999999) (hmm : m ≤ 999999) (hT : Tells 222 lb (fun x => decide (x < (m : Int))) w) :
    Calls Tryz.prog 198 #[.agg #[.int .i64 ep, .slice p l.length k], .func (.func 222) #[] lb] w (RetEL w (ntE ep l) (ntL m ep l) (ntT m ep l)) := by
  have H := Lib.hid hl
  have HT := Lib.hid hT
  clear hl hT
  cases hok : okE ep l
  · obtain ⟨e1, e2, e3⟩ := ntE_no hok m
    rw [e1, e2, e3]
    have HO := Lib.hid hok
    clear hok e1 e2 e3
    go_enter Tryz.func198, Tryz.ntmps198
    go_wp2_with fail
    refine (echeck_val HO.out p k _ (H.out.kept (by repeat' (first | (with_reducible exact Below.refl _ _) | (with_reducible assumption) | (with_reducible refine kept_alloc ?_ _) | (with_reducible refine kept_drewN ?_ _) | (with_reducible refine Below.drew ?_) | (with_reducible refine Below.setCell ?_ (by first | omega | (simp; omega) | (simp; done)) _) | (refine kept_trans ?_ (by with_reducible assumption)))))).mono ?_
    rintro e w1 ⟨rfl, hg1⟩
    have hcs : CellsAt w1 [(w.heap.size, 0, .int .i64 ep), (w.heap.size, 1, .slice p l.length k), (w.heap.size + 1, 0, .int .i64 0), (w.heap.size + 1, 1, .slice none 0 0)] := cells_keep hg1 (by (simp only [CellsAt]; (repeat' (first | exact trivial | (refine And.intro ?_ ?_))); all_goals (first | (focus ((try simp only [World.size_setCell, World.size_alloc]); omega)) | (repeat (first | rfl | assumption | (refine (World.cell?_alloc_past _ _ _ ?_).trans ?_; focus ((try simp only [World.size_setCell, World.size_alloc]); omega)) | (refine (World.cell?_alloc_at _ _ _ _ ?_).trans ?_; focus ((try simp only [World.size_setCell, World.size_alloc]); done)) | (refine (World.cell?_setCell_other _ _ _ _ ?_).trans ?_; focus (simp; done)) | (refine (World.cell?_setCell_other _ _ _ _ ?_).trans ?_; focus (simp; omega)) | (refine World.cell?_setCell_same' _ _ _ ?_; focus (simp; done)))))))
    have hq0 := hcs.1.2; have hq1 := hcs.2.1.2; have hq2 := hcs.2.2.1.2; have hq3 := hcs.2.2.2.1.2; have hz0 := hcs.1.1; have hz1 := hcs.2.2.1.1
    have hfr : ∀ j, w1.frozen? ⟨w.heap.size + 1, j, none⟩ = false := fun j => ((bcell hg1).2 _ _ (by simp)).trans (World.frozen?_alloc_at _ _ _ _ (by simp))
    go_wp2_with fail
    refine (ekept_any ep l p k _ (H.out.kept (by repeat' (first | (with_reducible exact Below.refl _ _) | (with_reducible assumption) | (with_reducible refine kept_alloc ?_ _) | (with_reducible refine kept_drewN ?_ _) | (with_reducible refine Below.drew ?_) | (with_reducible refine Below.setCell ?_ (by first | omega | (simp; omega) | (simp; done)) _) | (refine kept_trans ?_ (by with_reducible assumption))))) hm).mono ?_
    rintro e w2 ⟨p2, k2, rfl, hO2, hg2⟩
    have hfr2 : ∀ j, w2.frozen? ⟨w.heap.size + 1, j, none⟩ = false := fun j => ((bcell hg2).2 _ _ hz1).trans (hfr j)
    have hz1' : w.heap.size + 1 < w1.heap.size := hz1
    have hcs := cells_keep hg2 hcs
    clear hq0 hq1 hq2 hq3 hz0 hz1
    have hq0 := hcs.1.2; have hq1 := hcs.2.1.2; have hq2 := hcs.2.2.1.2; have hq3 := hcs.2.2.2.1.2; have hz0 := hcs.1.1; have hz1 := hcs.2.2.1.1
    go_wp2
    refine bodyPost_ret (v := .tuple #[.agg #[.int .i64 ep, .slice p2 l.length k2], .slice none 0 0]) (by simp [results, Tryz.results198, go_sem, *]) rfl ?_
    have hB : Below w.heap.size w w2 := by repeat' (first | (with_reducible exact Below.refl _ _) | (with_reducible assumption) | (with_reducible refine kept_alloc ?_ _) | (with_reducible refine kept_drewN ?_ _) | (with_reducible refine Below.drew ?_) | (with_reducible refine Below.setCell ?_ (by first | omega | (simp; omega) | (simp; done)) _) | (refine kept_trans ?_ (by with_reducible assumption)))
    exact ⟨p2, none, k2, 0, rfl, Ow.mono ((hO2.setCell (p := ⟨_, _, none⟩) hz1' _).setCell (p := ⟨_, _, none⟩) hz1' _) (by omega), owi_nil, (hB.setCell (p := ⟨_, _, none⟩) (Nat.le_succ _) _).setCell (p := ⟨_, _, none⟩) (Nat.le_succ _) _⟩
  · obtain ⟨e1, e2, e3⟩ := ntE_ok hok m
    rw [e1, e2, e3]
    have hlo := okE_ln hok
    have hb := (okE_iff.1 hok).1
    have HO := Lib.hid hok
    have HLO := Lib.hid hlo
    clear hok hlo e1 e2 e3
    have i1 : IntKind.i64.wrap (ep + 1) = ep + 1 := IntWalk.i64_in _ (by omega)
    go_enter Tryz.func198, Tryz.ntmps198
    go_wp2_with fail
    refine (echeck_val HO.out p k _ (H.out.kept (by repeat' (first | (with_reducible exact Below.refl _ _) | (with_reducible assumption) | (with_reducible refine kept_alloc ?_ _) | (with_reducible refine kept_drewN ?_ _) | (with_reducible refine Below.drew ?_) | (with_reducible refine Below.setCell ?_ (by first | omega | (simp; omega) | (simp; done)) _) | (refine kept_trans ?_ (by with_reducible assumption)))))).mono ?_
    rintro e w1 ⟨rfl, hg1⟩
    have hcs : CellsAt w1 [(w.heap.size, 0, .int .i64 ep), (w.heap.size, 1, .slice p l.length k), (w.heap.size + 1, 0, .int .i64 0), (w.heap.size + 1, 1, .slice none 0 0)] := cells_keep hg1 (by (simp only [CellsAt]; (repeat' (first | exact trivial | (refine And.intro ?_ ?_))); all_goals (first | (focus ((try simp only [World.size_setCell, World.size_alloc]); omega)) | (repeat (first | rfl | assumption | (refine (World.cell?_alloc_past _ _ _ ?_).trans ?_; focus ((try simp only [World.size_setCell, World.size_alloc]); omega)) | (refine (World.cell?_alloc_at _ _ _ _ ?_).trans ?_; focus ((try simp only [World.size_setCell, World.size_alloc]); done)) | (refine (World.cell?_setCell_other _ _ _ _ ?_).trans ?_; focus (simp; done)) | (refine (World.cell?_setCell_other _ _ _ _ ?_).trans ?_; focus (simp; omega)) | (refine World.cell?_setCell_same' _ _ _ ?_; focus (simp; done)))))))
    have hq0 := hcs.1.2; have hq1 := hcs.2.1.2; have hq2 := hcs.2.2.1.2; have hq3 := hcs.2.2.2.1.2; have hz0 := hcs.1.1; have hz1 := hcs.2.2.1.1
    have hfr : ∀ j, w1.frozen? ⟨w.heap.size + 1, j, none⟩ = false := fun j => ((bcell hg1).2 _ _ (by simp)).trans (World.frozen?_alloc_at _ _ _ _ (by simp))
    go_wp2_with fail
    refine (ekept_any ep l p k _ (H.out.kept (by repeat' (first | (with_reducible exact Below.refl _ _) | (with_reducible assumption) | (with_reducible refine kept_alloc ?_ _) | (with_reducible refine kept_drewN ?_ _) | (with_reducible refine Below.drew ?_) | (with_reducible refine Below.setCell ?_ (by first | omega | (simp; omega) | (simp; done)) _) | (refine kept_trans ?_ (by with_reducible assumption))))) hm).mono ?_
    rintro e w2 ⟨p2, k2, rfl, hO2, hg2⟩
    have hfr2 : ∀ j, w2.frozen? ⟨w.heap.size + 1, j, none⟩ = false := fun j => ((bcell hg2).2 _ _ hz1).trans (hfr j)
    have hB2 : Below w.heap.size w w2 := by repeat' (first | (with_reducible exact Below.refl _ _) | (with_reducible assumption) | (with_reducible refine kept_alloc ?_ _) | (with_reducible refine kept_drewN ?_ _) | (with_reducible refine Below.drew ?_) | (with_reducible refine Below.setCell ?_ (by first | omega | (simp; omega) | (simp; done)) _) | (refine kept_trans ?_ (by with_reducible assumption)))
    have HS2 := Lib.hid hO2
    have hw1 : w.heap.size + 1 < w1.heap.size := hz1
    have hw12 := hg2.size
    have hcs := cells_keep hg2 hcs
    clear hq0 hq1 hq2 hq3 hz0 hz1 hO2 hg1 hg2
    have hq0 := hcs.1.2; have hq1 := hcs.2.1.2; have hq2 := hcs.2.2.1.2; have hq3 := hcs.2.2.2.1.2; have hz0 := hcs.1.1; have hz1 := hcs.2.2.1.1
    have HC2 := Lib.hid hcs
    clear hcs
    have hfd : ∀ W : World, (Instr.field 29 (.agg #[.int .i64 ep, .slice p2 l.length k2]) 1).run Tryz.prog W = .ok (.slice p2 l.length k2) W := fun _ => (by kernel_rfl)
    go_wp2_with fail
    obtain ⟨V, hV⟩ : ∃ V, w2.alloc (.cells #[.slice p2 l.length k2] 179) = V := ⟨_, rfl⟩
    have v1 : V.cell? ⟨w2.heap.size, 0, none⟩ = some (.slice p2 l.length k2) := by rw [← hV]; simp
    have v2 : V.frozen? ⟨w2.heap.size, 0, none⟩ = false := by rw [← hV]; exact World.frozen?_alloc_at _ _ _ _ (by simp)
    have v3 : w2.heap.size < V.heap.size := by rw [← hV]; simp
    have v4 : Below w2.heap.size w2 V := by rw [← hV]; repeat' (first | (with_reducible exact Below.refl _ _) | (with_reducible assumption) | (with_reducible refine kept_alloc ?_ _) | (with_reducible refine kept_drewN ?_ _) | (with_reducible refine Below.drew ?_) | (with_reducible refine Below.setCell ?_ (by first | omega | (simp; omega) | (simp; done)) _) | (refine kept_trans ?_ (by with_reducible assumption)))
    have hB3 : Below w.heap.size w V := kept_trans hB2 v4
    rw [hV]
    clear hV
    refine (etaken_any w1.heap.size l m w2.heap.size p2 k2 V w lb v3 v1 v2 (HS2.out.kept v4) (by omega) HLO.out hm hmm HT.out hB3 hB2.size).mono ?_
    rintro e w4 ⟨pt, p4, kt, k4, rfl, hO4, hS4, c4, hg4⟩
    have hv4 : Below w2.heap.size w2 w4 := v4.trans hg4
    have hcs := cells_keep hv4 HC2.out
    have hfr4 : ∀ j, w4.frozen? ⟨w.heap.size + 1, j, none⟩ = false := fun j => ((bcell hv4).2 _ _ hz1).trans (hfr2 j)
    have hB4 : Below w.heap.size w w4 := kept_trans hB2 hv4
    have hz2 : w2.heap.size < w4.heap.size := Nat.lt_of_lt_of_le v3 hg4.size
    have HX := Lib.hid (And.intro hO4 (And.intro hS4 hB4))
    clear hq0 hq1 hq2 hq3 v1 v2 v4 hg4 hO4 hS4 hB4 hfr2 hfr hfd
    have hz1' : w.heap.size + 1 < w2.heap.size := hz1
    clear hz0 hz1
    have hq0 := hcs.1.2; have hq1 := hcs.2.1.2; have hq2 := hcs.2.2.1.2; have hq3 := hcs.2.2.2.1.2; have hz0 := hcs.1.1; have hz1 := hcs.2.2.1.1
    clear hcs
    go_wp2
    have hv3 : w.heap.size + 1 < V.heap.size := by omega
    have htk : (l.take m).length = min m l.length := List.length_take
    have hdk : (l.drop m).length = l.length - m := List.length_drop
    rw [← htk, ← hdk, ← nxE_min]
    refine bodyPost_ret (v := .tuple #[.agg #[.int .i64 (nxE ep), .slice p4 (l.drop m).length k4], .slice pt (l.take m).length kt]) (by simp [results, Tryz.results198, go_sem, *]) rfl ?_
    exact ⟨p4, pt, k4, kt, rfl, Ow.mono ((HX.out.2.1.setCell (p := ⟨_, _, none⟩) hw1 _).setCell (p := ⟨_, _, none⟩) hw1 _) (by omega), Ow.mono ((HX.out.1.setCell (p := ⟨_, _, none⟩) hv3 _).setCell (p := ⟨_, _, none⟩) hv3 _) (by omega), (HX.out.2.2.setCell (p := ⟨_, _, none⟩) (Nat.le_succ _) _).setCell (p := ⟨_, _, none⟩) (Nat.le_succ _) _⟩
end Go.Proofs.YtfllnpcoggmepaaGreat

/- Layer 6: Notify, NotifyAll. -/
namespace Go.Proofs.YtfllnpcoggmepaaGreat
set_option linter.unusedVariables false
set_option linter.unusedSimpArgs false
open Go.ChangeShapes Go.WideShapes Go.ChangeAt Go.RowKit

/-- A box for an event, made of late. -/
def Fresh (n : Nat) (W : World) : Prop := W.cell? ⟨n, 0, none⟩ = some (.int .i64 0) ∧ W.cell? ⟨n, 1, none⟩ = some (.slice none 0 0) ∧ W.frozen? ⟨n, 0, none⟩ = false ∧ W.frozen? ⟨n, 1, none⟩ = false ∧ n < W.heap.size
theorem Fresh.new (W : World) : Fresh W.heap.size (W.alloc (.cells #[.int .i64 0, .slice none 0 0] 29)) :=
  ⟨World.cell?_alloc_at (w := W) _ _ _ 0 rfl, World.cell?_alloc_at (w := W) _ _ _ 1 rfl, World.frozen?_alloc_at (w := W) _ _ _ 0 rfl, World.frozen?_alloc_at (w := W) _ _ _ 1 rfl, by simp⟩
theorem Fresh.new_drew (W : World) : Fresh W.heap.size (W.alloc (.cells #[.int .i64 0, .slice none 0 0] 29)).drew := Fresh.new W
theorem Fresh.drew_new (W : World) : Fresh W.heap.size (W.drew.alloc (.cells #[.int .i64 0, .slice none 0 0] 29)) := Fresh.new W.drew
theorem Fresh.kept {n : Nat} {W W' : World} (h : Fresh n W) (hk : Kept W W') : Fresh n W' :=
  ⟨((bcell hk).1 _ _ h.2.2.2.2).trans h.1, ((bcell hk).1 _ _ h.2.2.2.2).trans h.2.1, ((bcell hk).2 _ _ h.2.2.2.2).trans h.2.2.1, ((bcell hk).2 _ _ h.2.2.2.2).trans h.2.2.2.1, Nat.lt_of_lt_of_le h.2.2.2.2 hk.size⟩
theorem set2_far (W : World) (n : Nat) (v0 v1 : Value) {b i : Nat} (h : b < n) : ((W.setCell ⟨n, 0, none⟩ v0).setCell ⟨n, 1, none⟩ v1).cell? ⟨b, i, none⟩ = W.cell? ⟨b, i, none⟩ :=
  (((Below.refl n W).setCell (p := ⟨n, 0, none⟩) (Nat.le_refl _) v0).setCell (p := ⟨n, 1, none⟩) (Nat.le_refl _) v1).cell (p := ⟨b, i, none⟩) h
/-- A call's event that lies in a box of its own, made ahead of the call or behind it; and who was told. -/
structure Boxed (V : World) (E : Int) (R T : List Int) (p3 q3 : Option Addr) (k3 k4 : Nat) (xb : Nat) (W : World) : Prop where
  c0 : W.cell? ⟨xb, 0, none⟩ = some (.int .i64 E)
  c1 : W.cell? ⟨xb, 1, none⟩ = some (.slice p3 R.length k3)
  r : Ow W V.heap.size 3 1 intC R (.slice p3 R.length k3)
  t : Ow W V.heap.size 3 1 intC T (.slice q3 T.length k4)
  below : Below V.heap.size V W
  ge : V.heap.size ≤ xb
  lt : xb < W.heap.size
theorem boxed_late {V wy : World} {E : Int} {R T : List Int} {p3 q3 : Option Addr} {k3 k4 b : Nat} (hg : Below V.heap.size V wy) (hb : V.heap.size ≤ b) (h3 : Ow wy b 3 1 intC R (.slice p3 R.length k3)) (h4 : Ow wy b 3 1 intC T (.slice q3 T.length k4)) :
    Boxed V E R T p3 q3 k3 k4 wy.heap.size (wy.alloc (.cells #[.int .i64 E, .slice p3 R.length k3] 29)) :=
  have hk : Kept wy (wy.alloc (.cells #[.int .i64 E, .slice p3 R.length k3] 29)) := (Below.refl _ _).alloc (Nat.le_refl _) _
  ⟨World.cell?_alloc_at (w := wy) _ _ _ 0 rfl, World.cell?_alloc_at (w := wy) _ _ _ 1 rfl, Ow.mono (h3.kept hk) hb, Ow.mono (h4.kept hk) hb, hg.alloc hg.size _, hg.size, by simp⟩
theorem boxed_set {V wy : World} {E : Int} {R T : List Int} {p3 q3 : Option Addr} {k3 k4 b n : Nat} (hg : Below V.heap.size V wy) (hb : V.heap.size ≤ n) (hnb : n < b) (h3 : Ow wy b 3 1 intC R (.slice p3 R.length k3)) (h4 : Ow wy b 3 1 intC T (.slice q3 T.length k4))
    (f0 : wy.cell? ⟨n, 0, none⟩ = some (.int .i64 0)) (f1 : wy.cell? ⟨n, 1, none⟩ = some (.slice none 0 0)) (f4 : n < wy.heap.size) :
    Boxed V E R T p3 q3 k3 k4 n ((wy.setCell ⟨n, 0, none⟩ (.int .i64 E)).setCell ⟨n, 1, none⟩ (.slice p3 R.length k3)) := by
  refine ⟨?_, ?_, Ow.mono ((h3.setCell (p := ⟨n, 0, none⟩) hnb _).setCell (p := ⟨n, 1, none⟩) hnb _) (by omega), Ow.mono ((h4.setCell (p := ⟨n, 0, none⟩) hnb _).setCell (p := ⟨n, 1, none⟩) hnb _) (by omega), (hg.setCell (p := ⟨n, 0, none⟩) hb _).setCell (p := ⟨n, 1, none⟩) hb _, hb, by simpa using f4⟩
  · refine (World.cell?_setCell_other _ _ _ _ (by simp)).trans ?_
    exact World.cell?_setCell_same' _ _ _ (by rw [f0]; rfl)
  · refine World.cell?_setCell_same' _ _ _ ?_
    rw [show (wy.setCell ⟨n, 0, none⟩ (.int .i64 E)).cell? ⟨n, 1, none⟩ = wy.cell? ⟨n, 1, none⟩ from World.cell?_setCell_other _ _ _ _ (by simp), f1]; rfl
/-- What 'Notify' leaves. -/
def RetNf (w : World) (ep : Int) (r : List Int) (x : Int) (b : Bool) (e : Ending) (w' : World) : Prop :=
  ∃ (p : Option Addr) (k : Nat), e = .returned (.tuple #[.agg #[.int .i64 ep, .slice p r.length k], .int .i64 x, .bool b]) ∧ Ow w' w.heap.size 3 1 intC r (.slice p r.length k) ∧ Kept w w'
set_option maxHeartbeats 4000000 in
theorem enotify_any (ep : Int) (l : List Int) (p : Option Addr) (k : Nat) (w : World) (hl : Sl w 1 intC l (.slice p l.length k)) (hm : l.length ≤ 999999) :
    Calls Tryz.prog 158 #[.agg #[.int .i64 ep, .slice p l.length k]] w (RetNf w (ntE ep l) (ntL 1 ep l) (hdI (ntT 1 ep l)) (hdB (ntT 1 ep l))) := by
  have H := Lib.hid hl
  clear hl
  obtain ⟨E, hE⟩ : ∃ E, ntE ep l = E := ⟨_, rfl⟩
  obtain ⟨R, hR⟩ : ∃ R, ntL 1 ep l = R := ⟨_, rfl⟩
  obtain ⟨T, hT⟩ : ∃ T, ntT 1 ep l = T := ⟨_, rfl⟩
  have hN : ∀ (W : World) (lb : Array Value), Sl W 1 intC l (.slice p l.length k) → Tells 222 lb (fun x => decide (x < (1 : Int))) W → Calls Tryz.prog 198 #[.agg #[.int .i64 ep, .slice p l.length k], .func (.func 222) #[] lb] W (RetEL W E R T) := fun W lb h1 h2 => hE ▸ hR ▸ hT ▸ enotice_any ep l 1 p k W lb h1 hm (by decide) h2
  have HN := Lib.hid hN
  rw [hE, hR, hT]
  clear hN hE hR hT
  go_enter Tryz.func158, Tryz.ntmps158
  go_wp2
  obtain ⟨V, hV⟩ : ∃ V, (w.alloc (.cells #[.int .i64 ep, .slice p l.length k] 29)).alloc (.cells #[.int .i64 0, .slice none 0 0] 29) = V := ⟨_, rfl⟩
  have hcs : CellsAt V [(w.heap.size, 0, .int .i64 ep), (w.heap.size, 1, .slice p l.length k), (w.heap.size + 1, 0, .int .i64 0), (w.heap.size + 1, 1, .slice none 0 0)] := by rw [← hV]; (simp only [CellsAt]; (repeat' (first | exact trivial | (refine And.intro ?_ ?_))); all_goals (first | (focus ((try simp only [World.size_setCell, World.size_alloc]); omega)) | (repeat (first | rfl | assumption | (refine (World.cell?_alloc_past _ _ _ ?_).trans ?_; focus ((try simp only [World.size_setCell, World.size_alloc]); omega)) | (refine (World.cell?_alloc_at _ _ _ _ ?_).trans ?_; focus ((try simp only [World.size_setCell, World.size_alloc]); done)) | (refine (World.cell?_setCell_other _ _ _ _ ?_).trans ?_; focus (simp; done)) | (refine (World.cell?_setCell_other _ _ _ _ ?_).trans ?_; focus (simp; omega)) | (refine World.cell?_setCell_same' _ _ _ ?_; focus (simp; done))))))
  have hB : Below w.heap.size w V := by rw [← hV]; repeat' (first | (with_reducible exact Below.refl _ _) | (with_reducible assumption) | (with_reducible refine kept_alloc ?_ _) | (with_reducible refine kept_drewN ?_ _) | (with_reducible refine Below.drew ?_) | (with_reducible refine Below.setCell ?_ (by first | omega | (simp; omega) | (simp; done)) _) | (refine kept_trans ?_ (by with_reducible assumption)))
  have hz : V.heap.size = w.heap.size + 2 := by rw [← hV]; simp
  have hfr : ∀ j, V.frozen? ⟨w.heap.size + 1, j, none⟩ = false := by intro j; rw [← hV]; exact World.frozen?_alloc_at _ _ _ _ (by simp)
  rw [hV]
  clear hV
  have HL := Lib.hid (H.out.kept hB)
  have hsz : w.heap.size < V.heap.size := by omega
  have hsz1 : w.heap.size + 1 < V.heap.size := by omega
  have hq0 := hcs.1.2; have hq1 := hcs.2.1.2; have hq2 := hcs.2.2.1.2; have hq3 := hcs.2.2.2.1.2; have hz0 := hcs.1.1; have hz1 := hcs.2.2.1.1
  have hzz := Lib.hid hz
  clear hz
  go_region_held3 (fun w' => w'.cell? ⟨w.heap.size, 0, none⟩ = some (.int .i64 ep) ∧ w'.cell? ⟨w.heap.size, 1, none⟩ = some (.slice p l.length k))
    (first
      | (go_split_ands; refine ⟨?_, ?_⟩ <;> first | (with_reducible assumption) | (with_reducible (refine (World.cell?_alloc_past _ _ _ (by with_reducible assumption)).trans ?_; assumption)) | (with_reducible (refine (set2_far _ _ _ _ (by with_reducible assumption)).trans ?_; assumption)))
      | go_keep)
    ((first
      | (go_at_call 199; refine (eupto_any 1 _).mono ?_; rintro e wx ⟨lb, rfl, hTx, hgx⟩; have hgV : Below V.heap.size V wx := kept_trans (by repeat' (first | (with_reducible exact Below.refl _ _) | (with_reducible assumption) | (with_reducible refine kept_alloc ?_ _) | (with_reducible refine kept_drewN ?_ _) | (with_reducible refine Below.drew ?_) | (with_reducible refine Below.setCell ?_ (by first | omega | (simp; omega) | (simp; done)) _) | (refine kept_trans ?_ (by with_reducible assumption)))) hgx; have s0 := (hgV.cell (p := ⟨w.heap.size, 0, none⟩) hsz).trans hq0; have s1 := (hgV.cell (p := ⟨w.heap.size, 1, none⟩) hsz).trans hq1; have hsx : w.heap.size < wx.heap.size := Nat.lt_of_lt_of_le hsz hgV.size; have fr := Fresh.kept (Fresh.new_drew V) hgx)
      | (go_at_call 199; refine (eupto_any 1 _).mono ?_; rintro e wx ⟨lb, rfl, hTx, hgx⟩; have hgV : Below V.heap.size V wx := kept_trans (by repeat' (first | (with_reducible exact Below.refl _ _) | (with_reducible assumption) | (with_reducible refine kept_alloc ?_ _) | (with_reducible refine kept_drewN ?_ _) | (with_reducible refine Below.drew ?_) | (with_reducible refine Below.setCell ?_ (by first | omega | (simp; omega) | (simp; done)) _) | (refine kept_trans ?_ (by with_reducible assumption)))) hgx; have s0 := (hgV.cell (p := ⟨w.heap.size, 0, none⟩) hsz).trans hq0; have s1 := (hgV.cell (p := ⟨w.heap.size, 1, none⟩) hsz).trans hq1; have hsx : w.heap.size < wx.heap.size := Nat.lt_of_lt_of_le hsz hgV.size; have fr := Fresh.kept (Fresh.drew_new V) hgx)
      | (go_at_call 199; refine (eupto_any 1 _).mono ?_; rintro e wx ⟨lb, rfl, hTx, hgx⟩; have hgV : Below V.heap.size V wx := kept_trans (by repeat' (first | (with_reducible exact Below.refl _ _) | (with_reducible assumption) | (with_reducible refine kept_alloc ?_ _) | (with_reducible refine kept_drewN ?_ _) | (with_reducible refine Below.drew ?_) | (with_reducible refine Below.setCell ?_ (by first | omega | (simp; omega) | (simp; done)) _) | (refine kept_trans ?_ (by with_reducible assumption)))) hgx; have s0 := (hgV.cell (p := ⟨w.heap.size, 0, none⟩) hsz).trans hq0; have s1 := (hgV.cell (p := ⟨w.heap.size, 1, none⟩) hsz).trans hq1; have hsx : w.heap.size < wx.heap.size := Nat.lt_of_lt_of_le hsz hgV.size)
      | (go_at_call 198; refine (HN.out _ lb (HL.out.kept (by repeat' (first | (with_reducible exact Below.refl _ _) | (with_reducible assumption) | (with_reducible refine kept_alloc ?_ _) | (with_reducible refine kept_drewN ?_ _) | (with_reducible refine Below.drew ?_) | (with_reducible refine Below.setCell ?_ (by first | omega | (simp; omega) | (simp; done)) _) | (refine kept_trans ?_ (by with_reducible assumption))))) (hTx.kept (by repeat' (first | (with_reducible exact Below.refl _ _) | (with_reducible assumption) | (with_reducible refine kept_alloc ?_ _) | (with_reducible refine kept_drewN ?_ _) | (with_reducible refine Below.drew ?_) | (with_reducible refine Below.setCell ?_ (by first | omega | (simp; omega) | (simp; done)) _) | (refine kept_trans ?_ (by with_reducible assumption)))))).mono ?_; rintro e wy ⟨p3, q3, k3, k4, rfl, hO3, hO4, hgy⟩; have hgW : Below V.heap.size V wy := kept_trans (by repeat' (first | (with_reducible exact Below.refl _ _) | (with_reducible assumption) | (with_reducible refine kept_alloc ?_ _) | (with_reducible refine kept_drewN ?_ _) | (with_reducible refine Below.drew ?_) | (with_reducible refine Below.setCell ?_ (by first | omega | (simp; omega) | (simp; done)) _) | (refine kept_trans ?_ (by with_reducible assumption)))) hgy; have t0 := (hgW.cell (p := ⟨w.heap.size, 0, none⟩) hsz).trans hq0; have t1 := (hgW.cell (p := ⟨w.heap.size, 1, none⟩) hsz).trans hq1; have hsy : w.heap.size < wy.heap.size := Nat.lt_of_lt_of_le hsz hgW.size; have fy := Fresh.kept fr hgy; have f0 := fy.1; have f1 := fy.2.1; have f2 := fy.2.2.1; have f3 := fy.2.2.2.1; have f4 := fy.2.2.2.2; clear fy)
      | (go_at_call 198; refine (HN.out _ lb (HL.out.kept (by repeat' (first | (with_reducible exact Below.refl _ _) | (with_reducible assumption) | (with_reducible refine kept_alloc ?_ _) | (with_reducible refine kept_drewN ?_ _) | (with_reducible refine Below.drew ?_) | (with_reducible refine Below.setCell ?_ (by first | omega | (simp; omega) | (simp; done)) _) | (refine kept_trans ?_ (by with_reducible assumption))))) (hTx.kept (by repeat' (first | (with_reducible exact Below.refl _ _) | (with_reducible assumption) | (with_reducible refine kept_alloc ?_ _) | (with_reducible refine kept_drewN ?_ _) | (with_reducible refine Below.drew ?_) | (with_reducible refine Below.setCell ?_ (by first | omega | (simp; omega) | (simp; done)) _) | (refine kept_trans ?_ (by with_reducible assumption)))))).mono ?_; rintro e wy ⟨p3, q3, k3, k4, rfl, hO3, hO4, hgy⟩; have hgW : Below V.heap.size V wy := kept_trans (by repeat' (first | (with_reducible exact Below.refl _ _) | (with_reducible assumption) | (with_reducible refine kept_alloc ?_ _) | (with_reducible refine kept_drewN ?_ _) | (with_reducible refine Below.drew ?_) | (with_reducible refine Below.setCell ?_ (by first | omega | (simp; omega) | (simp; done)) _) | (refine kept_trans ?_ (by with_reducible assumption)))) hgy; have t0 := (hgW.cell (p := ⟨w.heap.size, 0, none⟩) hsz).trans hq0; have t1 := (hgW.cell (p := ⟨w.heap.size, 1, none⟩) hsz).trans hq1; have hsy : w.heap.size < wy.heap.size := Nat.lt_of_lt_of_le hsz hgW.size; have fy := Fresh.kept (Fresh.new wx) hgy; have f0 := fy.1; have f1 := fy.2.1; have f2 := fy.2.2.1; have f3 := fy.2.2.2.1; have f4 := fy.2.2.2.2; clear fy)
      | (go_at_call 198; refine (HN.out _ lb (HL.out.kept (by repeat' (first | (with_reducible exact Below.refl _ _) | (with_reducible assumption) | (with_reducible refine kept_alloc ?_ _) | (with_reducible refine kept_drewN ?_ _) | (with_reducible refine Below.drew ?_) | (with_reducible refine Below.setCell ?_ (by first | omega | (simp; omega) | (simp; done)) _) | (refine kept_trans ?_ (by with_reducible assumption))))) (hTx.kept (by repeat' (first | (with_reducible exact Below.refl _ _) | (with_reducible assumption) | (with_reducible refine kept_alloc ?_ _) | (with_reducible refine kept_drewN ?_ _) | (with_reducible refine Below.drew ?_) | (with_reducible refine Below.setCell ?_ (by first | omega | (simp; omega) | (simp; done)) _) | (refine kept_trans ?_ (by with_reducible assumption)))))).mono ?_; rintro e wy ⟨p3, q3, k3, k4, rfl, hO3, hO4, hgy⟩; have hgW : Below V.heap.size V wy := kept_trans (by repeat' (first | (with_reducible exact Below.refl _ _) | (with_reducible assumption) | (with_reducible refine kept_alloc ?_ _) | (with_reducible refine kept_drewN ?_ _) | (with_reducible refine Below.drew ?_) | (with_reducible refine Below.setCell ?_ (by first | omega | (simp; omega) | (simp; done)) _) | (refine kept_trans ?_ (by with_reducible assumption)))) hgy; have t0 := (hgW.cell (p := ⟨w.heap.size, 0, none⟩) hsz).trans hq0; have t1 := (hgW.cell (p := ⟨w.heap.size, 1, none⟩) hsz).trans hq1; have hsy : w.heap.size < wy.heap.size := Nat.lt_of_lt_of_le hsz hgW.size)))
  all_goals
    first
      | (have hN := boxed_set (E := E) hgW (Nat.le_refl _) fr.2.2.2.2 hO3 hO4 f0 f1 f4; generalize (wy.setCell ⟨V.heap.size, 0, none⟩ (.int .i64 E)).setCell ⟨V.heap.size, 1, none⟩ (.slice p3 R.length k3) = W at hN ⊢; obtain ⟨xb, hxb⟩ : ∃ xb, V.heap.size = xb := ⟨_, rfl⟩; have hN : Boxed V E R T p3 q3 k3 k4 xb W := hxb ▸ hN; rw [hxb])
      | (have hN := boxed_set (E := E) hgW hgV.size (by simp) hO3 hO4 f0 f1 f4; generalize (wy.setCell ⟨wx.heap.size, 0, none⟩ (.int .i64 E)).setCell ⟨wx.heap.size, 1, none⟩ (.slice p3 R.length k3) = W at hN ⊢; generalize wx.heap.size = xb at hN ⊢)
      | (have hN := boxed_late (E := E) hgW hgV.size hO3 hO4; generalize wy.alloc (.cells #[.int .i64 E, .slice p3 R.length k3] 29) = W at hN ⊢; generalize wy.heap.size = xb at hN ⊢)
  all_goals
    have b0 := hN.c0
    have b1 := hN.c1
    have b2 := hN.lt
    have hBW := hN.below
    have u2 := (hBW.cell (p := ⟨w.heap.size + 1, 0, none⟩) hsz1).trans hq2
    have u3 := (hBW.cell (p := ⟨w.heap.size + 1, 1, none⟩) hsz1).trans hq3
    have uf : ∀ j, W.frozen? ⟨w.heap.size + 1, j, none⟩ = false := fun j => (hBW.frozen (p := ⟨w.heap.size + 1, j, none⟩) hsz1).trans (hfr j)
    have uz : w.heap.size + 1 < W.heap.size := Nat.lt_of_lt_of_le hsz1 hBW.size
    have HNb := Lib.hid hN
    have hB0 : Below w.heap.size w W := hB.trans (hBW.mono hB.size)
    clear hN hBW hO3 hO4 hgy hgW hgx hgV
    cases T with
    | nil =>
      go_wp2
      refine bodyPost_ret (v := .tuple #[.agg #[.int .i64 E, .slice p3 R.length k3], .int .i64 0, .bool false]) (by simp [results, Tryz.results158, go_sem, *]) rfl ?_
      exact ⟨p3, k3, rfl, Ow.mono ((HNb.out.r.setCell (p := ⟨_, _, none⟩) hsz1 _).setCell (p := ⟨_, _, none⟩) hsz1 _) hB.size, (hB0.setCell (p := ⟨_, _, none⟩) (Nat.le_succ _) _).setCell (p := ⟨_, _, none⟩) (Nat.le_succ _) _⟩
    | cons t T =>
      obtain ⟨qp, qc, e1, _, _, _, hne⟩ := (Ow.sl intEnc HNb.out.t).is
      cases e1
      obtain ⟨tb, to, rfl, htb, -⟩ := hne (by simp)
      have ct : W.cell? ⟨tb, to, none⟩ = some (.int .i64 t) := by have h := sli_at (Ow.sl intEnc HNb.out.t) (j := 0) (by simp); rw [Nat.add_zero] at h; exact h
      have i1 : (((t :: T).length : Int) == 0) = false := by simp; omega
      have i2 : (0 : Int) < ((t :: T).length : Int) := by simp only [List.length_cons]; omega
      have htg := (HNb.out.t.lt tb rfl).1
      have hne1 : tb ≠ w.heap.size + 1 := by omega
      have hne2 : xb ≠ w.heap.size + 1 := by have := HNb.out.ge; omega
      have hto : ∀ (u0 u1 : Value), ((W.setCell ⟨w.heap.size + 1, 0, none⟩ u0).setCell ⟨w.heap.size + 1, 1, none⟩ u1).cell? ⟨tb, to, none⟩ = some (.int .i64 t) := fun u0 u1 => by
        rw [World.cell?_of_block (w := W.setCell ⟨w.heap.size + 1, 0, none⟩ u0) (Below.heap_setCell _ _ _ _ hne1), World.cell?_of_block (w := W) (Below.heap_setCell _ _ _ _ hne1)]; exact ct
      clear hne
      go_wp2
      go_region
      all_goals go_wp2
      all_goals
        refine bodyPost_ret (v := .tuple #[.agg #[.int .i64 E, .slice p3 R.length k3], .int .i64 t, .bool true]) (by simp [results, Tryz.results158, go_sem, *]) rfl ?_
        exact ⟨p3, k3, rfl, (Ow.mono ((HNb.out.r.setCell (p := ⟨_, _, none⟩) hsz1 _).setCell (p := ⟨_, _, none⟩) hsz1 _) hB.size).kept (by repeat' (first | (with_reducible exact Below.refl _ _) | (with_reducible assumption) | (with_reducible refine kept_alloc ?_ _) | (with_reducible refine kept_drewN ?_ _) | (with_reducible refine Below.drew ?_) | (with_reducible refine Below.setCell ?_ (by first | omega | (simp; omega) | (simp; done)) _) | (refine kept_trans ?_ (by with_reducible assumption)))), ((hB0.setCell (p := ⟨_, _, none⟩) (Nat.le_succ _) _).setCell (p := ⟨_, _, none⟩) (Nat.le_succ _) _).drew⟩

end Go.Proofs.YtfllnpcoggmepaaGreat

/- Layer 6: Commit, Cancel. -/
namespace Go.Proofs.YtfllnpcoggmepaaGreat
set_option linter.unusedVariables false
set_option linter.unusedSimpArgs false
open Go.ChangeShapes Go.WideShapes Go.ChangeAt Go.RowKit

/-- What 'Commit' leaves. -/
def RetCm (w : World) (ep : Int) (r : List Int) (b : Bool) (c : Int) (e : Ending) (w' : World) : Prop :=
  ∃ (p : Option Addr) (k : Nat), e = .returned (.tuple #[.agg #[.int .i64 ep, .slice p r.length k], .bool b, .int .i64 c]) ∧ Ow w' w.heap.size 3 1 intC r (.slice p r.length k) ∧ Kept w w'
theorem lenter_oval' {l r : List Int} {i c : Int} (hr : entL l i = r) (hc : entE l i = c) (p : Option Addr) (k : Nat) (w : World) (hl : Sl w 1 intC l (.slice p l.length k)) (hm : l.length ≤ 999999) :
    Calls Tryz.prog 147 #[.slice p l.length k, .int .i64 i] w (RetLO w r c) := hr ▸ hc ▸ lenter_own l i p k w hl hm
set_option maxHeartbeats 4000000 in
theorem ecommit_any (ep : Int) (l : List Int) (s i : Int) (p : Option Addr) (k : Nat) (w : World) (hl : Sl w 1 intC l (.slice p l.length k)) (hm : l.length ≤ 999999) :
    Calls Tryz.prog 159 #[.agg #[.int .i64 ep, .slice p l.length k], .int .i64 s, .int .i64 i] w (RetCm w ep (cmL ep l s i) (cmB ep l s i) (cmC ep l i)) := by
  have H := Lib.hid hl
  clear hl
  cases hok : okE ep l
  · obtain ⟨e1, e2, e3⟩ := cm_no (s := s) (i := i) hok
    rw [e1, e2, e3]
    have HO := Lib.hid hok
    clear hok e1 e2 e3
    go_enter Tryz.func159, Tryz.ntmps159
    go_wp2_with fail
    refine (echeck_val HO.out p k _ (H.out.kept (by repeat' (first | (with_reducible exact Below.refl _ _) | (with_reducible assumption) | (with_reducible refine kept_alloc ?_ _) | (with_reducible refine kept_drewN ?_ _) | (with_reducible refine Below.drew ?_) | (with_reducible refine Below.setCell ?_ (by first | omega | (simp; omega) | (simp; done)) _) | (refine kept_trans ?_ (by with_reducible assumption)))))).mono ?_
    rintro e w1 ⟨rfl, hg1⟩
    have hcs : CellsAt w1 [(w.heap.size, 0, .int .i64 ep), (w.heap.size, 1, .slice p l.length k), (w.heap.size + 1, 0, .int .i64 0), (w.heap.size + 1, 1, .slice none 0 0)] := cells_keep hg1 (by (simp only [CellsAt]; (repeat' (first | exact trivial | (refine And.intro ?_ ?_))); all_goals (first | (focus ((try simp only [World.size_setCell, World.size_alloc]); omega)) | (repeat (first | rfl | assumption | (refine (World.cell?_alloc_past _ _ _ ?_).trans ?_; focus ((try simp only [World.size_setCell, World.size_alloc]); omega)) | (refine (World.cell?_alloc_at _ _ _ _ ?_).trans ?_; focus ((try simp only [World.size_setCell, World.size_alloc]); done)) | (refine (World.cell?_setCell_other _ _ _ _ ?_).trans ?_; focus (simp; done)) | (refine (World.cell?_setCell_other _ _ _ _ ?_).trans ?_; focus (simp; omega)) | (refine World.cell?_setCell_same' _ _ _ ?_; focus (simp; done))))))); have hq0 := hcs.1.2; have hq1 := hcs.2.1.2; have hq2 := hcs.2.2.1.2; have hq3 := hcs.2.2.2.1.2; have hz0 := hcs.1.1; have hz1 := hcs.2.2.1.1; have hfr : ∀ j, w1.frozen? ⟨w.heap.size + 1, j, none⟩ = false := fun j => ((bcell hg1).2 _ _ (by simp)).trans (World.frozen?_alloc_at _ _ _ _ (by simp))
    go_wp2_with fail
    refine (ekept_any ep l p k _ (H.out.kept (by repeat' (first | (with_reducible exact Below.refl _ _) | (with_reducible assumption) | (with_reducible refine kept_alloc ?_ _) | (with_reducible refine kept_drewN ?_ _) | (with_reducible refine Below.drew ?_) | (with_reducible refine Below.setCell ?_ (by first | omega | (simp; omega) | (simp; done)) _) | (refine kept_trans ?_ (by with_reducible assumption))))) hm).mono ?_
    rintro e w2 ⟨p2, k2, rfl, hO2, hg2⟩
    have hfr2 : ∀ j, w2.frozen? ⟨w.heap.size + 1, j, none⟩ = false := fun j => ((bcell hg2).2 _ _ hz1).trans (hfr j); have hz1' : w.heap.size + 1 < w1.heap.size := hz1; have hcs := cells_keep hg2 hcs; clear hq0 hq1 hq2 hq3 hz0 hz1 hfr; have hq0 := hcs.1.2; have hq1 := hcs.2.1.2; have hq2 := hcs.2.2.1.2; have hq3 := hcs.2.2.2.1.2; have hz0 := hcs.1.1; have hz1 := hcs.2.2.1.1
    go_wp2
    refine bodyPost_ret (v := .tuple #[.agg #[.int .i64 ep, .slice p2 l.length k2], .bool false, .int .i64 40]) (by simp [results, Tryz.results159, go_sem, *]) rfl ?_
    have hB : Below w.heap.size w w2 := by repeat' (first | (with_reducible exact Below.refl _ _) | (with_reducible assumption) | (with_reducible refine kept_alloc ?_ _) | (with_reducible refine kept_drewN ?_ _) | (with_reducible refine Below.drew ?_) | (with_reducible refine Below.setCell ?_ (by first | omega | (simp; omega) | (simp; done)) _) | (refine kept_trans ?_ (by with_reducible assumption)))
    exact ⟨p2, k2, rfl, (Ow.mono ((hO2.setCell (p := ⟨_, _, none⟩) hz1' _).setCell (p := ⟨_, _, none⟩) hz1' _) (by omega)), (((hB).setCell (p := ⟨_, _, none⟩) (Nat.le_succ _) _).setCell (p := ⟨_, _, none⟩) (Nat.le_succ _) _)⟩
  · obtain ⟨e1, e2⟩ := cm_ok (s := s) (i := i) hok
    have HO := Lib.hid hok
    obtain ⟨c, hc⟩ : ∃ c, entE l i = c := ⟨_, rfl⟩
    obtain ⟨r, hr⟩ : ∃ r, entL l i = r := ⟨_, rfl⟩
    have HC := Lib.hid (And.intro hr hc)
    by_cases hc0 : c = 0
    · subst hc0
      have hrl : r = l ++ [i] := by rw [← hr, ent_yes hc]
      cases hes : (ep == s)
      · have hne : (ep != s) = true := by simp at hes ⊢; exact hes
        have hL : cmL ep l s i = l := by unfold cmL; rw [e2, hes, Bool.and_false]; rfl
        rw [e1, e2, hL, hc, hes, Bool.and_false]
        clear hok e1 e2 hL hc hr hrl
        go_enter Tryz.func159, Tryz.ntmps159; go_wp2_with fail; refine (echeck_val HO.out p k _ (H.out.kept (by repeat' (first | (with_reducible exact Below.refl _ _) | (with_reducible assumption) | (with_reducible refine kept_alloc ?_ _) | (with_reducible refine kept_drewN ?_ _) | (with_reducible refine Below.drew ?_) | (with_reducible refine Below.setCell ?_ (by first | omega | (simp; omega) | (simp; done)) _) | (refine kept_trans ?_ (by with_reducible assumption)))))).mono ?_; rintro e w1 ⟨rfl, hg1⟩; have hcs : CellsAt w1 [(w.heap.size, 0, .int .i64 ep), (w.heap.size, 1, .slice p l.length k), (w.heap.size + 1, 0, .int .i64 0), (w.heap.size + 1, 1, .slice none 0 0)] := cells_keep hg1 (by (simp only [CellsAt]; (repeat' (first | exact trivial | (refine And.intro ?_ ?_))); all_goals (first | (focus ((try simp only [World.size_setCell, World.size_alloc]); omega)) | (repeat (first | rfl | assumption | (refine (World.cell?_alloc_past _ _ _ ?_).trans ?_; focus ((try simp only [World.size_setCell, World.size_alloc]); omega)) | (refine (World.cell?_alloc_at _ _ _ _ ?_).trans ?_; focus ((try simp only [World.size_setCell, World.size_alloc]); done)) | (refine (World.cell?_setCell_other _ _ _ _ ?_).trans ?_; focus (simp; done)) | (refine (World.cell?_setCell_other _ _ _ _ ?_).trans ?_; focus (simp; omega)) | (refine World.cell?_setCell_same' _ _ _ ?_; focus (simp; done))))))); have hq0 := hcs.1.2; have hq1 := hcs.2.1.2; have hq2 := hcs.2.2.1.2; have hq3 := hcs.2.2.2.1.2; have hz0 := hcs.1.1; have hz1 := hcs.2.2.1.1; have hfr : ∀ j, w1.frozen? ⟨w.heap.size + 1, j, none⟩ = false := fun j => ((bcell hg1).2 _ _ (by simp)).trans (World.frozen?_alloc_at _ _ _ _ (by simp)); go_wp2_with fail; refine (lenter_oval' HC.out.1 HC.out.2 p k _ (H.out.kept (by repeat' (first | (with_reducible exact Below.refl _ _) | (with_reducible assumption) | (with_reducible refine kept_alloc ?_ _) | (with_reducible refine kept_drewN ?_ _) | (with_reducible refine Below.drew ?_) | (with_reducible refine Below.setCell ?_ (by first | omega | (simp; omega) | (simp; done)) _) | (refine kept_trans ?_ (by with_reducible assumption))))) hm).mono ?_; rintro e w2 ⟨p2, k2, rfl, hO2, hg2⟩; have hfr2 : ∀ j, w2.frozen? ⟨w.heap.size + 1, j, none⟩ = false := fun j => ((bcell hg2).2 _ _ hz1).trans (hfr j); have hz1' : w.heap.size + 1 < w1.heap.size := hz1; have hcs := cells_keep hg2 hcs; clear hq0 hq1 hq2 hq3 hz0 hz1 hfr; have hq0 := hcs.1.2; have hq1 := hcs.2.1.2; have hq2 := hcs.2.2.1.2; have hq3 := hcs.2.2.2.1.2; have hz0 := hcs.1.1; have hz1 := hcs.2.2.1.1; have hB2 : Below w.heap.size w w2 := (by repeat' (first | (with_reducible exact Below.refl _ _) | (with_reducible assumption) | (with_reducible refine kept_alloc ?_ _) | (with_reducible refine kept_drewN ?_ _) | (with_reducible refine Below.drew ?_) | (with_reducible refine Below.setCell ?_ (by first | omega | (simp; omega) | (simp; done)) _) | (refine kept_trans ?_ (by with_reducible assumption)))); clear hg1 hg2
        go_wp2_with fail
        refine (ekept_any ep l p k _ (H.out.kept (by repeat' (first | (with_reducible exact Below.refl _ _) | (with_reducible assumption) | (with_reducible refine kept_alloc ?_ _) | (with_reducible refine kept_drewN ?_ _) | (with_reducible refine Below.drew ?_) | (with_reducible refine Below.setCell ?_ (by first | omega | (simp; omega) | (simp; done)) _) | (refine kept_trans ?_ (by with_reducible assumption))))) hm).mono ?_
        rintro e w3 ⟨p3, k3, rfl, hO3, hg3⟩
        have hfr3 : ∀ j, w3.frozen? ⟨w.heap.size + 1, j, none⟩ = false := fun j => ((bcell hg3).2 _ _ hz1).trans (hfr2 j); have hz2' : w.heap.size + 1 < w2.heap.size := hz1; have hcs := cells_keep hg3 hcs; clear hq0 hq1 hq2 hq3 hz0 hz1 hfr2; have hq0 := hcs.1.2; have hq1 := hcs.2.1.2; have hq2 := hcs.2.2.1.2; have hq3 := hcs.2.2.2.1.2; have hz0 := hcs.1.1; have hz1 := hcs.2.2.1.1
        go_wp2
        refine bodyPost_ret (v := .tuple #[.agg #[.int .i64 ep, .slice p3 l.length k3], .bool false, .int .i64 0]) (by simp [results, Tryz.results159, go_sem, *]) rfl ?_
        have hB : Below w.heap.size w w3 := kept_trans hB2 hg3
        exact ⟨p3, k3, rfl, (Ow.mono ((hO3.setCell (p := ⟨_, _, none⟩) hz2' _).setCell (p := ⟨_, _, none⟩) hz2' _) (by omega)), (((hB).setCell (p := ⟨_, _, none⟩) (Nat.le_succ _) _).setCell (p := ⟨_, _, none⟩) (Nat.le_succ _) _)⟩
      · have hne : (ep != s) = false := by simp at hes ⊢; exact hes
        have hL : cmL ep l s i = r := by unfold cmL; rw [e2, hes, hc, hrl]; rfl
        rw [e1, e2, hL, hc, hes, Bool.and_true, show ((0 : Int) == 0) = true by rfl]
        clear hok e1 e2 hL hc hr hrl
        go_enter Tryz.func159, Tryz.ntmps159; go_wp2_with fail; refine (echeck_val HO.out p k _ (H.out.kept (by repeat' (first | (with_reducible exact Below.refl _ _) | (with_reducible assumption) | (with_reducible refine kept_alloc ?_ _) | (with_reducible refine kept_drewN ?_ _) | (with_reducible refine Below.drew ?_) | (with_reducible refine Below.setCell ?_ (by first | omega | (simp; omega) | (simp; done)) _) | (refine kept_trans ?_ (by with_reducible assumption)))))).mono ?_; rintro e w1 ⟨rfl, hg1⟩; have hcs : CellsAt w1 [(w.heap.size, 0, .int .i64 ep), (w.heap.size, 1, .slice p l.length k), (w.heap.size + 1, 0, .int .i64 0), (w.heap.size + 1, 1, .slice none 0 0)] := cells_keep hg1 (by (simp only [CellsAt]; (repeat' (first | exact trivial | (refine And.intro ?_ ?_))); all_goals (first | (focus ((try simp only [World.size_setCell, World.size_alloc]); omega)) | (repeat (first | rfl | assumption | (refine (World.cell?_alloc_past _ _ _ ?_).trans ?_; focus ((try simp only [World.size_setCell, World.size_alloc]); omega)) | (refine (World.cell?_alloc_at _ _ _ _ ?_).trans ?_; focus ((try simp only [World.size_setCell, World.size_alloc]); done)) | (refine (World.cell?_setCell_other _ _ _ _ ?_).trans ?_; focus (simp; done)) | (refine (World.cell?_setCell_other _ _ _ _ ?_).trans ?_; focus (simp; omega)) | (refine World.cell?_setCell_same' _ _ _ ?_; focus (simp; done))))))); have hq0 := hcs.1.2; have hq1 := hcs.2.1.2; have hq2 := hcs.2.2.1.2; have hq3 := hcs.2.2.2.1.2; have hz0 := hcs.1.1; have hz1 := hcs.2.2.1.1; have hfr : ∀ j, w1.frozen? ⟨w.heap.size + 1, j, none⟩ = false := fun j => ((bcell hg1).2 _ _ (by simp)).trans (World.frozen?_alloc_at _ _ _ _ (by simp)); go_wp2_with fail; refine (lenter_oval' HC.out.1 HC.out.2 p k _ (H.out.kept (by repeat' (first | (with_reducible exact Below.refl _ _) | (with_reducible assumption) | (with_reducible refine kept_alloc ?_ _) | (with_reducible refine kept_drewN ?_ _) | (with_reducible refine Below.drew ?_) | (with_reducible refine Below.setCell ?_ (by first | omega | (simp; omega) | (simp; done)) _) | (refine kept_trans ?_ (by with_reducible assumption))))) hm).mono ?_; rintro e w2 ⟨p2, k2, rfl, hO2, hg2⟩; have hfr2 : ∀ j, w2.frozen? ⟨w.heap.size + 1, j, none⟩ = false := fun j => ((bcell hg2).2 _ _ hz1).trans (hfr j); have hz1' : w.heap.size + 1 < w1.heap.size := hz1; have hcs := cells_keep hg2 hcs; clear hq0 hq1 hq2 hq3 hz0 hz1 hfr; have hq0 := hcs.1.2; have hq1 := hcs.2.1.2; have hq2 := hcs.2.2.1.2; have hq3 := hcs.2.2.2.1.2; have hz0 := hcs.1.1; have hz1 := hcs.2.2.1.1; have hB2 : Below w.heap.size w w2 := (by repeat' (first | (with_reducible exact Below.refl _ _) | (with_reducible assumption) | (with_reducible refine kept_alloc ?_ _) | (with_reducible refine kept_drewN ?_ _) | (with_reducible refine Below.drew ?_) | (with_reducible refine Below.setCell ?_ (by first | omega | (simp; omega) | (simp; done)) _) | (refine kept_trans ?_ (by with_reducible assumption)))); clear hg1 hg2
        go_wp2
        refine bodyPost_ret (v := .tuple #[.agg #[.int .i64 ep, .slice p2 r.length k2], .bool true, .int .i64 0]) (by simp [results, Tryz.results159, go_sem, *]) rfl ?_
        exact ⟨p2, k2, rfl, (Ow.mono ((hO2.setCell (p := ⟨_, _, none⟩) hz1' _).setCell (p := ⟨_, _, none⟩) hz1' _) (by omega)), (((hB2).setCell (p := ⟨_, _, none⟩) (Nat.le_succ _) _).setCell (p := ⟨_, _, none⟩) (Nat.le_succ _) _)⟩
    · have hcn : (c != 0) = true := by simpa using hc0
      have hcb : (c == 0) = false := by simpa using hc0
      have hL : cmL ep l s i = l := by unfold cmL; rw [e2, hc, hcb]; rfl
      rw [e1, e2, hL, hc, hcb, Bool.false_and]
      clear hok e1 e2 hL hc hr
      go_enter Tryz.func159, Tryz.ntmps159; go_wp2_with fail; refine (echeck_val HO.out p k _ (H.out.kept (by repeat' (first | (with_reducible exact Below.refl _ _) | (with_reducible assumption) | (with_reducible refine kept_alloc ?_ _) | (with_reducible refine kept_drewN ?_ _) | (with_reducible refine Below.drew ?_) | (with_reducible refine Below.setCell ?_ (by first | omega | (simp; omega) | (simp; done)) _) | (refine kept_trans ?_ (by with_reducible assumption)))))).mono ?_; rintro e w1 ⟨rfl, hg1⟩; have hcs : CellsAt w1 [(w.heap.size, 0, .int .i64 ep), (w.heap.size, 1, .slice p l.length k), (w.heap.size + 1, 0, .int .i64 0), (w.heap.size + 1, 1, .slice none 0 0)] := cells_keep hg1 (by (simp only [CellsAt]; (repeat' (first | exact trivial | (refine And.intro ?_ ?_))); all_goals (first | (focus ((try simp only [World.size_setCell, World.size_alloc]); omega)) | (repeat (first | rfl | assumption | (refine (World.cell?_alloc_past _ _ _ ?_).trans ?_; focus ((try simp only [World.size_setCell, World.size_alloc]); omega)) | (refine (World.cell?_alloc_at _ _ _ _ ?_).trans ?_; focus ((try simp only [World.size_setCell, World.size_alloc]); done)) | (refine (World.cell?_setCell_other _ _ _ _ ?_).trans ?_; focus (simp; done)) | (refine (World.cell?_setCell_other _ _ _ _ ?_).trans ?_; focus (simp; omega)) | (refine World.cell?_setCell_same' _ _ _ ?_; focus (simp; done))))))); have hq0 := hcs.1.2; have hq1 := hcs.2.1.2; have hq2 := hcs.2.2.1.2; have hq3 := hcs.2.2.2.1.2; have hz0 := hcs.1.1; have hz1 := hcs.2.2.1.1; have hfr : ∀ j, w1.frozen? ⟨w.heap.size + 1, j, none⟩ = false := fun j => ((bcell hg1).2 _ _ (by simp)).trans (World.frozen?_alloc_at _ _ _ _ (by simp)); go_wp2_with fail; refine (lenter_oval' HC.out.1 HC.out.2 p k _ (H.out.kept (by repeat' (first | (with_reducible exact Below.refl _ _) | (with_reducible assumption) | (with_reducible refine kept_alloc ?_ _) | (with_reducible refine kept_drewN ?_ _) | (with_reducible refine Below.drew ?_) | (with_reducible refine Below.setCell ?_ (by first | omega | (simp; omega) | (simp; done)) _) | (refine kept_trans ?_ (by with_reducible assumption))))) hm).mono ?_; rintro e w2 ⟨p2, k2, rfl, hO2, hg2⟩; have hfr2 : ∀ j, w2.frozen? ⟨w.heap.size + 1, j, none⟩ = false := fun j => ((bcell hg2).2 _ _ hz1).trans (hfr j); have hz1' : w.heap.size + 1 < w1.heap.size := hz1; have hcs := cells_keep hg2 hcs; clear hq0 hq1 hq2 hq3 hz0 hz1 hfr; have hq0 := hcs.1.2; have hq1 := hcs.2.1.2; have hq2 := hcs.2.2.1.2; have hq3 := hcs.2.2.2.1.2; have hz0 := hcs.1.1; have hz1 := hcs.2.2.1.1; have hB2 : Below w.heap.size w w2 := (by repeat' (first | (with_reducible exact Below.refl _ _) | (with_reducible assumption) | (with_reducible refine kept_alloc ?_ _) | (with_reducible refine kept_drewN ?_ _) | (with_reducible refine Below.drew ?_) | (with_reducible refine Below.setCell ?_ (by first | omega | (simp; omega) | (simp; done)) _) | (refine kept_trans ?_ (by with_reducible assumption)))); clear hg1 hg2
      go_wp2_with fail
      refine (ekept_any ep l p k _ (H.out.kept (by repeat' (first | (with_reducible exact Below.refl _ _) | (with_reducible assumption) | (with_reducible refine kept_alloc ?_ _) | (with_reducible refine kept_drewN ?_ _) | (with_reducible refine Below.drew ?_) | (with_reducible refine Below.setCell ?_ (by first | omega | (simp; omega) | (simp; done)) _) | (refine kept_trans ?_ (by with_reducible assumption))))) hm).mono ?_
      rintro e w3 ⟨p3, k3, rfl, hO3, hg3⟩
      have hfr3 : ∀ j, w3.frozen? ⟨w.heap.size + 1, j, none⟩ = false := fun j => ((bcell hg3).2 _ _ hz1).trans (hfr2 j); have hz2' : w.heap.size + 1 < w2.heap.size := hz1; have hcs := cells_keep hg3 hcs; clear hq0 hq1 hq2 hq3 hz0 hz1 hfr2; have hq0 := hcs.1.2; have hq1 := hcs.2.1.2; have hq2 := hcs.2.2.1.2; have hq3 := hcs.2.2.2.1.2; have hz0 := hcs.1.1; have hz1 := hcs.2.2.1.1
      go_wp2
      refine bodyPost_ret (v := .tuple #[.agg #[.int .i64 ep, .slice p3 l.length k3], .bool false, .int .i64 c]) (by simp [results, Tryz.results159, go_sem, *]) rfl ?_
      have hB : Below w.heap.size w w3 := kept_trans hB2 hg3
      exact ⟨p3, k3, rfl, (Ow.mono ((hO3.setCell (p := ⟨_, _, none⟩) hz2' _).setCell (p := ⟨_, _, none⟩) hz2' _) (by omega)), (((hB).setCell (p := ⟨_, _, none⟩) (Nat.le_succ _) _).setCell (p := ⟨_, _, none⟩) (Nat.le_succ _) _)⟩

end Go.Proofs.YtfllnpcoggmepaaGreat

/- Contracts told by abstract values: the word, by the engine (in place of the walks of XWordC and XWordD). -/
namespace Go.Proofs.YtfllnpcoggmepaaGreat
set_option linter.unusedVariables false
set_option linter.unusedSimpArgs false
open Go.RowKit
theorem two_is {f : Operand → Value} {x y : Operand} {a b : Value} (h : [x, y].map f = [a, b]) : f x = a ∧ f y = b := by simpa using h
theorem guard_agg {t : TypeId} (hg : Tryz.prog.eqGuardType Tryz.prog.depth t = false) (x y : Operand) (a b : Array Value) (W : World) : (eqGuard .neq t x y (.agg a) (.agg b)).run Tryz.prog W = .ok () W ∧ (eqGuard .eql t x y (.agg a) (.agg b)).run Tryz.prog W = .ok () W := by
  constructor <;> simp [eqGuard, hg]
theorem ask_bin {t : TypeId} {bo : BinOp} {a b : Array Value} {r : Value} (hg : ∀ x y W, (eqGuard bo t x y (.agg a) (.agg b)).run Tryz.prog W = .ok () W) (h : ∀ W, (binOp bo t (.agg a) (.agg b)).run Tryz.prog W = .ok r W) (x y : Operand) : AskP Tryz.prog (.binOp bo t x y t) [.agg a, .agg b] r := by
  intro W o f ho hm
  obtain ⟨h1, h2⟩ := two_is hm
  simp [execOp, ho, h1, h2, hg, h]
section
variable {h t m r : Int}
theorem ac_poschk {b : Bool} (hb : checkB h t m r = b) (hh : In64 h) (ht : In64 t) (hm : In64 m) (hr : In64 r) : AC Tryz.prog 111 [wdT h t m, .int .i64 r] (.bool b) := by
  intro O W vs hl hat ; obtain ⟨ys, rfl, _, _, rfl, h0, _, _, rfl, h1, rfl⟩ := args_of hat
  rw [rp_wdT] at h0
  rw [rp_int] at h1
  subst h0 h1
  refine (check_any h t m r hh ht hm hr W).mono ?_
  rintro e W' ⟨rfl, hk⟩
  exact ⟨_, rfl, rp_bool.2 (by rw [hb]), hk⟩
theorem ac_posfull {b : Bool} (hb : fullB h t r = b) (hh : In64 h) (ht : In64 t) : AC Tryz.prog 197 [wdT h t m, .int .i64 r] (.bool b) := by
  intro O W vs hl hat ; obtain ⟨ys, rfl, _, _, rfl, h0, _, _, rfl, h1, rfl⟩ := args_of hat
  rw [rp_wdT] at h0
  rw [rp_int] at h1
  subst h0 h1
  refine (full_any h t m r hh ht W).mono ?_
  rintro e W' ⟨rfl, hk⟩
  exact ⟨_, rfl, rp_bool.2 (by rw [hb]), hk⟩
set_option maxRecDepth 100000 in
theorem ew_accept (hh : In64 h) (ht : In64 t) (hm : In64 m) (hr : In64 r) : AC Tryz.prog 156 [wdT h t m, .int .i64 r] (.tuple #[wdT h (acT h t m r) m, .int .i64 (acP h t m r), .int .i64 (acR h t m r)]) := by
  have no : acR h t m r ≠ 1 → acT h t m r = t ∧ acP h t m r = 0 := fun e => by simp [acT, acP, e]
  by_cases h2 : m = 2
  · have e : acR h t m r = 7 := by simp [acR, haltB, h2]
    rw [(no (by omega)).1, (no (by omega)).2, e]
    exact ac_path mixed (ext := [111, 197]) (fuel := 9) (n := 6) (orc := [.bool true]) (an (show (m == 2) = true by simp [h2]) trivial) (by kernel_rfl)
  · cases hc : checkB h t m r
    · have e : acR h t m r = 7 := by simp [acR, haltB, hc]
      rw [(no (by omega)).1, (no (by omega)).2, e]
      exact ac_path mixed (ext := [111, 197]) (fuel := 9) (n := 6) (orc := [.bool false, vD false]) (an (show (m == 2) = false by simp [h2]) <| an (ac_poschk hc hh ht hm hr) trivial) (by kernel_rfl)
    · have hH : haltB h t m r = false := by simp [haltB, h2, hc]
      by_cases h1 : m = 1
      · have e : acR h t m r = 6 := by unfold acR; rw [hH]; simp [h1]
        rw [(no (by omega)).1, (no (by omega)).2, e]
        exact ac_path mixed (ext := [111, 197]) (fuel := 9) (n := 6) (orc := [.bool false, vD true, .bool true]) (an (show (m == 2) = false by simp [h2]) <| an (ac_poschk hc hh ht hm hr) <| an (show (m == 1) = true by simp [h1]) trivial) (by kernel_rfl)
      · cases hf : fullB h t r
        · by_cases h3 : t = 1099511627776
          · have e : acR h t m r = 2 := by unfold acR; rw [hH]; simp [h1, h3]
            rw [(no (by omega)).1, (no (by omega)).2, e]
            exact ac_path mixed (ext := [111, 197]) (fuel := 9) (n := 6) (orc := [.bool false, vD true, .bool false, vD false, .bool true]) (an (show (m == 2) = false by simp [h2]) <| an (ac_poschk hc hh ht hm hr) <| an (show (m == 1) = false by simp [h1]) <| an (ac_posfull (m := m) hf hh ht) <| an (show (t == 1099511627776) = true by simp [h3]) trivial) (by kernel_rfl)
          · have e : acR h t m r = 1 := by unfold acR; rw [hH, hf]; simp [h1, h3]
            rw [show acT h t m r = t + 1 by simp [acT, e], show acP h t m r = t by simp [acP, e], e]
            have hb : t ≤ 1099511627776 := by simp only [checkB, Bool.and_eq_true, decide_eq_true_eq] at hc; omega
            exact ac_path mixed (ext := [111, 197]) (fuel := 9) (n := 6) (orc := [.bool false, vD true, .bool false, vD false, .bool false]) (an (show (m == 2) = false by simp [h2]) <| an (ac_poschk hc hh ht hm hr) <| an (show (m == 1) = false by simp [h1]) <| an (ac_posfull (m := m) hf hh ht) <| an (show (t == 1099511627776) = false by simp [h3]) <| an (show In64 (t + 1) by have := ht; simp only [In64] at this ⊢; omega) trivial) (by kernel_rfl)
        · have e : acR h t m r = 2 := by unfold acR; rw [hH, hf]; simp [h1]
          rw [(no (by omega)).1, (no (by omega)).2, e]
          exact ac_path mixed (ext := [111, 197]) (fuel := 9) (n := 6) (orc := [.bool false, vD true, .bool false, vD true]) (an (show (m == 2) = false by simp [h2]) <| an (ac_poschk hc hh ht hm hr) <| an (show (m == 1) = false by simp [h1]) <| an (ac_posfull (m := m) hf hh ht) trivial) (by kernel_rfl)
theorem ac_poslen (hh : In64 h) (ht : In64 t) : AC Tryz.prog 66 [wdT h t m] (.int .i64 (lenI h t)) := by
  intro O W vs hl hat
  obtain ⟨ys, rfl, _, _, rfl, h0, rfl⟩ := args_of hat
  rw [rp_wdT] at h0
  subst h0
  refine (len_any h t m hh ht W).mono ?_
  rintro e W' ⟨rfl, hk⟩
  exact ⟨_, rfl, rp_int.2 rfl, hk⟩
set_option maxRecDepth 100000 in
theorem ew_take (hh : In64 h) (ht : In64 t) (hm : In64 m) (hr : In64 r) : ∃ a p, AC Tryz.prog 215 [wdT h t m, .int .i64 r] (.tuple #[wdT a t m, .int .i64 p, .int .i64 (tkR h t m r)]) := by
  by_cases h2 : m = 2
  · rw [show tkR h t m r = 7 by simp [tkR, haltB, h2]]
    exact ⟨h, 0, ac_path mixed (ext := [111, 66]) (fuel := 9) (n := 6) (orc := [.bool true]) (an (show (m == 2) = true by simp [h2]) trivial) (by kernel_rfl)⟩
  · cases hc : checkB h t m r
    · rw [show tkR h t m r = 7 by simp [tkR, haltB, hc]]
      exact ⟨h, 0, ac_path mixed (ext := [111, 66]) (fuel := 9) (n := 6) (orc := [.bool false, vD false]) (an (show (m == 2) = false by simp [h2]) <| an (ac_poschk hc hh ht hm hr) trivial) (by kernel_rfl)⟩
    · have hH : haltB h t m r = false := by simp [haltB, h2, hc]
      by_cases hs : 0 < lenI h t
      · rw [show tkR h t m r = 1 by unfold tkR; rw [hH]; simp [someB, hs]]
        have hb : h ≤ t := by simp only [checkB, Bool.and_eq_true, decide_eq_true_eq] at hc; omega
        have hb2 : t ≤ 1099511627776 := by simp only [checkB, Bool.and_eq_true, decide_eq_true_eq] at hc; omega
        exact ⟨h + 1, h, ac_path mixed (ext := [111, 66]) (fuel := 9) (n := 6) (orc := [.bool false, vD true, .int .i64 (lenI h t), .bool true]) (an (show (m == 2) = false by simp [h2]) <| an (ac_poschk hc hh ht hm hr) <| an (ac_poslen (m := m) hh ht) <| an (show decide (0 < lenI h t) = true by simp [hs]) <| an (show In64 (h + 1) by have := hh; simp only [In64] at this ⊢; omega) trivial) (by kernel_rfl)⟩
      · by_cases h1 : m = 1
        · rw [show tkR h t m r = 6 by unfold tkR; rw [hH]; simp [someB, hs, h1]]
          exact ⟨h, 0, ac_path mixed (ext := [111, 66]) (fuel := 9) (n := 6) (orc := [.bool false, vD true, .int .i64 (lenI h t), .bool false, .bool true]) (an (show (m == 2) = false by simp [h2]) <| an (ac_poschk hc hh ht hm hr) <| an (ac_poslen (m := m) hh ht) <| an (show decide (0 < lenI h t) = false by simp [hs]) <| an (show (m == 1) = true by simp [h1]) trivial) (by kernel_rfl)⟩
        · rw [show tkR h t m r = 4 by unfold tkR; rw [hH]; simp [someB, hs, h1]]
          exact ⟨h, 0, ac_path mixed (ext := [111, 66]) (fuel := 9) (n := 6) (orc := [.bool false, vD true, .int .i64 (lenI h t), .bool false, .bool false]) (an (show (m == 2) = false by simp [h2]) <| an (ac_poschk hc hh ht hm hr) <| an (ac_poslen (m := m) hh ht) <| an (show decide (0 < lenI h t) = false by simp [hs]) <| an (show (m == 1) = false by simp [h1]) trivial) (by kernel_rfl)⟩
set_option maxRecDepth 100000 in
theorem ew_sees (hh : In64 h) (ht : In64 t) (hm : In64 m) (hr : In64 r) : AC Tryz.prog 188 [wdT h t m, .int .i64 r] (.tuple #[.int .i64 (acR h t m r), .int .i64 (tkR h t m r)]) := by
  obtain ⟨a, p, hT⟩ := ew_take hh ht hm hr
  exact ac_path mixed (ext := [156, 215]) (fuel := 9) (n := 6) (orc := [.tuple #[wdT h (acT h t m r) m, .int .i64 (acP h t m r), .int .i64 (acR h t m r)], .tuple #[wdT a t m, .int .i64 p, .int .i64 (tkR h t m r)]]) (an (ew_accept hh ht hm hr) <| an hT trivial) (by kernel_rfl)
theorem ask_wn {a b c d e f : Int} {q : Bool} (hq : (!decide ((⟨a, b, c⟩ : Wo3) = ⟨d, e, f⟩)) = q) (x y : Operand) : AskP Tryz.prog (.binOp .neq 25 x y 25) [wdT a b c, wdT d e f] (.bool q) :=
  ask_bin (fun x y W => (guard_agg (by kernel_rfl) x y _ _ W).1) (fun W => by rw [← hq]; exact wo_neq ⟨a, b, c⟩ ⟨d, e, f⟩ W) x y
set_option maxRecDepth 100000 in
theorem ew_evict {x : Int} (hh : In64 h) (ht : In64 t) (hm : In64 m) (hr : In64 r) : AC Tryz.prog 163 [wdT h t m, .int .i64 r, .int .i64 x] (.tuple #[wdT (evH h t m r x) t m, .bool (evwB h t m r x)]) := by
  have no : evwB h t m r x = false → evH h t m r x = h := fun e => by simp [evH, e]
  by_cases hx : h = x ∧ m = 0
  · have hn : (!decide ((⟨h, t, m⟩ : Wo3) = ⟨x, t, 0⟩)) = false := by simp [hx.1, hx.2]
    cases hc : checkB h t m r
    · have e : evwB h t m r x = false := by simp [evwB, hc]
      rw [no e, e]
      exact ac_path mixed (ext := [111, 197, 66]) (fuel := 9) (n := 6) (orc := [.bool false, .nilFunc, vD false]) (an (ask_wn hn (.tmp 13) (.tmp 14)) <| an (ac_poschk hc hh ht hm hr) trivial) (by kernel_rfl)
    · cases hf : fullB h t r
      · have e : evwB h t m r x = false := by simp [evwB, hf]
        rw [no e, e]
        exact ac_path mixed (ext := [111, 197, 66]) (fuel := 9) (n := 6) (orc := [.bool false, .nilFunc, vD true, vD false]) (an (ask_wn hn (.tmp 13) (.tmp 14)) <| an (ac_poschk hc hh ht hm hr) <| an (ac_posfull (m := m) hf hh ht) trivial) (by kernel_rfl)
      · by_cases hs : 0 < lenI h t
        · have e : evwB h t m r x = true := by
            unfold evwB someB
            rw [hc, hf]
            simp [hx.1, hx.2]
            rw [← hx.1]; exact hs
          rw [show evH h t m r x = h + 1 by simp [evH, e], e]
          have hb : h ≤ t ∧ t ≤ 1099511627776 := by simp only [checkB, Bool.and_eq_true, decide_eq_true_eq] at hc; omega
          exact ac_path mixed (ext := [111, 197, 66]) (fuel := 9) (n := 6) (orc := [.bool false, .nilFunc, vD true, vD true, .int .i64 (lenI h t), .bool false]) (an (ask_wn hn (.tmp 13) (.tmp 14)) <| an (ac_poschk hc hh ht hm hr) <| an (ac_posfull (m := m) hf hh ht) <| an (ac_poslen (m := m) hh ht) <| an (show (!decide (0 < lenI h t)) = false by simp [hs]) <| an (show In64 (h + 1) by have := hh; simp only [In64] at this ⊢; omega) trivial) (by kernel_rfl)
        · have e : evwB h t m r x = false := by simp [evwB, someB, hs]
          rw [no e, e]
          exact ac_path mixed (ext := [111, 197, 66]) (fuel := 9) (n := 6) (orc := [.bool false, .nilFunc, vD true, vD true, .int .i64 (lenI h t), .bool true]) (an (ask_wn hn (.tmp 13) (.tmp 14)) <| an (ac_poschk hc hh ht hm hr) <| an (ac_posfull (m := m) hf hh ht) <| an (ac_poslen (m := m) hh ht) <| an (show (!decide (0 < lenI h t)) = true by simp [hs]) trivial) (by kernel_rfl)
  · have e : evwB h t m r x = false := by
      cases he : evwB h t m r x
      · rfl
      · simp only [evwB, Bool.and_eq_true, beq_iff_eq] at he; exact absurd ⟨he.1.1.1.1, he.1.1.1.2⟩ hx
    rw [no e, e]
    exact ac_path mixed (ext := [111, 197, 66]) (fuel := 9) (n := 6) (orc := [.bool true, .nilFunc]) (an (ask_wn (show (!decide ((⟨h, t, m⟩ : Wo3) = ⟨x, t, 0⟩)) = true by simp; omega) (.tmp 13) (.tmp 14)) trivial) (by kernel_rfl)
/-! ### The document's -/
theorem ac_rposchk {b : Bool} (hb : checkB h t m r = b) (hh : In64 h) (ht : In64 t) (hm : In64 m) (hr : In64 r) : AC Tryz.prog 169 [wdT h t m, .int .i64 r] (.bool b) := by
  intro O W vs hl hat ; obtain ⟨ys, rfl, _, _, rfl, h0, _, _, rfl, h1, rfl⟩ := args_of hat
  rw [rp_wdT] at h0
  rw [rp_int] at h1
  subst h0 h1
  refine (rcheck_any h t m r hh ht hm hr W).mono ?_
  rintro e W' ⟨rfl, hk⟩
  exact ⟨_, rfl, rp_bool.2 (by rw [← hb, check_ref hr]), hk⟩
set_option maxRecDepth 100000 in
theorem er_accept (hh : In64 h) (ht : In64 t) (hm : In64 m) (hr : In64 r) : AC Tryz.prog 98 [wdT h t m, .int .i64 r] (.tuple #[wdT h (acT h t m r) m, .int .i64 (acP h t m r), .int .i64 (acR h t m r)]) := by
  have no : acR h t m r ≠ 1 → acT h t m r = t ∧ acP h t m r = 0 := fun e => by simp [acT, acP, e]
  cases hc : checkB h t m r
  · have e : acR h t m r = 7 := by simp [acR, haltB, hc]
    rw [(no (by omega)).1, (no (by omega)).2, e]
    exact ac_path mixed (ext := [169]) (fuel := 9) (n := 6) (orc := [vD false]) (an (ac_rposchk hc hh ht hm hr) trivial) (by kernel_rfl)
  · have hb := check_len hc
    by_cases h2 : m = 2
    · have e : acR h t m r = 7 := by simp [acR, haltB, h2]
      rw [(no (by omega)).1, (no (by omega)).2, e]
      exact ac_path mixed (ext := [169]) (fuel := 9) (n := 6) (orc := [vD true, .bool true]) (an (ac_rposchk hc hh ht hm hr) <| an (show (m == 2) = true by simp [h2]) trivial) (by kernel_rfl)
    · have hH : haltB h t m r = false := by simp [haltB, h2, hc]
      by_cases h1 : m = 1
      · have e : acR h t m r = 6 := by unfold acR; rw [hH]; simp [h1]
        rw [(no (by omega)).1, (no (by omega)).2, e]
        exact ac_path mixed (ext := [169]) (fuel := 9) (n := 6) (orc := [vD true, .bool false, .bool true]) (an (ac_rposchk hc hh ht hm hr) <| an (show (m == 2) = false by simp [h2]) <| an (show (m == 1) = true by simp [h1]) trivial) (by kernel_rfl)
      · have hi : In64 (t - h) := by simp only [In64]; omega
        by_cases hf : r ≤ t - h
        · have e : acR h t m r = 2 := by unfold acR; rw [hH]; simp [h1, fullB, hb.2.2.2.2.2.1, hf]
          rw [(no (by omega)).1, (no (by omega)).2, e]
          exact ac_path mixed (ext := [169]) (fuel := 9) (n := 6) (orc := [vD true, .bool false, .bool false, .bool true]) (an (ac_rposchk hc hh ht hm hr) <| an (show (m == 2) = false by simp [h2]) <| an (show (m == 1) = false by simp [h1]) <| an hi <| an (show decide (r ≤ t - h) = true by simp [hf]) trivial) (by kernel_rfl)
        · by_cases h3 : t = 1099511627776
          · have e : acR h t m r = 2 := by unfold acR; rw [hH]; simp [h1, h3]
            rw [(no (by omega)).1, (no (by omega)).2, e]
            exact ac_path mixed (ext := [169]) (fuel := 9) (n := 6) (orc := [vD true, .bool false, .bool false, .bool false, .bool true]) (an (ac_rposchk hc hh ht hm hr) <| an (show (m == 2) = false by simp [h2]) <| an (show (m == 1) = false by simp [h1]) <| an hi <| an (show decide (r ≤ t - h) = false by simp; omega) <| an (show (t == 1099511627776) = true by simp [h3]) trivial) (by kernel_rfl)
          · have e : acR h t m r = 1 := by unfold acR; rw [hH]; simp [h1, fullB, hb.2.2.2.2.2.1, hf, h3]
            rw [show acT h t m r = t + 1 by simp [acT, e], show acP h t m r = t by simp [acP, e], e]
            exact ac_path mixed (ext := [169]) (fuel := 9) (n := 6) (orc := [vD true, .bool false, .bool false, .bool false, .bool false]) (an (ac_rposchk hc hh ht hm hr) <| an (show (m == 2) = false by simp [h2]) <| an (show (m == 1) = false by simp [h1]) <| an hi <| an (show decide (r ≤ t - h) = false by simp; omega) <| an (show (t == 1099511627776) = false by simp [h3]) <| an (show In64 (t + 1) by simp only [In64]; omega) trivial) (by kernel_rfl)
set_option maxRecDepth 100000 in
theorem er_evict {x : Int} (hh : In64 h) (ht : In64 t) (hm : In64 m) (hr : In64 r) : AC Tryz.prog 106 [wdT h t m, .int .i64 r, .int .i64 x] (.tuple #[wdT (evH h t m r x) t m, .bool (evwB h t m r x)]) := by
  have no : evwB h t m r x = false → evH h t m r x = h := fun e => by simp [evH, e]
  cases hc : checkB h t m r
  · have e : evwB h t m r x = false := by simp [evwB, hc]
    rw [no e, e]
    exact ac_path mixed (ext := [169]) (fuel := 9) (n := 6) (orc := [vD false]) (an (ac_rposchk hc hh ht hm hr) trivial) (by kernel_rfl)
  · have hb := check_len hc
    have hi : In64 (t - h) := by simp only [In64]; omega
    by_cases h0 : m = 0
    · by_cases hx : h = x
      · by_cases he : t = h
        · have e : evwB h t m r x = false := by unfold evwB someB; rw [hb.2.2.2.2.2.1]; simp [he]
          rw [no e, e]
          exact ac_path mixed (ext := [169]) (fuel := 9) (n := 6) (orc := [vD true, .bool false, .bool false, .bool true]) (an (ac_rposchk hc hh ht hm hr) <| an (show (m != 0) = false by simp [h0]) <| an (show (h != x) = false by simp [hx]) <| an (show (t == h) = true by simp [he]) trivial) (by kernel_rfl)
        · by_cases hf : t - h < r
          · have e : evwB h t m r x = false := by unfold evwB fullB; rw [hb.2.2.2.2.2.1]; simp; omega
            rw [no e, e]
            exact ac_path mixed (ext := [169]) (fuel := 9) (n := 6) (orc := [vD true, .bool false, .bool false, .bool false, .bool true]) (an (ac_rposchk hc hh ht hm hr) <| an (show (m != 0) = false by simp [h0]) <| an (show (h != x) = false by simp [hx]) <| an (show (t == h) = false by simp [he]) <| an hi <| an (show decide (t - h < r) = true by simp [hf]) trivial) (by kernel_rfl)
          · have e : evwB h t m r x = true := by
              unfold evwB fullB someB
              rw [hb.2.2.2.2.2.1, hc]
              simp [hx, h0]
              omega
            rw [show evH h t m r x = h + 1 by simp [evH, e], e]
            have hg : ∀ m' : Int, m' = 0 → AC Tryz.prog 106 [wdT h t m', .int .i64 r, .int .i64 x] (.tuple #[wdT (h + 1) t m', .bool true]) := fun m' hm' => by
              subst hm'
              subst h0
              exact ac_path mixed (ext := [169]) (fuel := 9) (n := 6) (orc := [vD true, .nilFunc, .bool false, .bool false, .bool false]) (an (ac_rposchk hc hh ht hm hr) <| an (show (h != x) = false by simp [hx]) <| an (show (t == h) = false by simp [he]) <| an hi <| an (show decide (t - h < r) = false by simp [hf]) <| an (show In64 (h + 1) by simp only [In64]; omega) trivial) (by kernel_rfl)
            exact hg m h0
      · have e : evwB h t m r x = false := by simp [evwB, hx]
        rw [no e, e]
        exact ac_path mixed (ext := [169]) (fuel := 9) (n := 6) (orc := [vD true, .bool false, .bool true]) (an (ac_rposchk hc hh ht hm hr) <| an (show (m != 0) = false by simp [h0]) <| an (show (h != x) = true by simp [hx]) trivial) (by kernel_rfl)
    · have e : evwB h t m r x = false := by simp [evwB, h0]
      rw [no e, e]
      exact ac_path mixed (ext := [169]) (fuel := 9) (n := 6) (orc := [vD true, .bool true]) (an (ac_rposchk hc hh ht hm hr) <| an (show (m != 0) = true by simp [h0]) trivial) (by kernel_rfl)
end
end Go.Proofs.YtfllnpcoggmepaaGreat

/- Contracts of layer 2's functions over lists, and the document's room. -/
namespace Go.Proofs.YtfllnpcoggmepaaGreat
set_option linter.unusedVariables false
set_option linter.unusedSimpArgs false
open Go.ChangeShapes Go.WideShapes Go.ChangeAt Go.RowKit

def Cf.may (c : Cf) : Bool := mayB c.lg c.th c.po c.wt c.sp c.yi
def Cf.room (c : Cf) : Int := roomI c.lg c.th c.po c.wt c.sp c.yi
def p2 (k : Nat) : Int := if k = 0 then 1 else pw k
end Go.Proofs.YtfllnpcoggmepaaGreat

/- Layer 2: what every statement asks first. -/
namespace Go.Proofs.YtfllnpcoggmepaaGreat
set_option linter.unusedVariables false
set_option linter.unusedSimpArgs false
open Go.ChangeShapes Go.WideShapes Go.ChangeAt Go.RowKit

end Go.Proofs.YtfllnpcoggmepaaGreat

/- Plain functions of layer 7 (how one waits), the program's and the document's, and that they are one. -/
namespace Go.Proofs.YtfllnpcoggmepaaGreat
set_option linter.unusedVariables false
set_option linter.unusedSimpArgs false

theorem wn_no {lg th po wt sp yi n : Int} (h : mayB lg th po wt sp yi = false) : wtnI lg th po wt sp yi n = 0 := by rw [wtnI, h]; rfl
theorem wn_yes {lg th po wt sp yi n : Int} (h : mayB lg th po wt sp yi = true) : wtnI lg th po wt sp yi n = wayI wt sp yi n := by rw [wtnI, if_pos h]
end Go.Proofs.YtfllnpcoggmepaaGreat

/- Maps of a call's own whose keys are integers: made, put into, asked, in whatever order they came. -/
namespace Go.Proofs.YtfllnpcoggmepaaGreat
set_option linter.unusedVariables false
set_option linter.unusedSimpArgs false
open Go.ChangeShapes Go.WideShapes Go.ChangeAt Go.RowKit

/-- The map's block: its keys and elements, in the order in which they came. -/
structure IMapAt (w : World) (mb : Nat) (l : List (Int × Value)) (es : Array MapEntry) (ck : Nat) : Prop where
  obj : w.heap[mb]? = some (.map es ck)
  ents : es.toList.map (fun e => (e.key, e.val)) = l.map (fun d => (Value.int .i64 d.1, d.2))
  born : ∀ x ∈ es.toList, x.born < ck
  nodup : (es.toList.map (·.born)).Nodup
def IMap (w : World) (mb : Nat) (l : List (Int × Value)) : Prop := ∃ es ck, IMapAt w mb l es ck

theorem IMap.of_block {w w' : World} {mb : Nat} {l : List (Int × Value)} (h : IMap w mb l) (hk : w'.heap[mb]? = w.heap[mb]?) : IMap w' mb l := by
  obtain ⟨es, ck, h1, h2, h3, h4⟩ := h
  exact ⟨es, ck, hk.trans h1, h2, h3, h4⟩
theorem IMap.lt {w : World} {mb : Nat} {l : List (Int × Value)} (h : IMap w mb l) : mb < w.heap.size := by
  obtain ⟨es, ck, h1, _⟩ := h
  exact (Array.getElem?_eq_some_iff.1 h1).1
theorem IMap.kept {w w' : World} {mb : Nat} {l : List (Int × Value)} (h : IMap w mb l) (hk : Below w.heap.size w w') : IMap w' mb l := h.of_block (hk.block _ h.lt)
theorem IMapAt.at {w : World} {mb : Nat} {l : List (Int × Value)} {es : Array MapEntry} {ck : Nat} (h : IMapAt w mb l es ck) {j : Nat} {e : MapEntry} (he : es.toList[j]? = some e) : ∃ d, l[j]? = some d ∧ e.key = .int .i64 d.1 ∧ e.val = d.2 := by
  have h1 := congrArg (·[j]?) h.ents
  simp only [List.getElem?_map, he, Option.map_some] at h1
  obtain ⟨d, hd, h2⟩ := Option.map_eq_some_iff.1 h1.symm
  simp only [Prod.mk.injEq] at h2
  exact ⟨d, hd, h2.1.symm, h2.2.symm⟩
theorem IMapAt.mem {w : World} {mb : Nat} {l : List (Int × Value)} {es : Array MapEntry} {ck : Nat} (h : IMapAt w mb l es ck) {e : MapEntry} (he : e ∈ es.toList) : ∃ d ∈ l, e.key = .int .i64 d.1 ∧ e.val = d.2 := by
  obtain ⟨j, hj⟩ := List.getElem?_of_mem he
  obtain ⟨d, hd, h1⟩ := h.at hj
  exact ⟨d, List.mem_of_getElem? hd, h1⟩
theorem IMapAt.find {w : World} {mb : Nat} {l : List (Int × Value)} {es : Array MapEntry} {ck : Nat} (h : IMapAt w mb l es ck) (i : Int) :
    (Instr.findNow (.int .i64) (.int .i64 i) es.toList 0 = some none ∧ ∀ d ∈ l, d.1 ≠ i) ∨
    ∃ j d, Instr.findNow (.int .i64) (.int .i64 i) es.toList 0 = some (some (j, d.2)) ∧ l[j]? = some d ∧ d.1 = i ∧ j < es.size := by
  have hks : ∀ x ∈ es.toList, MapKept.IsKey (.int .i64) x.key := fun x hx => by
    obtain ⟨d, _, hk, _⟩ := h.mem hx
    rw [hk]; rfl
  rcases MapKept.findNow_spec (d := .int .i64) (k := .int .i64 i) rfl es.toList 0 hks with ⟨h1, h2⟩ | ⟨j, e, h1, h2, h3⟩
  · left
    refine ⟨h1, fun d hd hdi => ?_⟩
    obtain ⟨j, hj⟩ := List.getElem?_of_mem hd
    have h4 := congrArg (·[j]?) h.ents
    simp only [List.getElem?_map, hj, Option.map_some] at h4
    obtain ⟨x, hx, h5⟩ := Option.map_eq_some_iff.1 h4
    simp only [Prod.mk.injEq] at h5
    exact h2 x (List.mem_of_getElem? hx) (by rw [h5.1, hdi])
  · right
    obtain ⟨d, hd, h4, h5⟩ := h.at h2
    refine ⟨j, d, by rw [h1, h5, Nat.zero_add], hd, ?_, by simpa using (List.getElem?_eq_some_iff.1 h2).1⟩
    rw [h4] at h3; cases h3; rfl
/-- One that has just been made. -/
theorem IMap.made (w : World) : IMap (w.alloc (.map #[] 0)) w.heap.size [] := ⟨#[], 0, (MapKept.heap_alloc w _).1, rfl, by simp, by simp⟩

section
variable {P : Program} {mty kt et : TypeId}
/-- 'm[i]', asked for its element alone. -/
theorem imap_look (hu : P.underlying mty = some (.map kt et)) (hd : P.underlying kt = some (.int .i64)) {w : World} {mb : Nat} {l : List (Int × Value)} (h : IMap w mb l) (hn : (l.map (·.1)).Nodup) {i : Int} {v : Value} (hi : (i, v) ∈ l) :
    (Instr.lookup mty (.map (some mb)) (.int .i64 i) false).run P w = .ok v w := by
  obtain ⟨es, ck, h⟩ := h
  have hg := MapKept.run_getObj_map (P := P) h.obj
  have hc := MapKept.run_checkKey (P := P) (w := w) (k := .int .i64 i) hd rfl es.isEmpty 9999
  rcases h.find i with ⟨h1, h2⟩ | ⟨j, d, h1, h2, h3, h4⟩
  · exact absurd rfl (h2 _ hi)
  · have hf := MapKept.run_findKey (P := P) (w := w) hd h1
    have hdv : d = (i, v) := by
      obtain ⟨j', hj'⟩ := List.getElem?_of_mem hi
      have e1 : (l.map (·.1))[j]? = some i := by simp [h2, h3]
      have e2 : (l.map (·.1))[j']? = some i := by simp [hj']
      have hl : j < (l.map (·.1)).length := (List.getElem?_eq_some_iff.1 e1).1
      have : j = j' := (List.getElem?_inj hl hn).1 (e1.trans e2.symm)
      subst this
      rw [h2] at hj'; cases hj'; rfl
    subst hdv
    simp [Instr.lookup, run_underlying hu, hg, hc, hf, Result.andThen]

/-- 'm[i] = v', where none is there. -/
theorem imap_put (hu : P.underlying mty = some (.map kt et)) (hd : P.underlying kt = some (.int .i64)) {w : World} {mb : Nat} {l : List (Int × Value)} (h : IMap w mb l) (i : Int) (v : Value) (hn : ∀ d ∈ l, d.1 ≠ i) :
    ∃ w', (Instr.mapUpdate mty (.map (some mb)) (.int .i64 i) v).run P w = .ok () w' ∧ IMap w' mb (l ++ [(i, v)]) ∧ w'.heap.size = w.heap.size ∧ (∀ n, n ≤ mb → Below n w w') := by
  obtain ⟨es, ck, h⟩ := h
  have hg := MapKept.run_getObj_map (P := P) h.obj
  have hc := MapKept.run_checkKey (P := P) (w := w) (k := .int .i64 i) hd rfl false 9999
  rcases h.find i with ⟨h1, h2⟩ | ⟨j, x, h1, h2, h3, h4⟩
  · have hf := MapKept.run_findKey (P := P) (w := w) hd h1
    have hs := MapKept.heap_set (o' := .map (es.push { key := .int .i64 i, val := v, born := ck }) (ck + 1)) h.obj
    refine ⟨{ w with heap := w.heap.setIfInBounds mb (.map (es.push { key := .int .i64 i, val := v, born := ck }) (ck + 1)) }, by simp [Instr.mapUpdate, run_underlying hu, hg, hc, hf, MapKept.run_setObj_map _ h.obj, Result.andThen], ⟨_, _, hs.1, ?_, ?_, ?_⟩, by simp, fun n hn => ⟨rfl, rfl, rfl, by simp, fun j hj => hs.2 j (by omega)⟩⟩
    · simp [h.ents]
    · intro x hx
      simp only [Array.toList_push, List.mem_append, List.mem_singleton] at hx
      rcases hx with hx | rfl
      · exact Nat.lt_succ_of_lt (h.born x hx)
      · exact Nat.lt_succ_self _
    · simp only [Array.toList_push, List.map_append, List.map_cons, List.map_nil]
      refine List.nodup_append.2 ⟨h.nodup, by simp, ?_⟩
      intro a ha b hb
      simp only [List.mem_singleton] at hb
      subst hb
      obtain ⟨x, hx, rfl⟩ := List.mem_map.1 ha
      exact Nat.ne_of_lt (h.born x hx)
  · exact absurd h3 (hn x (List.mem_of_getElem? h2))
end

/-! ### What is left of a range -/
end Go.Proofs.YtfllnpcoggmepaaGreat

/- Layer 7: the ways to wait, their table; the way of a configuration; what may be done, and how often something is. -/
namespace Go.Proofs.YtfllnpcoggmepaaGreat
set_option linter.unusedVariables false
set_option linter.unusedSimpArgs false
open Go.ChangeShapes Go.WideShapes Go.ChangeAt Go.RowKit

theorem wbusy_any (lg th po wt sp yi n : Int) (si : Bool) (w : World) : Calls Tryz.prog 227 #[.agg #[.int .i64 lg, .int .i64 th, .int .i64 po, .int .i64 wt, .int .i64 sp, .int .i64 yi, .bool si], .int .i64 n] w fun e w' => e = .returned (.int .i64 0) ∧ Kept w w' := by
  go_enter Tryz.func227, Tryz.ntmps227
  go_wp2
  go_ret
  exact ⟨rfl, by repeat' (first | (with_reducible exact Below.refl _ _) | (with_reducible assumption) | (with_reducible refine kept_alloc ?_ _) | (with_reducible refine kept_drewN ?_ _) | (with_reducible refine Below.drew ?_) | (with_reducible refine Below.setCell ?_ (by first | omega | (simp; omega) | (simp; done)) _) | (refine kept_trans ?_ (by with_reducible assumption)))⟩
theorem wyielding_any (lg th po wt sp yi n : Int) (si : Bool) (w : World) : Calls Tryz.prog 228 #[.agg #[.int .i64 lg, .int .i64 th, .int .i64 po, .int .i64 wt, .int .i64 sp, .int .i64 yi, .bool si], .int .i64 n] w fun e w' => e = .returned (.int .i64 1) ∧ Kept w w' := by
  go_enter Tryz.func228, Tryz.ntmps228
  go_wp2
  go_ret
  exact ⟨rfl, by repeat' (first | (with_reducible exact Below.refl _ _) | (with_reducible assumption) | (with_reducible refine kept_alloc ?_ _) | (with_reducible refine kept_drewN ?_ _) | (with_reducible refine Below.drew ?_) | (with_reducible refine Below.setCell ?_ (by first | omega | (simp; omega) | (simp; done)) _) | (refine kept_trans ?_ (by with_reducible assumption)))⟩
theorem wparking_any (lg th po wt sp yi n : Int) (si : Bool) (w : World) : Calls Tryz.prog 230 #[.agg #[.int .i64 lg, .int .i64 th, .int .i64 po, .int .i64 wt, .int .i64 sp, .int .i64 yi, .bool si], .int .i64 n] w fun e w' => e = .returned (.int .i64 2) ∧ Kept w w' := by
  go_enter Tryz.func230, Tryz.ntmps230
  go_wp2
  go_ret
  exact ⟨rfl, by repeat' (first | (with_reducible exact Below.refl _ _) | (with_reducible assumption) | (with_reducible refine kept_alloc ?_ _) | (with_reducible refine kept_drewN ?_ _) | (with_reducible refine Below.drew ?_) | (with_reducible refine Below.setCell ?_ (by first | omega | (simp; omega) | (simp; done)) _) | (refine kept_trans ?_ (by with_reducible assumption)))⟩
def phI (sp yi n : Int) : Int := if n < sp then 0 else if n < sp + yi then 1 else 2
theorem wphased_any (lg th po wt sp yi n : Int) (si : Bool) (w : World) (h1 : 0 ≤ sp ∧ sp ≤ 8) (h2 : 0 ≤ yi ∧ yi ≤ 8) : Calls Tryz.prog 229 #[.agg #[.int .i64 lg, .int .i64 th, .int .i64 po, .int .i64 wt, .int .i64 sp, .int .i64 yi, .bool si], .int .i64 n] w fun e w' => e = .returned (.int .i64 (phI sp yi n)) ∧ Kept w w' := by
  have hw : IntKind.i64.wrap (sp + yi) = sp + yi := IntWalk.i64_in _ (by omega)
  by_cases c1 : n < sp
  · have hk : phI sp yi n = 0 := if_pos c1
    rw [hk]
    clear hk
    go_enter Tryz.func229, Tryz.ntmps229
    go_wp2
    all_goals (go_ret; exact ⟨rfl, by repeat' (first | (with_reducible exact Below.refl _ _) | (with_reducible assumption) | (with_reducible refine kept_alloc ?_ _) | (with_reducible refine kept_drewN ?_ _) | (with_reducible refine Below.drew ?_) | (with_reducible refine Below.setCell ?_ (by first | omega | (simp; omega) | (simp; done)) _) | (refine kept_trans ?_ (by with_reducible assumption)))⟩)
  · by_cases c2 : n < sp + yi
    · have hk : phI sp yi n = 1 := by unfold phI; rw [if_neg c1, if_pos c2]
      rw [hk]
      clear hk
      go_enter Tryz.func229, Tryz.ntmps229
      go_wp2
      all_goals (go_ret; exact ⟨rfl, by repeat' (first | (with_reducible exact Below.refl _ _) | (with_reducible assumption) | (with_reducible refine kept_alloc ?_ _) | (with_reducible refine kept_drewN ?_ _) | (with_reducible refine Below.drew ?_) | (with_reducible refine Below.setCell ?_ (by first | omega | (simp; omega) | (simp; done)) _) | (refine kept_trans ?_ (by with_reducible assumption)))⟩)
    · have hk : phI sp yi n = 2 := by unfold phI; rw [if_neg c1, if_neg c2]
      rw [hk]
      clear hk
      go_enter Tryz.func229, Tryz.ntmps229
      go_wp2
      all_goals (go_ret; exact ⟨rfl, by repeat' (first | (with_reducible exact Below.refl _ _) | (with_reducible assumption) | (with_reducible refine kept_alloc ?_ _) | (with_reducible refine kept_drewN ?_ _) | (with_reducible refine Below.drew ?_) | (with_reducible refine Below.setCell ?_ (by first | omega | (simp; omega) | (simp; done)) _) | (refine kept_trans ?_ (by with_reducible assumption)))⟩)

/-- The table of the ways. -/
def wfn (f : Nat) : Value := .func (.func f) #[] #[]
def waysL : List (Int × Value) := [(0, .func (.func 227) #[] #[]), (1, .func (.func 228) #[] #[]), (2, .func (.func 229) #[] #[]), (3, .func (.func 230) #[] #[])]
def RetM (L : List (Int × Value)) (w : World) (e : Ending) (w' : World) : Prop := ∃ mb, e = .returned (.map (some mb)) ∧ IMap w' mb L ∧ w.heap.size ≤ mb ∧ Kept w w'
theorem wways_any (w : World) : Calls Tryz.prog 225 #[] w (RetM waysL w) := by
  have hmm := @run_makeMap Tryz.prog
  have hu := Tryz.underlying185
  have hd := Tryz.underlying3
  obtain ⟨w1, u1, m1, s1, b1⟩ := imap_put hu hd (IMap.made w) 0 (.func (.func 227) #[] #[]) (by simp)
  obtain ⟨w2, u2, m2, s2, b2⟩ := imap_put hu hd m1 1 (.func (.func 228) #[] #[]) (by simp)
  obtain ⟨w3, u3, m3, s3, b3⟩ := imap_put hu hd m2 2 (.func (.func 229) #[] #[]) (by simp)
  obtain ⟨w4, u4, m4, s4, b4⟩ := imap_put hu hd m3 3 (.func (.func 230) #[] #[]) (by simp)
  have hB : Below w.heap.size w w4 := ((((Below.refl _ _).alloc (Nat.le_refl _) _).trans (b1 _ (Nat.le_refl _))).trans (b2 _ (Nat.le_refl _))).trans ((b3 _ (Nat.le_refl _)).trans (b4 _ (Nat.le_refl _)))
  have HE := Lib.hid (And.intro m4 hB)
  clear m1 m2 m3 m4 s1 s2 s3 s4 b1 b2 b3 b4 hB hu hd
  go_enter Tryz.func225, Tryz.ntmps225
  go_wp2
  go_ret
  exact ⟨_, rfl, HE.out.1, Nat.le_refl _, HE.out.2⟩

/-- The way of a configuration; of one that may not be: busy. -/
theorem wayof_yes (lg th po wt sp yi : Int) (si : Bool) (w : World) (hm : mayB lg th po wt sp yi = true) : Calls Tryz.prog 224 #[.agg #[.int .i64 lg, .int .i64 th, .int .i64 po, .int .i64 wt, .int .i64 sp, .int .i64 yi, .bool si]] w fun e w' => e = .returned (.agg #[.int .i64 lg, .int .i64 th, .int .i64 po, .int .i64 wt, .int .i64 sp, .int .i64 yi, .bool si]) ∧ Kept w w' := by
  have hk := ck_yes hm
  go_enter Tryz.func224, Tryz.ntmps224
  go_wp2_with (first | (go_at_call 54; refine (ccheck_any _ _ _ _ _ _ _ _).mono ?_; rintro e wx ⟨rfl, hgx⟩; obtain ⟨hcx, hfx⟩ := bcell hgx; have hz0 : w.heap.size < wx.heap.size := (by have := hgx.size; (try simp at this); omega); have hz1 : w.heap.size + 1 < wx.heap.size := (by have := hgx.size; (try simp at this); omega)))
  refine bodyPost_ret (v := .agg #[.int .i64 lg, .int .i64 th, .int .i64 po, .int .i64 wt, .int .i64 sp, .int .i64 yi, .bool si]) (by simp [results, Tryz.results224, go_sem, *]) rfl ?_
  exact ⟨rfl, by repeat' (first | (with_reducible exact Below.refl _ _) | (with_reducible assumption) | (with_reducible refine kept_alloc ?_ _) | (with_reducible refine kept_drewN ?_ _) | (with_reducible refine Below.drew ?_) | (with_reducible refine Below.setCell ?_ (by first | omega | (simp; omega) | (simp; done)) _) | (refine kept_trans ?_ (by with_reducible assumption)))⟩
theorem wayof_no (lg th po wt sp yi : Int) (si : Bool) (w : World) (hm : mayB lg th po wt sp yi = false) : Calls Tryz.prog 224 #[.agg #[.int .i64 lg, .int .i64 th, .int .i64 po, .int .i64 wt, .int .i64 sp, .int .i64 yi, .bool si]] w fun e w' => e = .returned (.agg #[.int .i64 0, .int .i64 0, .int .i64 0, .int .i64 0, .int .i64 0, .int .i64 0, .bool false]) ∧ Kept w w' := by
  have hk := ck_no hm
  go_enter Tryz.func224, Tryz.ntmps224
  go_wp2_with (first | (go_at_call 54; refine (ccheck_any _ _ _ _ _ _ _ _).mono ?_; rintro e wx ⟨rfl, hgx⟩; obtain ⟨hcx, hfx⟩ := bcell hgx; have hz0 : w.heap.size < wx.heap.size := (by have := hgx.size; (try simp at this); omega); have hz1 : w.heap.size + 1 < wx.heap.size := (by have := hgx.size; (try simp at this); omega)))
  refine bodyPost_ret (v := .agg #[.int .i64 0, .int .i64 0, .int .i64 0, .int .i64 0, .int .i64 0, .int .i64 0, .bool false]) (by simp [results, Tryz.results224, go_sem, *]) rfl ?_
  exact ⟨rfl, by repeat' (first | (with_reducible exact Below.refl _ _) | (with_reducible assumption) | (with_reducible refine kept_alloc ?_ _) | (with_reducible refine kept_drewN ?_ _) | (with_reducible refine Below.drew ?_) | (with_reducible refine Below.setCell ?_ (by first | omega | (simp; omega) | (simp; done)) _) | (refine kept_trans ?_ (by with_reducible assumption)))⟩
end Go.Proofs.YtfllnpcoggmepaaGreat

/- Layer 7: how often something is in a list. -/
namespace Go.Proofs.YtfllnpcoggmepaaGreat
set_option linter.unusedVariables false
set_option linter.unusedSimpArgs false
open Go.ChangeShapes Go.WideShapes Go.ChangeAt Go.RowKit

end Go.Proofs.YtfllnpcoggmepaaGreat

/- Layer 7: Next. -/
namespace Go.Proofs.YtfllnpcoggmepaaGreat
set_option linter.unusedVariables false
set_option linter.unusedSimpArgs false
open Go.ChangeShapes Go.WideShapes Go.ChangeAt Go.RowKit

/-- What the region's values are, in the text's order. -/
def NxF (yb : Nat) (ca cb cc cd ce cf : Int) (cg : Bool) (n m r : Int) (fn : Nat) : Nat → Value → World → Prop
  | 0, v, W => ∃ mb, v = .map (some mb) ∧ IMap W mb waysL
  | 1, v, _ => v = .pointer (some ⟨yb, 3, none⟩)
  | 2, v, _ => v = .int .i64 cd
  | 3, v, _ => v = .func (.func fn) #[] #[]
  | 4, v, _ => v = .agg #[.int .i64 ca, .int .i64 cb, .int .i64 cc, .int .i64 cd, .int .i64 ce, .int .i64 cf, .bool cg]
  | 5, v, _ => v = .int .i64 n
  | 6, v, _ => v = .int .i64 m
  | 7, v, _ => v = .int .i64 r
  | 8, v, _ => v = .int .i64 r
  | _, _, _ => True
theorem nxf_mono (yb : Nat) (ca cb cc cd ce cf : Int) (cg : Bool) (n m r : Int) (fn : Nat) (i : Nat) (v : Value) (W W' : World) (h : NxF yb ca cb cc cd ce cf cg n m r fn i v W) (hk : Below W.heap.size W W') : NxF yb ca cb cc cd ce cf cg n m r fn i v W' := by
  match i with
  | 0 => obtain ⟨mb, rfl, hM⟩ := h; exact ⟨mb, rfl, hM.kept hk⟩
  | 1 | 2 | 3 | 4 | 5 | 6 | 7 | 8 => exact h
  | _ + 9 => trivial
theorem ways_fn {i : Int} {fn : Nat} (h : (i, wfn fn) ∈ waysL) : fn = 227 ∨ fn = 228 ∨ fn = 229 ∨ fn = 230 := by
  simp [waysL, wfn] at h
  rcases h with ⟨_, h⟩ | ⟨_, h⟩ | ⟨_, h⟩ | ⟨_, h⟩ <;> simp [h]
theorem ways_nodup : (waysL.map (·.1)).Nodup := by decide

set_option maxHeartbeats 2000000 in
theorem next_core (lg th po wt sp yi : Int) (si : Bool) (ca cb cc cd ce cf : Int) (cg : Bool) (n m r : Int) (fn : Nat) (w : World) (hmn : m = max n 0)
    (hW : ∀ W, Calls Tryz.prog 224 #[.agg #[.int .i64 lg, .int .i64 th, .int .i64 po, .int .i64 wt, .int .i64 sp, .int .i64 yi, .bool si]] W fun e w' => e = .returned (.agg #[.int .i64 ca, .int .i64 cb, .int .i64 cc, .int .i64 cd, .int .i64 ce, .int .i64 cf, .bool cg]) ∧ Kept W w') (hk : (cd, wfn fn) ∈ waysL)
    (hF : ∀ W, Calls Tryz.prog fn #[.agg #[.int .i64 ca, .int .i64 cb, .int .i64 cc, .int .i64 cd, .int .i64 ce, .int .i64 cf, .bool cg], .int .i64 m] W fun e w' => e = .returned (.int .i64 r) ∧ Kept W w') :
    Calls Tryz.prog 217 #[.agg #[.int .i64 lg, .int .i64 th, .int .i64 po, .int .i64 wt, .int .i64 sp, .int .i64 yi, .bool si], .int .i64 n] w fun e w' => e = .returned (.int .i64 r) ∧ Kept w w' := by
  have HW := Lib.hid hW
  have HF := Lib.hid hF
  have HK := Lib.hid hk
  have HM := Lib.hid hmn
  clear hW hF hk hmn
  go_enter Tryz.func217, Tryz.ntmps217
  go_wp2_with fail
  refine (HW.out _).mono ?_
  rintro e w1 ⟨rfl, hg1⟩
  have hcs : CellsAt w1 [(w.heap.size, 0, .int .i64 lg), (w.heap.size, 1, .int .i64 th), (w.heap.size, 2, .int .i64 po), (w.heap.size, 3, .int .i64 wt), (w.heap.size, 4, .int .i64 sp), (w.heap.size, 5, .int .i64 yi), (w.heap.size, 6, .bool si)] := cells_keep hg1 (by (simp only [CellsAt]; (repeat' (first | exact trivial | (refine And.intro ?_ ?_))); all_goals (first | (focus ((try simp only [World.size_setCell, World.size_alloc]); omega)) | (repeat (first | rfl | assumption | (refine (World.cell?_alloc_past _ _ _ ?_).trans ?_; focus ((try simp only [World.size_setCell, World.size_alloc]); omega)) | (refine (World.cell?_alloc_at _ _ _ _ ?_).trans ?_; focus ((try simp only [World.size_setCell, World.size_alloc]); done)) | (refine (World.cell?_setCell_other _ _ _ _ ?_).trans ?_; focus (simp; done)) | (refine (World.cell?_setCell_other _ _ _ _ ?_).trans ?_; focus (simp; omega)) | (refine World.cell?_setCell_same' _ _ _ ?_; focus (simp; done)))))))
  have hB1 : Below w.heap.size w w1 := by repeat' (first | (with_reducible exact Below.refl _ _) | (with_reducible assumption) | (with_reducible refine kept_alloc ?_ _) | (with_reducible refine kept_drewN ?_ _) | (with_reducible refine Below.drew ?_) | (with_reducible refine Below.setCell ?_ (by first | omega | (simp; omega) | (simp; done)) _) | (refine kept_trans ?_ (by with_reducible assumption)))
  clear hg1
  go_wp2_with fail
  obtain ⟨V, hV⟩ : ∃ V, w1.alloc (.cells #[.int .i64 ca, .int .i64 cb, .int .i64 cc, .int .i64 cd, .int .i64 ce, .int .i64 cf, .bool cg] 182) = V := ⟨_, rfl⟩
  obtain ⟨yb, hyb⟩ : ∃ yb, w1.heap.size = yb := ⟨_, rfl⟩
  have hcs2 : CellsAt V [(yb, 0, .int .i64 ca), (yb, 1, .int .i64 cb), (yb, 2, .int .i64 cc), (yb, 3, .int .i64 cd), (yb, 4, .int .i64 ce), (yb, 5, .int .i64 cf), (yb, 6, .bool cg)] := by rw [← hV, ← hyb]; (simp only [CellsAt]; (repeat' (first | exact trivial | (refine And.intro ?_ ?_))); all_goals (first | (focus ((try simp only [World.size_setCell, World.size_alloc]); omega)) | (repeat (first | rfl | assumption | (refine (World.cell?_alloc_past _ _ _ ?_).trans ?_; focus ((try simp only [World.size_setCell, World.size_alloc]); omega)) | (refine (World.cell?_alloc_at _ _ _ _ ?_).trans ?_; focus ((try simp only [World.size_setCell, World.size_alloc]); done)) | (refine (World.cell?_setCell_other _ _ _ _ ?_).trans ?_; focus (simp; done)) | (refine (World.cell?_setCell_other _ _ _ _ ?_).trans ?_; focus (simp; omega)) | (refine World.cell?_setCell_same' _ _ _ ?_; focus (simp; done))))))
  have hB : Below w.heap.size w V := by rw [← hV]; repeat' (first | (with_reducible exact Below.refl _ _) | (with_reducible assumption) | (with_reducible refine kept_alloc ?_ _) | (with_reducible refine kept_drewN ?_ _) | (with_reducible refine Below.drew ?_) | (with_reducible refine Below.setCell ?_ (by first | omega | (simp; omega) | (simp; done)) _) | (refine kept_trans ?_ (by with_reducible assumption)))
  rw [hV, hyb]
  clear hcs hB1 hV hyb
  have hsz : yb < V.heap.size := hcs2.1.1
  have hcs := hcs2
  clear hcs2
  have hq0 := hcs.1.2; have hq1 := hcs.2.1.2; have hq2 := hcs.2.2.1.2; have hq3 := hcs.2.2.2.1.2; have hq4 := hcs.2.2.2.2.1.2; have hq5 := hcs.2.2.2.2.2.1.2; have hq6 := hcs.2.2.2.2.2.2.1.2; have hz0 := hcs.1.1
  have HB := Lib.hid hB
  clear hB
  refine wp_region_facts [8, 9, 10, 11, 12, 13, 14, 15, 4] (NxF yb ca cb cc cd ce cf cg n m r fn) (by kernel_rfl) (by kernel_rfl) rfl (by decide) (by intro d hd; show d < 16; revert d hd; decide) rfl (nxf_mono yb ca cb cc cd ce cf cg n m r fn) ?step ?fin
  case step =>
    intro i o ho b W h
    have e1 := h.base 1 (v := .int .i64 n) (by decide) rfl
    have e5 := h.base 5 (v := .pointer (some ⟨yb, 0, none⟩)) (by decide) rfl
    have c0 := (h.kept.cell (p := ⟨yb, 0, none⟩) hsz).trans hq0
    have c1 := (h.kept.cell (p := ⟨yb, 1, none⟩) hsz).trans hq1
    have c2 := (h.kept.cell (p := ⟨yb, 2, none⟩) hsz).trans hq2
    have c3 := (h.kept.cell (p := ⟨yb, 3, none⟩) hsz).trans hq3
    have c4 := (h.kept.cell (p := ⟨yb, 4, none⟩) hsz).trans hq4
    have c5 := (h.kept.cell (p := ⟨yb, 5, none⟩) hsz).trans hq5
    have c6 := (h.kept.cell (p := ⟨yb, 6, none⟩) hsz).trans hq6
    clear hq0 hq1 hq2 hq3 hq4 hq5 hq6 hcs
    have hi : i < 9 := (List.getElem?_eq_some_iff.1 ho).1
    obtain rfl | rfl | rfl | rfl | rfl | rfl | rfl | rfl | rfl : i = 0 ∨ i = 1 ∨ i = 2 ∨ i = 3 ∨ i = 4 ∨ i = 5 ∨ i = 6 ∨ i = 7 ∨ i = 8 := by omega
    all_goals cases ho
    · (have hzn : b.tmps.size = 16 := h.size; have hd0 : b.defers = [] := h.defers; rw [act_lit hzn hd0]; have hrr : List.range 16 = [0, 1, 2, 3, 4, 5, 6, 7, 8, 9, 10, 11, 12, 13, 14, 15] := rfl; simp only [hrr, List.map_cons, List.map_nil, e1]; clear hzn hd0 hrr; (try generalize b.tmps.getD 0 undef = u0); (try generalize b.tmps.getD 1 undef = u1); (try generalize b.tmps.getD 2 undef = u2); (try generalize b.tmps.getD 3 undef = u3); (try generalize b.tmps.getD 4 undef = u4); (try generalize b.tmps.getD 5 undef = u5); (try generalize b.tmps.getD 6 undef = u6); (try generalize b.tmps.getD 7 undef = u7); (try generalize b.tmps.getD 8 undef = u8); (try generalize b.tmps.getD 9 undef = u9); (try generalize b.tmps.getD 10 undef = u10); (try generalize b.tmps.getD 11 undef = u11); (try generalize b.tmps.getD 12 undef = u12); (try generalize b.tmps.getD 13 undef = u13); (try generalize b.tmps.getD 14 undef = u14); (try generalize b.tmps.getD 15 undef = u15))
      go_wp2_with (go_at_call 225; refine (wways_any _).mono ?_; rintro e wx ⟨mb, rfl, hM, hmb, hgx⟩)
      exact ⟨_, rfl, ⟨mb, rfl, hM⟩, hgx⟩
    · (have hzn : b.tmps.size = 16 := h.size; have hd0 : b.defers = [] := h.defers; rw [act_lit hzn hd0]; have hrr : List.range 16 = [0, 1, 2, 3, 4, 5, 6, 7, 8, 9, 10, 11, 12, 13, 14, 15] := rfl; simp only [hrr, List.map_cons, List.map_nil, e5]; clear hzn hd0 hrr; (try generalize b.tmps.getD 0 undef = u0); (try generalize b.tmps.getD 1 undef = u1); (try generalize b.tmps.getD 2 undef = u2); (try generalize b.tmps.getD 3 undef = u3); (try generalize b.tmps.getD 4 undef = u4); (try generalize b.tmps.getD 5 undef = u5); (try generalize b.tmps.getD 6 undef = u6); (try generalize b.tmps.getD 7 undef = u7); (try generalize b.tmps.getD 8 undef = u8); (try generalize b.tmps.getD 9 undef = u9); (try generalize b.tmps.getD 10 undef = u10); (try generalize b.tmps.getD 11 undef = u11); (try generalize b.tmps.getD 12 undef = u12); (try generalize b.tmps.getD 13 undef = u13); (try generalize b.tmps.getD 14 undef = u14); (try generalize b.tmps.getD 15 undef = u15))
      go_wp2
      exact ⟨_, rfl, rfl, Below.refl _ _⟩
    · obtain ⟨_, g9, rfl⟩ := h.got 1 rfl rfl
      (have hzn : b.tmps.size = 16 := h.size; have hd0 : b.defers = [] := h.defers; rw [act_lit hzn hd0]; have hrr : List.range 16 = [0, 1, 2, 3, 4, 5, 6, 7, 8, 9, 10, 11, 12, 13, 14, 15] := rfl; simp only [hrr, List.map_cons, List.map_nil, g9]; clear hzn hd0 hrr; (try generalize b.tmps.getD 0 undef = u0); (try generalize b.tmps.getD 1 undef = u1); (try generalize b.tmps.getD 2 undef = u2); (try generalize b.tmps.getD 3 undef = u3); (try generalize b.tmps.getD 4 undef = u4); (try generalize b.tmps.getD 5 undef = u5); (try generalize b.tmps.getD 6 undef = u6); (try generalize b.tmps.getD 7 undef = u7); (try generalize b.tmps.getD 8 undef = u8); (try generalize b.tmps.getD 9 undef = u9); (try generalize b.tmps.getD 10 undef = u10); (try generalize b.tmps.getD 11 undef = u11); (try generalize b.tmps.getD 12 undef = u12); (try generalize b.tmps.getD 13 undef = u13); (try generalize b.tmps.getD 14 undef = u14); (try generalize b.tmps.getD 15 undef = u15))
      go_wp2
      exact ⟨_, rfl, rfl, Below.refl _ _⟩
    · obtain ⟨_, g8, mb, rfl, hM⟩ := h.got 0 rfl rfl
      obtain ⟨_, g10, rfl⟩ := h.got 2 rfl rfl
      have hlk := imap_look Tryz.underlying185 Tryz.underlying3 hM ways_nodup HK.out
      unfold wfn at hlk
      (have hzn : b.tmps.size = 16 := h.size; have hd0 : b.defers = [] := h.defers; rw [act_lit hzn hd0]; have hrr : List.range 16 = [0, 1, 2, 3, 4, 5, 6, 7, 8, 9, 10, 11, 12, 13, 14, 15] := rfl; simp only [hrr, List.map_cons, List.map_nil, g8, g10]; clear hzn hd0 hrr; (try generalize b.tmps.getD 0 undef = u0); (try generalize b.tmps.getD 1 undef = u1); (try generalize b.tmps.getD 2 undef = u2); (try generalize b.tmps.getD 3 undef = u3); (try generalize b.tmps.getD 4 undef = u4); (try generalize b.tmps.getD 5 undef = u5); (try generalize b.tmps.getD 6 undef = u6); (try generalize b.tmps.getD 7 undef = u7); (try generalize b.tmps.getD 8 undef = u8); (try generalize b.tmps.getD 9 undef = u9); (try generalize b.tmps.getD 10 undef = u10); (try generalize b.tmps.getD 11 undef = u11); (try generalize b.tmps.getD 12 undef = u12); (try generalize b.tmps.getD 13 undef = u13); (try generalize b.tmps.getD 14 undef = u14); (try generalize b.tmps.getD 15 undef = u15))
      go_wp2
      exact ⟨_, rfl, rfl, Below.refl _ _⟩
    · (have hzn : b.tmps.size = 16 := h.size; have hd0 : b.defers = [] := h.defers; rw [act_lit hzn hd0]; have hrr : List.range 16 = [0, 1, 2, 3, 4, 5, 6, 7, 8, 9, 10, 11, 12, 13, 14, 15] := rfl; simp only [hrr, List.map_cons, List.map_nil, e5]; clear hzn hd0 hrr; (try generalize b.tmps.getD 0 undef = u0); (try generalize b.tmps.getD 1 undef = u1); (try generalize b.tmps.getD 2 undef = u2); (try generalize b.tmps.getD 3 undef = u3); (try generalize b.tmps.getD 4 undef = u4); (try generalize b.tmps.getD 5 undef = u5); (try generalize b.tmps.getD 6 undef = u6); (try generalize b.tmps.getD 7 undef = u7); (try generalize b.tmps.getD 8 undef = u8); (try generalize b.tmps.getD 9 undef = u9); (try generalize b.tmps.getD 10 undef = u10); (try generalize b.tmps.getD 11 undef = u11); (try generalize b.tmps.getD 12 undef = u12); (try generalize b.tmps.getD 13 undef = u13); (try generalize b.tmps.getD 14 undef = u14); (try generalize b.tmps.getD 15 undef = u15))
      go_wp2
      exact ⟨_, rfl, rfl, Below.refl _ _⟩
    · (have hzn : b.tmps.size = 16 := h.size; have hd0 : b.defers = [] := h.defers; rw [act_lit hzn hd0]; have hrr : List.range 16 = [0, 1, 2, 3, 4, 5, 6, 7, 8, 9, 10, 11, 12, 13, 14, 15] := rfl; simp only [hrr, List.map_cons, List.map_nil, e1]; clear hzn hd0 hrr; (try generalize b.tmps.getD 0 undef = u0); (try generalize b.tmps.getD 1 undef = u1); (try generalize b.tmps.getD 2 undef = u2); (try generalize b.tmps.getD 3 undef = u3); (try generalize b.tmps.getD 4 undef = u4); (try generalize b.tmps.getD 5 undef = u5); (try generalize b.tmps.getD 6 undef = u6); (try generalize b.tmps.getD 7 undef = u7); (try generalize b.tmps.getD 8 undef = u8); (try generalize b.tmps.getD 9 undef = u9); (try generalize b.tmps.getD 10 undef = u10); (try generalize b.tmps.getD 11 undef = u11); (try generalize b.tmps.getD 12 undef = u12); (try generalize b.tmps.getD 13 undef = u13); (try generalize b.tmps.getD 14 undef = u14); (try generalize b.tmps.getD 15 undef = u15))
      go_wp2
      exact ⟨_, rfl, rfl, Below.refl _ _⟩
    · obtain ⟨_, g13, rfl⟩ := h.got 5 rfl rfl
      (have hzn : b.tmps.size = 16 := h.size; have hd0 : b.defers = [] := h.defers; rw [act_lit hzn hd0]; have hrr : List.range 16 = [0, 1, 2, 3, 4, 5, 6, 7, 8, 9, 10, 11, 12, 13, 14, 15] := rfl; simp only [hrr, List.map_cons, List.map_nil, g13]; clear hzn hd0 hrr; (try generalize b.tmps.getD 0 undef = u0); (try generalize b.tmps.getD 1 undef = u1); (try generalize b.tmps.getD 2 undef = u2); (try generalize b.tmps.getD 3 undef = u3); (try generalize b.tmps.getD 4 undef = u4); (try generalize b.tmps.getD 5 undef = u5); (try generalize b.tmps.getD 6 undef = u6); (try generalize b.tmps.getD 7 undef = u7); (try generalize b.tmps.getD 8 undef = u8); (try generalize b.tmps.getD 9 undef = u9); (try generalize b.tmps.getD 10 undef = u10); (try generalize b.tmps.getD 11 undef = u11); (try generalize b.tmps.getD 12 undef = u12); (try generalize b.tmps.getD 13 undef = u13); (try generalize b.tmps.getD 14 undef = u14); (try generalize b.tmps.getD 15 undef = u15))
      go_wp2
      all_goals exact ⟨_, rfl, congrArg (Value.int .i64) (by have := HM.out; omega), Below.refl _ _⟩
    · obtain ⟨_, g11, rfl⟩ := h.got 3 rfl rfl
      obtain ⟨_, g12, rfl⟩ := h.got 4 rfl rfl
      obtain ⟨_, g14, rfl⟩ := h.got 6 rfl rfl
      (have hzn : b.tmps.size = 16 := h.size; have hd0 : b.defers = [] := h.defers; rw [act_lit hzn hd0]; have hrr : List.range 16 = [0, 1, 2, 3, 4, 5, 6, 7, 8, 9, 10, 11, 12, 13, 14, 15] := rfl; simp only [hrr, List.map_cons, List.map_nil, g11, g12, g14]; clear hzn hd0 hrr; (try generalize b.tmps.getD 0 undef = u0); (try generalize b.tmps.getD 1 undef = u1); (try generalize b.tmps.getD 2 undef = u2); (try generalize b.tmps.getD 3 undef = u3); (try generalize b.tmps.getD 4 undef = u4); (try generalize b.tmps.getD 5 undef = u5); (try generalize b.tmps.getD 6 undef = u6); (try generalize b.tmps.getD 7 undef = u7); (try generalize b.tmps.getD 8 undef = u8); (try generalize b.tmps.getD 9 undef = u9); (try generalize b.tmps.getD 10 undef = u10); (try generalize b.tmps.getD 11 undef = u11); (try generalize b.tmps.getD 12 undef = u12); (try generalize b.tmps.getD 13 undef = u13); (try generalize b.tmps.getD 14 undef = u14); (try generalize b.tmps.getD 15 undef = u15))
      rcases ways_fn HK.out with rfl | rfl | rfl | rfl
      · go_wp2_with (go_at_call 227; refine (HF.out _).mono ?_; rintro e wy ⟨rfl, hgy⟩)
        exact ⟨_, rfl, rfl, hgy⟩
      · go_wp2_with (go_at_call 228; refine (HF.out _).mono ?_; rintro e wy ⟨rfl, hgy⟩)
        exact ⟨_, rfl, rfl, hgy⟩
      · go_wp2_with (go_at_call 229; refine (HF.out _).mono ?_; rintro e wy ⟨rfl, hgy⟩)
        exact ⟨_, rfl, rfl, hgy⟩
      · go_wp2_with (go_at_call 230; refine (HF.out _).mono ?_; rintro e wy ⟨rfl, hgy⟩)
        exact ⟨_, rfl, rfl, hgy⟩
    · obtain ⟨_, g15, rfl⟩ := h.got 7 rfl rfl
      (have hzn : b.tmps.size = 16 := h.size; have hd0 : b.defers = [] := h.defers; rw [act_lit hzn hd0]; have hrr : List.range 16 = [0, 1, 2, 3, 4, 5, 6, 7, 8, 9, 10, 11, 12, 13, 14, 15] := rfl; simp only [hrr, List.map_cons, List.map_nil, g15]; clear hzn hd0 hrr; (try generalize b.tmps.getD 0 undef = u0); (try generalize b.tmps.getD 1 undef = u1); (try generalize b.tmps.getD 2 undef = u2); (try generalize b.tmps.getD 3 undef = u3); (try generalize b.tmps.getD 4 undef = u4); (try generalize b.tmps.getD 5 undef = u5); (try generalize b.tmps.getD 6 undef = u6); (try generalize b.tmps.getD 7 undef = u7); (try generalize b.tmps.getD 8 undef = u8); (try generalize b.tmps.getD 9 undef = u9); (try generalize b.tmps.getD 10 undef = u10); (try generalize b.tmps.getD 11 undef = u11); (try generalize b.tmps.getD 12 undef = u12); (try generalize b.tmps.getD 13 undef = u13); (try generalize b.tmps.getD 14 undef = u14); (try generalize b.tmps.getD 15 undef = u15))
      go_wp2
      exact ⟨_, rfl, rfl, Below.refl _ _⟩
  case fin =>
    intro b W h
    obtain ⟨_, g4, rfl⟩ := h.got 8 rfl rfl
    have hBW := HB.out.trans (h.kept.mono HB.out.size)
    rename_i K hK
    refine hK _ _ ?_
    (have hzn : b.tmps.size = 16 := h.size; have hd0 : b.defers = [] := h.defers; rw [act_lit hzn hd0]; have hrr : List.range 16 = [0, 1, 2, 3, 4, 5, 6, 7, 8, 9, 10, 11, 12, 13, 14, 15] := rfl; simp only [hrr, List.map_cons, List.map_nil, g4]; clear hzn hd0 hrr; (try generalize b.tmps.getD 0 undef = u0); (try generalize b.tmps.getD 1 undef = u1); (try generalize b.tmps.getD 2 undef = u2); (try generalize b.tmps.getD 3 undef = u3); (try generalize b.tmps.getD 4 undef = u4); (try generalize b.tmps.getD 5 undef = u5); (try generalize b.tmps.getD 6 undef = u6); (try generalize b.tmps.getD 7 undef = u7); (try generalize b.tmps.getD 8 undef = u8); (try generalize b.tmps.getD 9 undef = u9); (try generalize b.tmps.getD 10 undef = u10); (try generalize b.tmps.getD 11 undef = u11); (try generalize b.tmps.getD 12 undef = u12); (try generalize b.tmps.getD 13 undef = u13); (try generalize b.tmps.getD 14 undef = u14); (try generalize b.tmps.getD 15 undef = u15))
    go_wp2
    go_ret
    exact ⟨rfl, hBW⟩

theorem way_cell {wt : Int} (h1 : 0 ≤ wt) (h2 : wt ≤ 3) : wt = 0 ∨ wt = 1 ∨ wt = 2 ∨ wt = 3 := by omega
theorem wnext_any (lg th po wt sp yi : Int) (si : Bool) (n : Int) (w : World) : Calls Tryz.prog 217 #[.agg #[.int .i64 lg, .int .i64 th, .int .i64 po, .int .i64 wt, .int .i64 sp, .int .i64 yi, .bool si], .int .i64 n] w fun e w' => e = .returned (.int .i64 (wtnI lg th po wt sp yi (max n 0))) ∧ Kept w w' := by
  cases hm : mayB lg th po wt sp yi
  · rw [wn_no hm]
    exact next_core lg th po wt sp yi si 0 0 0 0 0 0 false n (max n 0) 0 227 w rfl (fun W => wayof_no lg th po wt sp yi si W hm) (by simp [waysL, wfn]) (fun W => wbusy_any 0 0 0 0 0 0 _ false W)
  · rw [wn_yes hm]
    have hp := may_iff.1 hm
    obtain rfl | rfl | rfl | rfl := way_cell hp.2.2.2.2.2.2.1 hp.2.2.2.2.2.2.2.1
    · exact next_core lg th po 0 sp yi si lg th po 0 sp yi si n (max n 0) 0 227 w rfl (fun W => wayof_yes lg th po 0 sp yi si W hm) (by simp [waysL, wfn]) (fun W => wbusy_any lg th po 0 sp yi _ si W)
    · exact next_core lg th po 1 sp yi si lg th po 1 sp yi si n (max n 0) 1 228 w rfl (fun W => wayof_yes lg th po 1 sp yi si W hm) (by simp [waysL, wfn]) (fun W => wyielding_any lg th po 1 sp yi _ si W)
    · exact next_core lg th po 2 sp yi si lg th po 2 sp yi si n (max n 0) (phI sp yi (max n 0)) 229 w rfl (fun W => wayof_yes lg th po 2 sp yi si W hm) (by simp [waysL, wfn]) (fun W => wphased_any lg th po 2 sp yi _ si W (by omega) (by omega))
    · exact next_core lg th po 3 sp yi si lg th po 3 sp yi si n (max n 0) 2 230 w rfl (fun W => wayof_yes lg th po 3 sp yi si W hm) (by simp [waysL, wfn]) (fun W => wparking_any lg th po 3 sp yi _ si W)
end Go.Proofs.YtfllnpcoggmepaaGreat

/- Contracts told by abstract values: what a step of the program calls, of lines, events, slots, words, threads. -/
namespace Go.Proofs.YtfllnpcoggmepaaGreat
set_option linter.unusedVariables false
set_option linter.unusedSimpArgs false
open Go.RowKit
section
variable {O : Nat → Prop} {W W' : World}
theorem own_low (hl : Low O W) : ∀ g, W.heap.size ≤ g → ¬ O g := fun g hg hO => by have := hl g hO; omega
theorem rowI_own (hl : Low O W) {r : List Int} {p : Option Addr} {k : Nat} (h : Ow W' W.heap.size 3 1 intC r (.slice p r.length k)) : Rp nowhere O W' (rowI r) (.slice p r.length k) := rp_rowI.2 ⟨p, k, rfl, (Ow.loc intEnc h).mono (own_low hl)⟩
theorem evT_own (hl : Low O W) {n : Int} {r : List Int} {p : Option Addr} {k : Nat} (h : Ow W' W.heap.size 3 1 intC r (.slice p r.length k)) : Rp nowhere O W' (evT n r) (.agg #[.int .i64 n, .slice p r.length k]) := rp_evT.2 ⟨p, k, rfl, (Ow.loc intEnc h).mono (own_low hl)⟩
theorem rowS_own (hl : Low O W) {r : List Slo} {p : Option Addr} {k : Nat} (h : Ow W' W.heap.size 92 2 Slo.cells r (.slice p r.length k)) : Rp nowhere O W' (rowS r) (.slice p r.length k) := rp_rowS.2 ⟨p, k, rfl, (Ow.loc Slo.enc h).mono (own_low hl)⟩
theorem tup2 {ρ : PMap} {a b x y : Value} (h : Rp ρ O W a x) (k : Rp ρ O W b y) : Rp ρ O W (.tuple #[a, b]) (.tuple #[x, y]) := rp_tupL.2 ⟨_, rfl, _, _, rfl, h, _, _, rfl, k, rfl⟩
theorem tup3 {ρ : PMap} {a b c x y z : Value} (h : Rp ρ O W a x) (k : Rp ρ O W b y) (l : Rp ρ O W c z) : Rp ρ O W (.tuple #[a, b, c]) (.tuple #[x, y, z]) := rp_tupL.2 ⟨_, rfl, _, _, rfl, h, _, _, rfl, k, _, _, rfl, l, rfl⟩
end
theorem ac_penter (l : List Int) (i : Int) (hm : l.length ≤ 999999) : AC Tryz.prog 147 [rowI l, .int .i64 i] (.tuple #[rowI (entL l i), .int .i64 (entE l i)]) := by
  intro O W vs hl hat ; obtain ⟨ys, rfl, _, _, rfl, h0, _, _, rfl, h1, rfl⟩ := args_of hat
  obtain ⟨p, k, rfl, hs⟩ := rp_rowI.1 h0
  rw [rp_int] at h1
  subst h1
  refine (lenter_own l i p k W hs.s hm).mono ?_
  rintro e W' ⟨p', k', rfl, ho, hk⟩
  exact ⟨_, rfl, tup2 (rowI_own hl ho) (rp_int.2 rfl), hk⟩
theorem ac_pleave (l : List Int) (i : Int) (hm : l.length ≤ 999999) : AC Tryz.prog 161 [rowI l, .int .i64 i] (.tuple #[rowI (lvL l i), .int .i64 (lvE l i)]) := by
  intro O W vs hl hat ; obtain ⟨ys, rfl, _, _, rfl, h0, _, _, rfl, h1, rfl⟩ := args_of hat
  obtain ⟨p, k, rfl, hs⟩ := rp_rowI.1 h0
  rw [rp_int] at h1
  subst h1
  refine (lleave_own l i p k W hs.s hm).mono ?_
  rintro e W' ⟨p', k', rfl, ho, hk⟩
  exact ⟨_, rfl, tup2 (rowI_own hl ho) (rp_int.2 rfl), hk⟩
theorem ac_pfirst {l : List Int} {i : Int} {b : Bool} (hb : (plI l i == 0) = b) : AC Tryz.prog 149 [rowI l, .int .i64 i] (.bool b) := by
  intro O W vs hl hat ; obtain ⟨ys, rfl, _, _, rfl, h0, _, _, rfl, h1, rfl⟩ := args_of hat
  obtain ⟨p, k, rfl, hs⟩ := rp_rowI.1 h0
  rw [rp_int] at h1
  subst h1
  refine (lfirst_any l i p k W hs.s).mono ?_
  rintro e W' ⟨rfl, hk⟩
  exact ⟨_, rfl, rp_bool.2 (by rw [hb]), hk⟩
theorem ac_pprep (ep : Int) (l : List Int) : AC Tryz.prog 157 [evT ep l] (.int .i64 (prE ep l)) := by
  intro O W vs hl hat ; obtain ⟨ys, rfl, _, _, rfl, h0, rfl⟩ := args_of hat
  obtain ⟨p, k, rfl, hs⟩ := rp_evT.1 h0
  refine (eprep_any ep l p k W hs.s).mono ?_
  rintro e W' ⟨rfl, hk⟩
  exact ⟨_, rfl, rp_int.2 rfl, hk⟩
theorem ac_pnotify {ep : Int} {l : List Int} {b : Bool} (hb : hdB (ntT 1 ep l) = b) (hm : l.length ≤ 999999) : AC Tryz.prog 158 [evT ep l] (.tuple #[evT (ntE ep l) (ntL 1 ep l), .int .i64 (hdI (ntT 1 ep l)), .bool b]) := by
  intro O W vs hl hat ; obtain ⟨ys, rfl, _, _, rfl, h0, rfl⟩ := args_of hat
  obtain ⟨p, k, rfl, hs⟩ := rp_evT.1 h0
  refine (enotify_any ep l p k W hs.s hm).mono ?_
  rintro e W' ⟨p', k', rfl, ho, hk⟩
  exact ⟨_, rfl, tup3 (evT_own hl ho) (rp_int.2 rfl) (rp_bool.2 (by rw [hb])), hk⟩
theorem ac_pcommit {ep : Int} {l : List Int} {s i : Int} {b : Bool} (hb : cmB ep l s i = b) (hm : l.length ≤ 999999) : AC Tryz.prog 159 [evT ep l, .int .i64 s, .int .i64 i] (.tuple #[evT ep (cmL ep l s i), .bool b, .int .i64 (cmC ep l i)]) := by
  intro O W vs hl hat ; obtain ⟨ys, rfl, _, _, rfl, h0, _, _, rfl, h1, _, _, rfl, h2, rfl⟩ := args_of hat
  obtain ⟨p, k, rfl, hs⟩ := rp_evT.1 h0
  rw [rp_int] at h1 h2
  subst h1 h2
  refine (ecommit_any ep l s i p k W hs.s hm).mono ?_
  rintro e W' ⟨p', k', rfl, ho, hk⟩
  exact ⟨_, rfl, tup3 (evT_own hl ho) (rp_bool.2 (by rw [hb])) (rp_int.2 rfl), hk⟩
theorem ac_pwrite (l : List Slo) (q v : Int) (hm : l.length ≤ 1000) (hq : In64 q) : AC Tryz.prog 155 [rowS l, .int .i64 q, .int .i64 v] (.tuple #[rowS (wrL l q v), .int .i64 (wrE l q)]) := by
  intro O W vs hl hat ; obtain ⟨ys, rfl, _, _, rfl, h0, _, _, rfl, h1, _, _, rfl, h2, rfl⟩ := args_of hat
  obtain ⟨p, k, rfl, hs⟩ := rp_rowS.1 h0
  rw [rp_int] at h1 h2
  subst h1 h2
  refine (swrite_any l q v p k W hs.s hm hq).mono ?_
  rintro e W' ⟨g, rfl, ho, hk⟩
  exact ⟨_, rfl, tup2 (rowS_own hl ho) (rp_int.2 rfl), hk⟩
theorem ac_prelease (l : List Slo) (q : Int) (hm : l.length ≤ 1000) (hq : In64 q) : AC Tryz.prog 165 [rowS l, .int .i64 q] (.tuple #[rowS (rlL l q), .int .i64 (rlE l q)]) := by
  intro O W vs hl hat ; obtain ⟨ys, rfl, _, _, rfl, h0, _, _, rfl, h1, rfl⟩ := args_of hat
  obtain ⟨p, k, rfl, hs⟩ := rp_rowS.1 h0
  rw [rp_int] at h1
  subst h1
  refine (srelease_any l q p k W hs.s hm hq).mono ?_
  rintro e W' ⟨g, rfl, ho, hk⟩
  exact ⟨_, rfl, tup2 (rowS_own hl ho) (rp_int.2 rfl), hk⟩
theorem ac_paccept (h t m r : Int) (hh : In64 h) (ht : In64 t) (hm : In64 m) (hr : In64 r) : AC Tryz.prog 156 [wdT h t m, .int .i64 r] (.tuple #[wdT h (acT h t m r) m, .int .i64 (acP h t m r), .int .i64 (acR h t m r)]) := ew_accept hh ht hm hr
theorem ac_psees (h t m r : Int) (hh : In64 h) (ht : In64 t) (hm : In64 m) (hr : In64 r) : AC Tryz.prog 188 [wdT h t m, .int .i64 r] (.tuple #[.int .i64 (acR h t m r), .int .i64 (tkR h t m r)]) := ew_sees hh ht hm hr
theorem ac_pevict {h t m r x : Int} {b : Bool} (hb : evwB h t m r x = b) (hh : In64 h) (ht : In64 t) (hm : In64 m) (hr : In64 r) (hx : In64 x) : AC Tryz.prog 163 [wdT h t m, .int .i64 r, .int .i64 x] (.tuple #[wdT (evH h t m r x) t m, .bool b]) := hb ▸ ew_evict hh ht hm hr
theorem ac_pnext (c : Cf) (n : Int) : AC Tryz.prog 217 [cfT c, .int .i64 n] (.int .i64 (wtnI c.lg c.th c.po c.wt c.sp c.yi (max n 0))) := by
  intro O W vs hl hat ; obtain ⟨ys, rfl, _, _, rfl, h0, _, _, rfl, h1, rfl⟩ := args_of hat
  rw [rp_cfT] at h0
  rw [rp_int] at h1
  subst h0 h1
  refine (wnext_any c.lg c.th c.po c.wt c.sp c.yi c.si n W).mono ?_
  rintro e W' ⟨rfl, hk⟩
  exact ⟨_, rfl, rp_int.2 rfl, hk⟩
theorem ac_pside (k : Int) : AC Tryz.prog 73 [.int .i64 k] (.int .i64 (opSide k)) := by
  intro O W vs hl hat ; obtain ⟨ys, rfl, _, _, rfl, h0, rfl⟩ := args_of hat
  rw [rp_int] at h0
  subst h0
  refine (oside_any k W).mono ?_
  rintro e W' ⟨rfl, hk⟩
  exact ⟨_, rfl, rp_int.2 rfl, hk⟩
theorem ac_ponce {k : Int} {b : Bool} (hb : opOnce k = b) : AC Tryz.prog 216 [.int .i64 k] (.bool b) := by
  intro O W vs hl hat ; obtain ⟨ys, rfl, _, _, rfl, h0, rfl⟩ := args_of hat
  rw [rp_int] at h0
  subst h0
  refine (oonce_any k W).mono ?_
  rintro e W' ⟨rfl, hk⟩
  exact ⟨_, rfl, rp_bool.2 (by rw [hb]), hk⟩
theorem ac_pruns {t : Th} {e : Int} (he : thRuns t.st = e) : AC Tryz.prog 72 [thT t] (.int .i64 e) := by
  intro O W vs hl hat ; obtain ⟨ys, rfl, _, _, rfl, h0, rfl⟩ := args_of hat
  rw [rp_thT] at h0
  subst h0
  refine (truns_x he W).mono ?_
  rintro e W' ⟨rfl, rfl⟩
  exact ⟨_, rfl, rp_int.2 rfl, by repeat' (first | (with_reducible exact Below.refl _ _) | (with_reducible assumption) | (with_reducible refine kept_alloc ?_ _) | (with_reducible refine kept_drewN ?_ _) | (with_reducible refine Below.drew ?_) | (with_reducible refine Below.setCell ?_ (by first | omega | (simp; omega) | (simp; done)) _) | (refine kept_trans ?_ (by with_reducible assumption)))⟩
theorem ac_ppark {t : Th} {p e : Int} {r : Th} (h : thPark t p e r) : AC Tryz.prog 160 [thT t, .int .i64 p] (.tuple #[thT r, .int .i64 e]) := by
  intro O W vs hl hat ; obtain ⟨ys, rfl, _, _, rfl, h0, _, _, rfl, h1, rfl⟩ := args_of hat
  rw [rp_thT] at h0
  rw [rp_int] at h1
  subst h0 h1
  refine (tpark_val h W).mono ?_
  rintro e W' ⟨rfl, hk⟩
  exact ⟨_, rfl, tup2 (rp_thT.2 rfl) (rp_int.2 rfl), hk⟩
theorem ac_pdone {t : Th} {e : Int} {r : Th} (h : thDone t e r) : AC Tryz.prog 162 [thT t] (.tuple #[thT r, .int .i64 e]) := by
  intro O W vs hl hat ; obtain ⟨ys, rfl, _, _, rfl, h0, rfl⟩ := args_of hat
  rw [rp_thT] at h0
  subst h0
  refine (tdone_val h W).mono ?_
  rintro e W' ⟨rfl, hk⟩
  exact ⟨_, rfl, tup2 (rp_thT.2 rfl) (rp_int.2 rfl), hk⟩
theorem ac_pvalue (s : St) (p : Int) (ho : s.ok) (hp : In64 p) : AC Tryz.prog 26 [stT s, .int .i64 p] (.int .i64 (valV s p)) := by
  intro O W vs hl hat ; obtain ⟨ys, rfl, _, _, rfl, h0, _, _, rfl, h1, rfl⟩ := args_of hat
  obtain ⟨z, rfl, hs⟩ := rp_stT.1 h0
  rw [rp_int] at h1
  subst h1
  refine (fvalue_any s z p W hs.at ho hp).mono ?_
  rintro e W' ⟨rfl, hk⟩
  exact ⟨_, rfl, rp_int.2 rfl, hk⟩
end Go.Proofs.YtfllnpcoggmepaaGreat

/- The program's steps: what is known at the head of their loop. -/
namespace Go.Proofs.YtfllnpcoggmepaaGreat
set_option linter.unusedVariables false
set_option linter.unusedSimpArgs false
open Go.RowKit
def pt (k : Nat) : Value := .pointer (some ⟨k, 0, some 0⟩)
/-- A state whose threads are a block k of the call's own. -/
def stO (s : St) (k N : Nat) : List Value := [.int .i64 s.cf.lg, .int .i64 s.cf.th, .int .i64 s.cf.po, .int .i64 s.cf.wt, .int .i64 s.cf.sp, .int .i64 s.cf.yi, .bool s.cf.si, .int .i64 s.hd, .int .i64 s.tl, .int .i64 s.md, rowS s.sl, rowI s.sn, rowI s.rc, .int .i64 s.fe, rowI s.fl, .int .i64 s.ee, rowI s.el, .int .i64 s.nw, .slice (some ⟨k, 0, some 0⟩) N 0, rowE s.lg]
def zSt : Value := .agg #[.int .i64 0, .int .i64 0, .int .i64 0, .int .i64 0, .int .i64 0, .int .i64 0, vD false, .int .i64 0, .int .i64 0, .int .i64 0, .slice none 0 0, .slice none 0 0, .slice none 0 0, .int .i64 0, .slice none 0 0, .int .i64 0, .slice none 0 0, .int .i64 0, .slice none 0 0, .slice none 0 0]
def bT (l : List Th) (N : Nat) : Option Blk := some ⟨true, true, 11, N, l.map thT⟩
def bX (s : St) (i : Int) (N : Nat) : Option Blk := some ⟨true, false, 21, 1, [.agg (stO s 1 N ++ [Value.int .i64 i]).toArray]⟩
def bZ : Option Blk := some ⟨true, false, 20, 1, [zSt]⟩
/-- At the head of the loop: many m, often o. -/
def hdS (s : St) (i m o : Int) (N : Nat) : Sg := ⟨mkT 33 [(2, .int .i64 m), (6, pt 2), (8, pt 0), (9, .int .i64 o)], [bX s i N, bT s.th N, bZ]⟩
/-- One more round: thread n, at step c, sends. -/
structure Rn (s : St) (n : Nat) (t : Th) (c m o : Int) : Prop where
  lt : decide (o < min m 1000) = true
  ck : stB s = true
  ok : s.ok
  hn : n < s.th.length
  ht : gth s.th n = pcT t c
  rs : thRuns t.st = 0
  sd : opSide t.ki = 1
  fit : s.fit
  o1 : In64 (o + 1)
section
variable {s : St} {n : Nat} {t : Th} {c m o : Int}
theorem Rn.ge (_h : Rn s n t c m o) : decide ((n : Int) < 0) = false := by simp
theorem Rn.le (h : Rn s n t c m o) : decide ((s.th.length : Int) ≤ n) = false := by have := h.hn; simp; omega
theorem Rn.el (h : Rn s n t c m o) : ElP (s.th.map thT) (0 + (n : Int).toNat) (thT (pcT t c)) := h.ht ▸ elT h.hn
theorem Rn.ru (h : Rn s n t c m o) : AC Tryz.prog 72 [thT (pcT t c)] (.int .i64 0) := ac_pruns (t := pcT t c) h.rs
theorem Rn.si (h : Rn s n t c m o) : AC Tryz.prog 73 [.int .i64 (pcT t c).ki] (.int .i64 1) := by have := ac_pside (pcT t c).ki; exact h.sd ▸ this
theorem Rn.id (h : Rn s n t c m o) : 0 ≤ (n : Int) ∧ (n : Int).toNat < s.th.length := idT h.hn
theorem Rn.ln (_h : Rn s n t c m o) : LenP s.th.length s.th.length (s.th.map thT) := len_map s.th
end
section
variable {s : St} {n : Nat} {t : Th} {m o : Int} {x : Exit} {S : Sg}
theorem ac_pprep' {ep v : Int} {l : List Int} (h : prE ep l = v) : AC Tryz.prog 157 [evT ep l] (.int .i64 v) := h ▸ ac_pprep ep l
set_option maxRecDepth 100000 in
theorem lp_prep (h : Rn s n t 5 m o) (he : prE s.fe s.fl = s.fe) (hL : LoopP Tryz.prog (loopOf Tryz.prog 12 0) (hdS (s.setTh n (seenT t s.fe 7)) n m (o + 1) s.th.length) x S) : LoopP Tryz.prog (loopOf Tryz.prog 12 0) (hdS s n m o s.th.length) x S :=
  loop_more mixed (fuel := 9) (n := 9) (im := [0, 1, 2]) (keep := [2, 6, 8, 9]) (ext := [21, 72, 73, 157]) (orc := [.bool true, vD true, .bool false, .bool false, thT (pcT t 5), .int .i64 0, .nilFunc, thT (pcT t 5), .int .i64 1, .nilFunc, thT (pcT t 5), .int .i64 s.fe, thT (pcT t 5), vRow s.th.length ((s.th.set n (seenT t s.fe 5)).map thT), thT (seenT t s.fe 5), vRow s.th.length ((s.th.set n (seenT t s.fe 7)).map thT)])
    (an h.lt <| an h.ln <| an (ac_pcheck h.ck h.ok) <| an h.ge <| an h.le <| an h.id <| an h.el <| an h.ru <| an h.id <| an h.el <| an h.si <| an h.id <| an h.el <| an h.id <| an (ac_pprep' he) <| an h.el <| an (setT s.th n (seenT t s.fe 5)) <| an h.id <| an (el2 h.hn (seenT t s.fe 5)) <| an (set2 s.th n (seenT t s.fe 5) (seenT t s.fe 7)) <| an h.o1 trivial) (by kernel_rfl) hL
end
end Go.Proofs.YtfllnpcoggmepaaGreat
