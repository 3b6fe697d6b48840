/- Layer 3: FifoOne holds for every input. -/
import Derived.Test.YtomnhjcoonbajaaFifo1
import Derived.LoopTactic
namespace Go.Proofs.Ytomnhjcoonbajaa
set_option linter.unusedVariables false
set_option linter.unusedSimpArgs false
open Go.ChangeShapes Go.WideShapes Go.ChangeAt Go.RowKit

/-- What stands at the head of a round. -/
def One (w : World) (q : Qu) (qp : Option Addr) (qk : Nat) (val : Int) (s r k : Value) (wr : World) : Prop :=
  ∃ j : Nat, j ≤ 7 ∧ k = .int .i64 ((j : Int) + 1) ∧ s = .int .i64 (cnt (sendF q val) j) ∧ r = .int .i64 (cnt (recvF q) j) ∧ CellsAt wr [(w.heap.size, 0, .slice qp q.vals.length qk), (w.heap.size, 1, .int .i64 q.cap), (w.heap.size, 2, .int .i64 q.pol), (w.heap.size, 3, .int .i64 q.mode)] ∧ Below w.heap.size w wr

set_option maxRecDepth 100000 in
set_option maxHeartbeats 8000000 in
theorem fifoOne_walk (q : Qu) (qp : Option Addr) (qk : Nat) (hq : q.ok) (hqm : q.vals.length ≤ maxLen) (val : Int) (hval : In64 val) (w : World) (hqs : Sl w 1 intC q.vals (.slice qp q.vals.length qk)) :
    Calls Try.prog 6 #[.agg #[.slice qp q.vals.length qk, .int .i64 q.cap, .int .i64 q.pol, .int .i64 q.mode], .int .i64 val] w fun e w' => e = .returned (.bool true) ∧ Kept w w' := by
  by_cases a1 : (100 : Int) < (q.vals.length : Int)
  · go_enter Try.func6, Try.ntmps6; go_wp2_with fail; refine (fifoawake_any _).mono ?_; rintro e wy ⟨rfl, hgy⟩; have hcs : CellsAt wy [(w.heap.size, 0, .slice qp q.vals.length qk), (w.heap.size, 1, .int .i64 q.cap), (w.heap.size, 2, .int .i64 q.pol), (w.heap.size, 3, .int .i64 q.mode)] := cells_keep hgy (by (simp only [CellsAt]; (repeat' (first | exact trivial | (refine And.intro ?_ ?_))); all_goals (first | (focus ((try simp only [World.size_setCell, World.size_alloc]); omega)) | (repeat (first | rfl | assumption | (refine (World.cell?_alloc_past _ _ _ ?_).trans ?_; focus ((try simp only [World.size_setCell, World.size_alloc]); omega)) | (refine (World.cell?_alloc_at _ _ _ _ ?_).trans ?_; focus ((try simp only [World.size_setCell, World.size_alloc]); done)) | (refine (World.cell?_setCell_other _ _ _ _ ?_).trans ?_; focus (simp; done)) | (refine (World.cell?_setCell_other _ _ _ _ ?_).trans ?_; focus (simp; omega)) | (refine World.cell?_setCell_same' _ _ _ ?_; focus (first | (simp; done) | (simp [*]; done)))))))); have hq0 := hcs.1.2; have hq1 := hcs.2.1.2; have hq2 := hcs.2.2.1.2; have hq3 := hcs.2.2.2.1.2; have hz0 := hcs.1.1; go_wp2; all_goals (go_ret; exact ⟨rfl, by repeat' (first | (with_reducible exact Below.refl _ _) | (with_reducible assumption) | (with_reducible refine kept_alloc ?_ _) | (with_reducible refine kept_drewN ?_ _) | (with_reducible refine Below.drew ?_) | (with_reducible refine Below.setCell ?_ (by first | omega | (simp; omega) | (simp; done)) _) | (refine kept_trans ?_ (by with_reducible assumption)))⟩)
  by_cases a2 : q.mode < 0
  · go_enter Try.func6, Try.ntmps6; go_wp2_with fail; refine (fifoawake_any _).mono ?_; rintro e wy ⟨rfl, hgy⟩; have hcs : CellsAt wy [(w.heap.size, 0, .slice qp q.vals.length qk), (w.heap.size, 1, .int .i64 q.cap), (w.heap.size, 2, .int .i64 q.pol), (w.heap.size, 3, .int .i64 q.mode)] := cells_keep hgy (by (simp only [CellsAt]; (repeat' (first | exact trivial | (refine And.intro ?_ ?_))); all_goals (first | (focus ((try simp only [World.size_setCell, World.size_alloc]); omega)) | (repeat (first | rfl | assumption | (refine (World.cell?_alloc_past _ _ _ ?_).trans ?_; focus ((try simp only [World.size_setCell, World.size_alloc]); omega)) | (refine (World.cell?_alloc_at _ _ _ _ ?_).trans ?_; focus ((try simp only [World.size_setCell, World.size_alloc]); done)) | (refine (World.cell?_setCell_other _ _ _ _ ?_).trans ?_; focus (simp; done)) | (refine (World.cell?_setCell_other _ _ _ _ ?_).trans ?_; focus (simp; omega)) | (refine World.cell?_setCell_same' _ _ _ ?_; focus (first | (simp; done) | (simp [*]; done)))))))); have hq0 := hcs.1.2; have hq1 := hcs.2.1.2; have hq2 := hcs.2.2.1.2; have hq3 := hcs.2.2.2.1.2; have hz0 := hcs.1.1; go_wp2; all_goals (go_ret; exact ⟨rfl, by repeat' (first | (with_reducible exact Below.refl _ _) | (with_reducible assumption) | (with_reducible refine kept_alloc ?_ _) | (with_reducible refine kept_drewN ?_ _) | (with_reducible refine Below.drew ?_) | (with_reducible refine Below.setCell ?_ (by first | omega | (simp; omega) | (simp; done)) _) | (refine kept_trans ?_ (by with_reducible assumption)))⟩)
  by_cases a3 : 2 < q.mode
  · go_enter Try.func6, Try.ntmps6; go_wp2_with fail; refine (fifoawake_any _).mono ?_; rintro e wy ⟨rfl, hgy⟩; have hcs : CellsAt wy [(w.heap.size, 0, .slice qp q.vals.length qk), (w.heap.size, 1, .int .i64 q.cap), (w.heap.size, 2, .int .i64 q.pol), (w.heap.size, 3, .int .i64 q.mode)] := cells_keep hgy (by (simp only [CellsAt]; (repeat' (first | exact trivial | (refine And.intro ?_ ?_))); all_goals (first | (focus ((try simp only [World.size_setCell, World.size_alloc]); omega)) | (repeat (first | rfl | assumption | (refine (World.cell?_alloc_past _ _ _ ?_).trans ?_; focus ((try simp only [World.size_setCell, World.size_alloc]); omega)) | (refine (World.cell?_alloc_at _ _ _ _ ?_).trans ?_; focus ((try simp only [World.size_setCell, World.size_alloc]); done)) | (refine (World.cell?_setCell_other _ _ _ _ ?_).trans ?_; focus (simp; done)) | (refine (World.cell?_setCell_other _ _ _ _ ?_).trans ?_; focus (simp; omega)) | (refine World.cell?_setCell_same' _ _ _ ?_; focus (first | (simp; done) | (simp [*]; done)))))))); have hq0 := hcs.1.2; have hq1 := hcs.2.1.2; have hq2 := hcs.2.2.1.2; have hq3 := hcs.2.2.2.1.2; have hz0 := hcs.1.1; go_wp2; all_goals (go_ret; exact ⟨rfl, by repeat' (first | (with_reducible exact Below.refl _ _) | (with_reducible assumption) | (with_reducible refine kept_alloc ?_ _) | (with_reducible refine kept_drewN ?_ _) | (with_reducible refine Below.drew ?_) | (with_reducible refine Below.setCell ?_ (by first | omega | (simp; omega) | (simp; done)) _) | (refine kept_trans ?_ (by with_reducible assumption)))⟩)
  by_cases a4 : q.pol < 0
  · go_enter Try.func6, Try.ntmps6; go_wp2_with fail; refine (fifoawake_any _).mono ?_; rintro e wy ⟨rfl, hgy⟩; have hcs : CellsAt wy [(w.heap.size, 0, .slice qp q.vals.length qk), (w.heap.size, 1, .int .i64 q.cap), (w.heap.size, 2, .int .i64 q.pol), (w.heap.size, 3, .int .i64 q.mode)] := cells_keep hgy (by (simp only [CellsAt]; (repeat' (first | exact trivial | (refine And.intro ?_ ?_))); all_goals (first | (focus ((try simp only [World.size_setCell, World.size_alloc]); omega)) | (repeat (first | rfl | assumption | (refine (World.cell?_alloc_past _ _ _ ?_).trans ?_; focus ((try simp only [World.size_setCell, World.size_alloc]); omega)) | (refine (World.cell?_alloc_at _ _ _ _ ?_).trans ?_; focus ((try simp only [World.size_setCell, World.size_alloc]); done)) | (refine (World.cell?_setCell_other _ _ _ _ ?_).trans ?_; focus (simp; done)) | (refine (World.cell?_setCell_other _ _ _ _ ?_).trans ?_; focus (simp; omega)) | (refine World.cell?_setCell_same' _ _ _ ?_; focus (first | (simp; done) | (simp [*]; done)))))))); have hq0 := hcs.1.2; have hq1 := hcs.2.1.2; have hq2 := hcs.2.2.1.2; have hq3 := hcs.2.2.2.1.2; have hz0 := hcs.1.1; go_wp2; all_goals (go_ret; exact ⟨rfl, by repeat' (first | (with_reducible exact Below.refl _ _) | (with_reducible assumption) | (with_reducible refine kept_alloc ?_ _) | (with_reducible refine kept_drewN ?_ _) | (with_reducible refine Below.drew ?_) | (with_reducible refine Below.setCell ?_ (by first | omega | (simp; omega) | (simp; done)) _) | (refine kept_trans ?_ (by with_reducible assumption)))⟩)
  by_cases a5 : 2 < q.pol
  · go_enter Try.func6, Try.ntmps6; go_wp2_with fail; refine (fifoawake_any _).mono ?_; rintro e wy ⟨rfl, hgy⟩; have hcs : CellsAt wy [(w.heap.size, 0, .slice qp q.vals.length qk), (w.heap.size, 1, .int .i64 q.cap), (w.heap.size, 2, .int .i64 q.pol), (w.heap.size, 3, .int .i64 q.mode)] := cells_keep hgy (by (simp only [CellsAt]; (repeat' (first | exact trivial | (refine And.intro ?_ ?_))); all_goals (first | (focus ((try simp only [World.size_setCell, World.size_alloc]); omega)) | (repeat (first | rfl | assumption | (refine (World.cell?_alloc_past _ _ _ ?_).trans ?_; focus ((try simp only [World.size_setCell, World.size_alloc]); omega)) | (refine (World.cell?_alloc_at _ _ _ _ ?_).trans ?_; focus ((try simp only [World.size_setCell, World.size_alloc]); done)) | (refine (World.cell?_setCell_other _ _ _ _ ?_).trans ?_; focus (simp; done)) | (refine (World.cell?_setCell_other _ _ _ _ ?_).trans ?_; focus (simp; omega)) | (refine World.cell?_setCell_same' _ _ _ ?_; focus (first | (simp; done) | (simp [*]; done)))))))); have hq0 := hcs.1.2; have hq1 := hcs.2.1.2; have hq2 := hcs.2.2.1.2; have hq3 := hcs.2.2.2.1.2; have hz0 := hcs.1.1; go_wp2; all_goals (go_ret; exact ⟨rfl, by repeat' (first | (with_reducible exact Below.refl _ _) | (with_reducible assumption) | (with_reducible refine kept_alloc ?_ _) | (with_reducible refine kept_drewN ?_ _) | (with_reducible refine Below.drew ?_) | (with_reducible refine Below.setCell ?_ (by first | omega | (simp; omega) | (simp; done)) _) | (refine kept_trans ?_ (by with_reducible assumption)))⟩)
  have hcS := Lib.hid (cnt_sends q val (by omega) (by omega) (by omega) (by omega))
  have hcR := Lib.hid (cnt_recvs q (by omega) (by omega))
  have hlen : q.vals.length ≤ 100 := by omega
  have d1 : decide ((100 : Int) < (q.vals.length : Int)) = false := by simp; omega
  have d2 : decide (q.mode < 0) = false := by simp; omega
  have d3 : decide (2 < q.mode) = false := by simp; omega
  have d4 : decide (q.pol < 0) = false := by simp; omega
  have d5 : decide (2 < q.pol) = false := by simp; omega
  by_cases hp : (0 : Int) < (q.vals.length : Int)
  · obtain ⟨b, o, hqp, hb, hc⟩ : ∃ b o, qp = some ⟨b, o, none⟩ ∧ b < w.heap.size ∧ w.cell? ⟨b, o, none⟩ = some (.int .i64 (firstI q)) := by
      obtain ⟨_, _, e1, _, _, _, h4⟩ := hqs.is
      cases e1
      obtain ⟨b, o, h1, h2, h3⟩ := h4 (by intro h; rw [h] at hp; simp at hp)
      refine ⟨b, o, h1, h2, ?_⟩
      unfold firstI
      cases hv : q.vals with
      | nil => rw [hv] at hp; simp at hp
      | cons v r =>
        have := h3 0 v (by rw [hv]; rfl) 0 (by omega)
        simpa [intC] using this
    subst hqp
    have d0 : decide (0 < q.vals.length) = true := by rw [decide_eq_true_eq]; omega
    go_enter Try.func6, Try.ntmps6; go_wp2_with fail; refine (fifoawake_any _).mono ?_; rintro e wy ⟨rfl, hgy⟩; have hcs : CellsAt wy [(w.heap.size, 0, .slice (some ⟨b, o, none⟩) q.vals.length qk), (w.heap.size, 1, .int .i64 q.cap), (w.heap.size, 2, .int .i64 q.pol), (w.heap.size, 3, .int .i64 q.mode)] := cells_keep hgy (by (simp only [CellsAt]; (repeat' (first | exact trivial | (refine And.intro ?_ ?_))); all_goals (first | (focus ((try simp only [World.size_setCell, World.size_alloc]); omega)) | (repeat (first | rfl | assumption | (refine (World.cell?_alloc_past _ _ _ ?_).trans ?_; focus ((try simp only [World.size_setCell, World.size_alloc]); omega)) | (refine (World.cell?_alloc_at _ _ _ _ ?_).trans ?_; focus ((try simp only [World.size_setCell, World.size_alloc]); done)) | (refine (World.cell?_setCell_other _ _ _ _ ?_).trans ?_; focus (simp; done)) | (refine (World.cell?_setCell_other _ _ _ _ ?_).trans ?_; focus (simp; omega)) | (refine World.cell?_setCell_same' _ _ _ ?_; focus (first | (simp; done) | (simp [*]; done)))))))); have hq0 := hcs.1.2; have hq1 := hcs.2.1.2; have hq2 := hcs.2.2.1.2; have hq3 := hcs.2.2.2.1.2; have hz0 := hcs.1.1
    have hc' : wy.cell? ⟨b, o, none⟩ = some (.int .i64 (firstI q)) := ((kept_trans (A := w) (by repeat' (first | (with_reducible exact Below.refl _ _) | (with_reducible assumption) | (with_reducible refine kept_alloc ?_ _) | (with_reducible refine kept_drewN ?_ _) | (with_reducible refine Below.drew ?_) | (with_reducible refine Below.setCell ?_ (by first | omega | (simp; omega) | (simp; done)) _) | (refine kept_trans ?_ (by with_reducible assumption)))) hgy).cell (p := ⟨b, o, none⟩) hb).trans hc
    have hbw : b < wy.heap.size := by omega
    have hB0 : Below w.heap.size w wy := kept_trans (by repeat' (first | (with_reducible exact Below.refl _ _) | (with_reducible assumption) | (with_reducible refine kept_alloc ?_ _) | (with_reducible refine kept_drewN ?_ _) | (with_reducible refine Below.drew ?_) | (with_reducible refine Below.setCell ?_ (by first | omega | (simp; omega) | (simp; done)) _) | (refine kept_trans ?_ (by with_reducible assumption)))) hgy
    go_wp2
    go_loopw [6, 7, 9] (fun s r k wr => One w q (some ⟨b, o, none⟩) qk val s r k wr) (fun _ _ k _ => 8 - (intOf k).toNat)
    case atStart => exact ⟨0, by omega, rfl, rfl, rfl, hcs, hB0⟩
    case round =>
      obtain ⟨j, hj, rfl, rfl, rfl, hcs, hB⟩ := hrel
      clear hq0 hq1 hq2 hq3 hz0
      have hq0 := hcs.1.2; have hq1 := hcs.2.1.2; have hq2 := hcs.2.2.1.2; have hq3 := hcs.2.2.2.1.2; have hz0 := hcs.1.1
      have hb1 := cnt_bd (sendF q val) j
      have hb2 := cnt_bd (recvF q) j
      have hb3 : 0 ≤ cnt (sendF q val) j := hb1.1
      have hb4 : cnt (sendF q val) j ≤ 7 := by omega
      have hb5 : 0 ≤ cnt (recvF q) j := hb2.1
      have hb6 : cnt (recvF q) j ≤ 7 := by omega
      clear hb1 hb2
      by_cases hj7 : (j : Int) + 1 ≤ 7
      · have hs1 : (q.tell ⟨0, 2, val, (j : Int) + 1, 0⟩).2 = sendF q val (j + 1) := by simp [sendF]
        have hs2 : (q.tell ⟨0, 5, 0, (j : Int) + 1, firstI q⟩).2 = recvF q (j + 1) := by simp [recvF]
        have hn1 : cnt (sendF q val) (j + 1) = cnt (sendF q val) j + (if sendF q val (j + 1) then 1 else 0) := rfl
        have hn2 : cnt (recvF q) (j + 1) = cnt (recvF q) j + (if recvF q (j + 1) then 1 else 0) := rfl
        cases e1 : sendF q val (j + 1) <;> cases e2 : recvF q (j + 1)
        all_goals
          rw [e1] at hs1 hn1
          rw [e2] at hs2 hn2
          simp only [Bool.false_eq_true, if_false, if_true, Int.add_zero] at hn1 hn2
          have gn1 := Lib.hid hn1
          have gn2 := Lib.hid hn2
          have gs1 := Lib.hid hs1
          have gs2 := Lib.hid hs2
          clear hn1 hn2 hs1 hs2 e1 e2
          go_wp2_with fail
          refine (pdo_any q ⟨0, 2, val, (j : Int) + 1, 0⟩ (some ⟨b, o, none⟩) qk _ (hqs.kept (by repeat' (first | (with_reducible exact Below.refl _ _) | (with_reducible assumption) | (with_reducible refine kept_alloc ?_ _) | (with_reducible refine kept_drewN ?_ _) | (with_reducible refine Below.drew ?_) | (with_reducible refine Below.setCell ?_ (by first | omega | (simp; omega) | (simp; done)) _) | (refine kept_trans ?_ (by with_reducible assumption))))) (by omega)).mono ?_
          rintro e wa ⟨p1, k1, rfl, hS1, hga, -⟩
          have hcs : CellsAt wa [(w.heap.size, 0, .slice (some ⟨b, o, none⟩) q.vals.length qk), (w.heap.size, 1, .int .i64 q.cap), (w.heap.size, 2, .int .i64 q.pol), (w.heap.size, 3, .int .i64 q.mode)] := cells_keep hga (by first | exact hcs | (simp only [CellsAt]; (repeat' (first | exact trivial | (refine And.intro ?_ ?_))); all_goals (first | (focus ((try simp only [World.size_setCell, World.size_alloc]); omega)) | (repeat (first | rfl | assumption | (refine (World.cell?_alloc_past _ _ _ ?_).trans ?_; focus ((try simp only [World.size_setCell, World.size_alloc]); omega)) | (refine (World.cell?_alloc_at _ _ _ _ ?_).trans ?_; focus ((try simp only [World.size_setCell, World.size_alloc]); done)) | (refine (World.cell?_setCell_other _ _ _ _ ?_).trans ?_; focus (simp; done)) | (refine (World.cell?_setCell_other _ _ _ _ ?_).trans ?_; focus (simp; omega)) | (refine World.cell?_setCell_same' _ _ _ ?_; focus (first | (simp; done) | (simp [*]; done))))))))
          have hq0 := hcs.1.2; have hq1 := hcs.2.1.2; have hq2 := hcs.2.2.1.2; have hq3 := hcs.2.2.2.1.2; have hz0 := hcs.1.1
          rw [gs1.out]
          go_wp2_with fail
          refine (pdo_any q ⟨0, 5, 0, (j : Int) + 1, firstI q⟩ (some ⟨b, o, none⟩) qk _ (hqs.kept (by repeat' (first | (with_reducible exact Below.refl _ _) | (with_reducible assumption) | (with_reducible refine kept_alloc ?_ _) | (with_reducible refine kept_drewN ?_ _) | (with_reducible refine Below.drew ?_) | (with_reducible refine Below.setCell ?_ (by first | omega | (simp; omega) | (simp; done)) _) | (refine kept_trans ?_ (by with_reducible assumption))))) (by omega)).mono ?_
          rintro e wb ⟨p2, k2, rfl, hS2, hgb, -⟩
          have hcs : CellsAt wb [(w.heap.size, 0, .slice (some ⟨b, o, none⟩) q.vals.length qk), (w.heap.size, 1, .int .i64 q.cap), (w.heap.size, 2, .int .i64 q.pol), (w.heap.size, 3, .int .i64 q.mode)] := cells_keep hgb (by (simp only [CellsAt]; (repeat' (first | exact trivial | (refine And.intro ?_ ?_))); all_goals (first | (focus ((try simp only [World.size_setCell, World.size_alloc]); omega)) | (repeat (first | rfl | assumption | (refine (World.cell?_alloc_past _ _ _ ?_).trans ?_; focus ((try simp only [World.size_setCell, World.size_alloc]); omega)) | (refine (World.cell?_alloc_at _ _ _ _ ?_).trans ?_; focus ((try simp only [World.size_setCell, World.size_alloc]); done)) | (refine (World.cell?_setCell_other _ _ _ _ ?_).trans ?_; focus (simp; done)) | (refine (World.cell?_setCell_other _ _ _ _ ?_).trans ?_; focus (simp; omega)) | (refine World.cell?_setCell_same' _ _ _ ?_; focus (first | (simp; done) | (simp [*]; done))))))))
          have hq0 := hcs.1.2; have hq1 := hcs.2.1.2; have hq2 := hcs.2.2.1.2; have hq3 := hcs.2.2.2.1.2; have hz0 := hcs.1.1
          rw [gs2.out]
          go_wp2
          go_roundw
          case rel => exact ⟨j + 1, by omega, by go_num, by rw [gn1.out], by rw [gn2.out], cells_keep (by repeat' (first | (with_reducible exact Below.refl _ _) | (with_reducible assumption) | (with_reducible refine kept_alloc ?_ _) | (with_reducible refine kept_drewN ?_ _) | (with_reducible refine Below.drew ?_) | (with_reducible refine Below.setCell ?_ (by first | omega | (simp; omega) | (simp; done)) _) | (refine kept_trans ?_ (by with_reducible assumption)))) hcs, by repeat' (first | (with_reducible exact Below.refl _ _) | (with_reducible assumption) | (with_reducible refine kept_alloc ?_ _) | (with_reducible refine kept_drewN ?_ _) | (with_reducible refine Below.drew ?_) | (with_reducible refine Below.setCell ?_ (by first | omega | (simp; omega) | (simp; done)) _) | (refine kept_trans ?_ (by with_reducible assumption)))⟩
          case measure => simp [intOf]; omega
      · have : j = 7 := by omega
        subst this
        rw [hcR.out]
        have hcS' := hcS.out
        cases c0 : (q.mode == 0) <;> cases c1 : (q.pol == 2) <;> cases c2 : decide (q.cap ≤ (q.vals.length : Int))
        all_goals
          have c0' : decide (q.mode = 0) = _ := c0
          have c1' : decide (q.pol = 2) = _ := c1
          rw [evB, c0', c1', c2] at hcS'
          simp only [Bool.and_true, Bool.and_false, Bool.false_and, Bool.true_and, Bool.false_eq_true, if_false, if_true] at hcS'
          rw [hcS']
          clear hcS' c0' c1'
          go_wp2
          all_goals (go_ret; exact ⟨rfl, by repeat' (first | (with_reducible exact Below.refl _ _) | (with_reducible assumption) | (with_reducible refine kept_alloc ?_ _) | (with_reducible refine kept_drewN ?_ _) | (with_reducible refine Below.drew ?_) | (with_reducible refine Below.setCell ?_ (by first | omega | (simp; omega) | (simp; done)) _) | (refine kept_trans ?_ (by with_reducible assumption)))⟩)
  · have hf0 : firstI q = 0 := by
      unfold firstI
      cases hv : q.vals with
      | nil => rfl
      | cons v r => rw [hv] at hp; simp at hp
    have hf0h := Lib.hid hf0
    have d0 : decide (0 < q.vals.length) = false := by rw [decide_eq_false_iff_not]; omega
    clear hf0
    go_enter Try.func6, Try.ntmps6; go_wp2_with fail; refine (fifoawake_any _).mono ?_; rintro e wy ⟨rfl, hgy⟩; have hcs : CellsAt wy [(w.heap.size, 0, .slice qp q.vals.length qk), (w.heap.size, 1, .int .i64 q.cap), (w.heap.size, 2, .int .i64 q.pol), (w.heap.size, 3, .int .i64 q.mode)] := cells_keep hgy (by (simp only [CellsAt]; (repeat' (first | exact trivial | (refine And.intro ?_ ?_))); all_goals (first | (focus ((try simp only [World.size_setCell, World.size_alloc]); omega)) | (repeat (first | rfl | assumption | (refine (World.cell?_alloc_past _ _ _ ?_).trans ?_; focus ((try simp only [World.size_setCell, World.size_alloc]); omega)) | (refine (World.cell?_alloc_at _ _ _ _ ?_).trans ?_; focus ((try simp only [World.size_setCell, World.size_alloc]); done)) | (refine (World.cell?_setCell_other _ _ _ _ ?_).trans ?_; focus (simp; done)) | (refine (World.cell?_setCell_other _ _ _ _ ?_).trans ?_; focus (simp; omega)) | (refine World.cell?_setCell_same' _ _ _ ?_; focus (first | (simp; done) | (simp [*]; done)))))))); have hq0 := hcs.1.2; have hq1 := hcs.2.1.2; have hq2 := hcs.2.2.1.2; have hq3 := hcs.2.2.2.1.2; have hz0 := hcs.1.1
    have hB0 : Below w.heap.size w wy := kept_trans (by repeat' (first | (with_reducible exact Below.refl _ _) | (with_reducible assumption) | (with_reducible refine kept_alloc ?_ _) | (with_reducible refine kept_drewN ?_ _) | (with_reducible refine Below.drew ?_) | (with_reducible refine Below.setCell ?_ (by first | omega | (simp; omega) | (simp; done)) _) | (refine kept_trans ?_ (by with_reducible assumption)))) hgy
    go_wp2
    go_loopw [6, 7, 9] (fun s r k wr => One w q (qp) qk val s r k wr) (fun _ _ k _ => 8 - (intOf k).toNat)
    case atStart => exact ⟨0, by omega, rfl, rfl, rfl, hcs, hB0⟩
    case round =>
      obtain ⟨j, hj, rfl, rfl, rfl, hcs, hB⟩ := hrel
      clear hq0 hq1 hq2 hq3 hz0
      have hq0 := hcs.1.2; have hq1 := hcs.2.1.2; have hq2 := hcs.2.2.1.2; have hq3 := hcs.2.2.2.1.2; have hz0 := hcs.1.1
      have hb1 := cnt_bd (sendF q val) j
      have hb2 := cnt_bd (recvF q) j
      have hb3 : 0 ≤ cnt (sendF q val) j := hb1.1
      have hb4 : cnt (sendF q val) j ≤ 7 := by omega
      have hb5 : 0 ≤ cnt (recvF q) j := hb2.1
      have hb6 : cnt (recvF q) j ≤ 7 := by omega
      clear hb1 hb2
      by_cases hj7 : (j : Int) + 1 ≤ 7
      · have hs1 : (q.tell ⟨0, 2, val, (j : Int) + 1, 0⟩).2 = sendF q val (j + 1) := by simp [sendF]
        have hs2 : (q.tell ⟨0, 5, 0, (j : Int) + 1, 0⟩).2 = recvF q (j + 1) := by simp [recvF, hf0h.out]
        have hn1 : cnt (sendF q val) (j + 1) = cnt (sendF q val) j + (if sendF q val (j + 1) then 1 else 0) := rfl
        have hn2 : cnt (recvF q) (j + 1) = cnt (recvF q) j + (if recvF q (j + 1) then 1 else 0) := rfl
        cases e1 : sendF q val (j + 1) <;> cases e2 : recvF q (j + 1)
        all_goals
          rw [e1] at hs1 hn1
          rw [e2] at hs2 hn2
          simp only [Bool.false_eq_true, if_false, if_true, Int.add_zero] at hn1 hn2
          have gn1 := Lib.hid hn1
          have gn2 := Lib.hid hn2
          have gs1 := Lib.hid hs1
          have gs2 := Lib.hid hs2
          clear hn1 hn2 hs1 hs2 e1 e2
          go_wp2_with fail
          refine (pdo_any q ⟨0, 2, val, (j : Int) + 1, 0⟩ (qp) qk _ (hqs.kept (by repeat' (first | (with_reducible exact Below.refl _ _) | (with_reducible assumption) | (with_reducible refine kept_alloc ?_ _) | (with_reducible refine kept_drewN ?_ _) | (with_reducible refine Below.drew ?_) | (with_reducible refine Below.setCell ?_ (by first | omega | (simp; omega) | (simp; done)) _) | (refine kept_trans ?_ (by with_reducible assumption))))) (by omega)).mono ?_
          rintro e wa ⟨p1, k1, rfl, hS1, hga, -⟩
          have hcs : CellsAt wa [(w.heap.size, 0, .slice qp q.vals.length qk), (w.heap.size, 1, .int .i64 q.cap), (w.heap.size, 2, .int .i64 q.pol), (w.heap.size, 3, .int .i64 q.mode)] := cells_keep hga (by first | exact hcs | (simp only [CellsAt]; (repeat' (first | exact trivial | (refine And.intro ?_ ?_))); all_goals (first | (focus ((try simp only [World.size_setCell, World.size_alloc]); omega)) | (repeat (first | rfl | assumption | (refine (World.cell?_alloc_past _ _ _ ?_).trans ?_; focus ((try simp only [World.size_setCell, World.size_alloc]); omega)) | (refine (World.cell?_alloc_at _ _ _ _ ?_).trans ?_; focus ((try simp only [World.size_setCell, World.size_alloc]); done)) | (refine (World.cell?_setCell_other _ _ _ _ ?_).trans ?_; focus (simp; done)) | (refine (World.cell?_setCell_other _ _ _ _ ?_).trans ?_; focus (simp; omega)) | (refine World.cell?_setCell_same' _ _ _ ?_; focus (first | (simp; done) | (simp [*]; done))))))))
          have hq0 := hcs.1.2; have hq1 := hcs.2.1.2; have hq2 := hcs.2.2.1.2; have hq3 := hcs.2.2.2.1.2; have hz0 := hcs.1.1
          rw [gs1.out]
          go_wp2_with fail
          refine (pdo_any q ⟨0, 5, 0, (j : Int) + 1, 0⟩ (qp) qk _ (hqs.kept (by repeat' (first | (with_reducible exact Below.refl _ _) | (with_reducible assumption) | (with_reducible refine kept_alloc ?_ _) | (with_reducible refine kept_drewN ?_ _) | (with_reducible refine Below.drew ?_) | (with_reducible refine Below.setCell ?_ (by first | omega | (simp; omega) | (simp; done)) _) | (refine kept_trans ?_ (by with_reducible assumption))))) (by omega)).mono ?_
          rintro e wb ⟨p2, k2, rfl, hS2, hgb, -⟩
          have hcs : CellsAt wb [(w.heap.size, 0, .slice qp q.vals.length qk), (w.heap.size, 1, .int .i64 q.cap), (w.heap.size, 2, .int .i64 q.pol), (w.heap.size, 3, .int .i64 q.mode)] := cells_keep hgb (by (simp only [CellsAt]; (repeat' (first | exact trivial | (refine And.intro ?_ ?_))); all_goals (first | (focus ((try simp only [World.size_setCell, World.size_alloc]); omega)) | (repeat (first | rfl | assumption | (refine (World.cell?_alloc_past _ _ _ ?_).trans ?_; focus ((try simp only [World.size_setCell, World.size_alloc]); omega)) | (refine (World.cell?_alloc_at _ _ _ _ ?_).trans ?_; focus ((try simp only [World.size_setCell, World.size_alloc]); done)) | (refine (World.cell?_setCell_other _ _ _ _ ?_).trans ?_; focus (simp; done)) | (refine (World.cell?_setCell_other _ _ _ _ ?_).trans ?_; focus (simp; omega)) | (refine World.cell?_setCell_same' _ _ _ ?_; focus (first | (simp; done) | (simp [*]; done))))))))
          have hq0 := hcs.1.2; have hq1 := hcs.2.1.2; have hq2 := hcs.2.2.1.2; have hq3 := hcs.2.2.2.1.2; have hz0 := hcs.1.1
          rw [gs2.out]
          go_wp2
          go_roundw
          case rel => exact ⟨j + 1, by omega, by go_num, by rw [gn1.out], by rw [gn2.out], cells_keep (by repeat' (first | (with_reducible exact Below.refl _ _) | (with_reducible assumption) | (with_reducible refine kept_alloc ?_ _) | (with_reducible refine kept_drewN ?_ _) | (with_reducible refine Below.drew ?_) | (with_reducible refine Below.setCell ?_ (by first | omega | (simp; omega) | (simp; done)) _) | (refine kept_trans ?_ (by with_reducible assumption)))) hcs, by repeat' (first | (with_reducible exact Below.refl _ _) | (with_reducible assumption) | (with_reducible refine kept_alloc ?_ _) | (with_reducible refine kept_drewN ?_ _) | (with_reducible refine Below.drew ?_) | (with_reducible refine Below.setCell ?_ (by first | omega | (simp; omega) | (simp; done)) _) | (refine kept_trans ?_ (by with_reducible assumption)))⟩
          case measure => simp [intOf]; omega
      · have : j = 7 := by omega
        subst this
        rw [hcR.out]
        have hcS' := hcS.out
        cases c0 : (q.mode == 0) <;> cases c1 : (q.pol == 2) <;> cases c2 : decide (q.cap ≤ (q.vals.length : Int))
        all_goals
          have c0' : decide (q.mode = 0) = _ := c0
          have c1' : decide (q.pol = 2) = _ := c1
          rw [evB, c0', c1', c2] at hcS'
          simp only [Bool.and_true, Bool.and_false, Bool.false_and, Bool.true_and, Bool.false_eq_true, if_false, if_true] at hcS'
          rw [hcS']
          clear hcS' c0' c1'
          go_wp2
          all_goals (go_ret; exact ⟨rfl, by repeat' (first | (with_reducible exact Below.refl _ _) | (with_reducible assumption) | (with_reducible refine kept_alloc ?_ _) | (with_reducible refine kept_drewN ?_ _) | (with_reducible refine Below.drew ?_) | (with_reducible refine Below.setCell ?_ (by first | omega | (simp; omega) | (simp; done)) _) | (refine kept_trans ?_ (by with_reducible assumption)))⟩)
set_option maxRecDepth 100000 in
theorem fifoOne_lifted (os : Os) (started : os.Started) (H : Type) (enc : TypeId × Value → H) :
    ReturnsInHanded {} Try.checked os 6 .any (Rows.fifoOneSpec.pre6 enc Try.prog Try.f6 Rows.fifoOneRow.domain false) (Rows.fifoOneSpec.post enc Try.prog Try.f6 false true false false) := by
  refine returnsInHanded_of_change (C := Try.checked) own started (by kernel_rfl) Try.func6
    (ChangeSpec.witness6 (enc := enc) (C := Try.checked) false ⟨#[], #[.agg #[.slice none 0 0, .int .i64 0, .int .i64 0, .int .i64 0], .int .i64 0], []⟩ 8 (by kernel_rfl) (by kernel_rfl) (by kernel_rfl) (by kernel_rfl)) ?_
  intro W base args ds gs before hval0 hW hcnd _
  have hval : ∀ (j : Nat) t v, Try.f6.params[j]? = some t → args[j]? = some v → Value.okWide Try.prog W .any base t v := hval0
  have hW' := hW
  obtain ⟨p, q, hA0, hV, rfl, hfz, hnd⟩ := hW
  have hA : DataW.TrodAll enc Try.prog W 0 (fun _ => true) true Try.f6.params.toList args.toList ds p := hA0
  rw [Try.params6] at hA hval
  obtain ⟨v0, vs0, d0, ds0, p0, q0, hargs, rfl, rfl, h0, r0⟩ := trodAll_cons hA
  obtain ⟨v1, vs1, d1, ds1, p1, q1, rfl, rfl, rfl, h1, r1⟩ := trodAll_cons r0
  obtain ⟨rfl, rfl, rfl⟩ := trodAll_nil r1
  obtain rfl : args = #[v0, v1] := by cases args; simp_all
  obtain ⟨rfl, rfl⟩ := trodVars_none hV
  obtain ⟨qcs, rfl, qrd⟩ := open_struct (g := 9) (l := Qu.shape) Try.underlying24 (by kernel_rfl) (hval 0 24 v0 rfl rfl) h0
  obtain ⟨q, qp, qk, hcs0, qsl, qok, qml⟩ := Qu.of_read qrd
  subst hcs0
  obtain ⟨val, rfl, rfl, rfl, wf1⟩ := open_int Try.underlying3 (hval 1 3 v1 rfl rfl) h1
  clear hA0 hval0
  refine (fifoOne_walk q qp qk qok qml val (in64_of_wf wf1) W qsl).mono fun e W' ⟨he, hg⟩ => ?_
  subst he
  exact ⟨_, rfl, law_post laid hW' rfl (by kernel_rfl) rfl Try.underlying4 rfl hg⟩

/-- The statement, whole. -/
theorem fifoOne_holds : Rows.FifoOneSaid :=
  OpenClaim.holds_of_wide 6 Try.f6 rfl rfl rfl rfl rfl rfl rfl ⟨rfl, rfl, rfl, rfl, rfl⟩ rfl rfl rfl rfl rfl (by kernel_rfl) Try.func6 (by kernel_rfl)
    (of_decide_eq_true (by kernel_rfl)) (by unfold Func.isWrapper; rw [if_neg (of_decide_eq_false (by kernel_rfl))]; exact ⟨rfl, rfl⟩)
    (fun os started H enc _ => fifoOne_lifted os started H enc)
end Go.Proofs.Ytomnhjcoonbajaa
