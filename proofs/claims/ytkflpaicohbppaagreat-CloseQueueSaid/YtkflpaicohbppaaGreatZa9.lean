/- Texts merged: AcJQ, ConfEQ, ThGQ, AcXQ, AcKQ, SdPQ, SdQQ, CloseFQ, CcAQ, AcLQ, AcMQ, AcNQ, CloseAQ, CcBQ. -/
import Derived.Test.YtkflpaicohbppaaGreatZa8
import Derived.Test.YtkflpaicohbppaaGreatZa7
import Derived.Test.YtkflpaicohbppaaGreatZa6
import Derived.Test.YtkflpaicohbppaaGreatZa4
import Derived.LoopTactic
import Derived.Lib.Hide
import Derived.Test.YtkflpaicohbppaaGreatZa5
/- Contracts told by abstract values: what a step of the document's calls. -/
namespace Go.Proofs.YtkflpaicohbppaaGreat
set_option linter.unusedVariables false
set_option linter.unusedSimpArgs false
open Go.RowKit
theorem ac_rlcheck {l : List Int} {b : Bool} (h : okLn l = b) : AC Tryz.prog 113 [rowI l] (.bool b) := by
  intro O W vs hl hat ; obtain ⟨ys, rfl, _, _, rfl, h0, rfl⟩ := args_of hat
  obtain ⟨p, k, rfl, hs⟩ := rp_rowI.1 h0
  refine (rlcheck_any l p k W hs.s).mono ?_
  rintro e W' ⟨rfl, hk⟩
  exact ⟨_, rfl, rp_bool.2 (by rw [h]), hk⟩
set_option maxRecDepth 100000 in
theorem ac_recheck {ep : Int} {l : List Int} {b : Bool} (h : okE ep l = b) : AC Tryz.prog 65 [evT ep l] (.bool b) := by
  subst h
  cases hl : okLn l
  · rw [show okE ep l = false by simp [okE, hl]]
    exact ac_path mixed (ext := [113]) (fuel := 9) (n := 3) (orc := [vD false]) (an (ac_rlcheck hl) trivial) (by kernel_rfl)
  · by_cases h0 : 0 ≤ ep
    · rw [show okE ep l = decide (ep ≤ 1099511627776) by simp [okE, hl, h0]]
      exact ac_path mixed (ext := [113]) (fuel := 9) (n := 3) (orc := [vD true, .bool true]) (an (ac_rlcheck hl) <| an (show decide (0 ≤ ep) = true by simpa using h0) trivial) (by kernel_rfl)
    · rw [show okE ep l = false by simp [okE, h0]]
      exact ac_path mixed (ext := [113]) (fuel := 9) (n := 3) (orc := [vD true, .bool false]) (an (ac_rlcheck hl) <| an (show decide (0 ≤ ep) = false by simpa using h0) trivial) (by kernel_rfl)
set_option maxRecDepth 100000 in
theorem ac_renext {ep : Int} (h : 0 ≤ ep ∧ ep ≤ 1099511627776) : AC Tryz.prog 66 [.int .i64 ep] (.int .i64 (nxE ep)) := by
  by_cases e : ep = 1099511627776
  · subst e
    exact ac_path mixed (ext := []) (fuel := 9) (n := 3) (orc := [.nilFunc]) trivial (by kernel_rfl)
  · rw [show nxE ep = ep + 1 by unfold nxE; rw [if_pos (by omega)]]
    exact ac_path mixed (ext := []) (fuel := 9) (n := 3) (orc := [.bool false]) (an (show (ep == 1099511627776) = false by simpa using e) <| an (show In64 (ep + 1) by constructor <;> omega) trivial) (by kernel_rfl)
theorem ac_rside {k v : Int} (h : opSide k = v) : AC Tryz.prog 63 [.int .i64 k] (.int .i64 v) := by
  intro O W vs hl hat ; obtain ⟨ys, rfl, _, _, rfl, h0, rfl⟩ := args_of hat
  rw [rp_int] at h0
  subst h0
  refine (roside_any k W).mono ?_
  rintro e W' ⟨rfl, hk⟩
  exact ⟨_, rfl, rp_int.2 (by rw [h]), hk⟩
/-! ### Lists -/
theorem app_is {α : Type} {f : α → Value} {l m r : List α} (h : r = l ++ m) (hm : l.length + m.length ≤ 1048576) : AppP r.length (r.map f) l.length (l.map f) m.length (m.map f) := ⟨by rw [h]; simp, by rw [h]; simp, hm⟩
end Go.Proofs.YtkflpaicohbppaaGreat

/- Contracts of layer 2's functions over lists, and the document's room. -/
namespace Go.Proofs.YtkflpaicohbppaaGreat
set_option linter.unusedVariables false
set_option linter.unusedSimpArgs false
open Go.ChangeShapes Go.WideShapes Go.ChangeAt Go.RowKit

def Cf.may (c : Cf) : Bool := mayB c.lg c.th c.po c.wt c.sp c.yi
def Cf.room (c : Cf) : Int := roomI c.lg c.th c.po c.wt c.sp c.yi
def p2 (k : Nat) : Int := if k = 0 then 1 else pw k
theorem p2_bd (k : Nat) : 1 ≤ p2 k ∧ p2 k ≤ 64 := by
  have := pw_bd k
  unfold p2; split <;> omega
theorem p2_succ (k : Nat) (h : k < 6) : 2 * p2 k = p2 (k + 1) := by
  obtain rfl | rfl | rfl | rfl | rfl | rfl : k = 0 ∨ k = 1 ∨ k = 2 ∨ k = 3 ∨ k = 4 ∨ k = 5 := by omega
  all_goals rfl

set_option maxHeartbeats 1000000 in
theorem rcroom_any (lg th po wt sp yi : Int) (si : Bool) (w : World) : Calls Tryz.prog 134 #[.agg #[.int .i64 lg, .int .i64 th, .int .i64 po, .int .i64 wt, .int .i64 sp, .int .i64 yi, .bool si]] w fun e w' => e = .returned (.int .i64 (roomI lg th po wt sp yi)) ∧ Kept w w' := by
  cases hm : mayB lg th po wt sp yi
  · have hk := room_no hm
    have hc := ck_no hm
    go_enter Tryz.func134, Tryz.ntmps134
    go_wp2_with (first | (go_at_call 148; refine (rccheck_any _ _ _ _ _ _ _ _).mono ?_; rintro e wx ⟨rfl, hgx⟩; obtain ⟨hcx, hfx⟩ := bcell hgx; have hz0 : w.heap.size < wx.heap.size := (by have := hgx.size; (try simp at this); omega)))
    go_ret
    exact ⟨ret_int (by rw [hk]), by repeat' (first | (with_reducible exact Below.refl _ _) | (with_reducible assumption) | (with_reducible refine kept_alloc ?_ _) | (with_reducible refine kept_drewN ?_ _) | (with_reducible refine Below.drew ?_) | (with_reducible refine Below.setCell ?_ (by first | omega | (simp; omega) | (simp; done)) _) | (refine kept_trans ?_ (by with_reducible assumption)))⟩
  · have hk := Lib.hid (room_yes hm)
    have hc := ck_yes hm
    have hp := may_iff.1 hm
    have h1 : 1 ≤ lg := by omega
    have h2 : lg ≤ 6 := by omega
    clear hp
    go_enter Tryz.func134, Tryz.ntmps134
    go_wp2_with (first | (go_at_call 148; refine (rccheck_any _ _ _ _ _ _ _ _).mono ?_; rintro e wx ⟨rfl, hgx⟩; obtain ⟨hcx, hfx⟩ := bcell hgx; have hz0 : w.heap.size < wx.heap.size := (by have := hgx.size; (try simp at this); omega)))
    have hl : wx.cell? ⟨w.heap.size, 0, none⟩ = some (.int .i64 lg) := by rw [hcx _ _ (by simp)]; simp
    clear hcx hfx
    go_loop [3, 4] (fun n i => ∃ k : Nat, (k : Int) ≤ lg ∧ i = .int .i64 k ∧ n = .int .i64 (p2 k)) (fun _ i => (lg - intOf i).toNat)
    case atStart => exact ⟨0, by omega, rfl, rfl⟩
    case round =>
      obtain ⟨k, hk', rfl, rfl⟩ := hrel
      have hb := p2_bd k
      by_cases hlt : (k : Int) < lg
      · have hs := Lib.hid (p2_succ k (by omega))
        go_wp2
        go_round
        case rel => exact ⟨k + 1, by omega, by go_num, by rw [← hs.out]⟩
        case measure => simp [intOf]; omega
      · have hkl : (k : Int) = lg := by omega
        have hpk : Hid (p2 k = pw lg) := Lib.hid (by rw [p2, if_neg (by omega), hkl])
        clear hkl
        go_wp2
        go_ret
        exact ⟨ret_int (by rw [hk.out, hpk.out]), by repeat' (first | (with_reducible exact Below.refl _ _) | (with_reducible assumption) | (with_reducible refine kept_alloc ?_ _) | (with_reducible refine kept_drewN ?_ _) | (with_reducible refine Below.drew ?_) | (with_reducible refine Below.setCell ?_ (by first | omega | (simp; omega) | (simp; done)) _) | (refine kept_trans ?_ (by with_reducible assumption)))⟩

end Go.Proofs.YtkflpaicohbppaaGreat

/- Layer 12: whether a thread may be: the document's. -/
namespace Go.Proofs.YtkflpaicohbppaaGreat
set_option linter.unusedVariables false
set_option linter.unusedSimpArgs false
open Go.ChangeShapes Go.WideShapes Go.ChangeAt Go.RowKit
set_option maxHeartbeats 8000000 in
set_option maxRecDepth 100000 in
theorem rtcheck_any {st ki va un pc re se tr rs go : Int} {la : Bool} (w : World) : Calls Tryz.prog 135 #[.agg #[.int .i64 st, .int .i64 ki, .int .i64 va, .int .i64 un, .int .i64 pc, .int .i64 re, .int .i64 se, .int .i64 tr, .bool la, .int .i64 rs, .int .i64 go]] w fun e w' => e = .returned (.bool (thB ⟨st, ki, va, un, pc, re, se, tr, la, rs, go⟩)) ∧ Kept w w' := by
  by_cases hk : ki = 0
  · subst hk
    by_cases hs : st = 0
    · subst hs
      have hcs : CellsAt (w.alloc (.cells #[.int .i64 0, .int .i64 0, .int .i64 va, .int .i64 un, .int .i64 pc, .int .i64 re, .int .i64 se, .int .i64 tr, .bool la, .int .i64 rs, .int .i64 go] 58)) [(w.heap.size, 0, .int .i64 0), (w.heap.size, 1, .int .i64 0), (w.heap.size, 2, .int .i64 va), (w.heap.size, 3, .int .i64 un), (w.heap.size, 4, .int .i64 pc), (w.heap.size, 5, .int .i64 re), (w.heap.size, 6, .int .i64 se), (w.heap.size, 7, .int .i64 tr), (w.heap.size, 8, .bool la), (w.heap.size, 9, .int .i64 rs), (w.heap.size, 10, .int .i64 go)] := by (simp only [CellsAt]; (repeat' (first | exact trivial | (refine And.intro ?_ ?_))); all_goals (first | (focus ((try simp only [World.size_setCell, World.size_alloc]); omega)) | (repeat (first | rfl | assumption | (refine (World.cell?_alloc_past _ _ _ ?_).trans ?_; focus ((try simp only [World.size_setCell, World.size_alloc]); omega)) | (refine (World.cell?_alloc_at _ _ _ _ ?_).trans ?_; focus ((try simp only [World.size_setCell, World.size_alloc]); done)) | (refine (World.cell?_setCell_other _ _ _ _ ?_).trans ?_; focus (simp; done)) | (refine (World.cell?_setCell_other _ _ _ _ ?_).trans ?_; focus (simp; omega)) | (refine World.cell?_setCell_same' _ _ _ ?_; focus (simp; done))))))
      go_enter Tryz.func135, Tryz.ntmps135
      go_wp2_with (first | (go_at_call 149; refine (rotimed_any _ _).mono ?_; rintro e wx ⟨rfl, hgx⟩; try (have hcs := cells_keep hgx hcs; have hq0 := hcs.1.2; have hq1 := hcs.2.1.2; have hq2 := hcs.2.2.1.2; have hq3 := hcs.2.2.2.1.2; have hq4 := hcs.2.2.2.2.1.2; have hq5 := hcs.2.2.2.2.2.1.2; have hq6 := hcs.2.2.2.2.2.2.1.2; have hq7 := hcs.2.2.2.2.2.2.2.1.2; have hq8 := hcs.2.2.2.2.2.2.2.2.1.2; have hq9 := hcs.2.2.2.2.2.2.2.2.2.1.2; have hq10 := hcs.2.2.2.2.2.2.2.2.2.2.1.2; have hz0 := hcs.1.1)))
      all_goals (go_ret; exact ⟨ret_bool (by (rw [Bool.eq_iff_iff, thB_iff]); (clear hcs); (try clear hq0 hq1 hq2 hq3 hq4 hq5 hq6 hq7 hq8 hq9 hq10 hz0 hgx); cases la <;> (first | (simp [opTimed, bI] at *; done) | (simp [opTimed, bI] at *; omega))), by repeat' (first | (with_reducible exact Below.refl _ _) | (with_reducible assumption) | (with_reducible refine kept_alloc ?_ _) | (with_reducible refine kept_drewN ?_ _) | (with_reducible refine Below.drew ?_) | (with_reducible refine Below.setCell ?_ (by first | omega | (simp; omega) | (simp; done)) _) | (refine kept_trans ?_ (by with_reducible assumption)))⟩)
    · have d0 : (st == 0) = false := by simpa using hs
      have d1 : (st != 0) = true := by simpa using hs
      have hcs : CellsAt (w.alloc (.cells #[.int .i64 st, .int .i64 0, .int .i64 va, .int .i64 un, .int .i64 pc, .int .i64 re, .int .i64 se, .int .i64 tr, .bool la, .int .i64 rs, .int .i64 go] 58)) [(w.heap.size, 0, .int .i64 st), (w.heap.size, 1, .int .i64 0), (w.heap.size, 2, .int .i64 va), (w.heap.size, 3, .int .i64 un), (w.heap.size, 4, .int .i64 pc), (w.heap.size, 5, .int .i64 re), (w.heap.size, 6, .int .i64 se), (w.heap.size, 7, .int .i64 tr), (w.heap.size, 8, .bool la), (w.heap.size, 9, .int .i64 rs), (w.heap.size, 10, .int .i64 go)] := by (simp only [CellsAt]; (repeat' (first | exact trivial | (refine And.intro ?_ ?_))); all_goals (first | (focus ((try simp only [World.size_setCell, World.size_alloc]); omega)) | (repeat (first | rfl | assumption | (refine (World.cell?_alloc_past _ _ _ ?_).trans ?_; focus ((try simp only [World.size_setCell, World.size_alloc]); omega)) | (refine (World.cell?_alloc_at _ _ _ _ ?_).trans ?_; focus ((try simp only [World.size_setCell, World.size_alloc]); done)) | (refine (World.cell?_setCell_other _ _ _ _ ?_).trans ?_; focus (simp; done)) | (refine (World.cell?_setCell_other _ _ _ _ ?_).trans ?_; focus (simp; omega)) | (refine World.cell?_setCell_same' _ _ _ ?_; focus (simp; done))))))
      go_enter Tryz.func135, Tryz.ntmps135
      go_wp2_with (first | (go_at_call 149; refine (rotimed_any _ _).mono ?_; rintro e wx ⟨rfl, hgx⟩; try (have hcs := cells_keep hgx hcs; have hq0 := hcs.1.2; have hq1 := hcs.2.1.2; have hq2 := hcs.2.2.1.2; have hq3 := hcs.2.2.2.1.2; have hq4 := hcs.2.2.2.2.1.2; have hq5 := hcs.2.2.2.2.2.1.2; have hq6 := hcs.2.2.2.2.2.2.1.2; have hq7 := hcs.2.2.2.2.2.2.2.1.2; have hq8 := hcs.2.2.2.2.2.2.2.2.1.2; have hq9 := hcs.2.2.2.2.2.2.2.2.2.1.2; have hq10 := hcs.2.2.2.2.2.2.2.2.2.2.1.2; have hz0 := hcs.1.1)))
      all_goals (go_ret; exact ⟨ret_bool (by (rw [Bool.eq_iff_iff, thB_iff]); (clear hcs); (try clear hq0 hq1 hq2 hq3 hq4 hq5 hq6 hq7 hq8 hq9 hq10 hz0 hgx); cases la <;> (first | (simp [opTimed, bI] at *; done) | (simp [opTimed, bI] at *; omega))), by repeat' (first | (with_reducible exact Below.refl _ _) | (with_reducible assumption) | (with_reducible refine kept_alloc ?_ _) | (with_reducible refine kept_drewN ?_ _) | (with_reducible refine Below.drew ?_) | (with_reducible refine Below.setCell ?_ (by first | omega | (simp; omega) | (simp; done)) _) | (refine kept_trans ?_ (by with_reducible assumption)))⟩)
  · have k0 : (ki == 0) = false := by simpa using hk
    have hcs : CellsAt (w.alloc (.cells #[.int .i64 st, .int .i64 ki, .int .i64 va, .int .i64 un, .int .i64 pc, .int .i64 re, .int .i64 se, .int .i64 tr, .bool la, .int .i64 rs, .int .i64 go] 58)) [(w.heap.size, 0, .int .i64 st), (w.heap.size, 1, .int .i64 ki), (w.heap.size, 2, .int .i64 va), (w.heap.size, 3, .int .i64 un), (w.heap.size, 4, .int .i64 pc), (w.heap.size, 5, .int .i64 re), (w.heap.size, 6, .int .i64 se), (w.heap.size, 7, .int .i64 tr), (w.heap.size, 8, .bool la), (w.heap.size, 9, .int .i64 rs), (w.heap.size, 10, .int .i64 go)] := by (simp only [CellsAt]; (repeat' (first | exact trivial | (refine And.intro ?_ ?_))); all_goals (first | (focus ((try simp only [World.size_setCell, World.size_alloc]); omega)) | (repeat (first | rfl | assumption | (refine (World.cell?_alloc_past _ _ _ ?_).trans ?_; focus ((try simp only [World.size_setCell, World.size_alloc]); omega)) | (refine (World.cell?_alloc_at _ _ _ _ ?_).trans ?_; focus ((try simp only [World.size_setCell, World.size_alloc]); done)) | (refine (World.cell?_setCell_other _ _ _ _ ?_).trans ?_; focus (simp; done)) | (refine (World.cell?_setCell_other _ _ _ _ ?_).trans ?_; focus (simp; omega)) | (refine World.cell?_setCell_same' _ _ _ ?_; focus (simp; done))))))
    go_enter Tryz.func135, Tryz.ntmps135
    go_wp2_with (first | (go_at_call 149; refine (rotimed_any _ _).mono ?_; rintro e wx ⟨rfl, hgx⟩; try (have hcs := cells_keep hgx hcs; have hq0 := hcs.1.2; have hq1 := hcs.2.1.2; have hq2 := hcs.2.2.1.2; have hq3 := hcs.2.2.2.1.2; have hq4 := hcs.2.2.2.2.1.2; have hq5 := hcs.2.2.2.2.2.1.2; have hq6 := hcs.2.2.2.2.2.2.1.2; have hq7 := hcs.2.2.2.2.2.2.2.1.2; have hq8 := hcs.2.2.2.2.2.2.2.2.1.2; have hq9 := hcs.2.2.2.2.2.2.2.2.2.1.2; have hq10 := hcs.2.2.2.2.2.2.2.2.2.2.1.2; have hz0 := hcs.1.1)))
    all_goals (go_ret; exact ⟨ret_bool (by (rw [Bool.eq_iff_iff, thB_iff]); (clear hcs); (try clear hq0 hq1 hq2 hq3 hq4 hq5 hq6 hq7 hq8 hq9 hq10 hz0 hgx); cases la <;> (first | (simp [opTimed, bI] at *; done) | (simp [opTimed, bI] at *; omega))), by repeat' (first | (with_reducible exact Below.refl _ _) | (with_reducible assumption) | (with_reducible refine kept_alloc ?_ _) | (with_reducible refine kept_drewN ?_ _) | (with_reducible refine Below.drew ?_) | (with_reducible refine Below.setCell ?_ (by first | omega | (simp; omega) | (simp; done)) _) | (refine kept_trans ?_ (by with_reducible assumption)))⟩)
end Go.Proofs.YtkflpaicohbppaaGreat

/- Contracts told by abstract values: the document's Check of a state, by the engine (in place of the walk of XFabQ). -/
namespace Go.Proofs.YtkflpaicohbppaaGreat
set_option linter.unusedVariables false
set_option linter.unusedSimpArgs false
open Go.RowKit
theorem ac_rroom {c : Cf} {R : Int} (h : cfR c = R) : AC Tryz.prog 134 [cfT c] (.int .i64 R) := by
  intro O W vs hl hat ; obtain ⟨ys, rfl, _, _, rfl, h0, rfl⟩ := args_of hat
  rw [rp_cfT] at h0
  subst h0
  refine (rcroom_any c.lg c.th c.po c.wt c.sp c.yi c.si W).mono ?_
  rintro e W' ⟨rfl, hk⟩
  exact ⟨_, rfl, rp_int.2 (by rw [← h]; rfl), hk⟩
theorem ac_rchk {h t m r : Int} {b : Bool} (hb : checkB h t m r = b) (hh : In64 h) (ht : In64 t) (hm : In64 m) (hr : In64 r) : AC Tryz.prog 136 [wdT h t m, .int .i64 r] (.bool b) := by
  intro O W vs hl hat ; obtain ⟨ys, rfl, _, _, rfl, h0, _, _, rfl, h1, rfl⟩ := args_of hat
  rw [rp_wdT] at h0
  rw [rp_int] at h1
  subst h0 h1
  refine (rcheck_any h t m r hh ht hm hr W).mono ?_
  rintro e W' ⟨rfl, hk⟩
  exact ⟨_, rfl, rp_bool.2 (by rw [← hb, check_ref hr]), hk⟩
theorem ac_rtchk {t : Th} {b : Bool} (h : thB t = b) : AC Tryz.prog 135 [thT t] (.bool b) := by
  intro O W vs hl hat ; obtain ⟨ys, rfl, _, _, rfl, h0, rfl⟩ := args_of hat
  rw [rp_thT] at h0
  subst h0
  refine (rtcheck_any W).mono ?_
  rintro e W' ⟨rfl, hk⟩
  exact ⟨_, rfl, rp_bool.2 (by rw [← h]), hk⟩
/-! ### Lines -/
def hdAm (l : List Int) (m i : Int) : Sg := ⟨mkT 20 [(0, rowI l), (1, .int .i64 m), (5, .int .i64 i)], []⟩
def hdAmN : Sg := ⟨mkT 20 [(4, vD false)], []⟩
section
variable {l : List Int} {m : Int}
set_option maxRecDepth 100000 in
theorem am_yes (hm : l.length ≤ 1000000) : ∀ (k i : Nat), l.length - i = k → i ≤ l.length → (l.drop i).any (overB m) = false → LoopP Tryz.prog (loopOf Tryz.prog 138 0) (hdAm l m i) (.exit 0) (hdAm l m l.length)
  | 0, i, hk, hi, _ => by
    have : i = l.length := by omega
    subst this
    exact loop_end mixed (fuel := 9) (n := 3) (im := []) (keep := [0, 1, 5]) (ext := []) (orc := [.bool false]) (an (show decide ((l.length : Int) < l.length) = false by simp) trivial) (by intro e; cases e) (by kernel_rfl)
  | k + 1, i, hk, hi, he => by
    have ha : i < l.length := by omega
    rw [any_at ha, Bool.or_eq_false_iff] at he
    have ih := am_yes hm k (i + 1) (by omega) (by omega) he.2
    rw [show ((i + 1 : Nat) : Int) = (i : Int) + 1 by omega] at ih
    exact loop_more mixed (fuel := 9) (n := 3) (im := []) (keep := [0, 1, 5]) (ext := []) (orc := [.bool true, .int .i64 (gZ l i), .bool false])
      (an (show decide ((i : Int) < l.length) = true by simp; omega) <| an (ixZ' ha) <| an (show decide (m ≤ gZ l i) = false by rw [gZ_eq ha]; exact he.1) <| an (show In64 ((i : Int) + 1) by constructor <;> omega) trivial) (by kernel_rfl) ih
set_option maxRecDepth 100000 in
theorem am_no (hm : l.length ≤ 1000000) : ∀ (k i : Nat), l.length - i = k → i ≤ l.length → (l.drop i).any (overB m) = true → LoopP Tryz.prog (loopOf Tryz.prog 138 0) (hdAm l m i) .ret hdAmN
  | 0, i, hk, hi, he => absurd he (by rw [List.drop_eq_nil_of_le (by omega)]; simp)
  | k + 1, i, hk, hi, he => by
    have ha : i < l.length := by omega
    rw [any_at ha] at he
    cases h1 : overB m l[i]
    · rw [h1, Bool.false_or] at he
      have ih := am_no hm k (i + 1) (by omega) (by omega) he
      rw [show ((i + 1 : Nat) : Int) = (i : Int) + 1 by omega] at ih
      exact loop_more mixed (fuel := 9) (n := 3) (im := []) (keep := [0, 1, 5]) (ext := []) (orc := [.bool true, .int .i64 (gZ l i), .bool false])
        (an (show decide ((i : Int) < l.length) = true by simp; omega) <| an (ixZ' ha) <| an (show decide (m ≤ gZ l i) = false by rw [gZ_eq ha]; exact h1) <| an (show In64 ((i : Int) + 1) by constructor <;> omega) trivial) (by kernel_rfl) ih
    · exact loop_end mixed (fuel := 9) (n := 3) (im := []) (keep := [4]) (ext := []) (orc := [.bool true, .int .i64 (gZ l i), .bool true])
        (an (show decide ((i : Int) < l.length) = true by simp; omega) <| an (ixZ' ha) <| an (show decide (m ≤ gZ l i) = true by rw [gZ_eq ha]; exact h1) trivial) (by intro e; cases e) (by kernel_rfl)
set_option maxRecDepth 100000 in
theorem ac_ramong {b : Bool} (h : stnB m l = b) (hm : l.length ≤ 1000000) : AC Tryz.prog 138 [rowI l, .int .i64 m] (.bool b) := by
  subst h
  cases ha : l.any (overB m)
  · rw [show stnB m l = okLn l by simp [stnB, ha]]
    exact ac_path mixed (ext := [113]) (fuel := 9) (n := 3) (orc := [oL [] [0, 1, 5] 0 [(0, rowI l), (1, .int .i64 m), (5, .int .i64 l.length)] [], .bool (okLn l)]) (an (am_yes hm l.length 0 rfl (by omega) (by simpa using ha)) <| an (ac_rlcheck (l := l) rfl) trivial) (by kernel_rfl)
  · rw [show stnB m l = false by simp [stnB, ha]]
    exact ac_path mixed (ext := [113]) (fuel := 9) (n := 3) (orc := [oL [] [0, 1, 5] (-1) [(4, vD false)] []]) (an (am_no hm l.length 0 rfl (by omega) (by simpa using ha)) trivial) (by kernel_rfl)
end
/-! ### Threads -/
def hdCk (s : St) (R i : Int) : Sg := ⟨mkT 105 [(1, pt 0), (3, .int .i64 R), (4, .int .i64 i)], [some ⟨true, false, 20, 1, [stT s]⟩]⟩
def hdCkN : Sg := ⟨mkT 105 [(2, vD false)], []⟩
theorem not_any {l : List Th} {i : Nat} (h : i < l.length) : (l.drop i).any notTh = (!thB (gth l i) || (l.drop (i + 1)).any notTh) := by rw [any_at h, gth_eq h]; rfl
section
variable {s : St} {R : Int}
set_option maxRecDepth 100000 in
theorem ck_yes' (hm : s.th.length ≤ 1000000) : ∀ (k i : Nat), s.th.length - i = k → i ≤ s.th.length → (s.th.drop i).any notTh = false → LoopP Tryz.prog (loopOf Tryz.prog 112 0) (hdCk s R i) (.exit 0) (hdCk s R s.th.length)
  | 0, i, hk, hi, _ => by
    have : i = s.th.length := by omega
    subst this
    exact loop_end mixed (fuel := 9) (n := 3) (im := [0]) (keep := [1, 3, 4]) (ext := [135]) (orc := [.bool false]) (an (show decide ((s.th.length : Int) < s.th.length) = false by simp) trivial) (by intro e; cases e) (by kernel_rfl)
  | k + 1, i, hk, hi, he => by
    have ha : i < s.th.length := by omega
    rw [not_any ha, Bool.or_eq_false_iff] at he
    have ih := ck_yes' hm k (i + 1) (by omega) (by omega) he.2
    rw [show ((i + 1 : Nat) : Int) = (i : Int) + 1 by omega] at ih
    exact loop_more mixed (fuel := 9) (n := 3) (im := [0]) (keep := [1, 3, 4]) (ext := [135]) (orc := [.bool true, thT (gth s.th i), vD true])
      (an (show decide ((i : Int) < s.th.length) = true by simp; omega) <| an (rowT_el ha) <| an (ac_rtchk (by simpa using he.1)) <| an (show In64 ((i : Int) + 1) by constructor <;> omega) trivial) (by kernel_rfl) ih
set_option maxRecDepth 100000 in
theorem ck_no' (hm : s.th.length ≤ 1000000) : ∀ (k i : Nat), s.th.length - i = k → i ≤ s.th.length → (s.th.drop i).any notTh = true → LoopP Tryz.prog (loopOf Tryz.prog 112 0) (hdCk s R i) .ret hdCkN
  | 0, i, hk, hi, he => absurd he (by rw [List.drop_eq_nil_of_le (by omega)]; simp)
  | k + 1, i, hk, hi, he => by
    have ha : i < s.th.length := by omega
    rw [not_any ha] at he
    cases h1 : thB (gth s.th i)
    · exact loop_end mixed (fuel := 9) (n := 3) (im := []) (keep := [2]) (ext := [135]) (orc := [.bool true, thT (gth s.th i), vD false])
        (an (show decide ((i : Int) < s.th.length) = true by simp; omega) <| an (rowT_el ha) <| an (ac_rtchk h1) trivial) (by intro e; cases e) (by kernel_rfl)
    · rw [h1, Bool.not_true, Bool.false_or] at he
      have ih := ck_no' hm k (i + 1) (by omega) (by omega) he
      rw [show ((i + 1 : Nat) : Int) = (i : Int) + 1 by omega] at ih
      exact loop_more mixed (fuel := 9) (n := 3) (im := [0]) (keep := [1, 3, 4]) (ext := [135]) (orc := [.bool true, thT (gth s.th i), vD true])
        (an (show decide ((i : Int) < s.th.length) = true by simp; omega) <| an (rowT_el ha) <| an (ac_rtchk h1) <| an (show In64 ((i : Int) + 1) by constructor <;> omega) trivial) (by kernel_rfl) ih
end
theorem st_no_room {s : St} (h : cfR s.cf = 0) : stB s = false := by
  cases hb : stB s
  · rfl
  · have := cf_room (st_iff.1 hb).1; omega
theorem st_no_len {s : St} (h : ¬ (s.sl.length : Int) = cfR s.cf) : stB s = false := by simp [stB, ringSt, h]
theorem st_no_ths {s : St} (h : ¬ (s.th.length : Int) = s.cf.th) : stB s = false := by simp [stB, thsSt, h]
theorem st_no_lo {s : St} (h : s.nw < 0) : stB s = false := by simp [stB]; omega
theorem st_no_hi {s : St} (h : 1099511627776 < s.nw) : stB s = false := by simp [stB]; omega
theorem st_no_any {s : St} (h : s.th.any notTh = true) : stB s = false := by simp [stB, thsSt, h]
theorem st_all {s : St} {R : Int} (hR : cfR s.cf = R) (h0 : ¬ R = 0) (h1 : (s.sl.length : Int) = R) (h2 : (s.th.length : Int) = s.cf.th) (h3 : ¬ s.nw < 0) (h4 : ¬ 1099511627776 < s.nw) (h5 : s.th.any notTh = false) :
    stB s = (checkB s.hd s.tl s.md R && (okSl s.sl && (okE s.fe s.fl && (okE s.ee s.el && (stnB s.cf.th s.sn && (stnB s.cf.th s.rc && (stnB s.cf.th s.fl && stnB s.cf.th s.el))))))) := by
  have hc : cfB s.cf = true := by
    cases hb : cfB s.cf
    · exact absurd (hR ▸ (room_no hb : cfR s.cf = 0)) h0
    · rfl
  have h6 : decide (0 ≤ s.nw) = true := by simpa using h3
  have h7 : decide (s.nw ≤ 1099511627776) = true := by simpa using h4
  unfold stB ringSt lnsSt thsSt
  rw [hc, hR, h1, h2, h5, h6, h7]
  cases checkB s.hd s.tl s.md R <;> cases okSl s.sl <;> cases okE s.fe s.fl <;> cases okE s.ee s.el <;> simp
def qkE : List FuncId := [134, 136, 137, 65, 135, 138]
def qkN (k : Nat) : List Value := List.replicate k (.bool false)
def qkY (R : Int) (k : Nat) : List Value := .int .i64 R :: (qkN k ++ [.bool true])
def qkP (s : St) (R : Int) : List Value := .int .i64 R :: (qkN 5 ++ [oL [0] [1, 3, 4] 0 [(1, pt 0), (3, .int .i64 R), (4, .int .i64 s.th.length)] [some ⟨true, false, 20, 1, [stT s]⟩]])
abbrev Qk (s : St) (b : Bool) : Prop := AC Tryz.prog 112 [stT s] (.bool b)
section
variable {s : St} {R : Int} (hR : cfR s.cf = R)
include hR
set_option maxRecDepth 100000 in
theorem rck_1 (h0 : (R == 0) = true) : Qk s false := ac_path mixed (ext := qkE) (fuel := 9) (n := 4) (orc := qkY R 0) (an (ac_rroom hR) <| an h0 trivial) (by kernel_rfl)
variable (h0 : (R == 0) = false)
include h0
set_option maxRecDepth 100000 in
theorem rck_2 (h1 : ((s.sl.length : Int) != R) = true) : Qk s false := ac_path mixed (ext := qkE) (fuel := 9) (n := 4) (orc := qkY R 1) (an (ac_rroom hR) <| an h0 <| an h1 trivial) (by kernel_rfl)
variable (h1 : ((s.sl.length : Int) != R) = false)
include h1
set_option maxRecDepth 100000 in
theorem rck_3 (h2 : ((s.th.length : Int) != s.cf.th) = true) : Qk s false := ac_path mixed (ext := qkE) (fuel := 9) (n := 4) (orc := qkY R 2) (an (ac_rroom hR) <| an h0 <| an h1 <| an h2 trivial) (by kernel_rfl)
variable (h2 : ((s.th.length : Int) != s.cf.th) = false)
include h2
set_option maxRecDepth 100000 in
theorem rck_4 (h3 : decide (s.nw < 0) = true) : Qk s false := ac_path mixed (ext := qkE) (fuel := 9) (n := 4) (orc := qkY R 3) (an (ac_rroom hR) <| an h0 <| an h1 <| an h2 <| an h3 trivial) (by kernel_rfl)
variable (h3 : decide (s.nw < 0) = false)
include h3
set_option maxRecDepth 100000 in
theorem rck_5 (h4 : decide (1099511627776 < s.nw) = true) : Qk s false := ac_path mixed (ext := qkE) (fuel := 9) (n := 4) (orc := qkY R 4) (an (ac_rroom hR) <| an h0 <| an h1 <| an h2 <| an h3 <| an h4 trivial) (by kernel_rfl)
variable (h4 : decide (1099511627776 < s.nw) = false) (hm : s.th.length ≤ 1000000)
include h4 hm
set_option maxRecDepth 100000 in
theorem rck_6 (h5 : s.th.any notTh = true) : Qk s false := ac_path mixed (ext := qkE) (fuel := 9) (n := 4) (orc := .int .i64 R :: (qkN 5 ++ [oL [0] [1, 3, 4] (-1) [(2, vD false)] []]))
  (an (ac_rroom hR) <| an h0 <| an h1 <| an h2 <| an h3 <| an h4 <| an (ck_no' (R := R) hm s.th.length 0 rfl (by omega) (by simpa using h5)) trivial) (by kernel_rfl)
theorem rck_7 (h5 : s.th.any notTh = false) {B : Prop} (b : B) : AC Tryz.prog 134 [cfT s.cf] (.int .i64 R) ∧ (R == 0) = false ∧ ((s.sl.length : Int) != R) = false ∧ ((s.th.length : Int) != s.cf.th) = false ∧ decide (s.nw < 0) = false ∧ decide (1099511627776 < s.nw) = false ∧
    LoopP Tryz.prog (loopOf Tryz.prog 112 0) (hdCk s R (0 : Nat)) (.exit 0) (hdCk s R s.th.length) ∧ B :=
  an (ac_rroom hR) <| an h0 <| an h1 <| an h2 <| an h3 <| an h4 <| an (ck_yes' (R := R) hm s.th.length 0 rfl (by omega) (by simpa using h5)) b
end
set_option maxRecDepth 100000 in
theorem ac_rcheck {s : St} {b : Bool} (h : stB s = b) (ho : s.ok) (hw : s.few) : AC Tryz.prog 112 [stT s] (.bool b) := by
  subst h
  obtain ⟨R, hR⟩ : ∃ R, cfR s.cf = R := ⟨_, rfl⟩
  have hRi : In64 R := hR ▸ room_in s.cf
  have hm : s.th.length ≤ 1000000 := by have := hw.th; omega
  by_cases h0 : R = 0
  · rw [st_no_room (hR.trans h0)]; exact rck_1 hR (by simpa using h0)
  have d0 : (R == 0) = false := by simpa using h0
  by_cases h1 : (s.sl.length : Int) = R
  case neg => rw [st_no_len (by rw [hR]; exact h1)]; exact rck_2 hR d0 (by simpa using h1)
  have d1 : ((s.sl.length : Int) != R) = false := by simpa using h1
  by_cases h2 : (s.th.length : Int) = s.cf.th
  case neg => rw [st_no_ths h2]; exact rck_3 hR d0 d1 (by simpa using h2)
  have d2 : ((s.th.length : Int) != s.cf.th) = false := by simpa using h2
  by_cases h3 : s.nw < 0
  · rw [st_no_lo h3]; exact rck_4 hR d0 d1 d2 (by simpa using h3)
  have d3 : decide (s.nw < 0) = false := by simpa using h3
  by_cases h4 : 1099511627776 < s.nw
  · rw [st_no_hi h4]; exact rck_5 hR d0 d1 d2 d3 (by simpa using h4)
  have d4 : decide (1099511627776 < s.nw) = false := by simpa using h4
  cases h5 : s.th.any notTh
  case true => rw [st_no_any h5]; exact rck_6 hR d0 d1 d2 d3 d4 hm h5
  rw [st_all hR h0 h1 h2 h3 h4 h5]
  have a1 := fun {b : Bool} (e : checkB s.hd s.tl s.md R = b) => ac_rchk e ho.hd ho.tl ho.md hRi
  have a2 := fun {b : Bool} (e : okSl s.sl = b) => ac_rscheck e hw.sl
  have a3 := fun {b : Bool} (e : okE s.fe s.fl = b) => ac_recheck e
  have a4 := fun {b : Bool} (e : okE s.ee s.el = b) => ac_recheck e
  have a5 := fun {b : Bool} (e : stnB s.cf.th s.sn = b) => ac_ramong e (by have := hw.sn; omega)
  have a6 := fun {b : Bool} (e : stnB s.cf.th s.rc = b) => ac_ramong e (by have := hw.rc; omega)
  have a7 := fun {b : Bool} (e : stnB s.cf.th s.fl = b) => ac_ramong e (by have := hw.fl; omega)
  have a8 := fun {b : Bool} (e : stnB s.cf.th s.el = b) => ac_ramong e (by have := hw.el; omega)
  cases e1 : checkB s.hd s.tl s.md R
  · cases e3 : okE s.fe s.fl
    · exact ac_path mixed (ext := qkE) (fuel := 9) (n := 4) (orc := qkP s R ++ [vD false, vD false]) (rck_7 hR d0 d1 d2 d3 d4 hm h5 (an (a1 e1) <| an (a3 e3) <| trivial)) (by kernel_rfl)
    · cases e4 : okE s.ee s.el
      · exact ac_path mixed (ext := qkE) (fuel := 9) (n := 4) (orc := qkP s R ++ [vD false, vD true, vD false]) (rck_7 hR d0 d1 d2 d3 d4 hm h5 (an (a1 e1) <| an (a3 e3) <| an (a4 e4) <| trivial)) (by kernel_rfl)
      · exact ac_path mixed (ext := qkE) (fuel := 9) (n := 4) (orc := qkP s R ++ [vD false, vD true, vD true]) (rck_7 hR d0 d1 d2 d3 d4 hm h5 (an (a1 e1) <| an (a3 e3) <| an (a4 e4) <| trivial)) (by kernel_rfl)
  · cases e2 : okSl s.sl
    · cases e3 : okE s.fe s.fl
      · exact ac_path mixed (ext := qkE) (fuel := 9) (n := 4) (orc := qkP s R ++ [vD true, vD false, vD false]) (rck_7 hR d0 d1 d2 d3 d4 hm h5 (an (a1 e1) <| an (a2 e2) <| an (a3 e3) <| trivial)) (by kernel_rfl)
      · cases e4 : okE s.ee s.el
        · exact ac_path mixed (ext := qkE) (fuel := 9) (n := 4) (orc := qkP s R ++ [vD true, vD false, vD true, vD false]) (rck_7 hR d0 d1 d2 d3 d4 hm h5 (an (a1 e1) <| an (a2 e2) <| an (a3 e3) <| an (a4 e4) <| trivial)) (by kernel_rfl)
        · exact ac_path mixed (ext := qkE) (fuel := 9) (n := 4) (orc := qkP s R ++ [vD true, vD false, vD true, vD true]) (rck_7 hR d0 d1 d2 d3 d4 hm h5 (an (a1 e1) <| an (a2 e2) <| an (a3 e3) <| an (a4 e4) <| trivial)) (by kernel_rfl)
    · cases e3 : okE s.fe s.fl
      · exact ac_path mixed (ext := qkE) (fuel := 9) (n := 4) (orc := qkP s R ++ [vD true, vD true, vD false]) (rck_7 hR d0 d1 d2 d3 d4 hm h5 (an (a1 e1) <| an (a2 e2) <| an (a3 e3) <| trivial)) (by kernel_rfl)
      · cases e4 : okE s.ee s.el
        · exact ac_path mixed (ext := qkE) (fuel := 9) (n := 4) (orc := qkP s R ++ [vD true, vD true, vD true, vD false]) (rck_7 hR d0 d1 d2 d3 d4 hm h5 (an (a1 e1) <| an (a2 e2) <| an (a3 e3) <| an (a4 e4) <| trivial)) (by kernel_rfl)
        · cases e5 : stnB s.cf.th s.sn
          · exact ac_path mixed (ext := qkE) (fuel := 9) (n := 4) (orc := qkP s R ++ [vD true, vD true, vD true, vD true, vD false]) (rck_7 hR d0 d1 d2 d3 d4 hm h5 (an (a1 e1) <| an (a2 e2) <| an (a3 e3) <| an (a4 e4) <| an (a5 e5) <| trivial)) (by kernel_rfl)
          · cases e6 : stnB s.cf.th s.rc
            · exact ac_path mixed (ext := qkE) (fuel := 9) (n := 4) (orc := qkP s R ++ [vD true, vD true, vD true, vD true, vD true, vD false]) (rck_7 hR d0 d1 d2 d3 d4 hm h5 (an (a1 e1) <| an (a2 e2) <| an (a3 e3) <| an (a4 e4) <| an (a5 e5) <| an (a6 e6) <| trivial)) (by kernel_rfl)
            · cases e7 : stnB s.cf.th s.fl
              · exact ac_path mixed (ext := qkE) (fuel := 9) (n := 4) (orc := qkP s R ++ [vD true, vD true, vD true, vD true, vD true, vD true, vD false]) (rck_7 hR d0 d1 d2 d3 d4 hm h5 (an (a1 e1) <| an (a2 e2) <| an (a3 e3) <| an (a4 e4) <| an (a5 e5) <| an (a6 e6) <| an (a7 e7) <| trivial)) (by kernel_rfl)
              · cases e8 : stnB s.cf.th s.el
                · exact ac_path mixed (ext := qkE) (fuel := 9) (n := 4) (orc := qkP s R ++ [vD true, vD true, vD true, vD true, vD true, vD true, vD true, vD false]) (rck_7 hR d0 d1 d2 d3 d4 hm h5 (an (a1 e1) <| an (a2 e2) <| an (a3 e3) <| an (a4 e4) <| an (a5 e5) <| an (a6 e6) <| an (a7 e7) <| an (a8 e8) <| trivial)) (by kernel_rfl)
                · exact ac_path mixed (ext := qkE) (fuel := 9) (n := 4) (orc := qkP s R ++ [vD true, vD true, vD true, vD true, vD true, vD true, vD true, vD true]) (rck_7 hR d0 d1 d2 d3 d4 hm h5 (an (a1 e1) <| an (a2 e2) <| an (a3 e3) <| an (a4 e4) <| an (a5 e5) <| an (a6 e6) <| an (a7 e7) <| an (a8 e8) <| trivial)) (by kernel_rfl)
end Go.Proofs.YtkflpaicohbppaaGreat

/- Contracts told by abstract values: the document's slots, Is, Tell, Wake, Value, Runs. -/
namespace Go.Proofs.YtkflpaicohbppaaGreat
set_option linter.unusedVariables false
set_option linter.unusedSimpArgs false
open Go.RowKit
/-! ### States -/
set_option maxRecDepth 100000 in
theorem ac_ris {s : St} {i : Int} {b : Bool} (h : hasB s i = b) (ho : s.ok) (hw : s.few) : AC Tryz.prog 62 [stT s, .int .i64 i] (.bool b) := by
  subst h
  cases hB : stB s
  · rw [show hasB s i = false by simp [hasB, hB]]
    exact ac_path mixed (ext := [112]) (fuel := 9) (n := 3) (orc := [vD false]) (an (ac_rcheck hB ho hw) trivial) (by kernel_rfl)
  · by_cases h0 : 0 ≤ i
    · have e : hasB s i = decide (i < s.th.length) := by simp [hasB, hB, h0]
      rw [e]
      exact ac_path mixed (ext := [112]) (fuel := 9) (n := 3) (orc := [vD true, .bool true]) (an (ac_rcheck hB ho hw) <| an (show decide (0 ≤ i) = true by simp [h0]) trivial) (by kernel_rfl)
    · rw [show hasB s i = false by simp [hasB, h0]]
      exact ac_path mixed (ext := [112]) (fuel := 9) (n := 3) (orc := [vD true, .bool false]) (an (ac_rcheck hB ho hw) <| an (show decide (0 ≤ i) = false by simp [h0]) trivial) (by kernel_rfl)
set_option maxRecDepth 100000 in
theorem ac_rtell {s : St} {n : Nat} {k r g : Int} (hA : hasB s n = true) (ho : s.ok) (hw : s.few) : AC Tryz.prog 64 [stT s, .int .i64 n, .int .i64 k, .int .i64 r, .int .i64 g] (stT (tellS s n k r g)) := by
  have hn := has_lt hA
  have hlg := hw.lg
  rw [tell_is hA]
  by_cases hk : k = 9
  · rw [show tellT (gth s.th n) k r g = gth s.th n by unfold tellT; rw [if_pos hk]]
    exact ac_path mixed (ext := [62, 36]) (fuel := 9) (n := 3) (orc := [vD true, thT (gth s.th n), .bool false, stT (s.setTh n (gth s.th n)), rowE s.lg, rowE (s.lg ++ [tlE s n k r g])])
      (an (ac_ris hA ho hw) <| an (ixT hn) <| an (show (k != 9) = false by simp [hk]) <| an (ac_rwith s n (gth s.th n) hn hw.th) <| an (allK_E s.lg) <| an (rfl : (0 : Nat) = 0) <| an (app_e (f := enT) (l := s.lg) (by omega)) <| an (rfl : (1 : Nat) = 1) <| an (allK_1 (tlE s n k r g)) <| an (lenE s.lg) <|
        an (app_is (f := enT) (l := s.lg) (m := [tlE s n k r g]) rfl (by simp; omega)) <| an (lenA s.lg (tlE s n k r g)) trivial) (by kernel_rfl)
  · rw [show tellT (gth s.th n) k r g = rgT (gth s.th n) r g by unfold tellT; rw [if_neg hk]; rfl]
    exact ac_path mixed (ext := [62, 36]) (fuel := 9) (n := 3) (orc := [vD true, thT (gth s.th n), .bool true, stT (s.setTh n (rgT (gth s.th n) r g)), rowE s.lg, rowE (s.lg ++ [tlE s n k r g])])
      (an (ac_ris hA ho hw) <| an (ixT hn) <| an (show (k != 9) = true by simp [hk]) <| an (ac_rwith s n (rgT (gth s.th n) r g) hn hw.th) <| an (allK_E s.lg) <| an (rfl : (0 : Nat) = 0) <| an (app_e (f := enT) (l := s.lg) (by omega)) <| an (rfl : (1 : Nat) = 1) <| an (allK_1 (tlE s n k r g)) <| an (lenE s.lg) <|
        an (app_is (f := enT) (l := s.lg) (m := [tlE s n k r g]) rfl (by simp; omega)) <| an (lenA s.lg (tlE s n k r g)) trivial) (by kernel_rfl)
set_option maxRecDepth 100000 in
theorem ac_rwake {s : St} {n : Nat} (hA : hasB s n = true) (ho : s.ok) (hw : s.few) : AC Tryz.prog 67 [stT s, .int .i64 n] (stT (s.onTh n wakeT)) :=
  ac_path mixed (ext := [62, 36, 114]) (fuel := 9) (n := 3) (orc := [vD true, thT (gth s.th n), thT (wakeT (gth s.th n)), stT (s.onTh n wakeT)])
    (an (ac_ris hA ho hw) <| an (ixT (has_lt hA)) <| an (ac_rtwake (gth s.th n)) <| an (ac_rwith s n (wakeT (gth s.th n)) (has_lt hA) hw.th) trivial) (by kernel_rfl)
set_option maxRecDepth 100000 in
theorem ac_rruns {s : St} {i d : Int} {b : Bool} (h : runsB s i d = b) (ho : s.ok) (hw : s.few) : AC Tryz.prog 24 [stT s, .int .i64 i, .int .i64 d] (.bool b) := by
  subst h
  cases hA : hasB s i
  · rw [show runsB s i d = false by simp [runsB, hA]]
    exact ac_path mixed (ext := [62, 63]) (fuel := 9) (n := 3) (orc := [vD false]) (an (ac_ris hA ho hw) trivial) (by kernel_rfl)
  · obtain ⟨hB, h0, h1⟩ := has_iff.1 hA
    obtain ⟨n, rfl⟩ : ∃ n : Nat, i = n := ⟨i.toNat, by omega⟩
    have hn : n < s.th.length := by omega
    by_cases hs : (gth s.th n).st = 1
    · rw [show runsB s n d = (opSide (gth s.th n).ki == d) by simp [runsB, hA, hs]]
      exact ac_path mixed (ext := [62, 63]) (fuel := 9) (n := 3) (orc := [vD true, thT (gth s.th n), .bool true, .int .i64 (opSide (gth s.th n).ki)])
        (an (ac_ris hA ho hw) <| an (ixT hn) <| an (show ((gth s.th n).st == 1) = true by simp [hs]) <| an (ac_rside (k := (gth s.th n).ki) rfl) trivial) (by kernel_rfl)
    · rw [show runsB s n d = false by simp [runsB, hs]]
      exact ac_path mixed (ext := [62, 63]) (fuel := 9) (n := 3) (orc := [vD true, thT (gth s.th n), .bool false])
        (an (ac_ris hA ho hw) <| an (ixT hn) <| an (show ((gth s.th n).st == 1) = false by simp [hs]) trivial) (by kernel_rfl)
end Go.Proofs.YtkflpaicohbppaaGreat

/- Layer 14, plain: what some steps of who sends are, and what they change. -/
namespace Go.Proofs.YtkflpaicohbppaaGreat
set_option linter.unusedVariables false
set_option linter.unusedSimpArgs false
/-! ### What threads share -/
/-- The word, the slots, Sends, Recvs, Full, Empty. -/
def shr (s : St) : (Int × Int × Int) × List Slo × List Int × List Int × (Int × List Int) × (Int × List Int) := ((s.hd, s.tl, s.md), s.sl, s.sn, s.rc, (s.fe, s.fl), (s.ee, s.el))
theorem shr_on (s : St) (n : Nat) (f : Th → Th) : shr (s.onTh n f) = shr s := rfl
theorem shr_tell (s : St) (i k r g : Int) : shr (tellS s i k r g) = shr s := by unfold tellS; split <;> rfl
theorem shr_told (s : St) (n : Nat) (k r g p : Int) : shr (toldS s n k r g p) = shr s := by unfold toldS; rw [shr_on, shr_tell]
theorem shr_wake (s : St) (i : Int) : shr (wakeS s i) = shr s := by unfold wakeS; split <;> rfl
/-! ### What becomes of the other threads -/
/-- Of two lists of threads, all but one are as they were, but for one who is woken. -/
structure Oth (l m : List Th) (i : Int) : Prop where
  len : m.length = l.length
  one : ∃ w : Nat, ∀ j : Nat, j < l.length → (j : Int) ≠ i → gth m j = gth l j ∨ (j = w ∧ (gth l j).st = 2 ∧ gth m j = wakeT (gth l j))
theorem Oth.refl (l : List Th) (i : Int) : Oth l l i := ⟨rfl, 0, fun _ _ _ => .inl rfl⟩
theorem Oth.set {l : List Th} {n : Nat} (t : Th) : Oth l (l.set n t) n := ⟨by simp, 0, fun j hj hne => .inl (by
  by_cases hn : n < l.length
  · rw [gth_set hn, if_neg (by omega)]
  · rw [List.set_eq_of_length_le (by omega)])⟩
theorem Oth.wake {l : List Th} {n w : Nat} (t : Th) (hw : w < l.length) : Oth l ((l.set n t).set w (wakeT (gth (l.set n t) w))) n := ⟨by simp, w, fun j hj hne => by
  have e1 : gth (l.set n t) j = gth l j := by
    by_cases hn : n < l.length
    · rw [gth_set hn, if_neg (by omega)]
    · rw [List.set_eq_of_length_le (by omega)]
  rw [gth_set (by simpa using hw)]
  split
  · next e =>
    subst e
    rw [e1]
    by_cases h2 : (gth l w).st = 2
    · exact .inr ⟨rfl, h2, rfl⟩
    · left; unfold wakeT; rw [if_neg h2]
  · exact .inl e1⟩
theorem th_tell (s : St) (n : Nat) (k r g : Int) : ∃ t, (tellS s n k r g).th = s.th.set n t := by
  unfold tellS; split
  · exact ⟨_, by simp [St.setTh, St.addLg]; rfl⟩
  · exact ⟨gth s.th n, gth_set_self.symm⟩
theorem th_told (s : St) (n : Nat) (k r g p : Int) : ∃ t, (toldS s n k r g p).th = s.th.set n t := by
  obtain ⟨t, ht⟩ := th_tell s n k r g
  exact ⟨pcT (gth (tellS s n k r g).th n) p, by show (tellS s n k r g).th.set n _ = _; rw [ht, List.set_set]⟩
/-! ### What is told, and what stays -/
/-- What is told is told behind all that was, at most once. -/
def LgOk (a b : List En) : Prop := b = a ∨ ∃ x, b = a ++ [x]
theorem lg_tell (s : St) (i k r g : Int) : LgOk s.lg (tellS s i k r g).lg := by
  unfold tellS; split
  · exact .inr ⟨_, rfl⟩
  · exact .inl rfl
theorem lg_told (s : St) (n : Nat) (k r g p : Int) : LgOk s.lg (toldS s n k r g p).lg := lg_tell s n k r g
theorem cf_tell (s : St) (i k r g : Int) : (tellS s i k r g).cf = s.cf ∧ (tellS s i k r g).nw = s.nw := by unfold tellS; split <;> exact ⟨rfl, rfl⟩
end Go.Proofs.YtkflpaicohbppaaGreat

/- Layer 14, plain: what a step of who sends tells is what the queue may be told of. -/
namespace Go.Proofs.YtkflpaicohbppaaGreat
set_option linter.unusedVariables false
set_option linter.unusedSimpArgs false
theorem quV_eq {a s : St} (h0 : stB a = stB s) (h1 : a.hd = s.hd) (h2 : a.tl = s.tl) (h3 : a.md = s.md) (h4 : a.sl = s.sl) (h5 : a.cf = s.cf) : quV a = quV s := by
  cases a; cases s; simp only at h1 h2 h3 h4 h5; subst h1 h2 h3 h4 h5; unfold quV; rw [h0]; rfl
theorem quV_yes {s : St} (h : stB s = true) : quV s = ⟨(List.range (s.tl - s.hd).toNat).map fun (n : Nat) => atV s (s.hd + n), cfR s.cf, s.cf.po, s.md⟩ := by unfold quV; rw [if_pos h]
theorem quV_len {s : St} (h : stB s = true) : ((quV s).vals.length : Int) = s.tl - s.hd := by
  have := check_len (word_ok h).1
  rw [quV_yes h]; simp only [List.length_map, List.length_range]; omega
theorem quV_cap {s : St} (h : stB s = true) : (quV s).cap = s.sl.length ∧ (quV s).pol = s.cf.po ∧ (quV s).mode = s.md := by
  rw [quV_yes h]; exact ⟨(word_ok h).2.2.symm, rfl, rfl⟩
/-- What a step does to the queue: nothing, or what it tells. -/
def QuOk (s a : St) (n : Nat) : Prop := (a.lg = s.lg ∧ quV a = quV s) ∨ ∃ x : En, a.lg = s.lg ++ [x] ∧ x.th = (n : Int) ∧ (quV s).tell x = (quV a, true)
theorem lg_is {s : St} (h : stB s = true) {n : Nat} (hn : n < s.th.length) (k r g p : Int) : (toldS s n k r g p).lg = s.lg ++ [⟨n, k, (gth s.th n).va, r, g⟩] := by
  show (tellS s n k r g).lg = _; rw [tell_th h hn]; rfl
theorem qu_told {s : St} (h : stB s = true) {n : Nat} (hn : n < s.th.length) (h1 : (gth s.th n).st ≠ 0) {k r g p : Int} (hr : 0 ≤ r ∧ r ≤ 7) (hp : 0 ≤ p ∧ p ≤ 11) : quV (toldS s n k r g p) = quV s := by
  have hs := shr_told s n k r g p
  simp only [shr, Prod.mk.injEq] at hs
  exact quV_eq (by rw [h]; exact told_stB h hn h1 hr hp) hs.1.1 hs.1.2.1 hs.1.2.2 hs.2.1 (by show (tellS s n k r g).cf = s.cf; exact (cf_tell s n k r g).1)
end Go.Proofs.YtkflpaicohbppaaGreat

/- Layer 16: a step of who closes, as a plain function; what may be stays so; what it changes; what it tells. -/
namespace Go.Proofs.YtkflpaicohbppaaGreat
set_option linter.unusedVariables false
set_option linter.unusedSimpArgs false
def modeI (k : Int) : Int := if k = 7 then 1 else if k = 8 then 2 else 0
/-- Some are woken, in order. -/
def wakesS : List Int → St → St
  | [], s => s
  | i :: l, s => wakesS l (wakeS s i)
def shutC (s : St) (n : Nat) : St := toldS (s.toWord s.hd s.tl (clM s.md (modeI (gth s.th n).ki))) n (gth s.th n).ki 1 0 1
def fullC (s : St) (n : Nat) : St := wakesS (ntT s.fl.length s.fe s.fl) ((s.toFull (ntE s.fe s.fl) (ntL s.fl.length s.fe s.fl)).onTh n (pcT · 2))
def emptyC (s : St) (n : Nat) : St := wakesS (ntT s.el.length s.ee s.el) ((s.toEmpty (ntE s.ee s.el) (ntL s.el.length s.ee s.el)).onTh n doneT)
/-- A step of thread n, which closes. -/
def closeN (s : St) (n : Nat) : St := if (gth s.th n).pc = 0 then shutC s n else if (gth s.th n).pc = 1 then fullC s n else emptyC s n
def closeS (s : St) (i : Int) : St := if runsB s i 3 = true then closeN s i.toNat else s
/-- Some steps of who closes, and how many there were. -/
def closeK (s : St) (i : Int) : Nat → St × Nat
  | 0 => (s, 0)
  | k + 1 => if runsB s i 3 = true then ((closeK (closeS s i) i k).1, (closeK (closeS s i) i k).2 + 1) else (s, 0)
theorem closeN_ind {P : St → Prop} {s : St} {n : Nat} (h0 : P (shutC s n)) (h1 : P (fullC s n)) (h2 : P (emptyC s n)) : P (closeN s n) := by
  unfold closeN; split
  · exact h0
  · split
    · exact h1
    · exact h2

/-! ### Who are woken -/
theorem wake_wake (t : Th) : wakeT (wakeT t) = wakeT t := by unfold wakeT; split <;> simp_all
theorem shr_wakes : ∀ (l : List Int) (s : St), shr (wakesS l s) = shr s
  | [], s => rfl
  | i :: l, s => by show shr (wakesS l (wakeS s i)) = _; rw [shr_wakes l, shr_wake]
theorem wake_rest (s : St) (i : Int) : (wakeS s i).lg = s.lg ∧ (wakeS s i).cf = s.cf ∧ (wakeS s i).nw = s.nw ∧ (wakeS s i).th.length = s.th.length := by
  unfold wakeS; split
  · exact ⟨rfl, rfl, rfl, by simp [St.onTh, St.setTh]⟩
  · exact ⟨rfl, rfl, rfl, rfl⟩
theorem wakes_rest : ∀ (l : List Int) (s : St), (wakesS l s).lg = s.lg ∧ (wakesS l s).cf = s.cf ∧ (wakesS l s).nw = s.nw ∧ (wakesS l s).th.length = s.th.length
  | [], s => ⟨rfl, rfl, rfl, rfl⟩
  | i :: l, s => by
    obtain ⟨a, b, c, d⟩ := wakes_rest l (wakeS s i)
    obtain ⟨a', b', c', d'⟩ := wake_rest s i
    exact ⟨a.trans a', b.trans b', c.trans c', d.trans d'⟩
theorem wakes_stB : ∀ (l : List Int) {s : St}, stB s = true → stB (wakesS l s) = true
  | [], _, h => h
  | i :: l, _, h => wakes_stB l (wake_stB h i)
theorem wake_th {s : St} (h : stB s = true) (i : Int) {j : Nat} (hj : j < s.th.length) : gth (wakeS s i).th j = if (j : Int) = i then wakeT (gth s.th j) else gth s.th j := by
  unfold wakeS
  split
  · next hh =>
    have hi := has_iff.1 hh
    show gth (s.th.set i.toNat (wakeT (gth s.th i.toNat))) j = _
    rw [gth_set (by omega)]
    by_cases e : i.toNat = j
    · rw [if_pos e, if_pos (by omega), e]
    · rw [if_neg e, if_neg (by omega)]
  · next hh =>
    rw [if_neg]
    rintro rfl
    exact hh (has_of h hj)
theorem wakes_th : ∀ (l : List Int) {s : St}, stB s = true → ∀ {j : Nat}, j < s.th.length → gth (wakesS l s).th j = if (j : Int) ∈ l then wakeT (gth s.th j) else gth s.th j
  | [], s, h, j, hj => by simp [wakesS]
  | i :: l, s, h, j, hj => by
    show gth (wakesS l (wakeS s i)).th j = _
    rw [wakes_th l (wake_stB h i) (by rw [(wake_rest s i).2.2.2]; exact hj), wake_th h i hj]
    by_cases e : (j : Int) = i
    · subst e
      simp [wake_wake]
    · simp [e]

/-! ### What may be stays so -/
theorem mode_is (k : Int) : modeI k = 0 ∨ modeI k = 1 ∨ modeI k = 2 := by unfold modeI; (repeat' split) <;> simp
theorem clM_bd {m d : Int} (h : 0 ≤ m ∧ m ≤ 2) : 0 ≤ clM m d ∧ clM m d ≤ 2 := by unfold clM; split <;> omega
theorem shut_word {s : St} (h : stB s = true) (d : Int) : stB (s.toWord s.hd s.tl (clM s.md d)) = true := by
  have c := check_iff.1 (word_ok h).1
  have := clM_bd (m := s.md) (d := d) (by omega)
  exact word_stB h (check_iff.2 (by omega))
theorem nt_all {ep : Int} {l : List Int} (h : okE ep l = true) : ntE ep l = nxE ep ∧ ntL l.length ep l = [] ∧ ntT l.length ep l = l := by simp [ntE, ntL, ntT, h]
theorem nil_stn (m : Int) : stnB m [] = true := rfl
theorem full_off {s : St} (h : stB s = true) : stB (s.toFull (ntE s.fe s.fl) (ntL s.fl.length s.fe s.fl)) = true := by
  obtain ⟨-, -, -, -, e, -⟩ := full_lines h
  obtain ⟨e1, e2, -⟩ := nt_all e
  rw [e1, e2]
  exact full_stB h (okE_nx e rfl) (nil_stn _)
theorem empty_off {s : St} (h : stB s = true) : stB (s.toEmpty (ntE s.ee s.el) (ntL s.el.length s.ee s.el)) = true := by
  obtain ⟨-, -, -, -, -, e⟩ := full_lines h
  obtain ⟨e1, e2, -⟩ := nt_all e
  rw [e1, e2]
  exact empty_stB h (okE_nx e rfl) (nil_stn _)
theorem full_on {s : St} (h : stB s = true) {n : Nat} (hn : n < s.th.length) (h1 : (gth s.th n).st ≠ 0) : stB ((s.toFull (ntE s.fe s.fl) (ntL s.fl.length s.fe s.fl)).onTh n (pcT · 2)) = true :=
  onTh_stB (full_off h) (pcT_ok (gth_ok h hn) h1 (by decide))
theorem empty_on {s : St} (h : stB s = true) {n : Nat} (hn : n < s.th.length) (h1 : (gth s.th n).st ≠ 0) : stB ((s.toEmpty (ntE s.ee s.el) (ntL s.el.length s.ee s.el)).onTh n doneT) = true :=
  onTh_stB (empty_off h) (doneT_ok (gth_ok h hn) h1)
theorem closeN_stB {s : St} (h : stB s = true) {n : Nat} (hn : n < s.th.length) (h1 : (gth s.th n).st ≠ 0) : stB (closeN s n) = true :=
  closeN_ind (P := fun u => stB u = true) (told_stB (shut_word h _) hn h1 (by decide) (by decide)) (wakes_stB _ (full_on h hn h1)) (wakes_stB _ (empty_on h hn h1))
theorem closeS_no {s : St} (h : stB s = false) (i : Int) : closeS s i = s := by simp [closeS, runsB, hasB, h]

/-! ### Some steps -/
theorem closeK_off {s : St} {i : Int} (h : runsB s i 3 = false) (k : Nat) : closeK s i k = (s, 0) := by
  cases k with
  | zero => rfl
  | succ k => simp [closeK, h]
theorem closeK_on {s : St} {i : Int} (h : runsB s i 3 = true) (k : Nat) : closeK s i (k + 1) = ((closeK (closeS s i) i k).1, (closeK (closeS s i) i k).2 + 1) := by simp [closeK, h]
/-! ### What changes -/
/-- Of two lists of threads, all but one are as they were, but for those who are woken. -/
structure OthM (l m : List Th) (i : Int) : Prop where
  len : m.length = l.length
  one : ∀ j : Nat, j < l.length → (j : Int) ≠ i → gth m j = gth l j ∨ ((gth l j).st = 2 ∧ gth m j = wakeT (gth l j))
theorem OthM.refl (l : List Th) (i : Int) : OthM l l i := ⟨rfl, fun _ _ _ => .inl rfl⟩
theorem OthM.set {l : List Th} {n : Nat} (t : Th) : OthM l (l.set n t) n := ⟨by simp, fun j hj hne => .inl (by
  by_cases hn : n < l.length
  · rw [gth_set hn, if_neg (by omega)]
  · rw [List.set_eq_of_length_le (by omega)])⟩
theorem OthM.wakes {l : List Th} {i : Int} {s : St} (h : OthM l s.th i) (hs : stB s = true) (k : List Int) : OthM l (wakesS k s).th i := ⟨(wakes_rest k s).2.2.2.trans h.len, fun j hj hne => by
  rw [wakes_th k hs (by rw [h.len]; exact hj)]
  have key : ∀ t : Th, wakeT t = t ∨ (t.st = 2 ∧ wakeT t = wakeT t) := fun t => by
    by_cases h2 : t.st = 2
    · exact .inr ⟨h2, rfl⟩
    · left; unfold wakeT; rw [if_neg h2]
  split
  · rcases h.one j hj hne with e | ⟨e1, e2⟩
    · rw [e]; exact key _
    · rw [e2, wake_wake]; exact .inr ⟨e1, rfl⟩
  · exact h.one j hj hne⟩
theorem closeN_oth {s : St} (h : stB s = true) {n : Nat} (hn : n < s.th.length) (h1 : (gth s.th n).st ≠ 0) : OthM s.th (closeN s n).th n := by
  refine closeN_ind (P := fun u => OthM s.th u.th n) ?_ ?_ ?_
  · unfold shutC
    obtain ⟨t, ht⟩ := th_told (s.toWord s.hd s.tl (clM s.md (modeI (gth s.th n).ki))) n (gth s.th n).ki 1 0 1
    rw [ht]; exact OthM.set t
  · exact OthM.wakes (s := (s.toFull (ntE s.fe s.fl) (ntL s.fl.length s.fe s.fl)).onTh n (pcT · 2)) (OthM.set _) (full_on h hn h1) _
  · exact OthM.wakes (s := (s.toEmpty (ntE s.ee s.el) (ntL s.el.length s.ee s.el)).onTh n doneT) (OthM.set _) (empty_on h hn h1) _
theorem closeN_lgOk {s : St} {n : Nat} : LgOk s.lg (closeN s n).lg ∧ (closeN s n).cf = s.cf ∧ (closeN s n).nw = s.nw := by
  refine closeN_ind (P := fun u => LgOk s.lg u.lg ∧ u.cf = s.cf ∧ u.nw = s.nw) ?_ ?_ ?_
  · unfold shutC
    exact ⟨lg_told _ n _ _ _ _, cf_tell _ n _ _ _⟩
  · unfold fullC
    obtain ⟨a, b, c, -⟩ := wakes_rest (ntT s.fl.length s.fe s.fl) ((s.toFull (ntE s.fe s.fl) (ntL s.fl.length s.fe s.fl)).onTh n (pcT · 2))
    exact ⟨.inl a, b, c⟩
  · unfold emptyC
    obtain ⟨a, b, c, -⟩ := wakes_rest (ntT s.el.length s.ee s.el) ((s.toEmpty (ntE s.ee s.el) (ntL s.el.length s.ee s.el)).onTh n doneT)
    exact ⟨.inl a, b, c⟩
/-! ### What is told -/
theorem kind_3 {k : Int} (h : opSide k = 3) : sendsB k = false ∧ recvsB k = false ∧ (k = 7 ∨ k = 8) := by have := side_is k; simp [sendsB, recvsB]; omega
theorem cl_7 {m : Int} (h : 0 ≤ m ∧ m ≤ 2) : clM m (modeI 7) = drainI m := by
  obtain rfl | rfl | rfl : m = 0 ∨ m = 1 ∨ m = 2 := by omega
  all_goals rfl
theorem cl_8 {m : Int} (h : 0 ≤ m ∧ m ≤ 2) : clM m (modeI 8) = 2 := by
  obtain rfl | rfl | rfl : m = 0 ∨ m = 1 ∨ m = 2 := by omega
  all_goals rfl
theorem quV_mode {s a : St} (h : stB s = true) (ha : stB a = true) (h1 : a.hd = s.hd) (h2 : a.tl = s.tl) (h4 : a.sl = s.sl) (h5 : a.cf = s.cf) : quV a = ⟨(quV s).vals, (quV s).cap, (quV s).pol, a.md⟩ := by
  have hat : ∀ p, atV a p = atV s p := fun p => by unfold atV; rw [h4]
  rw [quV_yes h, quV_yes ha]
  simp only [hat, h1, h2, h5]
theorem shut_qu {s : St} (h : stB s = true) {n : Nat} (hn : n < s.th.length) (h1 : (gth s.th n).st ≠ 0) (hk : opSide (gth s.th n).ki = 3) : QuOk s (shutC s n) n := by
  have hw := shut_word h (modeI (gth s.th n).ki)
  have hlg := lg_is hw (n := n) hn (gth s.th n).ki 1 0 1
  refine .inr ⟨_, hlg, rfl, ?_⟩
  have hq : quV (shutC s n) = quV (s.toWord s.hd s.tl (clM s.md (modeI (gth s.th n).ki))) := qu_told hw (n := n) hn h1 (by decide) (by decide)
  rw [hq, quV_mode (a := s.toWord s.hd s.tl (clM s.md (modeI (gth s.th n).ki))) h hw rfl rfl rfl rfl]
  obtain ⟨k1, k2, k3⟩ := kind_3 hk
  obtain ⟨c1, c2, c3⟩ := quV_cap h
  have c := check_iff.1 (word_ok h).1
  show (quV s).tell ⟨n, (gth s.th n).ki, _, 1, 0⟩ = (⟨(quV s).vals, (quV s).cap, (quV s).pol, clM s.md (modeI (gth s.th n).ki)⟩, true)
  unfold Qu.tell
  rw [if_neg (by rw [k1]; decide), if_neg (by rw [k2]; decide), if_neg (show ¬ (1 : Int) ≠ 1 by decide)]
  rcases k3 with k | k
  · rw [if_pos k, k, c3]
    rw [cl_7 (by omega)]
  · rw [if_neg (show ¬ (gth s.th n).ki = 7 by omega), if_pos k, k]
    rw [cl_8 (by omega)]
theorem closeN_qu {s : St} (h : stB s = true) {n : Nat} (hn : n < s.th.length) (h1 : (gth s.th n).st ≠ 0) (hk : opSide (gth s.th n).ki = 3) : QuOk s (closeN s n) n := by
  refine closeN_ind (P := fun u => QuOk s u n) (shut_qu h hn h1 hk) ?_ ?_
  · have hs := shr_wakes (ntT s.fl.length s.fe s.fl) ((s.toFull (ntE s.fe s.fl) (ntL s.fl.length s.fe s.fl)).onTh n (pcT · 2))
    simp only [shr, Prod.mk.injEq] at hs
    obtain ⟨a, b, -, -⟩ := wakes_rest (ntT s.fl.length s.fe s.fl) ((s.toFull (ntE s.fe s.fl) (ntL s.fl.length s.fe s.fl)).onTh n (pcT · 2))
    exact .inl ⟨a, quV_eq ((wakes_stB _ (full_on h hn h1)).trans h.symm) hs.1.1 hs.1.2.1 hs.1.2.2 hs.2.1 b⟩
  · have hs := shr_wakes (ntT s.el.length s.ee s.el) ((s.toEmpty (ntE s.ee s.el) (ntL s.el.length s.ee s.el)).onTh n doneT)
    simp only [shr, Prod.mk.injEq] at hs
    obtain ⟨a, b, -, -⟩ := wakes_rest (ntT s.el.length s.ee s.el) ((s.toEmpty (ntE s.ee s.el) (ntL s.el.length s.ee s.el)).onTh n doneT)
    exact .inl ⟨a, quV_eq ((wakes_stB _ (empty_on h hn h1)).trans h.symm) hs.1.1 hs.1.2.1 hs.1.2.2 hs.2.1 b⟩
end Go.Proofs.YtkflpaicohbppaaGreat

/- Layer 16, by the engine: modes, the word closed, both; how far it is to a notice; all who wait are told. -/
namespace Go.Proofs.YtkflpaicohbppaaGreat
set_option linter.unusedVariables false
set_option linter.unusedSimpArgs false
open Go.RowKit
section
variable {k h t m d : Int}
set_option maxRecDepth 100000 in
theorem ac_pmode (k : Int) : AC Tryz.prog 13 [.int .i64 k] (.int .i64 (modeI k)) := by
  by_cases h7 : k = 7
  · subst h7; exact ac_path mixed (ext := []) (fuel := 9) (n := 3) (orc := [.nilFunc]) trivial (by kernel_rfl)
  · by_cases h8 : k = 8
    · subst h8; exact ac_path mixed (ext := []) (fuel := 9) (n := 3) (orc := [.nilFunc, .nilFunc]) trivial (by kernel_rfl)
    · rw [show modeI k = 0 by simp [modeI, h7, h8]]
      exact ac_path mixed (ext := []) (fuel := 9) (n := 3) (orc := [.bool false, .bool false]) (an (show (k == 7) = false by simp [h7]) <| an (show (k == 8) = false by simp [h8]) trivial) (by kernel_rfl)
set_option maxRecDepth 100000 in
theorem ac_rmode (k : Int) : AC Tryz.prog 14 [.int .i64 k] (.int .i64 (modeI k)) := by
  by_cases h7 : k = 7
  · subst h7; exact ac_path mixed (ext := []) (fuel := 9) (n := 3) (orc := [.nilFunc]) trivial (by kernel_rfl)
  · by_cases h8 : k = 8
    · subst h8; exact ac_path mixed (ext := []) (fuel := 9) (n := 3) (orc := [.nilFunc, .nilFunc]) trivial (by kernel_rfl)
    · rw [show modeI k = 0 by simp [modeI, h7, h8]]
      exact ac_path mixed (ext := []) (fuel := 9) (n := 3) (orc := [.bool false, .bool false]) (an (show (k == 7) = false by simp [h7]) <| an (show (k == 8) = false by simp [h8]) trivial) (by kernel_rfl)
theorem cl_of (h : m < d) (hd : d = 1 ∨ d = 2) : clM m d = d := by unfold clM; rw [if_pos ⟨hd, h⟩]
theorem cl_no (h : ¬ m < d) : clM m d = m := by unfold clM; rw [if_neg (fun e => h e.2)]
set_option maxRecDepth 100000 in
theorem ac_pclose (hd : d = 0 ∨ d = 1 ∨ d = 2) : AC Tryz.prog 107 [wdT h t m, .int .i64 d] (wdT h t (clM m d)) := by
  rcases hd with rfl | rfl | rfl
  · rw [show clM m 0 = m by simp [clM]]
    exact ac_path mixed (ext := []) (fuel := 9) (n := 3) (orc := [.nilFunc, .nilFunc]) trivial (by kernel_rfl)
  · by_cases hm : m < 1
    · rw [cl_of hm (.inl rfl)]
      exact ac_path mixed (ext := []) (fuel := 9) (n := 3) (orc := [.nilFunc, .bool false]) (an (show decide ((1 : Int) ≤ m) = false by simp; omega) trivial) (by kernel_rfl)
    · rw [cl_no hm]
      exact ac_path mixed (ext := []) (fuel := 9) (n := 3) (orc := [.nilFunc, .bool true]) (an (show decide ((1 : Int) ≤ m) = true by simp; omega) trivial) (by kernel_rfl)
  · by_cases hm : m < 2
    · rw [cl_of hm (.inr rfl)]
      exact ac_path mixed (ext := []) (fuel := 9) (n := 3) (orc := [.nilFunc, .nilFunc, .bool false]) (an (show decide ((2 : Int) ≤ m) = false by simp; omega) trivial) (by kernel_rfl)
    · rw [cl_no hm]
      exact ac_path mixed (ext := []) (fuel := 9) (n := 3) (orc := [.nilFunc, .nilFunc, .bool true]) (an (show decide ((2 : Int) ≤ m) = true by simp; omega) trivial) (by kernel_rfl)
set_option maxRecDepth 100000 in
theorem ac_rclose (hd : d = 0 ∨ d = 1 ∨ d = 2) : AC Tryz.prog 30 [wdT h t m, .int .i64 d] (wdT h t (clM m d)) := by
  rcases hd with rfl | rfl | rfl
  · rw [show clM m 0 = m by simp [clM]]
    exact ac_path mixed (ext := []) (fuel := 9) (n := 3) (orc := [.nilFunc, .nilFunc]) trivial (by kernel_rfl)
  · by_cases hm : m < 1
    · rw [cl_of hm (.inl rfl)]
      exact ac_path mixed (ext := []) (fuel := 9) (n := 3) (orc := [.nilFunc, .bool true]) (an (show decide (m < 1) = true by simpa using hm) trivial) (by kernel_rfl)
    · rw [cl_no hm]
      exact ac_path mixed (ext := []) (fuel := 9) (n := 3) (orc := [.nilFunc, .bool false]) (an (show decide (m < 1) = false by simpa using hm) trivial) (by kernel_rfl)
  · by_cases hm : m < 2
    · rw [cl_of hm (.inr rfl)]
      exact ac_path mixed (ext := []) (fuel := 9) (n := 3) (orc := [.nilFunc, .nilFunc, .bool true]) (an (show decide (m < 2) = true by simpa using hm) trivial) (by kernel_rfl)
    · rw [cl_no hm]
      exact ac_path mixed (ext := []) (fuel := 9) (n := 3) (orc := [.nilFunc, .nilFunc, .bool false]) (an (show decide (m < 2) = false by simpa using hm) trivial) (by kernel_rfl)
end
end Go.Proofs.YtkflpaicohbppaaGreat

/- The document's Step, case by case, told by plain states. -/
namespace Go.Proofs.YtkflpaicohbppaaGreat
set_option linter.unusedVariables false
set_option linter.unusedSimpArgs false
open Go.RowKit
/-- What is true of a state in which thread n, at step c, sends. -/
structure Dn (s : St) (n : Nat) (c : Int) : Prop where
  ck : stB s = true
  ok : s.ok
  few : s.few
  hn : n < s.th.length
  st : (gth s.th n).st = 1
  sd : opSide (gth s.th n).ki = 1
  pc : (gth s.th n).pc = c
section
variable {s : St} {n : Nat} {c : Int}
theorem Dn.ht (h : Dn s n c) : gth s.th n = pcT (gth s.th n) c := by rw [← h.pc]; rfl
theorem Dn.ix (h : Dn s n c) : IxP ((s.th.map thT).toArray) (n : Int) (thT (pcT (gth s.th n) c)) := by
  have := ixT h.hn
  rw [h.ht] at this
  exact this
theorem Dn.has (h : Dn s n c) : hasB s n = true := has_of h.ck h.hn
theorem Dn.ru (h : Dn s n c) : runsB s n 1 = true := runs_iff.2 ⟨h.has, by simpa using h.st, by simpa using h.sd⟩
theorem Dn.rs (h : Dn s n c) : thRuns (gth s.th n).st = 0 := by rw [h.st]; rfl
theorem Dn.ful (h : Dn s n c) : okE s.fe s.fl = true := (full_lines h.ck).2.2.2.2.1
theorem Dn.emp (h : Dn s n c) : okE s.ee s.el = true := (full_lines h.ck).2.2.2.2.2
theorem Dn.sl (h : Dn s n c) : okSl s.sl = true := (word_ok h.ck).2.1
theorem Dn.bd (h : Dn s n c) : 0 ≤ (gth s.th n).re ∧ (gth s.th n).re ≤ 1099511627776 ∧ 0 ≤ (gth s.th n).tr ∧ (gth s.th n).tr ≤ 1099511627776 := by
  have h1 := gth_ok h.ck h.hn
  generalize gth s.th n = t at h1
  obtain ⟨st, ki, va, un, pc, re, se, tr, la, rs, go⟩ := t
  rw [thB_iff] at h1
  simp only
  omega
theorem Dn.len (h : Dn s n c) : In64 (s.sl.length : Int) := by have := h.few.sl; constructor <;> omega
end
end Go.Proofs.YtkflpaicohbppaaGreat

/- The document's Step is the step of plain states; Steps as many as there are. -/
namespace Go.Proofs.YtkflpaicohbppaaGreat
set_option linter.unusedVariables false
set_option linter.unusedSimpArgs false
open Go.RowKit
section
variable {s : St} {n : Nat} {c : Int}
theorem Dn.sp (h : Dn s n c) (hl : s.lg.length ≤ 999999) : Sp s n 1 0 := ⟨by decide, h.ck, h.ok, h.hn, h.st, h.sd, hl, by constructor <;> omega⟩
end
end Go.Proofs.YtkflpaicohbppaaGreat

/- The document's Steps: as many steps as there are, told by plain states. -/
namespace Go.Proofs.YtkflpaicohbppaaGreat
set_option linter.unusedVariables false
set_option linter.unusedSimpArgs false
open Go.RowKit
def bS (s : St) : Option Blk := some ⟨true, false, 20, 1, [stT s]⟩
def hdR (s : St) (i m o : Int) (b : Bool) : Sg := ⟨mkT 33 [(1, .int .i64 i), (2, .int .i64 m), (3, pt 0), (6, pt 1), (8, .int .i64 o), (9, vD b)], [bS s, bZ]⟩
theorem few_of {s : St} (h : stB s = true) (hl : s.lg.length ≤ 1000) : s.few := by
  obtain ⟨a, b, c, d, -, -⟩ := full_lines h
  have h1 := th_len h
  have h2 := ok_len (stn_iff.1 a).1
  have h3 := ok_len (stn_iff.1 b).1
  have h4 := ok_len (stn_iff.1 c).1
  have h5 := ok_len (stn_iff.1 d).1
  have h6 := (ok_iff.1 (word_ok h).2.1).1
  exact ⟨by omega, by omega, by omega, by omega, by omega, by omega, hl⟩
section
variable {s : St} {i m o : Int} {b : Bool}
end
end Go.Proofs.YtkflpaicohbppaaGreat

/- Layer 16, plain: who begins to close is done after three steps, and behind them nobody waits. -/
namespace Go.Proofs.YtkflpaicohbppaaGreat
set_option linter.unusedVariables false
set_option linter.unusedSimpArgs false
theorem closeS_is {s : St} {i : Int} (h : runsB s i 3 = true) : closeS s i = closeN s i.toNat := by unfold closeS; rw [if_pos h]
theorem closeN_0 {s : St} {n : Nat} (h : (gth s.th n).pc = 0) : closeN s n = shutC s n := by unfold closeN; rw [if_pos h]
theorem closeN_1 {s : St} {n : Nat} (h : (gth s.th n).pc = 1) : closeN s n = fullC s n := by unfold closeN; rw [if_neg (by omega), if_pos h]
theorem closeN_2 {s : St} {n : Nat} (h0 : (gth s.th n).pc ≠ 0) (h1 : (gth s.th n).pc ≠ 1) : closeN s n = emptyC s n := by unfold closeN; rw [if_neg h0, if_neg h1]
theorem wkT_not {t : Th} (h : t.st ≠ 2) : wakeT t = t := by unfold wakeT; rw [if_neg h]
section
variable {s : St} (h : stB s = true) {n : Nat} (hn : n < s.th.length) (h1 : (gth s.th n).st = 1)
include h hn
theorem gth_shut (j : Nat) : gth (shutC s n).th j = if j = n then pcT (tellT (gth s.th n) (gth s.th n).ki 1 0) 1 else gth s.th j := by
  have hw := shut_word h (modeI (gth s.th n).ki)
  unfold shutC toldS
  rw [tell_th (n := n) hw hn]
  show gth ((s.th.set n (tellT (gth s.th n) (gth s.th n).ki 1 0)).set n (pcT (gth (s.th.set n (tellT (gth s.th n) (gth s.th n).ki 1 0)) n) 1)) j = _
  rw [List.set_set, gth_set hn, gth_set hn, if_pos rfl]
  by_cases e : n = j
  · rw [if_pos e, if_pos e.symm]
  · rw [if_neg e, if_neg (fun x => e x.symm)]
include h1
theorem gth_full {j : Nat} (hj : j < s.th.length) : gth (fullC s n).th j = if j = n then pcT (gth s.th n) 2 else if (j : Int) ∈ s.fl then wakeT (gth s.th j) else gth s.th j := by
  have hb := full_on h hn (by omega)
  have e3 := (nt_all (full_lines h).2.2.2.2.1).2.2
  unfold fullC
  rw [wakes_th _ hb (by show j < (s.th.set n _).length; simpa using hj), e3]
  have e : gth ((s.toFull (ntE s.fe s.fl) (ntL s.fl.length s.fe s.fl)).onTh n (pcT · 2)).th j = if n = j then pcT (gth s.th n) 2 else gth s.th j := gth_set hn
  rw [e]
  by_cases c : j = n
  · subst c
    rw [if_pos rfl, if_pos rfl, wkT_not (show (pcT (gth s.th j) 2).st ≠ 2 by show (gth s.th j).st ≠ 2; omega)]
    simp
  · have c' : ¬ n = j := fun x => c x.symm
    simp only [if_neg c, if_neg c']
theorem gth_empty {j : Nat} (hj : j < s.th.length) : gth (emptyC s n).th j = if j = n then doneT (gth s.th n) else if (j : Int) ∈ s.el then wakeT (gth s.th j) else gth s.th j := by
  have hb := empty_on h hn (by omega)
  have e3 := (nt_all (full_lines h).2.2.2.2.2).2.2
  unfold emptyC
  rw [wakes_th _ hb (by show j < (s.th.set n _).length; simpa using hj), e3]
  have e : gth ((s.toEmpty (ntE s.ee s.el) (ntL s.el.length s.ee s.el)).onTh n doneT).th j = if n = j then doneT (gth s.th n) else gth s.th j := gth_set hn
  rw [e]
  by_cases c : j = n
  · subst c
    rw [if_pos rfl, if_pos rfl, wkT_not (show (doneT (gth s.th j)).st ≠ 2 by show (0 : Int) ≠ 2; decide)]
    simp
  · have c' : ¬ n = j := fun x => c x.symm
    simp only [if_neg c, if_neg c']
end
/-- What threads share behind each step. -/
theorem shr_shut (s : St) (n : Nat) : shr (shutC s n) = shr (s.toWord s.hd s.tl (clM s.md (modeI (gth s.th n).ki))) := shr_told _ _ _ _ _ _
theorem shr_full (s : St) (n : Nat) : shr (fullC s n) = shr (s.toFull (ntE s.fe s.fl) (ntL s.fl.length s.fe s.fl)) := shr_wakes _ _
theorem shr_empty (s : St) (n : Nat) : shr (emptyC s n) = shr (s.toEmpty (ntE s.ee s.el) (ntL s.el.length s.ee s.el)) := shr_wakes _ _
theorem runs_of {s : St} (h : stB s = true) {n : Nat} (hn : n < s.th.length) (h1 : (gth s.th n).st = 1) (h2 : opSide (gth s.th n).ki = 3) : runsB s n 3 = true := by
  refine runs_iff.2 ⟨has_of h hn, ?_, ?_⟩ <;> rw [Int.toNat_natCast] <;> assumption
theorem runs_no {s : St} {n : Nat} (h1 : (gth s.th n).st ≠ 1) : runsB s n 3 = false := by
  cases h : runsB s n 3
  · rfl
  · have := (runs_iff.1 h).2.1; rw [Int.toNat_natCast] at this; exact absurd this h1
/-- Who begins to close is done after three steps. -/
theorem three {s : St} (h : stB s = true) {n : Nat} (hn : n < s.th.length) (h1 : (gth s.th n).st = 1) (hk : opSide (gth s.th n).ki = 3) (hp : (gth s.th n).pc = 0) (m : Nat) :
    ∃ u : St, closeK s n (m + 3) = (u, 3) ∧ stB u = true ∧ u.md = clM s.md (modeI (gth s.th n).ki) ∧ u.hd = s.hd ∧ u.tl = s.tl ∧ u.fl = [] ∧ u.el = [] ∧ u.fe = nxE s.fe ∧ u.ee = nxE s.ee ∧ u.cf = s.cf ∧ u.nw = s.nw ∧ u.sl = s.sl ∧ u.sn = s.sn ∧ u.rc = s.rc ∧
      u.lg = s.lg ++ [⟨n, (gth s.th n).ki, (gth s.th n).va, 1, 0⟩] ∧ u.th.length = s.th.length ∧ gth u.th n = doneT (tellT (gth s.th n) (gth s.th n).ki 1 0) ∧
      ∀ j : Nat, j < s.th.length → j ≠ n → (gth u.th j = gth s.th j ∨ gth u.th j = wakeT (gth s.th j)) ∧ ((j : Int) ∈ s.fl ∨ (j : Int) ∈ s.el → gth u.th j = wakeT (gth s.th j)) := by
  have ki9 : (gth s.th n).ki ≠ 9 := fun e => by rw [e] at hk; exact absurd hk (by decide)
  have e9 : ∀ t : Th, tellT t (gth s.th n).ki 1 0 = ⟨t.st, t.ki, t.va, t.un, t.pc, t.re, t.se, t.tr, t.la, 1, 0⟩ := fun t => by unfold tellT; rw [if_neg ki9]
  have r0 := runs_of h hn h1 hk
  have b1 := closeN_stB h hn (by omega)
  have l1 := (closeN_oth h hn (by omega)).len
  have q1 := shr_shut s n
  have g1 := gth_shut h hn
  have o1 := closeN_lgOk (s := s) (n := n)
  have lg1 : (shutC s n).lg = s.lg ++ [⟨n, (gth s.th n).ki, (gth s.th n).va, 1, 0⟩] := lg_is (shut_word h (modeI (gth s.th n).ki)) (n := n) hn (gth s.th n).ki 1 0 1
  rw [closeN_0 hp] at b1 l1 o1
  simp only [shr, Prod.mk.injEq] at q1
  have s0 : closeS s n = shutC s n := by rw [closeS_is r0, Int.toNat_natCast, closeN_0 hp]
  obtain ⟨⟨w1, w2, w3⟩, w4, w5, w6, ⟨w7, w8⟩, w9, w10⟩ := q1
  generalize shutC s n = a at *
  have ga := g1 n
  rw [if_pos rfl, e9] at ga
  have na : n < a.th.length := by omega
  have a1 : (gth a.th n).st = 1 := by rw [ga]; exact h1
  have ak : opSide (gth a.th n).ki = 3 := by rw [ga]; exact hk
  have ap : (gth a.th n).pc = 1 := by rw [ga]; rfl
  have r1 := runs_of b1 na a1 ak
  have b2 := closeN_stB b1 na (by omega)
  have l2 := (closeN_oth b1 na (by omega)).len
  have q2 := shr_full a n
  have g2 := fun (j : Nat) (hj : j < a.th.length) => gth_full b1 na a1 hj
  have o2 := closeN_lgOk (s := a) (n := n)
  have lg2 : (fullC a n).lg = a.lg := (wakes_rest _ _).1
  rw [closeN_1 ap] at b2 l2 o2
  obtain ⟨f1, f2, -⟩ := nt_all (full_lines b1).2.2.2.2.1
  simp only [shr, Prod.mk.injEq, f1, f2] at q2
  have s1 : closeS a n = fullC a n := by rw [closeS_is r1, Int.toNat_natCast, closeN_1 ap]
  obtain ⟨⟨x1, x2, x3⟩, x4, x5, x6, ⟨x7, x8⟩, x9, x10⟩ := q2
  generalize fullC a n = b at *
  have gb := g2 n na
  rw [if_pos rfl, ga] at gb
  have nb : n < b.th.length := by omega
  have b1' : (gth b.th n).st = 1 := by rw [gb]; exact h1
  have bk : opSide (gth b.th n).ki = 3 := by rw [gb]; exact hk
  have bp : (gth b.th n).pc = 2 := by rw [gb]; rfl
  have r2 := runs_of b2 nb b1' bk
  have b3 := closeN_stB b2 nb (by omega)
  have l3 := (closeN_oth b2 nb (by omega)).len
  have q3 := shr_empty b n
  have g3 := fun (j : Nat) (hj : j < b.th.length) => gth_empty b2 nb b1' hj
  have o3 := closeN_lgOk (s := b) (n := n)
  have lg3 : (emptyC b n).lg = b.lg := (wakes_rest _ _).1
  rw [closeN_2 (by omega) (by omega)] at b3 l3 o3
  obtain ⟨f3, f4, -⟩ := nt_all (full_lines b2).2.2.2.2.2
  simp only [shr, Prod.mk.injEq, f3, f4] at q3
  have s2 : closeS b n = emptyC b n := by rw [closeS_is r2, Int.toNat_natCast, closeN_2 (by omega) (by omega)]
  obtain ⟨⟨y1, y2, y3⟩, y4, y5, y6, ⟨y7, y8⟩, y9, y10⟩ := q3
  generalize emptyC b n = u at *
  have gu := g3 n nb
  rw [if_pos rfl, gb] at gu
  have r3 : runsB u n 3 = false := runs_no (by rw [gu]; show (0 : Int) ≠ 1; decide)
  refine ⟨u, ?_, b3, ?_, ?_, ?_, ?_, ?_, ?_, ?_, ?_, ?_, ?_, ?_, ?_, ?_, ?_, ?_, ?_⟩
  · rw [closeK_on r0, s0, closeK_on r1, s1, closeK_on r2, s2, closeK_off r3]
  · rw [y3]; exact x3.trans w3
  · rw [y1]; exact x1.trans w1
  · rw [y2]; exact x2.trans w2
  · rw [y8]; exact x8
  · exact y10
  · rw [y7]; show b.fe = _; rw [x7]; show nxE a.fe = _; rw [w7]; rfl
  · rw [y9]; show nxE b.ee = _; rw [x9]; show nxE a.ee = _; rw [w9]; rfl
  · exact o3.2.1.trans (o2.2.1.trans o1.2.1)
  · exact o3.2.2.trans (o2.2.2.trans o1.2.2)
  · rw [y4]; exact x4.trans w4
  · rw [y5]; exact x5.trans w5
  · rw [y6]; exact x6.trans w6
  · rw [lg3, lg2, lg1]
  · omega
  · rw [gu, e9]; rfl
  · intro j hj hne
    have e1 := g1 j
    have e2 := g2 j (by omega)
    have e3 := g3 j (by omega)
    rw [if_neg hne] at e1 e2 e3
    have hfl : a.fl = s.fl := w8
    have hel : b.el = s.el := x10.trans w10
    rw [hfl, e1] at e2
    rw [hel, e2] at e3
    rw [e3]
    by_cases c1 : (j : Int) ∈ s.fl
    · rw [if_pos c1, wake_wake]
      refine ⟨?_, fun _ => ?_⟩
      · right; split <;> rfl
      · split <;> rfl
    · rw [if_neg c1]
      by_cases c2 : (j : Int) ∈ s.el
      · rw [if_pos c2]; exact ⟨.inr rfl, fun _ => rfl⟩
      · rw [if_neg c2]; exact ⟨.inl rfl, fun x => absurd x (by simp [c1, c2])⟩
/-- There are at most three steps. -/
theorem closeK_three {s : St} {n : Nat} (m : Nat) : (closeK s n m).2 ≤ 3 := by
  cases h0 : runsB s n 3
  · rw [closeK_off h0]; omega
  obtain ⟨hh, h1, hk⟩ := runs_iff.1 h0
  obtain ⟨h, -, hi⟩ := has_iff.1 hh
  rw [Int.toNat_natCast] at h1 hk
  have hn : n < s.th.length := by omega
  have two : ∀ {b : St}, stB b = true → n < b.th.length → (gth b.th n).st = 1 → (gth b.th n).pc ≠ 0 → (gth b.th n).pc ≠ 1 → ∀ k, (closeK b n k).2 ≤ 1 := fun {b} hb nb h1 p0 p1 k => by
    cases k with
    | zero => simp [closeK]
    | succ k =>
      cases hr : runsB b n 3
      · rw [closeK_off hr]; omega
      · rw [closeK_on hr, closeS_is hr, Int.toNat_natCast, closeN_2 p0 p1]
        have := gth_empty hb nb h1 nb
        rw [if_pos rfl] at this
        rw [closeK_off (runs_no (by rw [this]; show (0 : Int) ≠ 1; decide))]
        show 0 + 1 ≤ 1; omega
  have one : ∀ {b : St}, stB b = true → n < b.th.length → (gth b.th n).st = 1 → (gth b.th n).pc ≠ 0 → ∀ k, (closeK b n k).2 ≤ 2 := fun {b} hb nb h1 p0 k => by
    by_cases p1 : (gth b.th n).pc = 1
    · cases k with
      | zero => simp [closeK]
      | succ k =>
        cases hr : runsB b n 3
        · rw [closeK_off hr]; omega
        · rw [closeK_on hr, closeS_is hr, Int.toNat_natCast, closeN_1 p1]
          have hg := gth_full hb nb h1 nb
          rw [if_pos rfl] at hg
          have hb' := closeN_stB hb nb (by omega)
          have hl := (closeN_oth hb nb (by omega)).len
          rw [closeN_1 p1] at hb' hl
          have := two hb' (by omega) (by rw [hg]; exact h1) (by rw [hg]; show (2 : Int) ≠ 0; decide) (by rw [hg]; show (2 : Int) ≠ 1; decide) k
          show _ + 1 ≤ 2; omega
    · have := two hb nb h1 p0 p1 k; omega
  by_cases p0 : (gth s.th n).pc = 0
  · cases m with
    | zero => simp [closeK]
    | succ k =>
      rw [closeK_on h0, closeS_is h0, Int.toNat_natCast, closeN_0 p0]
      have hg := gth_shut h hn n
      rw [if_pos rfl] at hg
      have hb' := closeN_stB h hn (by omega)
      have hl := (closeN_oth h hn (by omega)).len
      rw [closeN_0 p0] at hb' hl
      have hst : (tellT (gth s.th n) (gth s.th n).ki 1 0).st = 1 := by rw [tellT_st]; exact h1
      have := one hb' (by omega) (by rw [hg]; exact hst) (by rw [hg]; show (1 : Int) ≠ 0; decide) k
      show _ + 1 ≤ 3; omega
  · have := one h hn h1 p0 m; omega
end Go.Proofs.YtkflpaicohbppaaGreat

/- The document's Step of who closes, and Steps, told by plain states. -/
namespace Go.Proofs.YtkflpaicohbppaaGreat
set_option linter.unusedVariables false
set_option linter.unusedSimpArgs false
open Go.RowKit
set_option maxRecDepth 100000 in
theorem ac_rnotifyAll {ep : Int} {l : List Int} (hok : okE ep l = true) : AC Tryz.prog 32 [evT ep l] (.tuple #[evT (nxE ep) [], rowI l]) :=
  ac_path mixed (ext := [65, 66]) (fuel := 9) (n := 5) (orc := [vD true, .int .i64 (nxE ep)]) (an (ac_recheck hok) <| an (ac_renext (okE_iff.1 hok).1) trivial) (by kernel_rfl)
set_option maxRecDepth 100000 in
theorem ac_rwakeA {s : St} {i : Int} (ho : s.ok) (hw : s.few) : AC Tryz.prog 67 [stT s, .int .i64 i] (stT (wakeS s i)) := by
  cases hA : hasB s i
  · rw [show wakeS s i = s by simp [wakeS, hA]]
    exact ac_path mixed (ext := [62]) (fuel := 9) (n := 3) (orc := [vD false]) (an (ac_ris hA ho hw) trivial) (by kernel_rfl)
  · obtain ⟨-, h0, h1⟩ := has_iff.1 hA
    obtain ⟨n, rfl⟩ : ∃ n : Nat, i = n := ⟨i.toNat, by omega⟩
    rw [show wakeS s n = s.onTh n wakeT by simp [wakeS, hA]]
    exact ac_rwake hA ho hw
/-- A state that may be, whose numbers are those of an int, with not too long a log. -/
structure Wk (s : St) (N : Nat) : Prop where
  b : stB s = true
  v : Vk s
  l : s.lg.length ≤ N
theorem Wk.ok {s : St} {N : Nat} (h : Wk s N) (hN : N ≤ 1000000) : s.ok := ok_of h.b h.v (by have := h.l; omega)
theorem Wk.few {s : St} {N : Nat} (h : Wk s N) (hN : N ≤ 1000) : s.few := few_of h.b (by have := h.l; omega)
theorem Wk.fit {s : St} {N : Nat} (h : Wk s N) (hN : N ≤ 1000000) : s.fit := fit_of h.b (by have := h.l; omega)
theorem Wk.wake {s : St} {N : Nat} (h : Wk s N) (i : Int) : Wk (wakeS s i) N := ⟨wake_stB h.b i, h.v.wake i, by rw [(wake_rest s i).1]; exact h.l⟩
theorem Wk.wakes {N : Nat} : ∀ (l : List Int) {s : St}, Wk s N → Wk (wakesS l s) N
  | [], _, h => h
  | i :: l, _, h => Wk.wakes l (h.wake i)
def hdWk (s : St) (l : List Int) (i : Int) : Sg := ⟨mkT 19 [(1, rowI l), (2, pt 0), (4, pt 1), (5, .int .i64 i)], [bS s, bZ]⟩
theorem ixIl {l : List Int} {i : Nat} (h : i < l.length) : IxP ((l.map (Value.int .i64 ·)).toArray) (i : Int) (.int .i64 l[i]) := ⟨by omega, by simp [h]⟩
set_option maxRecDepth 100000 in
theorem woken_lp {l : List Int} (hm : l.length ≤ 1000000) : ∀ (k i : Nat) {s : St}, l.length - i = k → i ≤ l.length → Wk s 1000 → LoopP Tryz.prog (loopOf Tryz.prog 33 0) (hdWk s l i) (.exit 0) (hdWk (wakesS (l.drop i) s) l l.length)
  | 0, i, s, hk, hi, _ => by
    have : i = l.length := by omega
    subst this
    rw [List.drop_length]
    exact loop_end mixed (ext := [67]) (fuel := 9) (n := 3) (im := [0, 1]) (keep := [1, 2, 4, 5]) (orc := [.bool false]) (an (show decide ((l.length : Int) < l.length) = false by simp) trivial) (by intro e; cases e) (by kernel_rfl)
  | k + 1, i, s, hk, hi, h => by
    have h1 : i < l.length := by omega
    have ih := woken_lp hm k (i + 1) (s := wakeS s l[i]) (by omega) (by omega) (h.wake _)
    rw [show ((i + 1 : Nat) : Int) = (i : Int) + 1 by omega] at ih
    rw [List.drop_eq_getElem_cons h1]
    exact loop_more mixed (ext := [67]) (fuel := 9) (n := 3) (im := [0, 1]) (keep := [1, 2, 4, 5]) (orc := [.bool true, .int .i64 l[i], stT (wakeS s l[i])])
      (an (show decide ((i : Int) < l.length) = true by simp; omega) <| an (ixIl h1) <| an (ac_rwakeA (i := l[i]) (h.ok (by omega)) (h.few (by omega))) <| an (show In64 ((i : Int) + 1) by constructor <;> omega) trivial) (by kernel_rfl) ih
set_option maxRecDepth 100000 in
theorem ac_rwoken {s : St} {l : List Int} (hm : l.length ≤ 1000000) (h : Wk s 1000) : AC Tryz.prog 33 [stT s, rowI l] (stT (wakesS l s)) := by
  have hL := woken_lp hm l.length 0 rfl (by omega) h
  rw [List.drop_zero] at hL
  exact ac_path mixed (ext := []) (fuel := 9) (n := 3) (orc := [oL [0, 1] [1, 2, 4, 5] 0 [(1, rowI l), (2, pt 0), (4, pt 1), (5, .int .i64 l.length)] [bS (wakesS l s), bZ]]) (an hL trivial) (by kernel_rfl)
/-- What is true of a state in which thread n, at step c, closes. -/
structure Dc (s : St) (n : Nat) (c : Int) : Prop where
  w : Wk s 999
  hn : n < s.th.length
  st : (gth s.th n).st = 1
  sd : opSide (gth s.th n).ki = 3
  pc : (gth s.th n).pc = c
section
variable {s : St} {n : Nat} {c : Int}
theorem Dc.ok (h : Dc s n c) : s.ok := h.w.ok (by omega)
theorem Dc.few (h : Dc s n c) : s.few := h.w.few (by omega)
theorem Dc.ht (h : Dc s n c) : gth s.th n = pcT (gth s.th n) c := by rw [← h.pc]; rfl
theorem Dc.ix (h : Dc s n c) : IxP ((s.th.map thT).toArray) (n : Int) (thT (pcT (gth s.th n) c)) := by
  have := ixT h.hn
  rw [h.ht] at this
  exact this
theorem Dc.has (h : Dc s n c) : hasB s n = true := has_of h.w.b h.hn
theorem Dc.ru (h : Dc s n c) : runsB s n 3 = true := runs_iff.2 ⟨h.has, by simpa using h.st, by simpa using h.sd⟩
theorem Dc.rs (h : Dc s n c) : thRuns (gth s.th n).st = 0 := by rw [h.st]; rfl
theorem Dc.ful (h : Dc s n c) : okE s.fe s.fl = true := (full_lines h.w.b).2.2.2.2.1
theorem Dc.emp (h : Dc s n c) : okE s.ee s.el = true := (full_lines h.w.b).2.2.2.2.2
theorem wk_full {s : St} {N n : Nat} (h : Wk s N) (hn : n < s.th.length) (h1 : (gth s.th n).st ≠ 0) : Wk ((s.toFull (nxE s.fe) []).onTh n (pcT · 2)) N := by
  obtain ⟨e1, e2, -⟩ := nt_all (full_lines h.b).2.2.2.2.1
  refine ⟨?_, Vk.on (s := s.toFull (nxE s.fe) []) (f := (pcT · 2)) ⟨h.v.cf, h.v.sl, h.v.th⟩ hn fun _ => ⟨rfl, rfl⟩, h.l⟩
  have := full_on h.b hn h1
  rwa [e1, e2] at this
theorem wk_empty {s : St} {N n : Nat} (h : Wk s N) (hn : n < s.th.length) (h1 : (gth s.th n).st ≠ 0) : Wk ((s.toEmpty (nxE s.ee) []).onTh n doneT) N := by
  obtain ⟨e1, e2, -⟩ := nt_all (full_lines h.b).2.2.2.2.2
  refine ⟨?_, Vk.on (s := s.toEmpty (nxE s.ee) []) (f := doneT) ⟨h.v.cf, h.v.sl, h.v.th⟩ hn fun _ => ⟨rfl, rfl⟩, h.l⟩
  have := empty_on h.b hn h1
  rwa [e1, e2] at this
theorem fullC_is {s : St} (h : stB s = true) (n : Nat) : fullC s n = wakesS s.fl ((s.toFull (nxE s.fe) []).onTh n (pcT · 2)) := by
  obtain ⟨e1, e2, e3⟩ := nt_all (full_lines h).2.2.2.2.1
  unfold fullC; rw [e1, e2, e3]
theorem emptyC_is {s : St} (h : stB s = true) (n : Nat) : emptyC s n = wakesS s.el ((s.toEmpty (nxE s.ee) []).onTh n doneT) := by
  obtain ⟨e1, e2, e3⟩ := nt_all (full_lines h).2.2.2.2.2
  unfold emptyC; rw [e1, e2, e3]
theorem Wk.shut {s : St} {N : Nat} (h : Wk s N) (d : Int) : Wk (s.toWord s.hd s.tl (clM s.md d)) N := ⟨shut_word h.b d, ⟨h.v.cf, h.v.sl, h.v.th⟩, h.l⟩
theorem closeN_wk {s : St} {N n : Nat} (h : Wk s N) (hn : n < s.th.length) (h1 : (gth s.th n).st ≠ 0) : Wk (closeN s n) (N + 1) := by
  have up : ∀ {u : St}, Wk u N → Wk u (N + 1) := fun w => ⟨w.b, w.v, by have := w.l; omega⟩
  refine closeN_ind (P := fun u => Wk u (N + 1)) ?_ ?_ ?_
  · have hw := h.shut (modeI (gth s.th n).ki)
    refine ⟨told_stB hw.b hn h1 (by decide) (by decide), hw.v.told hw.b hn (.inr (by constructor <;> omega)), ?_⟩
    have := told_lg hw.b (n := n) hn (k := (gth s.th n).ki) (r := 1) (g := 0) (p := 1)
    have hl : (s.toWord s.hd s.tl (clM s.md (modeI (gth s.th n).ki))).lg.length = s.lg.length := rfl
    have := h.l
    show (toldS _ n _ 1 0 1).lg.length ≤ _
    omega
  · rw [fullC_is h.b]; exact up (Wk.wakes _ (wk_full h hn h1))
  · rw [emptyC_is h.b]; exact up (Wk.wakes _ (wk_empty h hn h1))
def CCX : List FuncId := [24, 14, 30, 64, 34, 32, 35, 36, 33]
set_option maxRecDepth 100000 in
theorem dc_shut (h : Dc s n 0) : AC Tryz.prog 12 [stT s, .int .i64 n] (stT (shutC s n)) :=
  have hw := h.w.shut (modeI (gth s.th n).ki)
  have hA : hasB (s.toWord s.hd s.tl (clM s.md (modeI (gth s.th n).ki))) n = true := has_of hw.b h.hn
  ac_path mixed (ext := CCX) (fuel := 9) (n := 6) (orc := [vD true, thT (pcT (gth s.th n) 0), .nilFunc, .int .i64 (modeI (gth s.th n).ki), wdT s.hd s.tl (clM s.md (modeI (gth s.th n).ki)), thT (pcT (gth s.th n) 0), stT (tellS (s.toWord s.hd s.tl (clM s.md (modeI (gth s.th n).ki))) n (gth s.th n).ki 1 0), stT (shutC s n)])
    (an (ac_rruns h.ru h.ok h.few) <| an h.ix <| an (ac_rmode (gth s.th n).ki) <| an (ac_rclose (h := s.hd) (t := s.tl) (m := s.md) (mode_is (gth s.th n).ki)) <| an h.ix <| an (ac_rtell (k := (gth s.th n).ki) (r := 1) (g := 0) hA (hw.ok (by omega)) (hw.few (by omega))) <|
      an (ac_rat (tellS (s.toWord s.hd s.tl (clM s.md (modeI (gth s.th n).ki))) n (gth s.th n).ki 1 0) n 1 (by rw [tell_len]; exact h.hn) (by rw [tell_len]; exact h.few.th)) trivial) (by kernel_rfl)
theorem line_le {m : Int} {l : List Int} (h : stnB m l = true) : l.length ≤ 16 := ok_len (stn_iff.1 h).1
set_option maxRecDepth 100000 in
theorem dc_full (h : Dc s n 1) : AC Tryz.prog 12 [stT s, .int .i64 n] (stT (fullC s n)) := by
  rw [fullC_is h.w.b]
  have hw := wk_full (h.w) h.hn (by have := h.st; omega)
  have hl := line_le (full_lines h.w.b).2.2.1
  exact ac_path mixed (ext := CCX) (fuel := 9) (n := 6) (orc := [vD true, thT (pcT (gth s.th n) 1), .nilFunc, .nilFunc, .tuple #[evT (nxE s.fe) [], rowI s.fl], stT ((s.toFull (nxE s.fe) []).onTh n (pcT · 2)), stT (wakesS s.fl ((s.toFull (nxE s.fe) []).onTh n (pcT · 2)))])
    (an (ac_rruns h.ru h.ok h.few) <| an h.ix <| an (ac_rnotifyAll h.ful) <| an (ac_rat (s.toFull (nxE s.fe) []) n 2 h.hn h.few.th) <| an (ac_rwoken (l := s.fl) (by omega) ⟨hw.b, hw.v, by have := hw.l; omega⟩) trivial) (by kernel_rfl)
set_option maxRecDepth 100000 in
theorem dc_empty (h : Dc s n c) (h0 : c ≠ 0) (h1 : c ≠ 1) : AC Tryz.prog 12 [stT s, .int .i64 n] (stT (emptyC s n)) := by
  rw [emptyC_is h.w.b]
  have hw := wk_empty (h.w) h.hn (by have := h.st; omega)
  have hl := line_le (full_lines h.w.b).2.2.2.1
  exact ac_path mixed (ext := CCX) (fuel := 9) (n := 6) (orc := [vD true, thT (pcT (gth s.th n) c), .bool false, .bool false, .tuple #[evT (nxE s.ee) [], rowI s.el], .tuple #[thT (doneT (gth s.th n)), .int .i64 0], stT ((s.toEmpty (nxE s.ee) []).onTh n doneT), stT (wakesS s.el ((s.toEmpty (nxE s.ee) []).onTh n doneT))])
    (an (ac_rruns h.ru h.ok h.few) <| an h.ix <| an (bne_of h0) <| an (bne_of h1) <| an (ac_rnotifyAll h.emp) <| an (ac_rdone (done_of (c := c) h.rs)) <| an (ac_rwith (s.toEmpty (nxE s.ee) []) n (doneT (gth s.th n)) h.hn h.few.th) <| an (ac_rwoken (l := s.el) (by omega) ⟨hw.b, hw.v, by have := hw.l; omega⟩) trivial) (by kernel_rfl)
theorem rstepC (h : Wk s 999) (hn : n < s.th.length) (h1 : (gth s.th n).st = 1) (h2 : opSide (gth s.th n).ki = 3) : AC Tryz.prog 12 [stT s, .int .i64 n] (stT (closeN s n)) := by
  have hd : Dc s n (gth s.th n).pc := ⟨h, hn, h1, h2, rfl⟩
  by_cases p0 : (gth s.th n).pc = 0
  · rw [closeN_0 p0]; exact dc_shut (p0 ▸ hd)
  · by_cases p1 : (gth s.th n).pc = 1
    · rw [closeN_1 p1]; exact dc_full (p1 ▸ hd)
    · rw [closeN_2 p0 p1]; exact dc_empty hd p0 p1
end
set_option maxRecDepth 100000 in
theorem ac_rcstep {s : St} {i : Int} (ho : s.ok) (hw : s.few) (hl : s.lg.length ≤ 999) : AC Tryz.prog 12 [stT s, .int .i64 i] (stT (closeS s i)) := by
  cases hr : runsB s i 3
  · rw [show closeS s i = s by simp [closeS, hr]]
    exact ac_path mixed (ext := [24]) (fuel := 9) (n := 3) (orc := [vD false]) (an (ac_rruns hr ho hw) trivial) (by kernel_rfl)
  · obtain ⟨hh, h1, h2⟩ := runs_iff.1 hr
    obtain ⟨hB, h0, h3⟩ := has_iff.1 hh
    rw [closeS_is hr]
    obtain ⟨n, rfl⟩ : ∃ n : Nat, i = n := ⟨i.toNat, by omega⟩
    rw [Int.toNat_natCast] at h1 h2 ⊢
    exact rstepC ⟨hB, .of ho, hl⟩ (by omega) h1 h2
section
variable {s : St} {i m o : Int} {b : Bool}
set_option maxRecDepth 100000 in
theorem rc_many (h : decide (o < m) = false) : LoopP Tryz.prog (loopOf Tryz.prog 8 0) (hdR s i m o b) (.exit 0) (hdR s i m o b) := loop_end mixed (fuel := 9) (n := 6) (im := [0, 1]) (keep := [1, 2, 3, 6, 8, 9]) (ext := [24, 12]) (orc := [.bool false]) (an h trivial) (by intro e; cases e) (by kernel_rfl)
set_option maxRecDepth 100000 in
theorem rc_thou (h : decide (o < m) = true) (h2 : decide (o < 1000) = false) : LoopP Tryz.prog (loopOf Tryz.prog 8 0) (hdR s i m o b) (.exit 0) (hdR s i m o b) := loop_end mixed (fuel := 9) (n := 6) (im := [0, 1]) (keep := [1, 2, 3, 6, 8, 9]) (ext := [24, 12]) (orc := [.bool true, .bool false]) (an h <| an h2 trivial) (by intro e; cases e) (by kernel_rfl)
set_option maxRecDepth 100000 in
theorem rc_not (h : decide (o < m) = true) (h2 : decide (o < 1000) = true) : LoopP Tryz.prog (loopOf Tryz.prog 8 0) (hdR s i m o false) (.exit 0) (hdR s i m o false) := loop_end mixed (fuel := 9) (n := 6) (im := [0, 1]) (keep := [1, 2, 3, 6, 8, 9]) (ext := [24, 12]) (orc := [.bool true, .bool true]) (an h <| an h2 trivial) (by intro e; cases e) (by kernel_rfl)
set_option maxRecDepth 100000 in
theorem rc_more {u : St} {c : Bool} {x : Exit} {S : Sg} (h : decide (o < m) = true) (h2 : decide (o < 1000) = true) (hs : AC Tryz.prog 12 [stT s, .int .i64 i] (stT u)) (ho : In64 (o + 1)) (hr : AC Tryz.prog 24 [stT u, .int .i64 i, .int .i64 3] (.bool c))
    (hL : LoopP Tryz.prog (loopOf Tryz.prog 8 0) (hdR u i m (o + 1) c) x S) : LoopP Tryz.prog (loopOf Tryz.prog 8 0) (hdR s i m o true) x S := loop_more mixed (fuel := 9) (n := 6) (im := [0, 1]) (keep := [1, 2, 3, 6, 8, 9]) (ext := [24, 12]) (orc := [.bool true, .bool true, stT u, vD c]) (an h <| an h2 <| an hs <| an ho <| an hr trivial) (by kernel_rfl) hL
theorem rcsteps_lp (k : Nat) : ∀ {s : St} {o : Int}, Vk s → s.few → s.ok → 0 ≤ o → (min m 1000 - o).toNat = k → s.lg.length + k ≤ 1000 → LoopP Tryz.prog (loopOf Tryz.prog 8 0) (hdR s i m o (runsB s i 3)) (.exit 0) (hdR (closeK s i k).1 i m (o + (closeK s i k).2) (runsB (closeK s i k).1 i 3)) := by
  have stop : ∀ {s : St} {o : Int} (b : Bool), LoopP Tryz.prog (loopOf Tryz.prog 8 0) (hdR s i m o b) (.exit 0) (hdR s i m o b) → LoopP Tryz.prog (loopOf Tryz.prog 8 0) (hdR s i m o b) (.exit 0) (hdR s i m (o + ((0 : Nat) : Int)) b) := fun b h => by
    simpa using h
  induction k with
  | zero =>
    intro s o _ _ _ _ hk _
    simp only [closeK]
    refine stop _ ?_
    by_cases h : o < m
    · exact rc_thou (by simp [h]) (by simp; omega)
    · exact rc_many (by simp; omega)
  | succ k ih =>
    intro s o hv hw ho h0 hk hl
    have hm : decide (o < m) = true := by simp; omega
    have hm2 : decide (o < 1000) = true := by simp; omega
    cases hr : runsB s i 3
    · rw [closeK_off hr]
      refine (hr ▸ stop (s := s) (o := o) false ?_)
      exact rc_not hm hm2
    · obtain ⟨h1, h2, h3⟩ := runs_iff.1 hr
      obtain ⟨hB, hi0, hi1⟩ := has_iff.1 h1
      rw [closeK_on hr, closeS_is hr]
      obtain ⟨n, rfl⟩ : ∃ n : Nat, i = n := ⟨i.toNat, by omega⟩
      rw [Int.toNat_natCast] at h2 h3 ⊢
      have hn : n < s.th.length := by omega
      have hk' := closeN_wk (N := s.lg.length) ⟨hB, hv, Nat.le_refl _⟩ hn (by omega)
      have hl' := hk'.l
      have ho' := hk'.ok (by omega)
      have hw' := hk'.few (by omega)
      refine rc_more (u := closeN s n) (c := runsB (closeN s n) n 3) hm hm2 (rstepC ⟨hB, hv, by omega⟩ hn h2 h3) (by constructor <;> omega) (ac_rruns rfl ho' hw') ?_
      have := ih (s := closeN s n) (o := o + 1) hk'.v hw' ho' (by omega) (by omega) (by omega)
      show LoopP _ _ _ _ (hdR (closeK (closeN s n) n k).1 n m (o + (((closeK (closeN s n) n k).2 + 1 : Nat) : Int)) (runsB (closeK (closeN s n) n k).1 n 3))
      rw [show o + (((closeK (closeN s n) n k).2 + 1 : Nat) : Int) = o + 1 + ((closeK (closeN s n) n k).2 : Int) by omega]
      exact this
set_option maxRecDepth 100000 in
theorem ac_rcsteps0 {u : St} {b c : Bool} (hr : AC Tryz.prog 24 [stT s, .int .i64 i, .int .i64 3] (.bool b)) (hL : LoopP Tryz.prog (loopOf Tryz.prog 8 0) (hdR s i m 0 b) (.exit 0) (hdR u i m o c)) : AC Tryz.prog 8 [stT s, .int .i64 i, .int .i64 m] (.tuple #[stT u, .int .i64 o]) :=
  ac_path mixed (ext := [24, 12]) (fuel := 9) (n := 5) (orc := [vD b, oL [0, 1] [1, 2, 3, 6, 8, 9] 0 [(1, .int .i64 i), (2, .int .i64 m), (3, pt 0), (6, pt 1), (8, .int .i64 o), (9, vD c)] [bS u, bZ]]) (an hr <| an hL trivial) (by kernel_rfl)
/-- Some steps. -/
theorem ac_rcsteps (ho : s.ok) (hw : s.few) (hl : s.lg.length + (min m 1000).toNat ≤ 1000) : AC Tryz.prog 8 [stT s, .int .i64 i, .int .i64 m] (.tuple #[stT (closeK s i (min m 1000).toNat).1, .int .i64 (closeK s i (min m 1000).toNat).2]) := by
  have h := rcsteps_lp (i := i) (m := m) (min m 1000 - 0).toNat (s := s) (o := 0) (.of ho) hw ho (Int.le_refl _) rfl (by rw [show min m 1000 - 0 = min m 1000 by omega]; exact hl)
  rw [show min m 1000 - 0 = min m 1000 by omega, Int.zero_add] at h
  exact ac_rcsteps0 (ac_rruns rfl ho hw) h
end
end Go.Proofs.YtkflpaicohbppaaGreat
