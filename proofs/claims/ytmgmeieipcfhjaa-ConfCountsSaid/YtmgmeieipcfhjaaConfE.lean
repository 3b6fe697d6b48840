/- Contracts of layer 2's functions over lists, and the document's room. -/
import Derived.Test.YtmgmeieipcfhjaaConfD
import Derived.Test.YtmgmeieipcfhjaaRead
import Derived.LoopTactic
import Derived.Lib.Hide
namespace Go.Proofs.Ytmgmeieipcfhjaa
set_option linter.unusedVariables false
set_option linter.unusedSimpArgs false
open Go.ChangeShapes Go.WideShapes Go.ChangeAt Go.RowKit

/-- A configuration. -/
structure Cf where
  lg : Int
  th : Int
  po : Int
  wt : Int
  sp : Int
  yi : Int
  si : Bool
def Cf.cells (c : Cf) : List Value := [.int .i64 c.lg, .int .i64 c.th, .int .i64 c.po, .int .i64 c.wt, .int .i64 c.sp, .int .i64 c.yi, .bool c.si]
def Cf.may (c : Cf) : Bool := mayB c.lg c.th c.po c.wt c.sp c.yi
def Cf.room (c : Cf) : Int := roomI c.lg c.th c.po c.wt c.sp c.yi
def cntI : List Cf → Int
  | [] => 0
  | c :: l => (if c.may then 1 else 0) + cntI l
def cntR : List Cf → Int
  | [] => 0
  | c :: l => c.room + cntR l
theorem cntI_append (l m : List Cf) : cntI (l ++ m) = cntI l + cntI m := by
  induction l with
  | nil => simp [cntI]
  | cons c l ih => simp only [List.cons_append, cntI, ih]; omega
theorem cntR_append (l m : List Cf) : cntR (l ++ m) = cntR l + cntR m := by
  induction l with
  | nil => simp [cntR]
  | cons c l ih => simp only [List.cons_append, cntR, ih]; omega
theorem cnt_bd (l : List Cf) : 0 ≤ cntI l ∧ cntI l ≤ l.length ∧ 2 * cntI l ≤ cntR l ∧ cntR l ≤ 64 * cntI l := by
  induction l with
  | nil => simp [cntI, cntR]
  | cons c l ih =>
    simp only [cntI, cntR, List.length_cons]
    cases hm : c.may
    · have := room_no (lg := c.lg) (th := c.th) (po := c.po) (wt := c.wt) (sp := c.sp) (yi := c.yi) hm
      have : c.room = 0 := this
      simp; omega
    · have := room_yes (lg := c.lg) (th := c.th) (po := c.po) (wt := c.wt) (sp := c.sp) (yi := c.yi) hm
      have : c.room = pw c.lg := this
      have := pw_bd c.lg
      simp; omega
theorem cnt_no {c : Cf} (h : c.may = false) : cntI [c] = 0 ∧ cntR [c] = 0 := by
  have := room_no (lg := c.lg) (th := c.th) (po := c.po) (wt := c.wt) (sp := c.sp) (yi := c.yi) h
  simp only [cntI, cntR, h, Cf.room, this]; simp
theorem cnt_yes {c : Cf} (h : c.may = true) : cntI [c] = 1 ∧ cntR [c] = c.room := by
  simp only [cntI, cntR, h]; simp
theorem take_succ {α : Type} (l : List α) (k : Nat) (h : k < l.length) : l.take (k + 1) = l.take k ++ [l[k]] := by
  rw [List.take_succ_eq_append_getElem h]

def p2 (k : Nat) : Int := if k = 0 then 1 else pw k
theorem p2_bd (k : Nat) : 1 ≤ p2 k ∧ p2 k ≤ 64 := by
  have := pw_bd k
  unfold p2; split <;> omega
theorem p2_succ (k : Nat) (h : k < 6) : 2 * p2 k = p2 (k + 1) := by
  obtain rfl | rfl | rfl | rfl | rfl | rfl : k = 0 ∨ k = 1 ∨ k = 2 ∨ k = 3 ∨ k = 4 ∨ k = 5 := by omega
  all_goals rfl

set_option maxHeartbeats 1000000 in
theorem rcroom_any (lg th po wt sp yi : Int) (si : Bool) (w : World) : Calls Try.prog 15 #[.agg #[.int .i64 lg, .int .i64 th, .int .i64 po, .int .i64 wt, .int .i64 sp, .int .i64 yi, .bool si]] w fun e w' => e = .returned (.int .i64 (roomI lg th po wt sp yi)) ∧ Kept w w' := by
  cases hm : mayB lg th po wt sp yi
  · have hk := room_no hm
    have hc := ck_no hm
    go_enter Try.func15, Try.ntmps15
    go_wp2_with (first | (go_at_call 13; refine (rccheck_any _ _ _ _ _ _ _ _).mono ?_; rintro e wx ⟨rfl, hgx⟩; obtain ⟨hcx, hfx⟩ := bcell hgx; have hz0 : w.heap.size < wx.heap.size := (by have := hgx.size; (try simp at this); omega)))
    go_ret
    exact ⟨ret_int (by rw [hk]), by repeat' (first | (with_reducible exact Below.refl _ _) | (with_reducible assumption) | (with_reducible refine kept_alloc ?_ _) | (with_reducible refine kept_drewN ?_ _) | (with_reducible refine Below.drew ?_) | (with_reducible refine Below.setCell ?_ (by first | omega | (simp; omega) | (simp; done)) _) | (refine kept_trans ?_ (by with_reducible assumption)))⟩
  · have hk := Lib.hid (room_yes hm)
    have hc := ck_yes hm
    have hp := may_iff.1 hm
    have h1 : 1 ≤ lg := by omega
    have h2 : lg ≤ 6 := by omega
    clear hp
    go_enter Try.func15, Try.ntmps15
    go_wp2_with (first | (go_at_call 13; refine (rccheck_any _ _ _ _ _ _ _ _).mono ?_; rintro e wx ⟨rfl, hgx⟩; obtain ⟨hcx, hfx⟩ := bcell hgx; have hz0 : w.heap.size < wx.heap.size := (by have := hgx.size; (try simp at this); omega)))
    have hl : wx.cell? ⟨w.heap.size, 0, none⟩ = some (.int .i64 lg) := by rw [hcx _ _ (by simp)]; simp
    clear hcx hfx
    go_loop [3, 4] (fun n i => ∃ k : Nat, (k : Int) ≤ lg ∧ i = .int .i64 k ∧ n = .int .i64 (p2 k)) (fun _ i => (lg - intOf i).toNat)
    case atStart => exact ⟨0, by omega, rfl, rfl⟩
    case round =>
      obtain ⟨k, hk', rfl, rfl⟩ := hrel
      have hb := p2_bd k
      by_cases hlt : (k : Int) < lg
      · have hs := Lib.hid (p2_succ k (by omega))
        go_wp2
        go_round
        case rel => exact ⟨k + 1, by omega, by go_num, by rw [← hs.out]⟩
        case measure => simp [intOf]; omega
      · have hkl : (k : Int) = lg := by omega
        have hpk : Hid (p2 k = pw lg) := Lib.hid (by rw [p2, if_neg (by omega), hkl])
        clear hkl
        go_wp2
        go_ret
        exact ⟨ret_int (by rw [hk.out, hpk.out]), by repeat' (first | (with_reducible exact Below.refl _ _) | (with_reducible assumption) | (with_reducible refine kept_alloc ?_ _) | (with_reducible refine kept_drewN ?_ _) | (with_reducible refine Below.drew ?_) | (with_reducible refine Below.setCell ?_ (by first | omega | (simp; omega) | (simp; done)) _) | (refine kept_trans ?_ (by with_reducible assumption)))⟩

set_option maxRecDepth 100000 in
set_option maxHeartbeats 4000000 in
theorem ccount_any (xs : List Cf) (v : Value) (w : World) (hv : Sl w 7 Cf.cells xs v) (hm : xs.length ≤ 140737488351232) :
    Calls Try.prog 10 #[v] w fun e w' => e = .returned (.tuple #[.int .i64 (cntI xs), .int .i64 (cntR xs)]) ∧ Kept w w' := by
  obtain ⟨p, cap, rfl, hlc, hcm, _, hc⟩ := hv.is
  clear hv hlc hcm
  go_enter Try.func10, Try.ntmps10
  go_wp2
  go_loopw [4, 5, 10] (fun m r i wr => ∃ k : Nat, k ≤ xs.length ∧ i = .int .i64 k ∧ m = .int .i64 (cntI (xs.take k)) ∧ r = .int .i64 (cntR (xs.take k)) ∧ Below w.heap.size w wr) (fun _ _ i _ => xs.length - (intOf i).toNat)
  case atStart => exact ⟨0, by omega, rfl, rfl, rfl, Below.refl _ _⟩
  case round =>
    obtain ⟨k, hk, rfl, rfl, rfl, hB⟩ := hrel
    have hb := cnt_bd (xs.take k)
    have hlk : (xs.take k).length ≤ k := List.length_take_le _ _
    by_cases hlt : k < xs.length
    · obtain ⟨b, o, rfl, hbl, hcell⟩ := hc (by intro h; subst h; simp at hlt)
      have hx := hcell k xs[k] (List.getElem?_eq_getElem hlt)
      have hts := take_succ xs k hlt
      generalize xs[k] = x at hx hts
      have c0 := (hB.cell (p := ⟨b, _, none⟩) hbl).trans (hx 0 (by omega))
      have c1 := (hB.cell (p := ⟨b, _, none⟩) hbl).trans (hx 1 (by omega))
      have c2 := (hB.cell (p := ⟨b, _, none⟩) hbl).trans (hx 2 (by omega))
      have c3 := (hB.cell (p := ⟨b, _, none⟩) hbl).trans (hx 3 (by omega))
      have c4 := (hB.cell (p := ⟨b, _, none⟩) hbl).trans (hx 4 (by omega))
      have c5 := (hB.cell (p := ⟨b, _, none⟩) hbl).trans (hx 5 (by omega))
      have c6 := (hB.cell (p := ⟨b, _, none⟩) hbl).trans (hx 6 (by omega))
      simp [Cf.cells] at c0 c1 c2 c3 c4 c5 c6
      clear hx hcell hc
      have ha := Lib.hid (cntI_append (xs.take k) [x])
      have hr := Lib.hid (cntR_append (xs.take k) [x])
      rw [← hts] at ha hr
      clear hts
      have hrb := room_bd x.lg x.th x.po x.wt x.sp x.yi
      cases hmx : mayB x.lg x.th x.po x.wt x.sp x.yi
      · have h0 := cnt_no (c := x) hmx
        rw [h0.1, Int.add_zero] at ha
        rw [h0.2, Int.add_zero] at hr
        clear h0
        go_wp2_with (first | (go_at_call 20; refine (cmay_any _ _ _ _ _ _ _ _).mono ?_; rintro e wx ⟨rfl, hgx⟩; obtain ⟨hcx, hfx⟩ := bcell hgx; have hzwr0 : wr.heap.size < wx.heap.size := (by have := hgx.size; (try simp at this); omega)) | (go_at_call 14; refine (croom_any _ _ _ _ _ _ _ _).mono ?_; rintro e wx ⟨rfl, hgx⟩; obtain ⟨hcx, hfx⟩ := bcell hgx; have hzwr0 : wr.heap.size < wx.heap.size := (by have := hgx.size; (try simp at this); omega)))
        go_roundw
        case rel => exact ⟨k + 1, by omega, by go_num, by rw [ha.out], by rw [hr.out], by repeat' (first | (with_reducible exact Below.refl _ _) | (with_reducible assumption) | (with_reducible refine kept_alloc ?_ _) | (with_reducible refine kept_drewN ?_ _) | (with_reducible refine Below.drew ?_) | (with_reducible refine Below.setCell ?_ (by first | omega | (simp; omega) | (simp; done)) _) | (refine kept_trans ?_ (by with_reducible assumption)))⟩
        case measure => simp [intOf]; omega
      · have h0 := cnt_yes (c := x) hmx
        rw [h0.1] at ha
        rw [h0.2] at hr
        clear h0
        go_wp2_with (first | (go_at_call 20; refine (cmay_any _ _ _ _ _ _ _ _).mono ?_; rintro e wx ⟨rfl, hgx⟩; obtain ⟨hcx, hfx⟩ := bcell hgx; have hzwr0 : wr.heap.size < wx.heap.size := (by have := hgx.size; (try simp at this); omega)) | (go_at_call 14; refine (croom_any _ _ _ _ _ _ _ _).mono ?_; rintro e wx ⟨rfl, hgx⟩; obtain ⟨hcx, hfx⟩ := bcell hgx; have hzwr0 : wr.heap.size < wx.heap.size := (by have := hgx.size; (try simp at this); omega)))
        go_roundw
        case rel => exact ⟨k + 1, by omega, by go_num, by rw [ha.out], by rw [hr.out]; rfl, by repeat' (first | (with_reducible exact Below.refl _ _) | (with_reducible assumption) | (with_reducible refine kept_alloc ?_ _) | (with_reducible refine kept_drewN ?_ _) | (with_reducible refine Below.drew ?_) | (with_reducible refine Below.setCell ?_ (by first | omega | (simp; omega) | (simp; done)) _) | (refine kept_trans ?_ (by with_reducible assumption)))⟩
        case measure => simp [intOf]; omega
    · have : k = xs.length := by omega
      subst this
      clear hc
      go_wp2
      go_ret2
      exact ⟨ret_two (by rw [List.take_length]) (by rw [List.take_length]), by repeat' (first | (with_reducible exact Below.refl _ _) | (with_reducible assumption) | (with_reducible refine kept_alloc ?_ _) | (with_reducible refine kept_drewN ?_ _) | (with_reducible refine Below.drew ?_) | (with_reducible refine Below.setCell ?_ (by first | omega | (simp; omega) | (simp; done)) _) | (refine kept_trans ?_ (by with_reducible assumption)))⟩

theorem gt_no {x : Int} (h : x = 0) : decide (0 < x) = false := by simp [h]

set_option maxRecDepth 100000 in
set_option maxHeartbeats 4000000 in
theorem rccount_any (xs : List Cf) (v : Value) (w : World) (hv : Sl w 7 Cf.cells xs v) (hm : xs.length ≤ 140737488351232) :
    Calls Try.prog 11 #[v] w fun e w' => e = .returned (.tuple #[.int .i64 (cntI xs), .int .i64 (cntR xs)]) ∧ Kept w w' := by
  obtain ⟨p, cap, rfl, hlc, hcm, _, hc⟩ := hv.is
  clear hv hlc hcm
  go_enter Try.func11, Try.ntmps11
  go_wp2
  go_loopw [4, 5, 6] (fun m r i wr => ∃ k : Nat, k ≤ xs.length ∧ i = .int .i64 k ∧ m = .int .i64 (cntI (xs.take k)) ∧ r = .int .i64 (cntR (xs.take k)) ∧ Below w.heap.size w wr) (fun _ _ i _ => xs.length - (intOf i).toNat)
  case atStart => exact ⟨0, by omega, rfl, rfl, rfl, Below.refl _ _⟩
  case round =>
    obtain ⟨k, hk, rfl, rfl, rfl, hB⟩ := hrel
    have hb := cnt_bd (xs.take k)
    have hlk : (xs.take k).length ≤ k := List.length_take_le _ _
    by_cases hlt : k < xs.length
    · obtain ⟨b, o, rfl, hbl, hcell⟩ := hc (by intro h; subst h; simp at hlt)
      have hx := hcell k xs[k] (List.getElem?_eq_getElem hlt)
      have hts := take_succ xs k hlt
      generalize xs[k] = x at hx hts
      have c0 := (hB.cell (p := ⟨b, _, none⟩) hbl).trans (hx 0 (by omega))
      have c1 := (hB.cell (p := ⟨b, _, none⟩) hbl).trans (hx 1 (by omega))
      have c2 := (hB.cell (p := ⟨b, _, none⟩) hbl).trans (hx 2 (by omega))
      have c3 := (hB.cell (p := ⟨b, _, none⟩) hbl).trans (hx 3 (by omega))
      have c4 := (hB.cell (p := ⟨b, _, none⟩) hbl).trans (hx 4 (by omega))
      have c5 := (hB.cell (p := ⟨b, _, none⟩) hbl).trans (hx 5 (by omega))
      have c6 := (hB.cell (p := ⟨b, _, none⟩) hbl).trans (hx 6 (by omega))
      simp [Cf.cells] at c0 c1 c2 c3 c4 c5 c6
      clear hx hcell hc
      have hbw : b < wr.heap.size := Nat.lt_of_lt_of_le hbl hB.size
      have ha := Lib.hid (cntI_append (xs.take k) [x])
      have hr := Lib.hid (cntR_append (xs.take k) [x])
      rw [← hts] at ha hr
      clear hts
      have hrb := room_bd x.lg x.th x.po x.wt x.sp x.yi
      cases hmx : mayB x.lg x.th x.po x.wt x.sp x.yi
      · have h0 := cnt_no (c := x) hmx
        rw [h0.1, Int.add_zero] at ha
        rw [h0.2, Int.add_zero] at hr
        clear h0
        have hz := room_no hmx
        go_wp2_with (first | (go_at_call 15; refine (rcroom_any _ _ _ _ _ _ _ _).mono ?_; rintro e wx ⟨rfl, hgx⟩; obtain ⟨hcx, hfx⟩ := bcell hgx))
        go_roundw
        case rel => exact ⟨k + 1, by omega, by go_num, by rw [ha.out], by rw [hr.out], by repeat' (first | (with_reducible exact Below.refl _ _) | (with_reducible assumption) | (with_reducible refine kept_alloc ?_ _) | (with_reducible refine kept_drewN ?_ _) | (with_reducible refine Below.drew ?_) | (with_reducible refine Below.setCell ?_ (by first | omega | (simp; omega) | (simp; done)) _) | (refine kept_trans ?_ (by with_reducible assumption)))⟩
        case measure => simp [intOf]; omega
      · have h0 := cnt_yes (c := x) hmx
        rw [h0.1] at ha
        rw [h0.2] at hr
        clear h0
        have hpb := pw_bd x.lg
        have hgt : 0 < roomI x.lg x.th x.po x.wt x.sp x.yi := by rw [room_yes hmx]; omega
        have hgb : decide (0 < roomI x.lg x.th x.po x.wt x.sp x.yi) = true := by simp [hgt]
        go_wp2_with (first | (go_at_call 15; refine (rcroom_any _ _ _ _ _ _ _ _).mono ?_; rintro e wx ⟨rfl, hgx⟩; obtain ⟨hcx, hfx⟩ := bcell hgx))
        go_roundw
        case rel => exact ⟨k + 1, by omega, by go_num, by rw [ha.out], by rw [hr.out]; rfl, by repeat' (first | (with_reducible exact Below.refl _ _) | (with_reducible assumption) | (with_reducible refine kept_alloc ?_ _) | (with_reducible refine kept_drewN ?_ _) | (with_reducible refine Below.drew ?_) | (with_reducible refine Below.setCell ?_ (by first | omega | (simp; omega) | (simp; done)) _) | (refine kept_trans ?_ (by with_reducible assumption)))⟩
        case measure => simp [intOf]; omega
    · have : k = xs.length := by omega
      subst this
      clear hc
      go_wp2
      go_ret2
      exact ⟨ret_two (by rw [List.take_length]) (by rw [List.take_length]), by repeat' (first | (with_reducible exact Below.refl _ _) | (with_reducible assumption) | (with_reducible refine kept_alloc ?_ _) | (with_reducible refine kept_drewN ?_ _) | (with_reducible refine Below.drew ?_) | (with_reducible refine Below.setCell ?_ (by first | omega | (simp; omega) | (simp; done)) _) | (refine kept_trans ?_ (by with_reducible assumption)))⟩
end Go.Proofs.Ytmgmeieipcfhjaa
