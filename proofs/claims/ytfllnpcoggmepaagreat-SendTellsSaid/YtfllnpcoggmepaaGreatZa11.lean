/- Texts merged: FabQP, AcJP, AcKP, AcLP, AcMP, AcNP, AcOP, AcTP. -/
import Derived.Test.YtfllnpcoggmepaaGreatZa10
import Derived.Test.YtfllnpcoggmepaaGreatZa9
import Derived.Test.YtfllnpcoggmepaaGreatZa7
import Derived.Test.YtfllnpcoggmepaaGreatZa5
import Derived.Test.YtfllnpcoggmepaaGreatZa8
import Derived.Test.YtfllnpcoggmepaaGreatZa6
/- Layer 13: the document's own Check, Is, Value. Written by tools/fabQ.py. -/
namespace Go.Proofs.YtfllnpcoggmepaaGreat
set_option linter.unusedVariables false
set_option linter.unusedSimpArgs false
open Go.ChangeShapes Go.WideShapes Go.ChangeAt Go.RowKit
set_option maxHeartbeats 1000000 in
theorem ramong_any (l : List Int) (m : Int) (p : Option Addr) (k : Nat) (w : World) (hl : Sl w 1 intC l (.slice p l.length k)) : Calls Tryz.prog 209 #[.slice p l.length k, .int .i64 m] w fun e w' => e = .returned (.bool (stnB m l)) ∧ Kept w w' := by
  have H := Lib.hid hl
  obtain ⟨_, _, e1, hlk, hkm, _, hne⟩ := hl.is
  cases e1
  have hbig : l.length ≤ 9223372036854775807 := by unfold maxLen at hkm; omega
  clear hl hkm
  obtain ⟨N, hN⟩ : ∃ N, l.length = N := ⟨_, rfl⟩
  rw [hN] at hbig hlk ⊢
  have HN := Lib.hid hN
  have HNE := Lib.hid hne
  clear hN hne
  go_enter Tryz.func209, Tryz.ntmps209
  go_wp2
  go_loopw [5] (fun s5 wr => ∃ j : Nat, j ≤ N ∧ s5 = .int .i64 j ∧ Hid ((l.take j).any (overB m) = false) ∧ Below w.heap.size w wr) (fun s5 _ => N - (intOf s5).toNat)
  case atStart => exact ⟨0, by omega, rfl, Lib.hid (by simp), Below.refl _ _⟩
  case round =>
    obtain ⟨j, hj, rfl, T, hB⟩ := hrel
    by_cases hlt : j < N
    · have hlt' : j < l.length := by rw [HN.out]; exact hlt
      obtain ⟨b, o, rfl, hb, -⟩ := HNE.out (by intro h; subst h; simp at hlt')
      have c1 := (hB.cell (p := ⟨b, o + j, none⟩) hb).trans (sli_at H.out hlt')
      have hbw : b < wr.heap.size := Nat.lt_of_lt_of_le hb hB.size
      have i1 : (0 : Int) ≤ (j : Int) := by omega
      have i2 : (j : Int) < (N : Int) := by omega
      have Hh : Hid (m ≤ l[j] → stnB m l = false) := Lib.hid (fun h => by
        have : l.any (overB m) = true := List.any_eq_true.2 ⟨l[j], List.getElem_mem hlt', by simp [overB, h]⟩
        simp [stnB, this])
      have Hn : Hid (¬ m ≤ l[j] → (l.take (j + 1)).any (overB m) = false) := Lib.hid (fun h => by
        rw [List.take_succ_eq_append_getElem hlt', List.any_append, T.out]
        simp [overB]; omega)
      generalize l[j] = x at *
      cases hx : decide (m ≤ x)
      · have hn := Lib.hid (Hn.out (by simpa using hx))
        clear Hh Hn
        go_wp2
        exact ⟨⟨j + 1, by omega, by go_num, hn.out, by repeat' (first | (with_reducible exact Below.refl _ _) | (with_reducible assumption) | (with_reducible refine kept_alloc ?_ _) | (with_reducible refine kept_drewN ?_ _) | (with_reducible refine Below.drew ?_) | (with_reducible refine Below.setCell ?_ (by first | omega | (simp; omega) | (simp; done)) _) | (refine kept_trans ?_ (by with_reducible assumption)))⟩, by simp [intOf]; omega⟩
      · have hn := Lib.hid (Hh.out (by simpa using hx))
        clear Hh Hn
        go_wp2
        go_ret
        exact ⟨ret_bool hn.out.symm, by repeat' (first | (with_reducible exact Below.refl _ _) | (with_reducible assumption) | (with_reducible refine kept_alloc ?_ _) | (with_reducible refine kept_drewN ?_ _) | (with_reducible refine Below.drew ?_) | (with_reducible refine Below.setCell ?_ (by first | omega | (simp; omega) | (simp; done)) _) | (refine kept_trans ?_ (by with_reducible assumption)))⟩
    · have : j = N := by omega
      subst this
      have hn : Hid (stnB m l = okLn l) := Lib.hid (by have := T.out; rw [← HN.out, List.take_length] at this; simp [stnB, this])
      clear T
      go_wp2_with fail
      have hR := rlcheck_any l p k wr (H.out.kept hB)
      rw [HN.out] at hR
      refine hR.mono ?_
      rintro e w2 ⟨rfl, hgx⟩
      go_wp2
      go_ret
      exact ⟨ret_bool hn.out.symm, by repeat' (first | (with_reducible exact Below.refl _ _) | (with_reducible assumption) | (with_reducible refine kept_alloc ?_ _) | (with_reducible refine kept_drewN ?_ _) | (with_reducible refine Below.drew ?_) | (with_reducible refine Below.setCell ?_ (by first | omega | (simp; omega) | (simp; done)) _) | (refine kept_trans ?_ (by with_reducible assumption)))⟩
theorem ramong_val {m : Int} {l : List Int} {b : Bool} (h : stnB m l = b) (p : Option Addr) (k : Nat) (w : World) (hl : Sl w 1 intC l (.slice p l.length k)) : Calls Tryz.prog 209 #[.slice p l.length k, .int .i64 m] w fun e w' => e = .returned (.bool b) ∧ Kept w w' := h ▸ ramong_any l m p k w hl
theorem rchk_val {h t m r : Int} {b : Bool} (hb : checkB h t m r = b) (hh : In64 h) (ht : In64 t) (hm : In64 m) (hr : In64 r) (w : World) : Calls Tryz.prog 169 #[.agg #[.int .i64 h, .int .i64 t, .int .i64 m], .int .i64 r] w fun e w' => e = .returned (.bool b) ∧ Kept w w' := by
  rw [← hb, check_ref hr]; exact rcheck_any h t m r hh ht hm hr w
theorem rsl_val {l : List Slo} {b : Bool} (h : okSl l = b) (p : Option Addr) (k : Nat) (w : World) (hl : Sl w 2 Slo.cells l (.slice p l.length k)) (hm : l.length ≤ 1000) : Calls Tryz.prog 95 #[.slice p l.length k] w fun e w' => e = .returned (.bool b) ∧ Kept w w' := h ▸ rscheck_any l p k w hl hm
theorem rev_val {ep : Int} {l : List Int} {b : Bool} (h : okE ep l = b) (p : Option Addr) (k : Nat) (w : World) (hl : Sl w 1 intC l (.slice p l.length k)) : Calls Tryz.prog 99 #[.agg #[.int .i64 ep, .slice p l.length k]] w fun e w' => e = .returned (.bool b) ∧ Kept w w' := h ▸ rev_check ep l p k w hl
theorem rtc_val {y : Th} {b : Bool} (h : thB y = b) (w : World) : Calls Tryz.prog 208 #[.agg #[.int .i64 y.st, .int .i64 y.ki, .int .i64 y.va, .int .i64 y.un, .int .i64 y.pc, .int .i64 y.re, .int .i64 y.se, .int .i64 y.tr, .bool y.la, .int .i64 y.rs, .int .i64 y.go]] w fun e w' => e = .returned (.bool b) ∧ Kept w w' := h ▸ rtcheck_any w
theorem rroom_val {c : Cf} {R : Int} (h : cfR c = R) (w : World) : Calls Tryz.prog 207 #[.agg #[.int .i64 c.lg, .int .i64 c.th, .int .i64 c.po, .int .i64 c.wt, .int .i64 c.sp, .int .i64 c.yi, .bool c.si]] w fun e w' => e = .returned (.int .i64 R) ∧ Kept w w' := h ▸ rcroom_any _ _ _ _ _ _ _ _
theorem st_no_room {s : St} (h : cfR s.cf = 0) : stB s = false := by
  cases hb : stB s
  · rfl
  · have := cf_room (st_iff.1 hb).1; omega
theorem st_no_len {s : St} (h : ¬ (s.sl.length : Int) = cfR s.cf) : stB s = false := by simp [stB, ringSt, h]
theorem st_no_ths {s : St} (h : ¬ (s.th.length : Int) = s.cf.th) : stB s = false := by simp [stB, thsSt, h]
theorem st_no_th {s : St} {j : Nat} (hj : j < s.th.length) (h : thB (gth s.th j) = false) : stB s = false := by
  cases hb : stB s
  · rfl
  · have := gth_ok hb hj; rw [h] at this; cases this
theorem st_no_lo {s : St} (h : s.nw < 0) : stB s = false := by simp [stB]; omega
theorem st_no_hi {s : St} (h : 1099511627776 < s.nw) : stB s = false := by simp [stB]; omega
theorem st_all {s : St} {R : Int} (hR : cfR s.cf = R) (h0 : ¬ R = 0) (h1 : (s.sl.length : Int) = R) (h2 : (s.th.length : Int) = s.cf.th) (h3 : ¬ s.nw < 0) (h4 : ¬ 1099511627776 < s.nw) (h5 : s.th.any notTh = false) :
    stB s = (checkB s.hd s.tl s.md R && (okSl s.sl && (okE s.fe s.fl && (okE s.ee s.el && (stnB s.cf.th s.sn && (stnB s.cf.th s.rc && (stnB s.cf.th s.fl && stnB s.cf.th s.el))))))) := by
  have hc : cfB s.cf = true := by
    cases hb : cfB s.cf
    · exact absurd (hR ▸ (room_no hb : cfR s.cf = 0)) h0
    · rfl
  have h6 : decide (0 ≤ s.nw) = true := by simpa using h3
  have h7 : decide (s.nw ≤ 1099511627776) = true := by simpa using h4
  unfold stB ringSt lnsSt thsSt
  rw [hc, hR, h1, h2, h5, h6, h7]
  cases checkB s.hd s.tl s.md R <;> cases okSl s.sl <;> cases okE s.fe s.fl <;> cases okE s.ee s.el <;> simp

set_option maxHeartbeats 16000000 in
set_option maxRecDepth 100000 in
theorem rcheckS_any (s : St) (z : Pz) (w : World) (hs : StAt w s z) (ho : s.ok) (hw : s.few) : Calls Tryz.prog 166 #[.agg #[.int .i64 s.cf.lg, .int .i64 s.cf.th, .int .i64 s.cf.po, .int .i64 s.cf.wt, .int .i64 s.cf.sp, .int .i64 s.cf.yi, .bool s.cf.si, .int .i64 s.hd, .int .i64 s.tl, .int .i64 s.md, .slice z.p1 s.sl.length z.k1, .slice z.p2 s.sn.length z.k2, .slice z.p3 s.rc.length z.k3, .int .i64 s.fe, .slice z.p4 s.fl.length z.k4, .int .i64 s.ee, .slice z.p5 s.el.length z.k5, .int .i64 s.nw, .slice z.p6 s.th.length z.k6, .slice z.p7 s.lg.length z.k7]] w fun e w' => e = .returned (.bool (stB s)) ∧ Kept w w' := by
  have HS := Lib.hid hs
  have HO := Lib.hid ho
  have HW := Lib.hid hw
  obtain ⟨R, hR⟩ : ∃ R, cfR s.cf = R := ⟨_, rfl⟩
  have HR := Lib.hid hR
  have hRi : Hid (In64 R) := Lib.hid (hR ▸ room_in s.cf)
  clear hs ho hw
  by_cases h0 : R = 0
  · subst h0
    have HX := Lib.hid (st_no_room hR)
    clear hR
    go_enter Tryz.func166, Tryz.ntmps166; go_upto_region 1 with fail; refine wp_abs (fun W => Below w.heap.size w W ∧ Bk W (w.heap.size) [.int .i64 s.cf.lg , .int .i64 s.cf.th , .int .i64 s.cf.po , .int .i64 s.cf.wt , .int .i64 s.cf.sp , .int .i64 s.cf.yi , .bool s.cf.si , .int .i64 s.hd , .int .i64 s.tl , .int .i64 s.md , .slice z.p1 s.sl.length z.k1 , .slice z.p2 s.sn.length z.k2 , .slice z.p3 s.rc.length z.k3 , .int .i64 s.fe , .slice z.p4 s.fl.length z.k4 , .int .i64 s.ee , .slice z.p5 s.el.length z.k5 , .int .i64 s.nw , .slice z.p6 s.th.length z.k6 , .slice z.p7 s.lg.length z.k7]) ⟨by repeat' (first | (with_reducible exact Below.refl _ _) | (with_reducible assumption) | (with_reducible refine kept_alloc ?_ _) | (with_reducible refine kept_drewN ?_ _) | (with_reducible refine Below.drew ?_) | (with_reducible refine Below.setCell ?_ (by first | omega | (simp; omega) | (simp; done)) _) | (refine kept_trans ?_ (by with_reducible assumption))), (by repeat (first | (exact Bk.new (by first | rfl | (simp; done) | (simp; omega))) | (refine Bk.past ?_)))⟩ ?_; rintro V ⟨hB, hk0⟩; go_wp2_with ((first | (refine ldoC (by rfl) rfl rfl (by first | assumption | exact Bk.past (by assumption)) (by repeat' (first | rfl | (refine ⟨?_, ?_⟩))) ?_))); refine (rroom_val HR.out _).mono ?_; rintro e w1 ⟨rfl, hgx⟩; have hBx : Below w.heap.size w w1 := (by repeat' (first | (with_reducible exact Below.refl _ _) | (with_reducible assumption) | (with_reducible refine kept_alloc ?_ _) | (with_reducible refine kept_drewN ?_ _) | (with_reducible refine Below.drew ?_) | (with_reducible refine Below.setCell ?_ (by first | omega | (simp; omega) | (simp; done)) _) | (refine kept_trans ?_ (by with_reducible assumption)))); (try replace hk0 := Bk.kept (by first | exact hk0 | exact Bk.past hk0 | exact Bk.past (Bk.past hk0)) hgx); (try replace hC := kept_trans hC hgx); replace hB := hBx; clear hBx hgx
    go_wp2_with (first | (refine ldoi (by rfl) rfl rfl (by first | assumption | exact Bk.past (by assumption)) rfl ?_) | (refine ldos (by rfl) rfl rfl (by first | assumption | exact Bk.past (by assumption)) rfl ?_) | (refine ldot (by rfl) rfl rfl (by first | assumption | exact Bk.past (by assumption)) rfl ?_)); go_ret; exact ⟨ret_bool (HX.out).symm, hB⟩
  have e0 : (R == 0) = false := by simpa using h0
  by_cases h1 : (s.sl.length : Int) = R
  case neg =>
    have e1 : ((s.sl.length : Int) != R) = true := by simpa using h1
    have HX := Lib.hid (st_no_len (by rw [hR]; exact h1))
    clear hR h0 h1
    go_enter Tryz.func166, Tryz.ntmps166; go_upto_region 1 with fail; refine wp_abs (fun W => Below w.heap.size w W ∧ Bk W (w.heap.size) [.int .i64 s.cf.lg , .int .i64 s.cf.th , .int .i64 s.cf.po , .int .i64 s.cf.wt , .int .i64 s.cf.sp , .int .i64 s.cf.yi , .bool s.cf.si , .int .i64 s.hd , .int .i64 s.tl , .int .i64 s.md , .slice z.p1 s.sl.length z.k1 , .slice z.p2 s.sn.length z.k2 , .slice z.p3 s.rc.length z.k3 , .int .i64 s.fe , .slice z.p4 s.fl.length z.k4 , .int .i64 s.ee , .slice z.p5 s.el.length z.k5 , .int .i64 s.nw , .slice z.p6 s.th.length z.k6 , .slice z.p7 s.lg.length z.k7]) ⟨by repeat' (first | (with_reducible exact Below.refl _ _) | (with_reducible assumption) | (with_reducible refine kept_alloc ?_ _) | (with_reducible refine kept_drewN ?_ _) | (with_reducible refine Below.drew ?_) | (with_reducible refine Below.setCell ?_ (by first | omega | (simp; omega) | (simp; done)) _) | (refine kept_trans ?_ (by with_reducible assumption))), (by repeat (first | (exact Bk.new (by first | rfl | (simp; done) | (simp; omega))) | (refine Bk.past ?_)))⟩ ?_; rintro V ⟨hB, hk0⟩; go_wp2_with ((first | (refine ldoC (by rfl) rfl rfl (by first | assumption | exact Bk.past (by assumption)) (by repeat' (first | rfl | (refine ⟨?_, ?_⟩))) ?_))); refine (rroom_val HR.out _).mono ?_; rintro e w1 ⟨rfl, hgx⟩; have hBx : Below w.heap.size w w1 := (by repeat' (first | (with_reducible exact Below.refl _ _) | (with_reducible assumption) | (with_reducible refine kept_alloc ?_ _) | (with_reducible refine kept_drewN ?_ _) | (with_reducible refine Below.drew ?_) | (with_reducible refine Below.setCell ?_ (by first | omega | (simp; omega) | (simp; done)) _) | (refine kept_trans ?_ (by with_reducible assumption)))); (try replace hk0 := Bk.kept (by first | exact hk0 | exact Bk.past hk0 | exact Bk.past (Bk.past hk0)) hgx); (try replace hC := kept_trans hC hgx); replace hB := hBx; clear hBx hgx
    go_wp2_with (first | (refine ldoi (by rfl) rfl rfl (by first | assumption | exact Bk.past (by assumption)) rfl ?_) | (refine ldos (by rfl) rfl rfl (by first | assumption | exact Bk.past (by assumption)) rfl ?_) | (refine ldot (by rfl) rfl rfl (by first | assumption | exact Bk.past (by assumption)) rfl ?_)); go_ret; exact ⟨ret_bool (HX.out).symm, hB⟩
  have e1 : ((s.sl.length : Int) != R) = false := by simpa using h1
  by_cases h2 : (s.th.length : Int) = s.cf.th
  case neg =>
    have e2 : ((s.th.length : Int) != s.cf.th) = true := by simpa using h2
    have HX := Lib.hid (st_no_ths h2)
    clear hR h0 h1 h2
    go_enter Tryz.func166, Tryz.ntmps166; go_upto_region 1 with fail; refine wp_abs (fun W => Below w.heap.size w W ∧ Bk W (w.heap.size) [.int .i64 s.cf.lg , .int .i64 s.cf.th , .int .i64 s.cf.po , .int .i64 s.cf.wt , .int .i64 s.cf.sp , .int .i64 s.cf.yi , .bool s.cf.si , .int .i64 s.hd , .int .i64 s.tl , .int .i64 s.md , .slice z.p1 s.sl.length z.k1 , .slice z.p2 s.sn.length z.k2 , .slice z.p3 s.rc.length z.k3 , .int .i64 s.fe , .slice z.p4 s.fl.length z.k4 , .int .i64 s.ee , .slice z.p5 s.el.length z.k5 , .int .i64 s.nw , .slice z.p6 s.th.length z.k6 , .slice z.p7 s.lg.length z.k7]) ⟨by repeat' (first | (with_reducible exact Below.refl _ _) | (with_reducible assumption) | (with_reducible refine kept_alloc ?_ _) | (with_reducible refine kept_drewN ?_ _) | (with_reducible refine Below.drew ?_) | (with_reducible refine Below.setCell ?_ (by first | omega | (simp; omega) | (simp; done)) _) | (refine kept_trans ?_ (by with_reducible assumption))), (by repeat (first | (exact Bk.new (by first | rfl | (simp; done) | (simp; omega))) | (refine Bk.past ?_)))⟩ ?_; rintro V ⟨hB, hk0⟩; go_wp2_with ((first | (refine ldoC (by rfl) rfl rfl (by first | assumption | exact Bk.past (by assumption)) (by repeat' (first | rfl | (refine ⟨?_, ?_⟩))) ?_))); refine (rroom_val HR.out _).mono ?_; rintro e w1 ⟨rfl, hgx⟩; have hBx : Below w.heap.size w w1 := (by repeat' (first | (with_reducible exact Below.refl _ _) | (with_reducible assumption) | (with_reducible refine kept_alloc ?_ _) | (with_reducible refine kept_drewN ?_ _) | (with_reducible refine Below.drew ?_) | (with_reducible refine Below.setCell ?_ (by first | omega | (simp; omega) | (simp; done)) _) | (refine kept_trans ?_ (by with_reducible assumption)))); (try replace hk0 := Bk.kept (by first | exact hk0 | exact Bk.past hk0 | exact Bk.past (Bk.past hk0)) hgx); (try replace hC := kept_trans hC hgx); replace hB := hBx; clear hBx hgx
    go_wp2_with (first | (refine ldoi (by rfl) rfl rfl (by first | assumption | exact Bk.past (by assumption)) rfl ?_) | (refine ldos (by rfl) rfl rfl (by first | assumption | exact Bk.past (by assumption)) rfl ?_) | (refine ldot (by rfl) rfl rfl (by first | assumption | exact Bk.past (by assumption)) rfl ?_)); go_ret; exact ⟨ret_bool (HX.out).symm, hB⟩
  have e2 : ((s.th.length : Int) != s.cf.th) = false := by simpa using h2
  cases h3 : decide (s.nw < 0)
  case true =>
    have HX := Lib.hid (st_no_lo (s := s) (by simpa using h3))
    clear hR h0 h1 h2
    go_enter Tryz.func166, Tryz.ntmps166; go_upto_region 1 with fail; refine wp_abs (fun W => Below w.heap.size w W ∧ Bk W (w.heap.size) [.int .i64 s.cf.lg , .int .i64 s.cf.th , .int .i64 s.cf.po , .int .i64 s.cf.wt , .int .i64 s.cf.sp , .int .i64 s.cf.yi , .bool s.cf.si , .int .i64 s.hd , .int .i64 s.tl , .int .i64 s.md , .slice z.p1 s.sl.length z.k1 , .slice z.p2 s.sn.length z.k2 , .slice z.p3 s.rc.length z.k3 , .int .i64 s.fe , .slice z.p4 s.fl.length z.k4 , .int .i64 s.ee , .slice z.p5 s.el.length z.k5 , .int .i64 s.nw , .slice z.p6 s.th.length z.k6 , .slice z.p7 s.lg.length z.k7]) ⟨by repeat' (first | (with_reducible exact Below.refl _ _) | (with_reducible assumption) | (with_reducible refine kept_alloc ?_ _) | (with_reducible refine kept_drewN ?_ _) | (with_reducible refine Below.drew ?_) | (with_reducible refine Below.setCell ?_ (by first | omega | (simp; omega) | (simp; done)) _) | (refine kept_trans ?_ (by with_reducible assumption))), (by repeat (first | (exact Bk.new (by first | rfl | (simp; done) | (simp; omega))) | (refine Bk.past ?_)))⟩ ?_; rintro V ⟨hB, hk0⟩; go_wp2_with ((first | (refine ldoC (by rfl) rfl rfl (by first | assumption | exact Bk.past (by assumption)) (by repeat' (first | rfl | (refine ⟨?_, ?_⟩))) ?_))); refine (rroom_val HR.out _).mono ?_; rintro e w1 ⟨rfl, hgx⟩; have hBx : Below w.heap.size w w1 := (by repeat' (first | (with_reducible exact Below.refl _ _) | (with_reducible assumption) | (with_reducible refine kept_alloc ?_ _) | (with_reducible refine kept_drewN ?_ _) | (with_reducible refine Below.drew ?_) | (with_reducible refine Below.setCell ?_ (by first | omega | (simp; omega) | (simp; done)) _) | (refine kept_trans ?_ (by with_reducible assumption)))); (try replace hk0 := Bk.kept (by first | exact hk0 | exact Bk.past hk0 | exact Bk.past (Bk.past hk0)) hgx); (try replace hC := kept_trans hC hgx); replace hB := hBx; clear hBx hgx
    go_wp2_with (first | (refine ldoi (by rfl) rfl rfl (by first | assumption | exact Bk.past (by assumption)) rfl ?_) | (refine ldos (by rfl) rfl rfl (by first | assumption | exact Bk.past (by assumption)) rfl ?_) | (refine ldot (by rfl) rfl rfl (by first | assumption | exact Bk.past (by assumption)) rfl ?_)); go_ret; exact ⟨ret_bool (HX.out).symm, hB⟩
  cases h4 : decide (1099511627776 < s.nw)
  case true =>
    have HX := Lib.hid (st_no_hi (s := s) (by simpa using h4))
    clear hR h0 h1 h2
    go_enter Tryz.func166, Tryz.ntmps166; go_upto_region 1 with fail; refine wp_abs (fun W => Below w.heap.size w W ∧ Bk W (w.heap.size) [.int .i64 s.cf.lg , .int .i64 s.cf.th , .int .i64 s.cf.po , .int .i64 s.cf.wt , .int .i64 s.cf.sp , .int .i64 s.cf.yi , .bool s.cf.si , .int .i64 s.hd , .int .i64 s.tl , .int .i64 s.md , .slice z.p1 s.sl.length z.k1 , .slice z.p2 s.sn.length z.k2 , .slice z.p3 s.rc.length z.k3 , .int .i64 s.fe , .slice z.p4 s.fl.length z.k4 , .int .i64 s.ee , .slice z.p5 s.el.length z.k5 , .int .i64 s.nw , .slice z.p6 s.th.length z.k6 , .slice z.p7 s.lg.length z.k7]) ⟨by repeat' (first | (with_reducible exact Below.refl _ _) | (with_reducible assumption) | (with_reducible refine kept_alloc ?_ _) | (with_reducible refine kept_drewN ?_ _) | (with_reducible refine Below.drew ?_) | (with_reducible refine Below.setCell ?_ (by first | omega | (simp; omega) | (simp; done)) _) | (refine kept_trans ?_ (by with_reducible assumption))), (by repeat (first | (exact Bk.new (by first | rfl | (simp; done) | (simp; omega))) | (refine Bk.past ?_)))⟩ ?_; rintro V ⟨hB, hk0⟩; go_wp2_with ((first | (refine ldoC (by rfl) rfl rfl (by first | assumption | exact Bk.past (by assumption)) (by repeat' (first | rfl | (refine ⟨?_, ?_⟩))) ?_))); refine (rroom_val HR.out _).mono ?_; rintro e w1 ⟨rfl, hgx⟩; have hBx : Below w.heap.size w w1 := (by repeat' (first | (with_reducible exact Below.refl _ _) | (with_reducible assumption) | (with_reducible refine kept_alloc ?_ _) | (with_reducible refine kept_drewN ?_ _) | (with_reducible refine Below.drew ?_) | (with_reducible refine Below.setCell ?_ (by first | omega | (simp; omega) | (simp; done)) _) | (refine kept_trans ?_ (by with_reducible assumption)))); (try replace hk0 := Bk.kept (by first | exact hk0 | exact Bk.past hk0 | exact Bk.past (Bk.past hk0)) hgx); (try replace hC := kept_trans hC hgx); replace hB := hBx; clear hBx hgx
    go_wp2_with (first | (refine ldoi (by rfl) rfl rfl (by first | assumption | exact Bk.past (by assumption)) rfl ?_) | (refine ldos (by rfl) rfl rfl (by first | assumption | exact Bk.past (by assumption)) rfl ?_) | (refine ldot (by rfl) rfl rfl (by first | assumption | exact Bk.past (by assumption)) rfl ?_)); go_ret; exact ⟨ret_bool (HX.out).symm, hB⟩
  have HALL := Lib.hid (st_all hR h0 h1 h2 (by simpa using h3) (by simpa using h4))
  have hc : cfB s.cf = true := by
    cases hb : cfB s.cf
    · exact absurd (hR ▸ (room_no hb : cfR s.cf = 0)) h0
    · rfl
  have ht1 := (cf_th hc).1
  obtain ⟨_, _, e9, _, hkm, _, hne⟩ := HS.out.th.is
  cases e9
  obtain ⟨b, o, hp, hb, -⟩ := hne (by intro h; rw [h] at h2; simp at h2; omega)
  obtain ⟨p1, k1, p2, k2, p3, k3, p4, k4, p5, k5, p6, k6, p7, k7⟩ := z
  dsimp only at hp ⊢
  subst hp
  have hbig : s.th.length ≤ 1000 := HW.out.th
  obtain ⟨A1, h5⟩ : ∃ A, checkB s.hd s.tl s.md R = A := ⟨_, rfl⟩
  obtain ⟨A2, h6⟩ : ∃ A, okSl s.sl = A := ⟨_, rfl⟩
  obtain ⟨A3, h7⟩ : ∃ A, okE s.fe s.fl = A := ⟨_, rfl⟩
  obtain ⟨A4, h8⟩ : ∃ A, okE s.ee s.el = A := ⟨_, rfl⟩
  obtain ⟨S1, h9⟩ : ∃ A, stnB s.cf.th s.sn = A := ⟨_, rfl⟩
  obtain ⟨S2, h10⟩ : ∃ A, stnB s.cf.th s.rc = A := ⟨_, rfl⟩
  obtain ⟨S3, h11⟩ : ∃ A, stnB s.cf.th s.fl = A := ⟨_, rfl⟩
  obtain ⟨S4, h12⟩ : ∃ A, stnB s.cf.th s.el = A := ⟨_, rfl⟩
  have HAL2 : Hid (s.th.any notTh = false → stB s = (A1 && (A2 && (A3 && (A4 && (S1 && (S2 && (S3 && S4)))))))) := Lib.hid (fun h => by rw [HALL.out h, h5, h6, h7, h8, h9, h10, h11, h12])
  have H5 := Lib.hid h5
  have H6 := Lib.hid h6
  have H7 := Lib.hid h7
  have H8 := Lib.hid h8
  have H9 := Lib.hid h9
  have H10 := Lib.hid h10
  have H11 := Lib.hid h11
  have H12 := Lib.hid h12
  clear hR h0 h1 h2 hc ht1 hne hkm h5 h6 h7 h8 h9 h10 h11 h12 HALL
  go_enter Tryz.func166, Tryz.ntmps166; go_upto_region 1 with fail; refine wp_abs (fun W => Below w.heap.size w W ∧ Bk W (w.heap.size) [.int .i64 s.cf.lg , .int .i64 s.cf.th , .int .i64 s.cf.po , .int .i64 s.cf.wt , .int .i64 s.cf.sp , .int .i64 s.cf.yi , .bool s.cf.si , .int .i64 s.hd , .int .i64 s.tl , .int .i64 s.md , .slice (⟨p1, k1, p2, k2, p3, k3, p4, k4, p5, k5, some ⟨b, o, none⟩, k6, p7, k7⟩ : Pz).p1 s.sl.length (⟨p1, k1, p2, k2, p3, k3, p4, k4, p5, k5, some ⟨b, o, none⟩, k6, p7, k7⟩ : Pz).k1 , .slice (⟨p1, k1, p2, k2, p3, k3, p4, k4, p5, k5, some ⟨b, o, none⟩, k6, p7, k7⟩ : Pz).p2 s.sn.length (⟨p1, k1, p2, k2, p3, k3, p4, k4, p5, k5, some ⟨b, o, none⟩, k6, p7, k7⟩ : Pz).k2 , .slice (⟨p1, k1, p2, k2, p3, k3, p4, k4, p5, k5, some ⟨b, o, none⟩, k6, p7, k7⟩ : Pz).p3 s.rc.length (⟨p1, k1, p2, k2, p3, k3, p4, k4, p5, k5, some ⟨b, o, none⟩, k6, p7, k7⟩ : Pz).k3 , .int .i64 s.fe , .slice (⟨p1, k1, p2, k2, p3, k3, p4, k4, p5, k5, some ⟨b, o, none⟩, k6, p7, k7⟩ : Pz).p4 s.fl.length (⟨p1, k1, p2, k2, p3, k3, p4, k4, p5, k5, some ⟨b, o, none⟩, k6, p7, k7⟩ : Pz).k4 , .int .i64 s.ee , .slice (⟨p1, k1, p2, k2, p3, k3, p4, k4, p5, k5, some ⟨b, o, none⟩, k6, p7, k7⟩ : Pz).p5 s.el.length (⟨p1, k1, p2, k2, p3, k3, p4, k4, p5, k5, some ⟨b, o, none⟩, k6, p7, k7⟩ : Pz).k5 , .int .i64 s.nw , .slice (⟨p1, k1, p2, k2, p3, k3, p4, k4, p5, k5, some ⟨b, o, none⟩, k6, p7, k7⟩ : Pz).p6 s.th.length (⟨p1, k1, p2, k2, p3, k3, p4, k4, p5, k5, some ⟨b, o, none⟩, k6, p7, k7⟩ : Pz).k6 , .slice (⟨p1, k1, p2, k2, p3, k3, p4, k4, p5, k5, some ⟨b, o, none⟩, k6, p7, k7⟩ : Pz).p7 s.lg.length (⟨p1, k1, p2, k2, p3, k3, p4, k4, p5, k5, some ⟨b, o, none⟩, k6, p7, k7⟩ : Pz).k7]) ⟨by repeat' (first | (with_reducible exact Below.refl _ _) | (with_reducible assumption) | (with_reducible refine kept_alloc ?_ _) | (with_reducible refine kept_drewN ?_ _) | (with_reducible refine Below.drew ?_) | (with_reducible refine Below.setCell ?_ (by first | omega | (simp; omega) | (simp; done)) _) | (refine kept_trans ?_ (by with_reducible assumption))), (by repeat (first | (exact Bk.new (by first | rfl | (simp; done) | (simp; omega))) | (refine Bk.past ?_)))⟩ ?_; rintro V ⟨hB, hk0⟩; go_wp2_with ((first | (refine ldoC (by rfl) rfl rfl (by first | assumption | exact Bk.past (by assumption)) (by repeat' (first | rfl | (refine ⟨?_, ?_⟩))) ?_))); refine (rroom_val HR.out _).mono ?_; rintro e w1 ⟨rfl, hgx⟩; have hBx : Below w.heap.size w w1 := (by repeat' (first | (with_reducible exact Below.refl _ _) | (with_reducible assumption) | (with_reducible refine kept_alloc ?_ _) | (with_reducible refine kept_drewN ?_ _) | (with_reducible refine Below.drew ?_) | (with_reducible refine Below.setCell ?_ (by first | omega | (simp; omega) | (simp; done)) _) | (refine kept_trans ?_ (by with_reducible assumption)))); (try replace hk0 := Bk.kept (by first | exact hk0 | exact Bk.past hk0 | exact Bk.past (Bk.past hk0)) hgx); (try replace hC := kept_trans hC hgx); replace hB := hBx; clear hBx hgx
  go_wp2_with (first | (refine ldoi (by rfl) rfl rfl (by first | assumption | exact Bk.past (by assumption)) rfl ?_) | (refine ldos (by rfl) rfl rfl (by first | assumption | exact Bk.past (by assumption)) rfl ?_) | (refine ldot (by rfl) rfl rfl (by first | assumption | exact Bk.past (by assumption)) rfl ?_))
  go_loopw [4, 5] (fun s4 _ wr => ∃ j : Nat, j ≤ s.th.length ∧ s4 = .int .i64 j ∧ Hid ((s.th.take j).any notTh = false) ∧ Below w.heap.size w wr ∧ Bk wr w.heap.size [.int .i64 s.cf.lg, .int .i64 s.cf.th, .int .i64 s.cf.po, .int .i64 s.cf.wt, .int .i64 s.cf.sp, .int .i64 s.cf.yi, .bool s.cf.si, .int .i64 s.hd, .int .i64 s.tl, .int .i64 s.md, .slice (⟨p1, k1, p2, k2, p3, k3, p4, k4, p5, k5, some ⟨b, o, none⟩, k6, p7, k7⟩ : Pz).p1 s.sl.length (⟨p1, k1, p2, k2, p3, k3, p4, k4, p5, k5, some ⟨b, o, none⟩, k6, p7, k7⟩ : Pz).k1, .slice (⟨p1, k1, p2, k2, p3, k3, p4, k4, p5, k5, some ⟨b, o, none⟩, k6, p7, k7⟩ : Pz).p2 s.sn.length (⟨p1, k1, p2, k2, p3, k3, p4, k4, p5, k5, some ⟨b, o, none⟩, k6, p7, k7⟩ : Pz).k2, .slice (⟨p1, k1, p2, k2, p3, k3, p4, k4, p5, k5, some ⟨b, o, none⟩, k6, p7, k7⟩ : Pz).p3 s.rc.length (⟨p1, k1, p2, k2, p3, k3, p4, k4, p5, k5, some ⟨b, o, none⟩, k6, p7, k7⟩ : Pz).k3, .int .i64 s.fe, .slice (⟨p1, k1, p2, k2, p3, k3, p4, k4, p5, k5, some ⟨b, o, none⟩, k6, p7, k7⟩ : Pz).p4 s.fl.length (⟨p1, k1, p2, k2, p3, k3, p4, k4, p5, k5, some ⟨b, o, none⟩, k6, p7, k7⟩ : Pz).k4, .int .i64 s.ee, .slice (⟨p1, k1, p2, k2, p3, k3, p4, k4, p5, k5, some ⟨b, o, none⟩, k6, p7, k7⟩ : Pz).p5 s.el.length (⟨p1, k1, p2, k2, p3, k3, p4, k4, p5, k5, some ⟨b, o, none⟩, k6, p7, k7⟩ : Pz).k5, .int .i64 s.nw, .slice (⟨p1, k1, p2, k2, p3, k3, p4, k4, p5, k5, some ⟨b, o, none⟩, k6, p7, k7⟩ : Pz).p6 s.th.length (⟨p1, k1, p2, k2, p3, k3, p4, k4, p5, k5, some ⟨b, o, none⟩, k6, p7, k7⟩ : Pz).k6, .slice (⟨p1, k1, p2, k2, p3, k3, p4, k4, p5, k5, some ⟨b, o, none⟩, k6, p7, k7⟩ : Pz).p7 s.lg.length (⟨p1, k1, p2, k2, p3, k3, p4, k4, p5, k5, some ⟨b, o, none⟩, k6, p7, k7⟩ : Pz).k7]) (fun s4 _ _ => s.th.length - (intOf s4).toNat)
  case atStart => exact ⟨0, by omega, rfl, Lib.hid (by simp), hB, hk0⟩
  case round =>
    obtain ⟨j, hj, rfl, T, hB, hk0⟩ := hrel
    by_cases hlt : j < s.th.length
    · obtain ⟨c0, c1, c2, c3, c4, c5, c6, c7, c8, c9, c10⟩ := sth_at (HS.out.th.kept hB) hlt
      have hbw : b < wr.heap.size := Nat.lt_of_lt_of_le hb hB.size
      have i1 : (0 : Int) ≤ (j : Int) := by omega
      have i2 : (j : Int) < (s.th.length : Int) := by omega
      have Hh : Hid (thB (gth s.th j) = false → stB s = false) := Lib.hid (st_no_th hlt)
      have Hn : Hid (thB (gth s.th j) = true → (s.th.take (j + 1)).any notTh = false) := Lib.hid (fun h => any_take hlt (by simp [notTh, h]) T.out)
      generalize gth s.th j = y at *
      cases hy : thB y
      · have HY := Lib.hid hy
        have hn := Lib.hid (Hh.out hy)
        clear Hh Hn hy
        go_wp2_with ((first | (refine ldot (by rfl) rfl rfl (by first | assumption | exact Bk.past (by assumption)) rfl ?_))); refine (rtc_val HY.out _).mono ?_; rintro e w2 ⟨rfl, hgx⟩; have hBx : Below w.heap.size w w2 := (by repeat' (first | (with_reducible exact Below.refl _ _) | (with_reducible assumption) | (with_reducible refine kept_alloc ?_ _) | (with_reducible refine kept_drewN ?_ _) | (with_reducible refine Below.drew ?_) | (with_reducible refine Below.setCell ?_ (by first | omega | (simp; omega) | (simp; done)) _) | (refine kept_trans ?_ (by with_reducible assumption)))); (try replace hk0 := Bk.kept (by first | exact hk0 | exact Bk.past hk0 | exact Bk.past (Bk.past hk0)) hgx); (try replace hC := kept_trans hC hgx); replace hB := hBx; clear hBx hgx
        go_wp2
        go_ret
        exact ⟨ret_bool hn.out.symm, hB⟩
      · have HY := Lib.hid hy
        have hn := Lib.hid (Hn.out hy)
        clear Hh Hn hy
        go_wp2_with ((first | (refine ldot (by rfl) rfl rfl (by first | assumption | exact Bk.past (by assumption)) rfl ?_))); refine (rtc_val HY.out _).mono ?_; rintro e w2 ⟨rfl, hgx⟩; have hBx : Below w.heap.size w w2 := (by repeat' (first | (with_reducible exact Below.refl _ _) | (with_reducible assumption) | (with_reducible refine kept_alloc ?_ _) | (with_reducible refine kept_drewN ?_ _) | (with_reducible refine Below.drew ?_) | (with_reducible refine Below.setCell ?_ (by first | omega | (simp; omega) | (simp; done)) _) | (refine kept_trans ?_ (by with_reducible assumption)))); (try replace hk0 := Bk.kept (by first | exact hk0 | exact Bk.past hk0 | exact Bk.past (Bk.past hk0)) hgx); (try replace hC := kept_trans hC hgx); replace hB := hBx; clear hBx hgx
        go_wp2
        exact ⟨⟨j + 1, by omega, by go_num, hn.out, hB, hk0⟩, by simp [intOf]; omega⟩
    · have : j = s.th.length := by omega
      have HV := Lib.hid (HAL2.out (by have := T.out; rwa [show j = s.th.length by omega, List.take_length] at this))
      have i2 : ¬ (j : Int) < (s.th.length : Int) := by omega
      have i3 : decide ((j : Int) < (s.th.length : Int)) = false := decide_eq_false i2
      clear HAL2 T this
      go_wp2_with ((first | (refine ldot (by rfl) rfl rfl (by first | assumption | exact Bk.past (by assumption)) rfl ?_) | (refine ldoW (by rfl) rfl rfl (by first | assumption | exact Bk.past (by assumption)) (by repeat' (first | rfl | (refine ⟨?_, ?_⟩))) ?_))); refine (rchk_val H5.out HO.out.hd HO.out.tl HO.out.md hRi.out _).mono ?_; rintro e w2 ⟨rfl, hgx⟩; have hBx : Below w.heap.size w w2 := (by repeat' (first | (with_reducible exact Below.refl _ _) | (with_reducible assumption) | (with_reducible refine kept_alloc ?_ _) | (with_reducible refine kept_drewN ?_ _) | (with_reducible refine Below.drew ?_) | (with_reducible refine Below.setCell ?_ (by first | omega | (simp; omega) | (simp; done)) _) | (refine kept_trans ?_ (by with_reducible assumption)))); (try replace hk0 := Bk.kept (by first | exact hk0 | exact Bk.past hk0 | exact Bk.past (Bk.past hk0)) hgx); (try replace hC := kept_trans hC hgx); replace hB := hBx; clear hBx hgx
      cases A1
      · go_wp2_with ((first | (refine ldoE (by rfl) rfl rfl (by first | assumption | exact Bk.past (by assumption)) (by repeat' (first | rfl | (refine ⟨?_, ?_⟩))) ?_))); refine (rev_val H7.out p4 k4 _ (HS.out.fl.kept hB)).mono ?_; rintro e w3 ⟨rfl, hgx⟩; have hBx : Below w.heap.size w w3 := (by repeat' (first | (with_reducible exact Below.refl _ _) | (with_reducible assumption) | (with_reducible refine kept_alloc ?_ _) | (with_reducible refine kept_drewN ?_ _) | (with_reducible refine Below.drew ?_) | (with_reducible refine Below.setCell ?_ (by first | omega | (simp; omega) | (simp; done)) _) | (refine kept_trans ?_ (by with_reducible assumption)))); (try replace hk0 := Bk.kept (by first | exact hk0 | exact Bk.past hk0 | exact Bk.past (Bk.past hk0)) hgx); (try replace hC := kept_trans hC hgx); replace hB := hBx; clear hBx hgx
        cases A3
        · go_wp2_with (first | (refine ldoi (by rfl) rfl rfl (by first | assumption | exact Bk.past (by assumption)) rfl ?_))
          go_ret
          exact ⟨ret_bool (by rw [HV.out]; simp), hB⟩
        · go_wp2_with ((first | (refine ldoE (by rfl) rfl rfl (by first | assumption | exact Bk.past (by assumption)) (by repeat' (first | rfl | (refine ⟨?_, ?_⟩))) ?_))); refine (rev_val H8.out p5 k5 _ (HS.out.el.kept hB)).mono ?_; rintro e w4 ⟨rfl, hgx⟩; have hBx : Below w.heap.size w w4 := (by repeat' (first | (with_reducible exact Below.refl _ _) | (with_reducible assumption) | (with_reducible refine kept_alloc ?_ _) | (with_reducible refine kept_drewN ?_ _) | (with_reducible refine Below.drew ?_) | (with_reducible refine Below.setCell ?_ (by first | omega | (simp; omega) | (simp; done)) _) | (refine kept_trans ?_ (by with_reducible assumption)))); (try replace hk0 := Bk.kept (by first | exact hk0 | exact Bk.past hk0 | exact Bk.past (Bk.past hk0)) hgx); (try replace hC := kept_trans hC hgx); replace hB := hBx; clear hBx hgx
          go_wp2_with (first | (refine ldoi (by rfl) rfl rfl (by first | assumption | exact Bk.past (by assumption)) rfl ?_))
          go_ret
          exact ⟨ret_bool (by rw [HV.out]; simp), hB⟩
      go_wp2_with ((first | (refine ldos (by rfl) rfl rfl (by first | assumption | exact Bk.past (by assumption)) rfl ?_))); refine (rsl_val H6.out p1 k1 _ (HS.out.sl.kept hB) HW.out.sl).mono ?_; rintro e w3 ⟨rfl, hgx⟩; have hBx : Below w.heap.size w w3 := (by repeat' (first | (with_reducible exact Below.refl _ _) | (with_reducible assumption) | (with_reducible refine kept_alloc ?_ _) | (with_reducible refine kept_drewN ?_ _) | (with_reducible refine Below.drew ?_) | (with_reducible refine Below.setCell ?_ (by first | omega | (simp; omega) | (simp; done)) _) | (refine kept_trans ?_ (by with_reducible assumption)))); (try replace hk0 := Bk.kept (by first | exact hk0 | exact Bk.past hk0 | exact Bk.past (Bk.past hk0)) hgx); (try replace hC := kept_trans hC hgx); replace hB := hBx; clear hBx hgx
      go_wp2_with ((first | (refine ldoE (by rfl) rfl rfl (by first | assumption | exact Bk.past (by assumption)) (by repeat' (first | rfl | (refine ⟨?_, ?_⟩))) ?_))); refine (rev_val H7.out p4 k4 _ (HS.out.fl.kept hB)).mono ?_; rintro e w4 ⟨rfl, hgx⟩; have hBx : Below w.heap.size w w4 := (by repeat' (first | (with_reducible exact Below.refl _ _) | (with_reducible assumption) | (with_reducible refine kept_alloc ?_ _) | (with_reducible refine kept_drewN ?_ _) | (with_reducible refine Below.drew ?_) | (with_reducible refine Below.setCell ?_ (by first | omega | (simp; omega) | (simp; done)) _) | (refine kept_trans ?_ (by with_reducible assumption)))); (try replace hk0 := Bk.kept (by first | exact hk0 | exact Bk.past hk0 | exact Bk.past (Bk.past hk0)) hgx); (try replace hC := kept_trans hC hgx); replace hB := hBx; clear hBx hgx
      cases A3
      · cases A2
        · go_wp2_with (first | (refine ldoi (by rfl) rfl rfl (by first | assumption | exact Bk.past (by assumption)) rfl ?_))
          go_ret
          exact ⟨ret_bool (by rw [HV.out]; simp), hB⟩
        · go_wp2_with (first | (refine ldoi (by rfl) rfl rfl (by first | assumption | exact Bk.past (by assumption)) rfl ?_))
          go_ret
          exact ⟨ret_bool (by rw [HV.out]; simp), hB⟩
      go_wp2_with ((first | (refine ldoE (by rfl) rfl rfl (by first | assumption | exact Bk.past (by assumption)) (by repeat' (first | rfl | (refine ⟨?_, ?_⟩))) ?_))); refine (rev_val H8.out p5 k5 _ (HS.out.el.kept hB)).mono ?_; rintro e w5 ⟨rfl, hgx⟩; have hBx : Below w.heap.size w w5 := (by repeat' (first | (with_reducible exact Below.refl _ _) | (with_reducible assumption) | (with_reducible refine kept_alloc ?_ _) | (with_reducible refine kept_drewN ?_ _) | (with_reducible refine Below.drew ?_) | (with_reducible refine Below.setCell ?_ (by first | omega | (simp; omega) | (simp; done)) _) | (refine kept_trans ?_ (by with_reducible assumption)))); (try replace hk0 := Bk.kept (by first | exact hk0 | exact Bk.past hk0 | exact Bk.past (Bk.past hk0)) hgx); (try replace hC := kept_trans hC hgx); replace hB := hBx; clear hBx hgx
      cases A2
      · go_wp2_with (first | (refine ldoi (by rfl) rfl rfl (by first | assumption | exact Bk.past (by assumption)) rfl ?_))
        go_ret
        exact ⟨ret_bool (by rw [HV.out]; simp), hB⟩
      cases A4
      · go_wp2_with (first | (refine ldoi (by rfl) rfl rfl (by first | assumption | exact Bk.past (by assumption)) rfl ?_))
        go_ret
        exact ⟨ret_bool (by rw [HV.out]; simp), hB⟩
      go_wp2_with ((first | (refine ldoi (by rfl) rfl rfl (by first | assumption | exact Bk.past (by assumption)) rfl ?_) | (refine ldol (by rfl) rfl rfl (by first | assumption | exact Bk.past (by assumption)) rfl ?_))); refine (ramong_val H9.out p2 k2 _ (HS.out.sn.kept hB)).mono ?_; rintro e w6 ⟨rfl, hgx⟩; have hBx : Below w.heap.size w w6 := (by repeat' (first | (with_reducible exact Below.refl _ _) | (with_reducible assumption) | (with_reducible refine kept_alloc ?_ _) | (with_reducible refine kept_drewN ?_ _) | (with_reducible refine Below.drew ?_) | (with_reducible refine Below.setCell ?_ (by first | omega | (simp; omega) | (simp; done)) _) | (refine kept_trans ?_ (by with_reducible assumption)))); (try replace hk0 := Bk.kept (by first | exact hk0 | exact Bk.past hk0 | exact Bk.past (Bk.past hk0)) hgx); (try replace hC := kept_trans hC hgx); replace hB := hBx; clear hBx hgx
      cases S1
      · go_wp2
        go_ret
        exact ⟨ret_bool (by rw [HV.out]; simp), hB⟩
      go_wp2_with ((first | (refine ldoi (by rfl) rfl rfl (by first | assumption | exact Bk.past (by assumption)) rfl ?_) | (refine ldol (by rfl) rfl rfl (by first | assumption | exact Bk.past (by assumption)) rfl ?_))); refine (ramong_val H10.out p3 k3 _ (HS.out.rc.kept hB)).mono ?_; rintro e w7 ⟨rfl, hgx⟩; have hBx : Below w.heap.size w w7 := (by repeat' (first | (with_reducible exact Below.refl _ _) | (with_reducible assumption) | (with_reducible refine kept_alloc ?_ _) | (with_reducible refine kept_drewN ?_ _) | (with_reducible refine Below.drew ?_) | (with_reducible refine Below.setCell ?_ (by first | omega | (simp; omega) | (simp; done)) _) | (refine kept_trans ?_ (by with_reducible assumption)))); (try replace hk0 := Bk.kept (by first | exact hk0 | exact Bk.past hk0 | exact Bk.past (Bk.past hk0)) hgx); (try replace hC := kept_trans hC hgx); replace hB := hBx; clear hBx hgx
      cases S2
      · go_wp2
        go_ret
        exact ⟨ret_bool (by rw [HV.out]; simp), hB⟩
      go_wp2_with ((first | (refine ldoi (by rfl) rfl rfl (by first | assumption | exact Bk.past (by assumption)) rfl ?_) | (refine ldol (by rfl) rfl rfl (by first | assumption | exact Bk.past (by assumption)) rfl ?_))); refine (ramong_val H11.out p4 k4 _ (HS.out.fl.kept hB)).mono ?_; rintro e w8 ⟨rfl, hgx⟩; have hBx : Below w.heap.size w w8 := (by repeat' (first | (with_reducible exact Below.refl _ _) | (with_reducible assumption) | (with_reducible refine kept_alloc ?_ _) | (with_reducible refine kept_drewN ?_ _) | (with_reducible refine Below.drew ?_) | (with_reducible refine Below.setCell ?_ (by first | omega | (simp; omega) | (simp; done)) _) | (refine kept_trans ?_ (by with_reducible assumption)))); (try replace hk0 := Bk.kept (by first | exact hk0 | exact Bk.past hk0 | exact Bk.past (Bk.past hk0)) hgx); (try replace hC := kept_trans hC hgx); replace hB := hBx; clear hBx hgx
      cases S3
      · go_wp2
        go_ret
        exact ⟨ret_bool (by rw [HV.out]; simp), hB⟩
      go_wp2_with ((first | (refine ldoi (by rfl) rfl rfl (by first | assumption | exact Bk.past (by assumption)) rfl ?_) | (refine ldol (by rfl) rfl rfl (by first | assumption | exact Bk.past (by assumption)) rfl ?_))); refine (ramong_val H12.out p5 k5 _ (HS.out.el.kept hB)).mono ?_; rintro e w9 ⟨rfl, hgx⟩; have hBx : Below w.heap.size w w9 := (by repeat' (first | (with_reducible exact Below.refl _ _) | (with_reducible assumption) | (with_reducible refine kept_alloc ?_ _) | (with_reducible refine kept_drewN ?_ _) | (with_reducible refine Below.drew ?_) | (with_reducible refine Below.setCell ?_ (by first | omega | (simp; omega) | (simp; done)) _) | (refine kept_trans ?_ (by with_reducible assumption)))); (try replace hk0 := Bk.kept (by first | exact hk0 | exact Bk.past hk0 | exact Bk.past (Bk.past hk0)) hgx); (try replace hC := kept_trans hC hgx); replace hB := hBx; clear hBx hgx
      go_wp2
      go_ret
      exact ⟨ret_bool (by rw [HV.out]; simp), hB⟩
end Go.Proofs.YtfllnpcoggmepaaGreat

/- Contracts told by abstract values: what a step of the document's calls. -/
namespace Go.Proofs.YtfllnpcoggmepaaGreat
set_option linter.unusedVariables false
set_option linter.unusedSimpArgs false
open Go.RowKit
theorem ac_rcheck {s : St} {b : Bool} (h : stB s = b) (ho : s.ok) (hw : s.few) : AC Tryz.prog 166 [stT s] (.bool b) := by
  intro O W vs hl hat ; obtain ⟨ys, rfl, _, _, rfl, h0, rfl⟩ := args_of hat
  obtain ⟨z, rfl, hs⟩ := rp_stT.1 h0
  refine (rcheckS_any s z W hs.at ho hw).mono ?_
  rintro e W' ⟨rfl, hk⟩
  exact ⟨_, rfl, rp_bool.2 (by rw [h]), hk⟩
theorem ac_rlcheck {l : List Int} {b : Bool} (h : okLn l = b) : AC Tryz.prog 88 [rowI l] (.bool b) := by
  intro O W vs hl hat ; obtain ⟨ys, rfl, _, _, rfl, h0, rfl⟩ := args_of hat
  obtain ⟨p, k, rfl, hs⟩ := rp_rowI.1 h0
  refine (rlcheck_any l p k W hs.s).mono ?_
  rintro e W' ⟨rfl, hk⟩
  exact ⟨_, rfl, rp_bool.2 (by rw [h]), hk⟩
theorem ac_rlat {l : List Int} {i v : Int} (h : ixI l i = v) : AC Tryz.prog 89 [rowI l, .int .i64 i] (.int .i64 v) := by
  intro O W vs hl hat ; obtain ⟨ys, rfl, _, _, rfl, h0, _, _, rfl, h1, rfl⟩ := args_of hat
  obtain ⟨p, k, rfl, hs⟩ := rp_rowI.1 h0
  rw [rp_int] at h1
  subst h1
  refine (rat_any l i p k W hs.s).mono ?_
  rintro e W' ⟨rfl, hk⟩
  exact ⟨_, rfl, rp_int.2 (by rw [h]), hk⟩
theorem ac_rlplace {l : List Int} {i v : Int} (h : plI l i = v) : AC Tryz.prog 90 [rowI l, .int .i64 i] (.int .i64 v) := by
  intro O W vs hl hat ; obtain ⟨ys, rfl, _, _, rfl, h0, _, _, rfl, h1, rfl⟩ := args_of hat
  obtain ⟨p, k, rfl, hs⟩ := rp_rowI.1 h0
  rw [rp_int] at h1
  subst h1
  refine (rlplace_any l i p k W hs.s).mono ?_
  rintro e W' ⟨rfl, hk⟩
  exact ⟨_, rfl, rp_int.2 (by rw [h]), hk⟩
theorem ac_recheck {ep : Int} {l : List Int} {b : Bool} (h : okE ep l = b) : AC Tryz.prog 99 [evT ep l] (.bool b) := by
  intro O W vs hl hat ; obtain ⟨ys, rfl, _, _, rfl, h0, rfl⟩ := args_of hat
  obtain ⟨p, k, rfl, hs⟩ := rp_evT.1 h0
  refine (rev_check ep l p k W hs.s).mono ?_
  rintro e W' ⟨rfl, hk⟩
  exact ⟨_, rfl, rp_bool.2 (by rw [h]), hk⟩
theorem ac_renext {ep : Int} (h : 0 ≤ ep ∧ ep ≤ 1099511627776) : AC Tryz.prog 100 [.int .i64 ep] (.int .i64 (nxE ep)) := by
  intro O W vs hl hat ; obtain ⟨ys, rfl, _, _, rfl, h0, rfl⟩ := args_of hat
  rw [rp_int] at h0
  subst h0
  refine (rev_next ep h W).mono ?_
  rintro e W' ⟨rfl, hk⟩
  exact ⟨_, rfl, rp_int.2 rfl, hk⟩
theorem ac_rprep {ep : Int} {l : List Int} (h : okE ep l = true) : AC Tryz.prog 43 [evT ep l] (.int .i64 ep) := by
  intro O W vs hl hat ; obtain ⟨ys, rfl, _, _, rfl, h0, rfl⟩ := args_of hat
  obtain ⟨p, k, rfl, hs⟩ := rp_evT.1 h0
  refine (rev_prep h p k W hs.s).mono ?_
  rintro e W' ⟨rfl, hk⟩
  exact ⟨_, rfl, rp_int.2 rfl, hk⟩
theorem ac_rscheck {l : List Slo} {b : Bool} (h : okSl l = b) (hm : l.length ≤ 1000) : AC Tryz.prog 95 [rowS l] (.bool b) := by
  intro O W vs hl hat ; obtain ⟨ys, rfl, _, _, rfl, h0, rfl⟩ := args_of hat
  obtain ⟨p, k, rfl, hs⟩ := rp_rowS.1 h0
  refine (rscheck_any l p k W hs.s hm).mono ?_
  rintro e W' ⟨rfl, hk⟩
  exact ⟨_, rfl, rp_bool.2 (by rw [h]), hk⟩
theorem ac_rsready {l : List Slo} {q : Int} {b : Bool} (h : rdyB l q = b) (hm : l.length ≤ 1000) (hq : In64 q) : AC Tryz.prog 96 [rowS l, .int .i64 q] (.bool b) := by
  intro O W vs hl hat ; obtain ⟨ys, rfl, _, _, rfl, h0, _, _, rfl, h1, rfl⟩ := args_of hat
  obtain ⟨p, k, rfl, hs⟩ := rp_rowS.1 h0
  rw [rp_int] at h1
  subst h1
  refine (rsready_any l q p k W hs.s hm hq).mono ?_
  rintro e W' ⟨rfl, hk⟩
  exact ⟨_, rfl, rp_bool.2 (by rw [h]), hk⟩
theorem ac_rsread (l : List Slo) (q : Int) (hm : l.length ≤ 1000) (hq : In64 q) : AC Tryz.prog 108 [rowS l, .int .i64 q] (.tuple #[.int .i64 (rdV l q), .int .i64 (rdE l q)]) := by
  intro O W vs hl hat ; obtain ⟨ys, rfl, _, _, rfl, h0, _, _, rfl, h1, rfl⟩ := args_of hat
  obtain ⟨p, k, rfl, hs⟩ := rp_rowS.1 h0
  rw [rp_int] at h1
  subst h1
  refine (rsread_any l q p k W hs.s hm hq).mono ?_
  rintro e W' ⟨rfl, hk⟩
  exact ⟨_, rfl, tup2 (rp_int.2 rfl) (rp_int.2 rfl), hk⟩
theorem ac_rplc {p r c : Int} (hc : placeI p r = c) (hp : In64 p) (hr : In64 r) : AC Tryz.prog 168 [.int .i64 p, .int .i64 r] (.int .i64 c) := by
  intro O W vs hl hat ; obtain ⟨ys, rfl, _, _, rfl, h0, _, _, rfl, h1, rfl⟩ := args_of hat
  rw [rp_int] at h0 h1
  subst h0 h1
  refine (rplace_val hc hp hr W).mono ?_
  rintro e W' ⟨rfl, hk⟩
  exact ⟨_, rfl, rp_int.2 rfl, hk⟩
theorem ac_raccept (h t m r : Int) (hh : In64 h) (ht : In64 t) (hm : In64 m) (hr : In64 r) : AC Tryz.prog 98 [wdT h t m, .int .i64 r] (.tuple #[wdT h (acT h t m r) m, .int .i64 (acP h t m r), .int .i64 (acR h t m r)]) := er_accept hh ht hm hr
theorem ac_revict {h t m r x : Int} {b : Bool} (hb : evwB h t m r x = b) (hh : In64 h) (ht : In64 t) (hm : In64 m) (hr : In64 r) (hx : In64 x) : AC Tryz.prog 106 [wdT h t m, .int .i64 r, .int .i64 x] (.tuple #[wdT (evH h t m r x) t m, .bool b]) := hb ▸ er_evict hh ht hm hr
theorem ac_rnext (c : Cf) (n : Int) : AC Tryz.prog 167 [cfT c, .int .i64 n] (.int .i64 (wtnI c.lg c.th c.po c.wt c.sp c.yi n)) := by
  intro O W vs hl hat ; obtain ⟨ys, rfl, _, _, rfl, h0, _, _, rfl, h1, rfl⟩ := args_of hat
  rw [rp_cfT] at h0
  rw [rp_int] at h1
  subst h0 h1
  refine (rwnext_any c.lg c.th c.po c.wt c.sp c.yi c.si n W).mono ?_
  rintro e W' ⟨rfl, hk⟩
  exact ⟨_, rfl, rp_int.2 rfl, hk⟩
theorem ac_rside {k v : Int} (h : opSide k = v) : AC Tryz.prog 87 [.int .i64 k] (.int .i64 v) := by
  intro O W vs hl hat ; obtain ⟨ys, rfl, _, _, rfl, h0, rfl⟩ := args_of hat
  rw [rp_int] at h0
  subst h0
  refine (roside_any k W).mono ?_
  rintro e W' ⟨rfl, hk⟩
  exact ⟨_, rfl, rp_int.2 (by rw [h]), hk⟩
theorem ac_rpark {t : Th} {p e : Int} {r : Th} (h : thPark t p e r) : AC Tryz.prog 103 [thT t, .int .i64 p] (.tuple #[thT r, .int .i64 e]) := by
  intro O W vs hl hat ; obtain ⟨ys, rfl, _, _, rfl, h0, _, _, rfl, h1, rfl⟩ := args_of hat
  rw [rp_thT] at h0
  rw [rp_int] at h1
  subst h0 h1
  refine (rtpark_val h W).mono ?_
  rintro e W' ⟨rfl, hk⟩
  exact ⟨_, rfl, tup2 (rp_thT.2 rfl) (rp_int.2 rfl), hk⟩
theorem ac_rdone {t : Th} {e : Int} {r : Th} (h : thDone t e r) : AC Tryz.prog 50 [thT t] (.tuple #[thT r, .int .i64 e]) := by
  intro O W vs hl hat ; obtain ⟨ys, rfl, _, _, rfl, h0, rfl⟩ := args_of hat
  rw [rp_thT] at h0
  subst h0
  refine (rtdone_val h W).mono ?_
  rintro e W' ⟨rfl, hk⟩
  exact ⟨_, rfl, tup2 (rp_thT.2 rfl) (rp_int.2 rfl), hk⟩
theorem ac_rtwake (t : Th) : AC Tryz.prog 101 [thT t] (thT (wakeT t)) := by
  intro O W vs hl hat ; obtain ⟨ys, rfl, _, _, rfl, h0, rfl⟩ := args_of hat
  rw [rp_thT] at h0
  subst h0
  refine (rtwake_val (wk_is t) W).mono ?_
  rintro e W' ⟨rfl, hk⟩
  exact ⟨_, rfl, rp_thT.2 rfl, hk⟩
/-! ### Lists -/
theorem app_is {α : Type} {f : α → Value} {l m r : List α} (h : r = l ++ m) (hm : l.length + m.length ≤ 1048576) : AppP r.length (r.map f) l.length (l.map f) m.length (m.map f) := ⟨by rw [h]; simp, by rw [h]; simp, hm⟩
theorem app_e {α : Type} {f : α → Value} {l : List α} (hm : l.length ≤ 1048576) : AppP l.length (l.map f) 0 [] l.length (l.map f) := ⟨by simp, by simp, by omega⟩
theorem sub_take {α : Type} {f : α → Value} {l : List α} {k : Nat} (h : k ≤ l.length) : SubP (l.take k).length ((l.take k).map f) l.length (l.map f) 0 k := ⟨by omega, by omega, by omega, by simp; omega, by rw [List.length_take, Nat.min_eq_left h]; simp [List.map_take]⟩
theorem sub_drop {α : Type} {f : α → Value} {l : List α} {k : Nat} {a : Int} (ha : a = k) (h : k ≤ l.length) : SubP (l.drop k).length ((l.drop k).map f) l.length (l.map f) a l.length := by
  subst ha
  refine ⟨by omega, by omega, by omega, by simp; omega, ?_⟩
  rw [Int.toNat_natCast, List.length_drop, List.map_drop, List.take_of_length_le (by simp)]
theorem lenIs (l : List Int) : l.length = (l.map (Value.int .i64 ·)).length := by simp
set_option maxRecDepth 100000 in
theorem ac_renter {l : List Int} {i : Int} (hok : okLn l = true) (hi : 0 ≤ i ∧ i ≤ 15) : AC Tryz.prog 37 [rowI l, .int .i64 i] (.tuple #[rowI (entL l i), .int .i64 (entE l i)]) := by
  have hn : noneB 16 i = false := by simp [noneB]; omega
  have hlen := ok_len hok
  by_cases hm : i ∈ l
  · have e : entE l i = 60 := by simp [entE, hok, hn, hm]
    rw [show entL l i = l by simp [entL, e], e]
    exact ac_path mixed (ext := [88, 89]) (fuel := 9) (n := 5) (orc := [vD true, .bool false, .bool false, .int .i64 (ixI l i), .bool true])
      (an (ac_rlcheck hok) <| an (show decide (i < 0) = false by simp; omega) <| an (show decide (15 < i) = false by simp; omega) <| an (ac_rlat (l := l) (i := i) rfl) <| an (show decide (0 ≤ ixI l i) = true by simpa using ix_nonneg.2 hm) trivial) (by kernel_rfl)
  · have e : entE l i = 0 := by simp [entE, hok, hn, hm]
    rw [ent_yes e, e]
    exact ac_path mixed (ext := [88, 89]) (fuel := 9) (n := 5) (orc := [vD true, .bool false, .bool false, .int .i64 (ixI l i), .bool false, rowI l, rowI (l ++ [i])])
      (an (ac_rlcheck hok) <| an (show decide (i < 0) = false by simp; omega) <| an (show decide (15 < i) = false by simp; omega) <| an (ac_rlat (l := l) (i := i) rfl) <| an (show decide (0 ≤ ixI l i) = false by have := fun h => hm (ix_nonneg.1 h); simpa using this) <|
        an (allK_I l) <| an (rfl : (0 : Nat) = 0) <| an (app_e (f := (Value.int .i64 ·)) (l := l) (by omega)) <| an (rfl : (1 : Nat) = 1) <| an (allK_I [i]) <| an (lenIs l) <| an (app_is (f := (Value.int .i64 ·)) (l := l) (m := [i]) rfl (by simp; omega)) <| an (len_map (f := (Value.int .i64 ·)) (l ++ [i])) trivial) (by kernel_rfl)
set_option maxRecDepth 100000 in
theorem ac_rleave {l : List Int} {i : Int} (hok : okLn l = true) : AC Tryz.prog 49 [rowI l, .int .i64 i] (.tuple #[rowI (lvL l i), .int .i64 (lvE l i)]) := by
  have hlen := ok_len hok
  by_cases h : plI l i < 0
  · rw [show lvL l i = l by simp [lvL, h], show lvE l i = 40 by simp [lvE, h]]
    exact ac_path mixed (ext := [90]) (fuel := 9) (n := 5) (orc := [.int .i64 (plI l i), .bool true]) (an (ac_rlplace (l := l) (i := i) rfl) <| an (show decide (plI l i < 0) = true by simpa using h) trivial) (by kernel_rfl)
  · have hg := pl_ge (l := l) (i := i)
    obtain ⟨k, hk⟩ : ∃ k : Nat, plI l i = k := ⟨(plI l i).toNat, by omega⟩
    have hkl : k < l.length := by omega
    rw [show lvL l i = l.eraseIdx k by unfold lvL; rw [if_neg h, hk, Int.toNat_natCast], show lvE l i = 0 by simp [lvE, h]]
    exact ac_path mixed (ext := [90]) (fuel := 9) (n := 5) (orc := [.int .i64 k, .bool false, rowI (l.take k), rowI (l.take k), rowI (l.drop (k + 1)), rowI (l.eraseIdx k)])
      (an (ac_rlplace hk) <| an (show decide ((k : Int) < 0) = false by simp) <| an (sub_take (f := (Value.int .i64 ·)) (l := l) (k := k) (by omega)) <| an (allK_I l) <| an (allK_I (l.take k)) <| an (rfl : (0 : Nat) = 0) <| an (app_e (f := (Value.int .i64 ·)) (l := l.take k) (by simp; omega)) <| an (show In64 ((k : Int) + 1) by constructor <;> omega) <|
        an (sub_drop (f := (Value.int .i64 ·)) (l := l) (k := k + 1) (a := (k : Int) + 1) (by omega) (by omega)) <| an (allK_I l) <| an (allK_I (l.drop (k + 1))) <| an (lenIs (l.take k)) <| an (app_is (f := (Value.int .i64 ·)) (l := l.take k) (m := l.drop (k + 1)) (r := l.eraseIdx k) (List.eraseIdx_eq_take_drop_succ l k) (by simp; omega)) <| an (len_map (f := (Value.int .i64 ·)) (l.eraseIdx k)) trivial) (by kernel_rfl)
set_option maxRecDepth 100000 in
theorem ac_rnotify {ep : Int} {l : List Int} (hok : okE ep l = true) : AC Tryz.prog 45 [evT ep l] (.tuple #[evT (ntE ep l) (ntL 1 ep l), .int .i64 (hdI (ntT 1 ep l)), .bool (hdB (ntT 1 ep l))]) := by
  have he := (okE_iff.1 hok).1
  have hlen := ok_len (okE_ln hok)
  rw [show ntE ep l = nxE ep by simp [ntE, hok], show ntL 1 ep l = l.drop 1 by simp [ntL, hok], show ntT 1 ep l = l.take 1 by simp [ntT, hok]]
  cases l with
  | nil => exact ac_path mixed (ext := [99, 100]) (fuel := 9) (n := 5) (orc := [vD true, .nilFunc, .int .i64 (nxE ep)]) (an (ac_recheck hok) <| an (ac_renext he) trivial) (by kernel_rfl)
  | cons x r =>
    exact ac_path mixed (ext := [99, 100]) (fuel := 9) (n := 5) (orc := [vD true, .bool false, .int .i64 (nxE ep), rowI r, rowI r, .int .i64 x])
      (an (ac_recheck hok) <| an (show (((x :: r).length : Int) == 0) = false by simp; omega) <| an (ac_renext he) <| an (sub_drop (f := (Value.int .i64 ·)) (l := x :: r) (k := 1) (a := 1) rfl (by simp)) <| an (allK_I (x :: r)) <| an (allK_I r) <| an (rfl : (0 : Nat) = 0) <|
        an (app_e (f := (Value.int .i64 ·)) (l := r) (by simp at hlen; omega)) <| an (show IxP (((x :: r).map (Value.int .i64 ·)).toArray) 0 (.int .i64 x) from ⟨by omega, rfl⟩) <| an (len_map (f := (Value.int .i64 ·)) r) trivial) (by kernel_rfl)
set_option maxRecDepth 100000 in
theorem ac_rcommit {ep : Int} {l : List Int} {q i : Int} {b : Bool} (hb : cmB ep l q i = b) (hok : okE ep l = true) (hi : 0 ≤ i ∧ i ≤ 15) : AC Tryz.prog 102 [evT ep l, .int .i64 q, .int .i64 i] (.tuple #[evT ep (cmL ep l q i), .bool b, .int .i64 (entE l i)]) := by
  subst hb
  by_cases he : entE l i = 0
  · by_cases hq : q = ep
    · have h1 : cmB ep l q i = true := by simp [cmB, hok, he, hq]
      rw [show cmL ep l q i = entL l i by unfold cmL; rw [if_pos h1, ent_yes he], h1, he]
      exact ac_path mixed (ext := [99, 37]) (fuel := 9) (n := 5) (orc := [vD true, .tuple #[rowI (entL l i), .int .i64 0], .nilFunc, .bool false])
        (an (ac_recheck hok) <| an (he ▸ ac_renter (okE_ln hok) hi) <| an (show (q != ep) = false by simp [hq]) trivial) (by kernel_rfl)
    · have h1 : cmB ep l q i = false := by simp [cmB, Ne.symm hq]
      rw [show cmL ep l q i = l by unfold cmL; rw [h1]; rfl, h1, he]
      exact ac_path mixed (ext := [99, 37]) (fuel := 9) (n := 5) (orc := [vD true, .tuple #[rowI (entL l i), .int .i64 0], .nilFunc, .bool true])
        (an (ac_recheck hok) <| an (he ▸ ac_renter (okE_ln hok) hi) <| an (show (q != ep) = true by simp [hq]) trivial) (by kernel_rfl)
  · have h1 : cmB ep l q i = false := by simp [cmB, he]
    rw [show cmL ep l q i = l by unfold cmL; rw [h1]; rfl, h1]
    exact ac_path mixed (ext := [99, 37]) (fuel := 9) (n := 5) (orc := [vD true, .tuple #[rowI (entL l i), .int .i64 (entE l i)], .bool true])
      (an (ac_recheck hok) <| an (ac_renter (okE_ln hok) hi) <| an (show (entE l i != 0) = true by simp [he]) trivial) (by kernel_rfl)
end Go.Proofs.YtfllnpcoggmepaaGreat

/- Contracts told by abstract values: the document's slots, Is, Tell, Wake, Value, Runs. -/
namespace Go.Proofs.YtfllnpcoggmepaaGreat
set_option linter.unusedVariables false
set_option linter.unusedSimpArgs false
open Go.RowKit
theorem setSl (l : List Slo) (k : Nat) (x : Slo) : (l.set k x).map slT = (l.map slT).set (0 + (k : Int).toNat) (slT x) := by simp [List.map_set]
theorem elSl {k : Nat} {l : List Slo} (h : k < l.length) : ElP (l.map slT) (0 + (k : Int).toNat) (slT (gs l k)) := by simp [ElP, gs_eq h, h]
theorem lenSl (l : List Slo) (k : Nat) (x : Slo) : LenP l.length (l.set k x).length ((l.set k x).map slT) := ⟨by simp, by simp⟩
theorem idSl {k : Nat} {l : List Slo} (h : k < l.length) : 0 ≤ (k : Int) ∧ (k : Int).toNat < l.length := ⟨by omega, by simpa using h⟩
theorem ixSl {k : Nat} {l : List Slo} (h : k < l.length) : IxP ((l.map slT).toArray) (k : Int) (slT (gs l k)) := ⟨by omega, by simp [gs_eq h, h]⟩
set_option maxRecDepth 100000 in
theorem ac_rwrite {l : List Slo} {q v : Int} (hok : okSl l = true) (h0 : 0 ≤ q) (hq : In64 q) : AC Tryz.prog 41 [rowS l, .int .i64 q, .int .i64 v] (.tuple #[rowS (wrL l q v), .int .i64 (wrE l q)]) := by
  have hl := (ok_iff.1 hok).1
  have hli : liesS l q = true := by simp [liesS, h0, hok]
  cases h : rdyB l q
  · rw [show wrL l q v = l by simp [wrL, h], show wrE l q = 30 by simp [wrE, h, hli]]
    exact ac_path mixed (ext := [95, 96, 168]) (fuel := 9) (n := 5) (orc := [vD true, .bool false, vD false])
      (an (ac_rscheck hok (by omega)) <| an (show decide (q < 0) = false by simp; omega) <| an (ac_rsready h (by omega) hq) trivial) (by kernel_rfl)
  · obtain ⟨hp, hpl⟩ := plc_lt hli
    rw [show wrL l q v = l.set (plc l q) ⟨q, v⟩ by simp [wrL, h], show wrE l q = 0 by simp [wrE, h, hli]]
    exact ac_path mixed (ext := [95, 96, 168]) (fuel := 9) (n := 5) (orc := [vD true, .bool false, vD true, rowS l, .int .i64 (plc l q), slT (gs l (plc l q)), rowS (l.set (plc l q) ⟨q, v⟩)])
      (an (ac_rscheck hok (by omega)) <| an (show decide (q < 0) = false by simp; omega) <| an (ac_rsready h (by omega) hq) <| an (allK_S l) <| an (rfl : (0 : Nat) = 0) <| an (app_e (f := slT) (l := l) (by omega)) <|
        an (ac_rplc hpl hq (by constructor <;> omega)) <| an (idSl hp) <| an (elSl hp) <| an (setSl l (plc l q) ⟨q, v⟩) <| an (lenSl l (plc l q) ⟨q, v⟩) trivial) (by kernel_rfl)
set_option maxRecDepth 100000 in
theorem ac_rrelease {l : List Slo} {q : Int} (hok : okSl l = true) (h0 : 0 ≤ q) (hq : In64 q) : AC Tryz.prog 52 [rowS l, .int .i64 q] (.tuple #[rowS (rlL l q), .int .i64 (rlE l q)]) := by
  have hl := (ok_iff.1 hok).1
  have hli : liesS l q = true := by simp [liesS, h0, hok]
  cases h : rdyB l q
  · rw [show rlL l q = l by simp [rlL, rlB, h], show rlE l q = 40 by simp [rlE, rlB, h]]
    exact ac_path mixed (ext := [108, 96, 168]) (fuel := 9) (n := 5) (orc := [vD false]) (an (ac_rsready h (by omega) hq) trivial) (by kernel_rfl)
  · by_cases hm : 1099511627776 < q
    · have hb : rlB l q = false := by simp [rlB]; omega
      rw [show rlL l q = l by simp [rlL, hb], show rlE l q = 40 by simp [rlE, hb]]
      exact ac_path mixed (ext := [108, 96, 168]) (fuel := 9) (n := 5) (orc := [vD true, .bool true]) (an (ac_rsready h (by omega) hq) <| an (show decide (1099511627776 < q) = true by simp [hm]) trivial) (by kernel_rfl)
    · have hb : rlB l q = true := by simp [rlB, h]; omega
      obtain ⟨hp, hpl⟩ := plc_lt hli
      rw [show rlL l q = l.set (plc l q) ⟨q + l.length, (gs l (plc l q)).vl⟩ by simp [rlL, hb], show rlE l q = 0 by simp [rlE, hb]]
      exact ac_path mixed (ext := [108, 96, 168]) (fuel := 9) (n := 5) (orc := [vD true, .bool false, .tuple #[.int .i64 (gs l (plc l q)).vl, .int .i64 0], rowS l, .int .i64 (plc l q), slT (gs l (plc l q)), rowS (l.set (plc l q) ⟨q + l.length, (gs l (plc l q)).vl⟩)])
        (an (ac_rsready h (by omega) hq) <| an (show decide (1099511627776 < q) = false by simp; omega) <| an (show AC Tryz.prog 108 [rowS l, .int .i64 q] (.tuple #[.int .i64 (gs l (plc l q)).vl, .int .i64 0]) by
            have := ac_rsread l q (by omega) hq
            rw [show rdV l q = (gs l (plc l q)).vl by simp [rdV, h], show rdE l q = 0 by simp [rdE, h]] at this
            exact this) <|
          an (show In64 (q + l.length) by constructor <;> omega) <| an (allK_S l) <| an (rfl : (0 : Nat) = 0) <| an (app_e (f := slT) (l := l) (by omega)) <|
          an (ac_rplc hpl hq (by constructor <;> omega)) <| an (idSl hp) <| an (elSl hp) <| an (setSl l (plc l q) ⟨q + l.length, (gs l (plc l q)).vl⟩) <| an (lenSl l (plc l q) ⟨q + l.length, (gs l (plc l q)).vl⟩) trivial) (by kernel_rfl)
/-! ### States -/
set_option maxRecDepth 100000 in
theorem ac_ris {s : St} {i : Int} {b : Bool} (h : hasB s i = b) (ho : s.ok) (hw : s.few) : AC Tryz.prog 86 [stT s, .int .i64 i] (.bool b) := by
  subst h
  cases hB : stB s
  · rw [show hasB s i = false by simp [hasB, hB]]
    exact ac_path mixed (ext := [166]) (fuel := 9) (n := 3) (orc := [vD false]) (an (ac_rcheck hB ho hw) trivial) (by kernel_rfl)
  · by_cases h0 : 0 ≤ i
    · have e : hasB s i = decide (i < s.th.length) := by simp [hasB, hB, h0]
      rw [e]
      exact ac_path mixed (ext := [166]) (fuel := 9) (n := 3) (orc := [vD true, .bool true]) (an (ac_rcheck hB ho hw) <| an (show decide (0 ≤ i) = true by simp [h0]) trivial) (by kernel_rfl)
    · rw [show hasB s i = false by simp [hasB, h0]]
      exact ac_path mixed (ext := [166]) (fuel := 9) (n := 3) (orc := [vD true, .bool false]) (an (ac_rcheck hB ho hw) <| an (show decide (0 ≤ i) = false by simp [h0]) trivial) (by kernel_rfl)
set_option maxRecDepth 100000 in
theorem ac_rtell {s : St} {n : Nat} {k r g : Int} (hA : hasB s n = true) (ho : s.ok) (hw : s.few) : AC Tryz.prog 107 [stT s, .int .i64 n, .int .i64 k, .int .i64 r, .int .i64 g] (stT (tellS s n k r g)) := by
  have hn := has_lt hA
  have hlg := hw.lg
  rw [tell_is hA]
  by_cases hk : k = 9
  · rw [show tellT (gth s.th n) k r g = gth s.th n by unfold tellT; rw [if_pos hk]]
    exact ac_path mixed (ext := [86, 44]) (fuel := 9) (n := 3) (orc := [vD true, thT (gth s.th n), .bool false, stT (s.setTh n (gth s.th n)), rowE s.lg, rowE (s.lg ++ [tlE s n k r g])])
      (an (ac_ris hA ho hw) <| an (ixT hn) <| an (show (k != 9) = false by simp [hk]) <| an (ac_rwith s n (gth s.th n) hn hw.th) <| an (allK_E s.lg) <| an (rfl : (0 : Nat) = 0) <| an (app_e (f := enT) (l := s.lg) (by omega)) <| an (rfl : (1 : Nat) = 1) <| an (allK_1 (tlE s n k r g)) <| an (lenE s.lg) <|
        an (app_is (f := enT) (l := s.lg) (m := [tlE s n k r g]) rfl (by simp; omega)) <| an (lenA s.lg (tlE s n k r g)) trivial) (by kernel_rfl)
  · rw [show tellT (gth s.th n) k r g = rgT (gth s.th n) r g by unfold tellT; rw [if_neg hk]; rfl]
    exact ac_path mixed (ext := [86, 44]) (fuel := 9) (n := 3) (orc := [vD true, thT (gth s.th n), .bool true, stT (s.setTh n (rgT (gth s.th n) r g)), rowE s.lg, rowE (s.lg ++ [tlE s n k r g])])
      (an (ac_ris hA ho hw) <| an (ixT hn) <| an (show (k != 9) = true by simp [hk]) <| an (ac_rwith s n (rgT (gth s.th n) r g) hn hw.th) <| an (allK_E s.lg) <| an (rfl : (0 : Nat) = 0) <| an (app_e (f := enT) (l := s.lg) (by omega)) <| an (rfl : (1 : Nat) = 1) <| an (allK_1 (tlE s n k r g)) <| an (lenE s.lg) <|
        an (app_is (f := enT) (l := s.lg) (m := [tlE s n k r g]) rfl (by simp; omega)) <| an (lenA s.lg (tlE s n k r g)) trivial) (by kernel_rfl)
set_option maxRecDepth 100000 in
theorem ac_rwake {s : St} {n : Nat} (hA : hasB s n = true) (ho : s.ok) (hw : s.few) : AC Tryz.prog 46 [stT s, .int .i64 n] (stT (s.onTh n wakeT)) :=
  ac_path mixed (ext := [86, 44, 101]) (fuel := 9) (n := 3) (orc := [vD true, thT (gth s.th n), thT (wakeT (gth s.th n)), stT (s.onTh n wakeT)])
    (an (ac_ris hA ho hw) <| an (ixT (has_lt hA)) <| an (ac_rtwake (gth s.th n)) <| an (ac_rwith s n (wakeT (gth s.th n)) (has_lt hA) hw.th) trivial) (by kernel_rfl)
set_option maxRecDepth 100000 in
theorem ac_rvalue {s : St} {p : Int} (hB : stB s = true) (h0 : 0 ≤ p) (hp : In64 p) (ho : s.ok) (hw : s.few) : AC Tryz.prog 105 [stT s, .int .i64 p] (.int .i64 (valV s p)) := by
  have hli : liesS s.sl p = true := by simp [liesS, h0, (word_ok hB).2.1]
  obtain ⟨hpl, hpe⟩ := plc_lt hli
  rw [show valV s p = (gs s.sl (plc s.sl p)).vl by unfold valV; rw [if_neg (by omega), if_pos hB]; rfl]
  exact ac_path mixed (ext := [166, 168]) (fuel := 9) (n := 3) (orc := [vD true, .bool false, .int .i64 (plc s.sl p), slT (gs s.sl (plc s.sl p))])
    (an (ac_rcheck hB ho hw) <| an (show decide (p < 0) = false by simp; omega) <| an (ac_rplc hpe hp (by have := hw.sl; constructor <;> omega)) <| an (ixSl hpl) trivial) (by kernel_rfl)
set_option maxRecDepth 100000 in
theorem ac_rruns {s : St} {i d : Int} {b : Bool} (h : runsB s i d = b) (ho : s.ok) (hw : s.few) : AC Tryz.prog 33 [stT s, .int .i64 i, .int .i64 d] (.bool b) := by
  subst h
  cases hA : hasB s i
  · rw [show runsB s i d = false by simp [runsB, hA]]
    exact ac_path mixed (ext := [86, 87]) (fuel := 9) (n := 3) (orc := [vD false]) (an (ac_ris hA ho hw) trivial) (by kernel_rfl)
  · obtain ⟨hB, h0, h1⟩ := has_iff.1 hA
    obtain ⟨n, rfl⟩ : ∃ n : Nat, i = n := ⟨i.toNat, by omega⟩
    have hn : n < s.th.length := by omega
    by_cases hs : (gth s.th n).st = 1
    · rw [show runsB s n d = (opSide (gth s.th n).ki == d) by simp [runsB, hA, hs]]
      exact ac_path mixed (ext := [86, 87]) (fuel := 9) (n := 3) (orc := [vD true, thT (gth s.th n), .bool true, .int .i64 (opSide (gth s.th n).ki)])
        (an (ac_ris hA ho hw) <| an (ixT hn) <| an (show ((gth s.th n).st == 1) = true by simp [hs]) <| an (ac_rside (k := (gth s.th n).ki) rfl) trivial) (by kernel_rfl)
    · rw [show runsB s n d = false by simp [runsB, hs]]
      exact ac_path mixed (ext := [86, 87]) (fuel := 9) (n := 3) (orc := [vD true, thT (gth s.th n), .bool false])
        (an (ac_ris hA ho hw) <| an (ixT hn) <| an (show ((gth s.th n).st == 1) = false by simp [hs]) trivial) (by kernel_rfl)
end Go.Proofs.YtfllnpcoggmepaaGreat

/- The document's Step, case by case, told by plain states. -/
namespace Go.Proofs.YtfllnpcoggmepaaGreat
set_option linter.unusedVariables false
set_option linter.unusedSimpArgs false
open Go.RowKit
/-- What is true of a state in which thread n, at step c, sends. -/
structure Dn (s : St) (n : Nat) (c : Int) : Prop where
  ck : stB s = true
  ok : s.ok
  few : s.few
  hn : n < s.th.length
  st : (gth s.th n).st = 1
  sd : opSide (gth s.th n).ki = 1
  pc : (gth s.th n).pc = c
def upT (t : Th) (c : Int) : Th := ⟨t.st, t.ki, t.va, t.un, c, t.re, t.se, t.tr + 1, t.la, t.rs, t.go⟩
section
variable {s : St} {n : Nat} {c : Int}
theorem Dn.ht (h : Dn s n c) : gth s.th n = pcT (gth s.th n) c := by rw [← h.pc]; rfl
theorem Dn.ix (h : Dn s n c) : IxP ((s.th.map thT).toArray) (n : Int) (thT (pcT (gth s.th n) c)) := by
  have := ixT h.hn
  rw [h.ht] at this
  exact this
theorem Dn.has (h : Dn s n c) : hasB s n = true := has_of h.ck h.hn
theorem Dn.ru (h : Dn s n c) : runsB s n 1 = true := runs_iff.2 ⟨h.has, by simpa using h.st, by simpa using h.sd⟩
theorem Dn.rs (h : Dn s n c) : thRuns (gth s.th n).st = 0 := by rw [h.st]; rfl
theorem Dn.lsn (h : Dn s n c) : okLn s.sn = true := (stn_iff.1 (full_lines h.ck).1).1
theorem Dn.i15 (h : Dn s n c) : (0 : Int) ≤ n ∧ (n : Int) ≤ 15 := (ok_th h.ck h.hn).2
theorem Dn.ful (h : Dn s n c) : okE s.fe s.fl = true := (full_lines h.ck).2.2.2.2.1
theorem Dn.emp (h : Dn s n c) : okE s.ee s.el = true := (full_lines h.ck).2.2.2.2.2
theorem Dn.sl (h : Dn s n c) : okSl s.sl = true := (word_ok h.ck).2.1
theorem Dn.bd (h : Dn s n c) : 0 ≤ (gth s.th n).re ∧ (gth s.th n).re ≤ 1099511627776 ∧ 0 ≤ (gth s.th n).tr ∧ (gth s.th n).tr ≤ 1099511627776 := by
  have h1 := gth_ok h.ck h.hn
  generalize gth s.th n = t at h1
  obtain ⟨st, ki, va, un, pc, re, se, tr, la, rs, go⟩ := t
  rw [thB_iff] at h1
  simp only
  omega
theorem Dn.re0 (h : Dn s n c) : 0 ≤ (gth s.th n).re := h.bd.1
theorem Dn.rei (h : Dn s n c) : In64 (gth s.th n).re := by have := h.bd; constructor <;> omega
theorem Dn.tr1 (h : Dn s n c) (_hr : decide ((gth s.th n).tr < 1099511627776) = true) : In64 ((gth s.th n).tr + 1) := by have := h.bd; constructor <;> omega
theorem Dn.onw (h : Dn s n c) (hr : decide ((gth s.th n).tr < 1099511627776) = true) : AC Tryz.prog 44 [stT s, .int .i64 n, thT (upT (gth s.th n) c)] (stT (s.onTh n onT)) := by
  have e : s.onTh n onT = s.setTh n (upT (gth s.th n) c) := by
    unfold St.onTh onT upT
    rw [if_pos (of_decide_eq_true hr), h.pc]
  rw [e]
  exact ac_rwith s n (upT (gth s.th n) c) h.hn h.few.th
theorem Dn.onx (h : Dn s n c) (hr : decide ((gth s.th n).tr < 1099511627776) = false) : AC Tryz.prog 44 [stT s, .int .i64 n, thT (pcT (gth s.th n) c)] (stT (s.onTh n onT)) := by
  have e : s.onTh n onT = s.setTh n (pcT (gth s.th n) c) := by
    unfold St.onTh onT pcT
    rw [if_neg (of_decide_eq_false hr), h.pc]
  rw [e]
  exact ac_rwith s n (pcT (gth s.th n) c) h.hn h.few.th
theorem Dn.len (h : Dn s n c) : In64 (s.sl.length : Int) := by have := h.few.sl; constructor <;> omega
theorem Dn.see {r : Int} (h : Dn s n c) (hs : seesS s = r) : AC Tryz.prog 98 [wdT s.hd s.tl s.md, .int .i64 s.sl.length] (.tuple #[wdT s.hd (acT s.hd s.tl s.md s.sl.length) s.md, .int .i64 (acP s.hd s.tl s.md s.sl.length), .int .i64 r]) := hs ▸ ac_raccept s.hd s.tl s.md s.sl.length h.ok.hd h.ok.tl h.ok.md h.len
theorem Dn.nx {v : Int} (_h : Dn s n c) (hn : waySt s (gth s.th n).tr = v) : AC Tryz.prog 167 [cfT s.cf, .int .i64 (gth s.th n).tr] (.int .i64 v) := by subst hn; exact ac_rnext s.cf (gth s.th n).tr
theorem Dn.evi {b : Bool} (h : Dn s n c) (hb : evwB s.hd s.tl s.md s.sl.length (gth s.th n).re = b) : AC Tryz.prog 106 [wdT s.hd s.tl s.md, .int .i64 s.sl.length, .int .i64 (gth s.th n).re] (.tuple #[wdT (evH s.hd s.tl s.md s.sl.length (gth s.th n).re) s.tl s.md, .bool b]) := ac_revict hb h.ok.hd h.ok.tl h.ok.md h.len h.rei
theorem Dn.com (h : Dn s n c) (hb : cmB s.fe s.fl (gth s.th n).se n = true) : AC Tryz.prog 102 [evT s.fe s.fl, .int .i64 (gth s.th n).se, .int .i64 n] (.tuple #[evT s.fe (s.fl ++ [(n : Int)]), .bool true, .int .i64 (entE s.fl n)]) := by
  have := ac_rcommit hb h.ful h.i15
  rw [show cmL s.fe s.fl (gth s.th n).se n = s.fl ++ [(n : Int)] by unfold cmL; rw [if_pos hb]] at this
  exact this
theorem Dn.con (h : Dn s n c) (hb : cmB s.fe s.fl (gth s.th n).se n = false) : AC Tryz.prog 102 [evT s.fe s.fl, .int .i64 (gth s.th n).se, .int .i64 n] (.tuple #[evT s.fe s.fl, .bool false, .int .i64 (entE s.fl n)]) := by
  have := ac_rcommit hb h.ful h.i15
  rw [show cmL s.fe s.fl (gth s.th n).se n = s.fl by unfold cmL; rw [hb]; rfl] at this
  exact this
theorem Dn.few3 (h : Dn s n c) : (s.toWord s.hd (s.tl + 1) s.md).few := ⟨h.few.sl, h.few.sn, h.few.rc, h.few.fl, h.few.el, h.few.th, h.few.lg⟩
theorem Dn.few10 (h : Dn s n c) : (s.toWord (s.hd + 1) s.tl s.md).few := ⟨h.few.sl, h.few.sn, h.few.rc, h.few.fl, h.few.el, h.few.th, h.few.lg⟩
theorem park_of8 {t : Th} (h : thRuns t.st = 0) : thPark (pcT t 8) 2 0 (parkT t 2) := park_of h
set_option maxRecDepth 100000 in
theorem ds_enter (h : Dn s n 0)  : AC Tryz.prog 16 [stT s, .int .i64 n] (stT ((s.toSn (entL s.sn n)).onTh n (pcT · 1))) :=
  ac_path mixed (ext := [33, 44, 107, 46, 105, 37, 90, 49, 41, 52, 98, 106, 43, 45, 102, 103, 50, 167]) (fuel := 9) (n := 6) (orc := [vD true, thT (pcT (gth s.th n) 0), .nilFunc, .tuple #[rowI (entL s.sn n), .int .i64 (entE s.sn n)], thT (pcT (gth s.th n) 0), stT ((s.toSn (entL s.sn n)).onTh n (pcT · 1))])
    (an (ac_rruns h.ru h.ok h.few) <| an h.ix <| an (ac_renter h.lsn h.i15) <| an (h.ix) <| an (ac_rwith (s.toSn (entL s.sn n)) n (pcT (pcT (gth s.th n) 0) 1) h.hn h.few.th) trivial) (by kernel_rfl)
set_option maxRecDepth 100000 in
theorem ds_first (h : Dn s n 1) (hp : (plI s.sn n == 0) = true) : AC Tryz.prog 16 [stT s, .int .i64 n] (stT (s.onTh n (pcT · 2))) :=
  ac_path mixed (ext := [33, 44, 107, 46, 105, 37, 90, 49, 41, 52, 98, 106, 43, 45, 102, 103, 50, 167]) (fuel := 9) (n := 6) (orc := [vD true, thT (pcT (gth s.th n) 1), .nilFunc, .nilFunc, .int .i64 (plI s.sn n), .bool true, thT (pcT (gth s.th n) 1), stT ((s).onTh n (pcT · 2))])
    (an (ac_rruns h.ru h.ok h.few) <| an h.ix <| an (ac_rlplace (l := s.sn) (i := n) rfl) <| an (hp) <| an (h.ix) <| an (ac_rwith (s) n (pcT (pcT (gth s.th n) 1) 2) h.hn h.few.th) trivial) (by kernel_rfl)
set_option maxRecDepth 100000 in
theorem ds_firstL (h : Dn s n 1) (hp : (plI s.sn n == 0) = false) (hl : (gth s.th n).la = true) : AC Tryz.prog 16 [stT s, .int .i64 n] (stT (toldS s n (gth s.th n).ki 5 0 9)) :=
  ac_path mixed (ext := [33, 44, 107, 46, 105, 37, 90, 49, 41, 52, 98, 106, 43, 45, 102, 103, 50, 167]) (fuel := 9) (n := 6) (orc := [vD true, thT (pcT (gth s.th n) 1), .nilFunc, .nilFunc, .int .i64 (plI s.sn n), .bool false, thT (pcT (gth s.th n) 1), .bool true, thT (pcT (gth s.th n) 1), stT (tellS (s) n (gth s.th n).ki (5) 0), thT (gth (tellS (s) n (gth s.th n).ki (5) 0).th n), stT (toldS (s) n (gth s.th n).ki (5) 0 9)])
    (an (ac_rruns h.ru h.ok h.few) <| an h.ix <| an (ac_rlplace (l := s.sn) (i := n) rfl) <| an (hp) <| an (h.ix) <| an (hl) <| an (h.ix) <| an (ac_rtell (k := (gth s.th n).ki) (r := 5) (g := 0) h.has h.ok h.few) <| an (ixT (l := (tellS (s) n (gth s.th n).ki (5) 0).th) (by rw [tell_len]; exact h.hn)) <| an (ac_rwith (tellS (s) n (gth s.th n).ki (5) 0) n (pcT (gth (tellS (s) n (gth s.th n).ki (5) 0).th n) 9) (by rw [tell_len]; exact h.hn) (by rw [tell_len]; exact h.few.th)) trivial) (by kernel_rfl)
set_option maxRecDepth 100000 in
theorem ds_firstT (h : Dn s n 1) (hp : (plI s.sn n == 0) = false) (hl : (gth s.th n).la = false) (hr : decide ((gth s.th n).tr < 1099511627776) = true) : AC Tryz.prog 16 [stT s, .int .i64 n] (stT (s.onTh n onT)) :=
  ac_path mixed (ext := [33, 44, 107, 46, 105, 37, 90, 49, 41, 52, 98, 106, 43, 45, 102, 103, 50, 167]) (fuel := 9) (n := 6) (orc := [vD true, thT (pcT (gth s.th n) 1), .nilFunc, .nilFunc, .int .i64 (plI s.sn n), .bool false, thT (pcT (gth s.th n) 1), .bool false, thT (pcT (gth s.th n) 1), .bool true, stT (s.onTh n onT)])
    (an (ac_rruns h.ru h.ok h.few) <| an h.ix <| an (ac_rlplace (l := s.sn) (i := n) rfl) <| an (hp) <| an (h.ix) <| an (hl) <| an (h.ix) <| an (hr) <| an (h.tr1 hr) <| an (h.onw hr) trivial) (by kernel_rfl)
set_option maxRecDepth 100000 in
theorem ds_firstX (h : Dn s n 1) (hp : (plI s.sn n == 0) = false) (hl : (gth s.th n).la = false) (hr : decide ((gth s.th n).tr < 1099511627776) = false) : AC Tryz.prog 16 [stT s, .int .i64 n] (stT (s.onTh n onT)) :=
  ac_path mixed (ext := [33, 44, 107, 46, 105, 37, 90, 49, 41, 52, 98, 106, 43, 45, 102, 103, 50, 167]) (fuel := 9) (n := 6) (orc := [vD true, thT (pcT (gth s.th n) 1), .nilFunc, .nilFunc, .int .i64 (plI s.sn n), .bool false, thT (pcT (gth s.th n) 1), .bool false, thT (pcT (gth s.th n) 1), .bool false, stT (s.onTh n onT)])
    (an (ac_rruns h.ru h.ok h.few) <| an h.ix <| an (ac_rlplace (l := s.sn) (i := n) rfl) <| an (hp) <| an (h.ix) <| an (hl) <| an (h.ix) <| an (hr) <| an (h.onx hr) trivial) (by kernel_rfl)
set_option maxRecDepth 100000 in
theorem ds_lookR (h : Dn s n 2) (hs : seesS s = 1) : AC Tryz.prog 16 [stT s, .int .i64 n] (stT (s.onTh n (regT · s.tl 3))) :=
  ac_path mixed (ext := [33, 44, 107, 46, 105, 37, 90, 49, 41, 52, 98, 106, 43, 45, 102, 103, 50, 167]) (fuel := 9) (n := 6) (orc := [vD true, thT (pcT (gth s.th n) 2), .nilFunc, .nilFunc, .nilFunc, .tuple #[wdT s.hd (acT s.hd s.tl s.md s.sl.length) s.md, .int .i64 (acP s.hd s.tl s.md s.sl.length), .int .i64 1], .nilFunc, thT (pcT (gth s.th n) 2), stT (s.onTh n (regT · s.tl 3))])
    (an (ac_rruns h.ru h.ok h.few) <| an h.ix <| an (h.see hs) <| an (h.ix) <| an (ac_rwith (s) n (regT (gth s.th n) s.tl 3) h.hn h.few.th) trivial) (by kernel_rfl)
set_option maxRecDepth 100000 in
theorem ds_lookN (h : Dn s n 2) (hs : seesS s = 2) (hp : (s.cf.po == 1) = true) : AC Tryz.prog 16 [stT s, .int .i64 n] (stT (toldS s n (gth s.th n).ki 3 0 9)) :=
  ac_path mixed (ext := [33, 44, 107, 46, 105, 37, 90, 49, 41, 52, 98, 106, 43, 45, 102, 103, 50, 167]) (fuel := 9) (n := 6) (orc := [vD true, thT (pcT (gth s.th n) 2), .nilFunc, .nilFunc, .nilFunc, .tuple #[wdT s.hd (acT s.hd s.tl s.md s.sl.length) s.md, .int .i64 (acP s.hd s.tl s.md s.sl.length), .int .i64 2], .nilFunc, .nilFunc, thT (pcT (gth s.th n) 2), .bool true, thT (pcT (gth s.th n) 2), stT (tellS (s) n (gth s.th n).ki (3) 0), thT (gth (tellS (s) n (gth s.th n).ki (3) 0).th n), stT (toldS (s) n (gth s.th n).ki (3) 0 9)])
    (an (ac_rruns h.ru h.ok h.few) <| an h.ix <| an (h.see hs) <| an (h.ix) <| an (hp) <| an (h.ix) <| an (ac_rtell (k := (gth s.th n).ki) (r := 3) (g := 0) h.has h.ok h.few) <| an (ixT (l := (tellS (s) n (gth s.th n).ki (3) 0).th) (by rw [tell_len]; exact h.hn)) <| an (ac_rwith (tellS (s) n (gth s.th n).ki (3) 0) n (pcT (gth (tellS (s) n (gth s.th n).ki (3) 0).th n) 9) (by rw [tell_len]; exact h.hn) (by rw [tell_len]; exact h.few.th)) trivial) (by kernel_rfl)
set_option maxRecDepth 100000 in
theorem ds_lookO (h : Dn s n 2) (hs : seesS s = 2) (hp : (s.cf.po == 1) = false) (hq : (s.cf.po == 2) = true) : AC Tryz.prog 16 [stT s, .int .i64 n] (stT (s.onTh n (regT · s.hd 10))) :=
  ac_path mixed (ext := [33, 44, 107, 46, 105, 37, 90, 49, 41, 52, 98, 106, 43, 45, 102, 103, 50, 167]) (fuel := 9) (n := 6) (orc := [vD true, thT (pcT (gth s.th n) 2), .nilFunc, .nilFunc, .nilFunc, .tuple #[wdT s.hd (acT s.hd s.tl s.md s.sl.length) s.md, .int .i64 (acP s.hd s.tl s.md s.sl.length), .int .i64 2], .nilFunc, .nilFunc, thT (pcT (gth s.th n) 2), .bool false, .bool true, thT (pcT (gth s.th n) 2), stT (s.onTh n (regT · s.hd 10))])
    (an (ac_rruns h.ru h.ok h.few) <| an h.ix <| an (h.see hs) <| an (h.ix) <| an (hp) <| an (hq) <| an (h.ix) <| an (ac_rwith (s) n (regT (gth s.th n) s.hd 10) h.hn h.few.th) trivial) (by kernel_rfl)
set_option maxRecDepth 100000 in
theorem ds_lookB (h : Dn s n 2) (hs : seesS s = 2) (hp : (s.cf.po == 1) = false) (hq : (s.cf.po == 2) = false) (hk : ((gth s.th n).ki == 2) = true) : AC Tryz.prog 16 [stT s, .int .i64 n] (stT (toldS s n (gth s.th n).ki 2 0 9)) :=
  ac_path mixed (ext := [33, 44, 107, 46, 105, 37, 90, 49, 41, 52, 98, 106, 43, 45, 102, 103, 50, 167]) (fuel := 9) (n := 6) (orc := [vD true, thT (pcT (gth s.th n) 2), .nilFunc, .nilFunc, .nilFunc, .tuple #[wdT s.hd (acT s.hd s.tl s.md s.sl.length) s.md, .int .i64 (acP s.hd s.tl s.md s.sl.length), .int .i64 2], .nilFunc, .nilFunc, thT (pcT (gth s.th n) 2), .bool false, .bool false, .bool true, thT (pcT (gth s.th n) 2), stT (tellS (s) n (gth s.th n).ki (2) 0), thT (gth (tellS (s) n (gth s.th n).ki (2) 0).th n), stT (toldS (s) n (gth s.th n).ki (2) 0 9)])
    (an (ac_rruns h.ru h.ok h.few) <| an h.ix <| an (h.see hs) <| an (h.ix) <| an (hp) <| an (hq) <| an (hk) <| an (h.ix) <| an (ac_rtell (k := (gth s.th n).ki) (r := 2) (g := 0) h.has h.ok h.few) <| an (ixT (l := (tellS (s) n (gth s.th n).ki (2) 0).th) (by rw [tell_len]; exact h.hn)) <| an (ac_rwith (tellS (s) n (gth s.th n).ki (2) 0) n (pcT (gth (tellS (s) n (gth s.th n).ki (2) 0).th n) 9) (by rw [tell_len]; exact h.hn) (by rw [tell_len]; exact h.few.th)) trivial) (by kernel_rfl)
set_option maxRecDepth 100000 in
theorem ds_lookL (h : Dn s n 2) (hs : seesS s = 2) (hp : (s.cf.po == 1) = false) (hq : (s.cf.po == 2) = false) (hk : ((gth s.th n).ki == 2) = false) (hl : (gth s.th n).la = true) : AC Tryz.prog 16 [stT s, .int .i64 n] (stT (toldS s n (gth s.th n).ki 5 0 9)) :=
  ac_path mixed (ext := [33, 44, 107, 46, 105, 37, 90, 49, 41, 52, 98, 106, 43, 45, 102, 103, 50, 167]) (fuel := 9) (n := 6) (orc := [vD true, thT (pcT (gth s.th n) 2), .nilFunc, .nilFunc, .nilFunc, .tuple #[wdT s.hd (acT s.hd s.tl s.md s.sl.length) s.md, .int .i64 (acP s.hd s.tl s.md s.sl.length), .int .i64 2], .nilFunc, .nilFunc, thT (pcT (gth s.th n) 2), .bool false, .bool false, .bool false, .bool true, thT (pcT (gth s.th n) 2), stT (tellS (s) n (gth s.th n).ki (5) 0), thT (gth (tellS (s) n (gth s.th n).ki (5) 0).th n), stT (toldS (s) n (gth s.th n).ki (5) 0 9)])
    (an (ac_rruns h.ru h.ok h.few) <| an h.ix <| an (h.see hs) <| an (h.ix) <| an (hp) <| an (hq) <| an (hk) <| an (hl) <| an (h.ix) <| an (ac_rtell (k := (gth s.th n).ki) (r := 5) (g := 0) h.has h.ok h.few) <| an (ixT (l := (tellS (s) n (gth s.th n).ki (5) 0).th) (by rw [tell_len]; exact h.hn)) <| an (ac_rwith (tellS (s) n (gth s.th n).ki (5) 0) n (pcT (gth (tellS (s) n (gth s.th n).ki (5) 0).th n) 9) (by rw [tell_len]; exact h.hn) (by rw [tell_len]; exact h.few.th)) trivial) (by kernel_rfl)
set_option maxRecDepth 100000 in
theorem ds_lookP (h : Dn s n 2) (hs : seesS s = 2) (hp : (s.cf.po == 1) = false) (hq : (s.cf.po == 2) = false) (hk : ((gth s.th n).ki == 2) = false) (hl : (gth s.th n).la = false) (hn : waySt s (gth s.th n).tr = 2) : AC Tryz.prog 16 [stT s, .int .i64 n] (stT (s.onTh n (pcT · 5))) :=
  ac_path mixed (ext := [33, 44, 107, 46, 105, 37, 90, 49, 41, 52, 98, 106, 43, 45, 102, 103, 50, 167]) (fuel := 9) (n := 6) (orc := [vD true, thT (pcT (gth s.th n) 2), .nilFunc, .nilFunc, .nilFunc, .tuple #[wdT s.hd (acT s.hd s.tl s.md s.sl.length) s.md, .int .i64 (acP s.hd s.tl s.md s.sl.length), .int .i64 2], .nilFunc, .nilFunc, thT (pcT (gth s.th n) 2), .bool false, .bool false, .bool false, .bool false, .int .i64 2, .nilFunc, thT (pcT (gth s.th n) 2), stT ((s).onTh n (pcT · 5))])
    (an (ac_rruns h.ru h.ok h.few) <| an h.ix <| an (h.see hs) <| an (h.ix) <| an (hp) <| an (hq) <| an (hk) <| an (hl) <| an (h.nx hn) <| an (h.ix) <| an (ac_rwith (s) n (pcT (pcT (gth s.th n) 2) 5) h.hn h.few.th) trivial) (by kernel_rfl)
set_option maxRecDepth 100000 in
theorem ds_lookT (h : Dn s n 2) (hs : seesS s = 2) (hp : (s.cf.po == 1) = false) (hq : (s.cf.po == 2) = false) (hk : ((gth s.th n).ki == 2) = false) (hl : (gth s.th n).la = false) (hn : (waySt s (gth s.th n).tr == 2) = false) (hr : decide ((gth s.th n).tr < 1099511627776) = true) : AC Tryz.prog 16 [stT s, .int .i64 n] (stT (s.onTh n onT)) :=
  ac_path mixed (ext := [33, 44, 107, 46, 105, 37, 90, 49, 41, 52, 98, 106, 43, 45, 102, 103, 50, 167]) (fuel := 9) (n := 6) (orc := [vD true, thT (pcT (gth s.th n) 2), .nilFunc, .nilFunc, .nilFunc, .tuple #[wdT s.hd (acT s.hd s.tl s.md s.sl.length) s.md, .int .i64 (acP s.hd s.tl s.md s.sl.length), .int .i64 2], .nilFunc, .nilFunc, thT (pcT (gth s.th n) 2), .bool false, .bool false, .bool false, .bool false, .int .i64 (waySt s (gth s.th n).tr), .bool false, thT (pcT (gth s.th n) 2), .bool true, stT (s.onTh n onT)])
    (an (ac_rruns h.ru h.ok h.few) <| an h.ix <| an (h.see hs) <| an (h.ix) <| an (hp) <| an (hq) <| an (hk) <| an (hl) <| an (h.nx rfl) <| an (hn) <| an (h.ix) <| an (hr) <| an (h.tr1 hr) <| an (h.onw hr) trivial) (by kernel_rfl)
set_option maxRecDepth 100000 in
theorem ds_lookX (h : Dn s n 2) (hs : seesS s = 2) (hp : (s.cf.po == 1) = false) (hq : (s.cf.po == 2) = false) (hk : ((gth s.th n).ki == 2) = false) (hl : (gth s.th n).la = false) (hn : (waySt s (gth s.th n).tr == 2) = false) (hr : decide ((gth s.th n).tr < 1099511627776) = false) : AC Tryz.prog 16 [stT s, .int .i64 n] (stT (s.onTh n onT)) :=
  ac_path mixed (ext := [33, 44, 107, 46, 105, 37, 90, 49, 41, 52, 98, 106, 43, 45, 102, 103, 50, 167]) (fuel := 9) (n := 6) (orc := [vD true, thT (pcT (gth s.th n) 2), .nilFunc, .nilFunc, .nilFunc, .tuple #[wdT s.hd (acT s.hd s.tl s.md s.sl.length) s.md, .int .i64 (acP s.hd s.tl s.md s.sl.length), .int .i64 2], .nilFunc, .nilFunc, thT (pcT (gth s.th n) 2), .bool false, .bool false, .bool false, .bool false, .int .i64 (waySt s (gth s.th n).tr), .bool false, thT (pcT (gth s.th n) 2), .bool false, stT (s.onTh n onT)])
    (an (ac_rruns h.ru h.ok h.few) <| an h.ix <| an (h.see hs) <| an (h.ix) <| an (hp) <| an (hq) <| an (hk) <| an (hl) <| an (h.nx rfl) <| an (hn) <| an (h.ix) <| an (hr) <| an (h.onx hr) trivial) (by kernel_rfl)
set_option maxRecDepth 100000 in
theorem ds_lookE (h : Dn s n 2) (h1 : (seesS s == 1) = false) (h2 : (seesS s == 2) = false) : AC Tryz.prog 16 [stT s, .int .i64 n] (stT (toldS s n (gth s.th n).ki (seesS s) 0 9)) :=
  ac_path mixed (ext := [33, 44, 107, 46, 105, 37, 90, 49, 41, 52, 98, 106, 43, 45, 102, 103, 50, 167]) (fuel := 9) (n := 6) (orc := [vD true, thT (pcT (gth s.th n) 2), .nilFunc, .nilFunc, .nilFunc, .tuple #[wdT s.hd (acT s.hd s.tl s.md s.sl.length) s.md, .int .i64 (acP s.hd s.tl s.md s.sl.length), .int .i64 (seesS s)], .bool false, .bool false, thT (pcT (gth s.th n) 2), stT (tellS (s) n (gth s.th n).ki (seesS s) 0), thT (gth (tellS (s) n (gth s.th n).ki (seesS s) 0).th n), stT (toldS (s) n (gth s.th n).ki (seesS s) 0 9)])
    (an (ac_rruns h.ru h.ok h.few) <| an h.ix <| an (h.see rfl) <| an (h1) <| an (h2) <| an (h.ix) <| an (ac_rtell (k := (gth s.th n).ki) (r := seesS s) (g := 0) h.has h.ok h.few) <| an (ixT (l := (tellS (s) n (gth s.th n).ki (seesS s) 0).th) (by rw [tell_len]; exact h.hn)) <| an (ac_rwith (tellS (s) n (gth s.th n).ki (seesS s) 0) n (pcT (gth (tellS (s) n (gth s.th n).ki (seesS s) 0).th n) 9) (by rw [tell_len]; exact h.hn) (by rw [tell_len]; exact h.few.th)) trivial) (by kernel_rfl)
set_option maxRecDepth 100000 in
theorem ds_write (h : Dn s n 3) (hw : wrE s.sl (gth s.th n).re = 0) : AC Tryz.prog 16 [stT s, .int .i64 n] (stT ((s.toSl (wrL s.sl (gth s.th n).re (gth s.th n).va)).onTh n (pcT · 4))) :=
  ac_path mixed (ext := [33, 44, 107, 46, 105, 37, 90, 49, 41, 52, 98, 106, 43, 45, 102, 103, 50, 167]) (fuel := 9) (n := 6) (orc := [vD true, thT (pcT (gth s.th n) 3), .nilFunc, .nilFunc, .nilFunc, .nilFunc, .tuple #[rowS (wrL s.sl (gth s.th n).re (gth s.th n).va), .int .i64 0], .nilFunc, thT (pcT (gth s.th n) 3), stT ((s.toSl (wrL s.sl (gth s.th n).re (gth s.th n).va)).onTh n (pcT · 4))])
    (an (ac_rruns h.ru h.ok h.few) <| an h.ix <| an (hw ▸ ac_rwrite (v := (gth s.th n).va) h.sl h.re0 h.rei) <| an (h.ix) <| an (ac_rwith (s.toSl (wrL s.sl (gth s.th n).re (gth s.th n).va)) n (pcT (pcT (gth s.th n) 3) 4) h.hn h.few.th) trivial) (by kernel_rfl)
set_option maxRecDepth 100000 in
theorem ds_writeE (h : Dn s n 3) (hw : (wrE s.sl (gth s.th n).re != 0) = true) : AC Tryz.prog 16 [stT s, .int .i64 n] (stT (s)) :=
  ac_path mixed (ext := [33, 44, 107, 46, 105, 37, 90, 49, 41, 52, 98, 106, 43, 45, 102, 103, 50, 167]) (fuel := 9) (n := 6) (orc := [vD true, thT (pcT (gth s.th n) 3), .nilFunc, .nilFunc, .nilFunc, .nilFunc, .tuple #[rowS (wrL s.sl (gth s.th n).re (gth s.th n).va), .int .i64 (wrE s.sl (gth s.th n).re)], .bool true])
    (an (ac_rruns h.ru h.ok h.few) <| an h.ix <| an (ac_rwrite (v := (gth s.th n).va) h.sl h.re0 h.rei) <| an (hw) trivial) (by kernel_rfl)
set_option maxRecDepth 100000 in
theorem ds_acceptR (h : Dn s n 4) (hs : seesS s = 1) (hT : acT s.hd s.tl s.md s.sl.length = s.tl + 1) (hA : hasB (s.toWord s.hd (s.tl + 1) s.md) n = true) (ho : (s.toWord s.hd (s.tl + 1) s.md).ok) : AC Tryz.prog 16 [stT s, .int .i64 n] (stT (toldS (s.toWord s.hd (s.tl + 1) s.md) n (gth s.th n).ki 1 0 6)) :=
  ac_path mixed (ext := [33, 44, 107, 46, 105, 37, 90, 49, 41, 52, 98, 106, 43, 45, 102, 103, 50, 167]) (fuel := 9) (n := 6) (orc := [vD true, thT (pcT (gth s.th n) 4), .nilFunc, .nilFunc, .nilFunc, .nilFunc, .nilFunc, .tuple #[wdT s.hd (s.tl + 1) s.md, .int .i64 (acP s.hd s.tl s.md s.sl.length), .int .i64 1], .nilFunc, thT (pcT (gth s.th n) 4), stT (tellS (s.toWord s.hd (s.tl + 1) s.md) n (gth s.th n).ki (1) 0), thT (gth (tellS (s.toWord s.hd (s.tl + 1) s.md) n (gth s.th n).ki (1) 0).th n), stT (toldS (s.toWord s.hd (s.tl + 1) s.md) n (gth s.th n).ki (1) 0 6)])
    (an (ac_rruns h.ru h.ok h.few) <| an h.ix <| an (hT ▸ h.see hs) <| an (h.ix) <| an (ac_rtell (k := (gth s.th n).ki) (r := 1) (g := 0) hA ho h.few3) <| an (ixT (l := (tellS (s.toWord s.hd (s.tl + 1) s.md) n (gth s.th n).ki (1) 0).th) (by rw [tell_len]; exact h.hn)) <| an (ac_rwith (tellS (s.toWord s.hd (s.tl + 1) s.md) n (gth s.th n).ki (1) 0) n (pcT (gth (tellS (s.toWord s.hd (s.tl + 1) s.md) n (gth s.th n).ki (1) 0).th n) 6) (by rw [tell_len]; exact h.hn) (by rw [tell_len]; exact h.few.th)) trivial) (by kernel_rfl)
set_option maxRecDepth 100000 in
theorem ds_acceptF (h : Dn s n 4) (hs : seesS s = 2) (hT : acT s.hd s.tl s.md s.sl.length = s.tl) : AC Tryz.prog 16 [stT s, .int .i64 n] (stT (s.onTh n (pcT · 2))) :=
  ac_path mixed (ext := [33, 44, 107, 46, 105, 37, 90, 49, 41, 52, 98, 106, 43, 45, 102, 103, 50, 167]) (fuel := 9) (n := 6) (orc := [vD true, thT (pcT (gth s.th n) 4), .nilFunc, .nilFunc, .nilFunc, .nilFunc, .nilFunc, .tuple #[wdT s.hd s.tl s.md, .int .i64 (acP s.hd s.tl s.md s.sl.length), .int .i64 2], .nilFunc, .nilFunc, thT (pcT (gth s.th n) 4), stT ((s).onTh n (pcT · 2))])
    (an (ac_rruns h.ru h.ok h.few) <| an h.ix <| an (hT ▸ h.see hs) <| an (h.ix) <| an (ac_rwith (s) n (pcT (pcT (gth s.th n) 4) 2) h.hn h.few.th) trivial) (by kernel_rfl)
set_option maxRecDepth 100000 in
theorem ds_acceptE (h : Dn s n 4) (h1 : (seesS s == 1) = false) (h2 : (seesS s == 2) = false) (hT : acT s.hd s.tl s.md s.sl.length = s.tl) : AC Tryz.prog 16 [stT s, .int .i64 n] (stT (toldS s n (gth s.th n).ki (seesS s) 0 9)) :=
  ac_path mixed (ext := [33, 44, 107, 46, 105, 37, 90, 49, 41, 52, 98, 106, 43, 45, 102, 103, 50, 167]) (fuel := 9) (n := 6) (orc := [vD true, thT (pcT (gth s.th n) 4), .nilFunc, .nilFunc, .nilFunc, .nilFunc, .nilFunc, .tuple #[wdT s.hd s.tl s.md, .int .i64 (acP s.hd s.tl s.md s.sl.length), .int .i64 (seesS s)], .bool false, .bool false, thT (pcT (gth s.th n) 4), stT (tellS (s) n (gth s.th n).ki (seesS s) 0), thT (gth (tellS (s) n (gth s.th n).ki (seesS s) 0).th n), stT (toldS (s) n (gth s.th n).ki (seesS s) 0 9)])
    (an (ac_rruns h.ru h.ok h.few) <| an h.ix <| an (hT ▸ h.see rfl) <| an (h1) <| an (h2) <| an (h.ix) <| an (ac_rtell (k := (gth s.th n).ki) (r := seesS s) (g := 0) h.has h.ok h.few) <| an (ixT (l := (tellS (s) n (gth s.th n).ki (seesS s) 0).th) (by rw [tell_len]; exact h.hn)) <| an (ac_rwith (tellS (s) n (gth s.th n).ki (seesS s) 0) n (pcT (gth (tellS (s) n (gth s.th n).ki (seesS s) 0).th n) 9) (by rw [tell_len]; exact h.hn) (by rw [tell_len]; exact h.few.th)) trivial) (by kernel_rfl)
set_option maxRecDepth 100000 in
theorem ds_prep (h : Dn s n 5)  : AC Tryz.prog 16 [stT s, .int .i64 n] (stT (s.onTh n (seenT · s.fe 7))) :=
  ac_path mixed (ext := [33, 44, 107, 46, 105, 37, 90, 49, 41, 52, 98, 106, 43, 45, 102, 103, 50, 167]) (fuel := 9) (n := 6) (orc := [vD true, thT (pcT (gth s.th n) 5), .nilFunc, .nilFunc, .nilFunc, .nilFunc, .nilFunc, .nilFunc, .int .i64 s.fe, stT (s.onTh n (seenT · s.fe 7))])
    (an (ac_rruns h.ru h.ok h.few) <| an h.ix <| an (ac_rprep h.ful) <| an (ac_rwith (s) n (seenT (gth s.th n) s.fe 7) h.hn h.few.th) trivial) (by kernel_rfl)
set_option maxRecDepth 100000 in
theorem ds_notifyN (h : Dn s n 6) (hb : hdB (ntT 1 s.ee s.el) = false) : AC Tryz.prog 16 [stT s, .int .i64 n] (stT ((s.toEmpty (ntE s.ee s.el) (ntL 1 s.ee s.el)).onTh n (pcT · 9))) :=
  ac_path mixed (ext := [33, 44, 107, 46, 105, 37, 90, 49, 41, 52, 98, 106, 43, 45, 102, 103, 50, 167]) (fuel := 9) (n := 6) (orc := [vD true, thT (pcT (gth s.th n) 6), .nilFunc, .nilFunc, .nilFunc, .nilFunc, .nilFunc, .nilFunc, .nilFunc, .tuple #[evT (ntE s.ee s.el) (ntL 1 s.ee s.el), .int .i64 (hdI (ntT 1 s.ee s.el)), vD false], thT (pcT (gth s.th n) 6), stT ((s.toEmpty (ntE s.ee s.el) (ntL 1 s.ee s.el)).onTh n (pcT · 9))])
    (an (ac_rruns h.ru h.ok h.few) <| an h.ix <| an (hb ▸ ac_rnotify h.emp) <| an (h.ix) <| an (ac_rwith (s.toEmpty (ntE s.ee s.el) (ntL 1 s.ee s.el)) n (pcT (pcT (gth s.th n) 6) 9) h.hn h.few.th) trivial) (by kernel_rfl)
set_option maxRecDepth 100000 in
theorem ds_notifyW (h : Dn s n 6) (hb : hdB (ntT 1 s.ee s.el) = true) {q : Nat} (hq : hdI (ntT 1 s.ee s.el) = q) (hA : hasB ((s.toEmpty (ntE s.ee s.el) (ntL 1 s.ee s.el)).onTh n (pcT · 9)) q = true) (ho : ((s.toEmpty (ntE s.ee s.el) (ntL 1 s.ee s.el)).onTh n (pcT · 9)).ok) (hw : ((s.toEmpty (ntE s.ee s.el) (ntL 1 s.ee s.el)).onTh n (pcT · 9)).few) : AC Tryz.prog 16 [stT s, .int .i64 n] (stT (((s.toEmpty (ntE s.ee s.el) (ntL 1 s.ee s.el)).onTh n (pcT · 9)).onTh q wakeT)) :=
  ac_path mixed (ext := [33, 44, 107, 46, 105, 37, 90, 49, 41, 52, 98, 106, 43, 45, 102, 103, 50, 167]) (fuel := 9) (n := 6) (orc := [vD true, thT (pcT (gth s.th n) 6), .nilFunc, .nilFunc, .nilFunc, .nilFunc, .nilFunc, .nilFunc, .nilFunc, .tuple #[evT (ntE s.ee s.el) (ntL 1 s.ee s.el), .int .i64 q, vD true], thT (pcT (gth s.th n) 6), stT ((s.toEmpty (ntE s.ee s.el) (ntL 1 s.ee s.el)).onTh n (pcT · 9)), stT (((s.toEmpty (ntE s.ee s.el) (ntL 1 s.ee s.el)).onTh n (pcT · 9)).onTh q wakeT)])
    (an (ac_rruns h.ru h.ok h.few) <| an h.ix <| an (hq ▸ hb ▸ ac_rnotify h.emp) <| an (h.ix) <| an (ac_rwith (s.toEmpty (ntE s.ee s.el) (ntL 1 s.ee s.el)) n (pcT (pcT (gth s.th n) 6) 9) h.hn h.few.th) <| an (ac_rwake hA ho hw) trivial) (by kernel_rfl)
set_option maxRecDepth 100000 in
theorem ds_againY (h : Dn s n 7) (hs : seesS s = 2) (hl : (!(gth s.th n).la) = true) : AC Tryz.prog 16 [stT s, .int .i64 n] (stT (s.onTh n (pcT · 8))) :=
  ac_path mixed (ext := [33, 44, 107, 46, 105, 37, 90, 49, 41, 52, 98, 106, 43, 45, 102, 103, 50, 167]) (fuel := 9) (n := 6) (orc := [vD true, thT (pcT (gth s.th n) 7), .nilFunc, .nilFunc, .nilFunc, .nilFunc, .nilFunc, .nilFunc, .nilFunc, .nilFunc, .tuple #[wdT s.hd (acT s.hd s.tl s.md s.sl.length) s.md, .int .i64 (acP s.hd s.tl s.md s.sl.length), .int .i64 2], .nilFunc, .bool true, thT (pcT (gth s.th n) 7), stT ((s).onTh n (pcT · 8))])
    (an (ac_rruns h.ru h.ok h.few) <| an h.ix <| an (h.see hs) <| an (hl) <| an (h.ix) <| an (ac_rwith (s) n (pcT (pcT (gth s.th n) 7) 8) h.hn h.few.th) trivial) (by kernel_rfl)
set_option maxRecDepth 100000 in
theorem ds_againL (h : Dn s n 7) (hs : seesS s = 2) (hl : (!(gth s.th n).la) = false) : AC Tryz.prog 16 [stT s, .int .i64 n] (stT (s.onTh n (pcT · 2))) :=
  ac_path mixed (ext := [33, 44, 107, 46, 105, 37, 90, 49, 41, 52, 98, 106, 43, 45, 102, 103, 50, 167]) (fuel := 9) (n := 6) (orc := [vD true, thT (pcT (gth s.th n) 7), .nilFunc, .nilFunc, .nilFunc, .nilFunc, .nilFunc, .nilFunc, .nilFunc, .nilFunc, .tuple #[wdT s.hd (acT s.hd s.tl s.md s.sl.length) s.md, .int .i64 (acP s.hd s.tl s.md s.sl.length), .int .i64 2], .nilFunc, .bool false, thT (pcT (gth s.th n) 7), stT ((s).onTh n (pcT · 2))])
    (an (ac_rruns h.ru h.ok h.few) <| an h.ix <| an (h.see hs) <| an (hl) <| an (h.ix) <| an (ac_rwith (s) n (pcT (pcT (gth s.th n) 7) 2) h.hn h.few.th) trivial) (by kernel_rfl)
set_option maxRecDepth 100000 in
theorem ds_againN (h : Dn s n 7) (h2 : (seesS s == 2) = false) : AC Tryz.prog 16 [stT s, .int .i64 n] (stT (s.onTh n (pcT · 2))) :=
  ac_path mixed (ext := [33, 44, 107, 46, 105, 37, 90, 49, 41, 52, 98, 106, 43, 45, 102, 103, 50, 167]) (fuel := 9) (n := 6) (orc := [vD true, thT (pcT (gth s.th n) 7), .nilFunc, .nilFunc, .nilFunc, .nilFunc, .nilFunc, .nilFunc, .nilFunc, .nilFunc, .tuple #[wdT s.hd (acT s.hd s.tl s.md s.sl.length) s.md, .int .i64 (acP s.hd s.tl s.md s.sl.length), .int .i64 (seesS s)], .bool false, thT (pcT (gth s.th n) 7), stT ((s).onTh n (pcT · 2))])
    (an (ac_rruns h.ru h.ok h.few) <| an h.ix <| an (h.see rfl) <| an (h2) <| an (h.ix) <| an (ac_rwith (s) n (pcT (pcT (gth s.th n) 7) 2) h.hn h.few.th) trivial) (by kernel_rfl)
set_option maxRecDepth 100000 in
theorem ds_commitL (h : Dn s n 8) (hl : (gth s.th n).la = true) : AC Tryz.prog 16 [stT s, .int .i64 n] (stT (s.onTh n (pcT · 2))) :=
  ac_path mixed (ext := [33, 44, 107, 46, 105, 37, 90, 49, 41, 52, 98, 106, 43, 45, 102, 103, 50, 167]) (fuel := 9) (n := 6) (orc := [vD true, thT (pcT (gth s.th n) 8), .nilFunc, .nilFunc, .nilFunc, .nilFunc, .nilFunc, .nilFunc, .nilFunc, .nilFunc, .nilFunc, thT (pcT (gth s.th n) 8), .bool true, thT (pcT (gth s.th n) 8), stT ((s).onTh n (pcT · 2))])
    (an (ac_rruns h.ru h.ok h.few) <| an h.ix <| an (h.ix) <| an (hl) <| an (h.ix) <| an (ac_rwith (s) n (pcT (pcT (gth s.th n) 8) 2) h.hn h.few.th) trivial) (by kernel_rfl)
set_option maxRecDepth 100000 in
theorem ds_commitW (h : Dn s n 8) (hl : (gth s.th n).la = false) (hb : cmB s.fe s.fl (gth s.th n).se n = true) : AC Tryz.prog 16 [stT s, .int .i64 n] (stT ((s.toFull s.fe (s.fl ++ [(n : Int)])).onTh n (parkT · 2))) :=
  ac_path mixed (ext := [33, 44, 107, 46, 105, 37, 90, 49, 41, 52, 98, 106, 43, 45, 102, 103, 50, 167]) (fuel := 9) (n := 6) (orc := [vD true, thT (pcT (gth s.th n) 8), .nilFunc, .nilFunc, .nilFunc, .nilFunc, .nilFunc, .nilFunc, .nilFunc, .nilFunc, .nilFunc, thT (pcT (gth s.th n) 8), .bool false, thT (pcT (gth s.th n) 8), .tuple #[evT s.fe (s.fl ++ [(n : Int)]), vD true, .int .i64 (entE s.fl n)], thT (pcT (gth s.th n) 8), .tuple #[thT (parkT (gth s.th n) 2), .int .i64 0], stT ((s.toFull s.fe (s.fl ++ [(n : Int)])).onTh n (parkT · 2))])
    (an (ac_rruns h.ru h.ok h.few) <| an h.ix <| an (h.ix) <| an (hl) <| an (h.ix) <| an (h.com hb) <| an (h.ix) <| an (ac_rpark (park_of8 h.rs)) <| an (ac_rwith (s.toFull s.fe (s.fl ++ [(n : Int)])) n (parkT (gth s.th n) 2) h.hn h.few.th) trivial) (by kernel_rfl)
set_option maxRecDepth 100000 in
theorem ds_commitN (h : Dn s n 8) (hl : (gth s.th n).la = false) (hb : cmB s.fe s.fl (gth s.th n).se n = false) : AC Tryz.prog 16 [stT s, .int .i64 n] (stT (s.onTh n (pcT · 2))) :=
  ac_path mixed (ext := [33, 44, 107, 46, 105, 37, 90, 49, 41, 52, 98, 106, 43, 45, 102, 103, 50, 167]) (fuel := 9) (n := 6) (orc := [vD true, thT (pcT (gth s.th n) 8), .nilFunc, .nilFunc, .nilFunc, .nilFunc, .nilFunc, .nilFunc, .nilFunc, .nilFunc, .nilFunc, thT (pcT (gth s.th n) 8), .bool false, thT (pcT (gth s.th n) 8), .tuple #[evT s.fe s.fl, vD false, .int .i64 (entE s.fl n)], thT (pcT (gth s.th n) 8), stT ((s).onTh n (pcT · 2))])
    (an (ac_rruns h.ru h.ok h.few) <| an h.ix <| an (h.ix) <| an (hl) <| an (h.ix) <| an (h.con hb) <| an (h.ix) <| an (ac_rwith (s) n (pcT (pcT (gth s.th n) 8) 2) h.hn h.few.th) trivial) (by kernel_rfl)
set_option maxRecDepth 100000 in
theorem ds_leave (h : Dn s n 9)  : AC Tryz.prog 16 [stT s, .int .i64 n] (stT ((s.toSn (lvL s.sn n)).onTh n doneT)) :=
  ac_path mixed (ext := [33, 44, 107, 46, 105, 37, 90, 49, 41, 52, 98, 106, 43, 45, 102, 103, 50, 167]) (fuel := 9) (n := 6) (orc := [vD true, thT (pcT (gth s.th n) 9), .nilFunc, .nilFunc, .nilFunc, .nilFunc, .nilFunc, .nilFunc, .nilFunc, .nilFunc, .nilFunc, .nilFunc, .tuple #[rowI (lvL s.sn n), .int .i64 (lvE s.sn n)], .tuple #[thT (doneT (gth s.th n)), .int .i64 0], stT ((s.toSn (lvL s.sn n)).onTh n doneT)])
    (an (ac_rruns h.ru h.ok h.few) <| an h.ix <| an (ac_rleave (i := (n : Int)) h.lsn) <| an (ac_rdone (done_of (c := 9) h.rs)) <| an (ac_rwith (s.toSn (lvL s.sn n)) n (doneT (gth s.th n)) h.hn h.few.th) trivial) (by kernel_rfl)
set_option maxRecDepth 100000 in
theorem ds_evictN (h : Dn s n 10) (hb : evwB s.hd s.tl s.md s.sl.length (gth s.th n).re = false) : AC Tryz.prog 16 [stT s, .int .i64 n] (stT (s.onTh n (pcT · 2))) :=
  ac_path mixed (ext := [33, 44, 107, 46, 105, 37, 90, 49, 41, 52, 98, 106, 43, 45, 102, 103, 50, 167]) (fuel := 9) (n := 6) (orc := [vD true, thT (pcT (gth s.th n) 10), .nilFunc, .nilFunc, .nilFunc, .nilFunc, .nilFunc, .nilFunc, .nilFunc, .nilFunc, .nilFunc, .nilFunc, .nilFunc, thT (pcT (gth s.th n) 10), .int .i64 (valV s (gth s.th n).re), .tuple #[wdT (evH s.hd s.tl s.md s.sl.length (gth s.th n).re) s.tl s.md, vD false], thT (pcT (gth s.th n) 10), stT ((s).onTh n (pcT · 2))])
    (an (ac_rruns h.ru h.ok h.few) <| an h.ix <| an (h.ix) <| an (ac_rvalue h.ck h.re0 h.rei h.ok h.few) <| an (h.evi hb) <| an (h.ix) <| an (ac_rwith (s) n (pcT (pcT (gth s.th n) 10) 2) h.hn h.few.th) trivial) (by kernel_rfl)
set_option maxRecDepth 100000 in
theorem ds_evictY (h : Dn s n 10) (hb : evwB s.hd s.tl s.md s.sl.length (gth s.th n).re = true) (hH : evH s.hd s.tl s.md s.sl.length (gth s.th n).re = s.hd + 1) (hA : hasB (s.toWord (s.hd + 1) s.tl s.md) n = true) (ho : (s.toWord (s.hd + 1) s.tl s.md).ok) : AC Tryz.prog 16 [stT s, .int .i64 n] (stT (toldS (s.toWord (s.hd + 1) s.tl s.md) n 9 1 (valV s (gth s.th n).re) 11)) :=
  ac_path mixed (ext := [33, 44, 107, 46, 105, 37, 90, 49, 41, 52, 98, 106, 43, 45, 102, 103, 50, 167]) (fuel := 9) (n := 6) (orc := [vD true, thT (pcT (gth s.th n) 10), .nilFunc, .nilFunc, .nilFunc, .nilFunc, .nilFunc, .nilFunc, .nilFunc, .nilFunc, .nilFunc, .nilFunc, .nilFunc, thT (pcT (gth s.th n) 10), .int .i64 (valV s (gth s.th n).re), .tuple #[wdT (s.hd + 1) s.tl s.md, vD true], stT (tellS (s.toWord (s.hd + 1) s.tl s.md) n 9 1 (valV s (gth s.th n).re)), thT (gth (tellS (s.toWord (s.hd + 1) s.tl s.md) n 9 1 (valV s (gth s.th n).re)).th n), stT (toldS (s.toWord (s.hd + 1) s.tl s.md) n 9 1 (valV s (gth s.th n).re) 11)])
    (an (ac_rruns h.ru h.ok h.few) <| an h.ix <| an (h.ix) <| an (ac_rvalue h.ck h.re0 h.rei h.ok h.few) <| an (hH ▸ h.evi hb) <| an (ac_rtell (k := 9) (r := 1) (g := valV s (gth s.th n).re) hA ho h.few10) <| an (ixT (l := (tellS (s.toWord (s.hd + 1) s.tl s.md) n 9 1 (valV s (gth s.th n).re)).th) (by rw [tell_len]; exact h.hn)) <| an (ac_rwith (tellS (s.toWord (s.hd + 1) s.tl s.md) n 9 1 (valV s (gth s.th n).re)) n (pcT (gth (tellS (s.toWord (s.hd + 1) s.tl s.md) n 9 1 (valV s (gth s.th n).re)).th n) 11) (by rw [tell_len]; exact h.hn) (by rw [tell_len]; exact h.few.th)) trivial) (by kernel_rfl)
set_option maxRecDepth 100000 in
theorem ds_release (h : Dn s n 11) (he : rlE s.sl (gth s.th n).re = 0) : AC Tryz.prog 16 [stT s, .int .i64 n] (stT ((s.toSl (rlL s.sl (gth s.th n).re)).onTh n (pcT · 2))) :=
  ac_path mixed (ext := [33, 44, 107, 46, 105, 37, 90, 49, 41, 52, 98, 106, 43, 45, 102, 103, 50, 167]) (fuel := 9) (n := 6) (orc := [vD true, thT (pcT (gth s.th n) 11), .nilFunc, .nilFunc, .nilFunc, .nilFunc, .nilFunc, .nilFunc, .nilFunc, .nilFunc, .nilFunc, .nilFunc, .nilFunc, .tuple #[rowS (rlL s.sl (gth s.th n).re), .int .i64 0], .nilFunc, thT (pcT (gth s.th n) 11), stT ((s.toSl (rlL s.sl (gth s.th n).re)).onTh n (pcT · 2))])
    (an (ac_rruns h.ru h.ok h.few) <| an h.ix <| an (he ▸ ac_rrelease h.sl h.re0 h.rei) <| an (h.ix) <| an (ac_rwith (s.toSl (rlL s.sl (gth s.th n).re)) n (pcT (pcT (gth s.th n) 11) 2) h.hn h.few.th) trivial) (by kernel_rfl)
set_option maxRecDepth 100000 in
theorem ds_releaseN (h : Dn s n 11) (he : (rlE s.sl (gth s.th n).re == 0) = false) : AC Tryz.prog 16 [stT s, .int .i64 n] (stT (s.onTh n (pcT · 2))) :=
  ac_path mixed (ext := [33, 44, 107, 46, 105, 37, 90, 49, 41, 52, 98, 106, 43, 45, 102, 103, 50, 167]) (fuel := 9) (n := 6) (orc := [vD true, thT (pcT (gth s.th n) 11), .nilFunc, .nilFunc, .nilFunc, .nilFunc, .nilFunc, .nilFunc, .nilFunc, .nilFunc, .nilFunc, .nilFunc, .nilFunc, .tuple #[rowS (rlL s.sl (gth s.th n).re), .int .i64 (rlE s.sl (gth s.th n).re)], .bool false, thT (pcT (gth s.th n) 11), stT ((s).onTh n (pcT · 2))])
    (an (ac_rruns h.ru h.ok h.few) <| an h.ix <| an (ac_rrelease h.sl h.re0 h.rei) <| an (he) <| an (h.ix) <| an (ac_rwith (s) n (pcT (pcT (gth s.th n) 11) 2) h.hn h.few.th) trivial) (by kernel_rfl)
end
end Go.Proofs.YtfllnpcoggmepaaGreat

/- The document's Step is the step of plain states; Steps as many as there are. -/
namespace Go.Proofs.YtfllnpcoggmepaaGreat
set_option linter.unusedVariables false
set_option linter.unusedSimpArgs false
open Go.RowKit
section
variable {s : St} {n : Nat} {c : Int}
theorem Dn.sp (h : Dn s n c) (hl : s.lg.length ≤ 999999) : Sp s n 1 0 := ⟨by decide, h.ck, h.ok, h.hn, h.st, h.sd, hl, by constructor <;> omega⟩
theorem try_or (t : Th) : decide (t.tr < 1099511627776) = true ∨ decide (t.tr < 1099511627776) = false := by cases decide (t.tr < 1099511627776) <;> simp
theorem dfirst (h : Dn s n 1) : AC Tryz.prog 16 [stT s, .int .i64 n] (stT (firstS s n)) := by
  unfold firstS
  split
  · next hp => exact ds_first h (by simp [hp])
  · next hp =>
    split
    · next hl => exact ds_firstL h (bne_of hp) hl
    · next hl =>
      have hl' : (gth s.th n).la = false := by simpa using hl
      rcases try_or (gth s.th n) with hr | hr
      · exact ds_firstT h (bne_of hp) hl' hr
      · exact ds_firstX h (bne_of hp) hl' hr
theorem dlook (h : Dn s n 2) : AC Tryz.prog 16 [stT s, .int .i64 n] (stT (lookS s n)) := by
  unfold lookS
  split
  · next hs => exact ds_lookR h hs
  · next h1 =>
    split
    · next hs =>
      unfold fullS
      split
      · next hp => exact ds_lookN h hs (by simp [hp])
      · next hp =>
        split
        · next hq => exact ds_lookO h hs (bne_of hp) (by simp [hq])
        · next hq =>
          split
          · next hk => exact ds_lookB h hs (bne_of hp) (bne_of hq) (by simp [hk])
          · next hk =>
            split
            · next hl => exact ds_lookL h hs (bne_of hp) (bne_of hq) (bne_of hk) hl
            · next hl =>
              have hl' : (gth s.th n).la = false := by simpa using hl
              split
              · next hw => exact ds_lookP h hs (bne_of hp) (bne_of hq) (bne_of hk) hl' hw
              · next hw =>
                rcases try_or (gth s.th n) with hr | hr
                · exact ds_lookT h hs (bne_of hp) (bne_of hq) (bne_of hk) hl' (bne_of hw) hr
                · exact ds_lookX h hs (bne_of hp) (bne_of hq) (bne_of hk) hl' (bne_of hw) hr
    · next h2 => exact ds_lookE h (bne_of h1) (bne_of h2)
theorem acT_no (h : seesS s ≠ 1) : acT s.hd s.tl s.md s.sl.length = s.tl := by unfold acT; exact if_neg h
theorem daccept (h : Dn s n 4) (hl : s.lg.length ≤ 999999) : AC Tryz.prog 16 [stT s, .int .i64 n] (stT (acceptS s n)) := by
  unfold acceptS
  split
  · next hs =>
    obtain ⟨h1, h2⟩ := acc_ok (h.sp hl) hs
    exact ds_acceptR h hs (ac_y hs).1 (has_of h1 h.hn) h2
  · next h1 =>
    split
    · next hs => exact ds_acceptF h hs (acT_no h1)
    · next h2 => exact ds_acceptE h (bne_of h1) (bne_of h2) (acT_no h1)
theorem dnotify (h : Dn s n 6) (hl : s.lg.length ≤ 999999) (hv : Vk s) : AC Tryz.prog 16 [stT s, .int .i64 n] (stT (notifyS s n)) := by
  obtain ⟨h1, h2⟩ := empty_ok (h.sp hl)
  unfold notifyS
  split
  · next hb =>
    obtain ⟨-, -, -, d, -, e⟩ := full_lines h.ck
    have hth := th_len h.ck
    have hq : ∃ q : Nat, hdI (ntT 1 s.ee s.el) = q ∧ q < s.th.length := by
      have hb' := hb
      simp only [ntT, e, if_true] at hb' ⊢
      cases hl : s.el with
      | nil => rw [hl] at hb'; cases hb'
      | cons y r =>
        have hy : y ∈ s.el := by rw [hl]; exact List.mem_cons_self
        have h3 := (stn_iff.1 d).2 y hy
        have h4 := (okl_iff.1 (stn_iff.1 d).1).1 y hy
        exact ⟨y.toNat, by show y = _; omega, by omega⟩
    obtain ⟨q, hq, hql⟩ := hq
    have h9 : stB ((s.toEmpty (ntE s.ee s.el) (ntL 1 s.ee s.el)).onTh n (pcT · 9)) = true := onTh_stB h1 (pcT_ok (gth_ok h.ck h.hn) (by have := h.st; omega) (by decide))
    have hA : hasB ((s.toEmpty (ntE s.ee s.el) (ntL 1 s.ee s.el)).onTh n (pcT · 9)) q = true := has_of h9 (by show q < (s.th.set n _).length; rw [List.length_set]; exact hql)
    have hv9 : Vk ((s.toEmpty (ntE s.ee s.el) (ntL 1 s.ee s.el)).onTh n (pcT · 9)) := Vk.on (s := s.toEmpty (ntE s.ee s.el) (ntL 1 s.ee s.el)) (f := (pcT · 9)) ⟨hv.cf, hv.sl, hv.th⟩ h.hn fun _ => ⟨rfl, rfl⟩
    have hf : ((s.toEmpty (ntE s.ee s.el) (ntL 1 s.ee s.el)).onTh n (pcT · 9)).few := ⟨h.few.sl, h.few.sn, h.few.rc, h.few.fl, by show (ntL 1 s.ee s.el).length ≤ 1000; simp only [ntL, e, if_true, List.length_drop]; have := h.few.el; omega, by show (s.th.set n _).length ≤ 1000; rw [List.length_set]; exact h.few.th, h.few.lg⟩
    have := ds_notifyW h hb hq hA (ok_of h9 hv9 (by show s.lg.length ≤ 1000000; omega)) hf
    rw [hq]
    unfold wakeS
    rw [if_pos hA, Int.toNat_natCast]
    exact this
  · next hb => exact ds_notifyN h (by simpa using hb)
theorem dcommit (h : Dn s n 8) : AC Tryz.prog 16 [stT s, .int .i64 n] (stT (commitS s n)) := by
  unfold commitS
  split
  · next hl => exact ds_commitL h hl
  · next hl =>
    have hl' : (gth s.th n).la = false := by simpa using hl
    split
    · next hb => exact ds_commitW h hl' hb
    · next hb => exact ds_commitN h hl' (by simpa using hb)
theorem devict (h : Dn s n 10) (hl : s.lg.length ≤ 999999) : AC Tryz.prog 16 [stT s, .int .i64 n] (stT (evictS s n)) := by
  unfold evictS
  split
  · next hb =>
    obtain ⟨h1, h2⟩ := ev_ok (h.sp hl) hb
    exact ds_evictY h hb (by unfold evH; rw [if_pos hb]) (has_of h1 h.hn) h2
  · next hb => exact ds_evictN h (by simpa using hb)
theorem drelease (h : Dn s n 11) : AC Tryz.prog 16 [stT s, .int .i64 n] (stT ((s.toSl (rlL s.sl (gth s.th n).re)).onTh n (pcT · 2))) := by
  by_cases he : rlE s.sl (gth s.th n).re = 0
  · exact ds_release h he
  · have := ds_releaseN h (bne_of he)
    have e : rlL s.sl (gth s.th n).re = s.sl := by
      unfold rlE at he
      unfold rlL
      split at he
      · exact absurd rfl he
      · next hb => rw [if_neg hb]
    rw [e]
    exact this
theorem dwrite (h : Dn s n 3) : AC Tryz.prog 16 [stT s, .int .i64 n] (stT (sendN s n)) := by
  rw [sendN_3 h.pc]
  split
  · next hw => exact ds_write h hw
  · next hw => exact ds_writeE h (by simp [hw])
theorem dagain (h : Dn s n 7) : AC Tryz.prog 16 [stT s, .int .i64 n] (stT (sendN s n)) := by
  rw [sendN_7 h.pc]
  by_cases hs : seesS s = 2
  · cases hl : (gth s.th n).la
    · rw [if_pos ⟨hs, rfl⟩]; exact ds_againY h hs (by rw [hl]; rfl)
    · rw [if_neg (by simp)]; exact ds_againL h hs (by rw [hl]; rfl)
  · rw [if_neg (fun e => hs e.1)]; exact ds_againN h (bne_of hs)
/-- A step of who sends. -/
theorem dstep (hB : stB s = true) (hv : Vk s) (hw : s.few) (hn : n < s.th.length) (hst : (gth s.th n).st = 1) (hsd : opSide (gth s.th n).ki = 1) : AC Tryz.prog 16 [stT s, .int .i64 n] (stT (sendN s n)) := by
  have hlg : s.lg.length ≤ 999999 := by have := hw.lg; omega
  have ho := ok_of hB hv (by omega)
  have D : ∀ {c : Int}, (gth s.th n).pc = c → Dn s n c := fun hc => ⟨hB, ho, hw, hn, hst, hsd, hc⟩
  obtain p | p | p | p | p | p | p | p | p | p | p | p := pc_or (gth_ok hB hn)
  · rw [sendN_0 p]; exact ds_enter (D p)
  · rw [sendN_1 p]; exact dfirst (D p)
  · rw [sendN_2 p]; exact dlook (D p)
  · exact dwrite (D p)
  · rw [sendN_4 p]; exact daccept (D p) hlg
  · rw [sendN_5 p]; exact ds_prep (D p)
  · rw [sendN_6 p]; exact dnotify (D p) hlg hv
  · exact dagain (D p)
  · rw [sendN_8 p]; exact dcommit (D p)
  · rw [sendN_9 p]; exact ds_leave (D p)
  · rw [sendN_10 p]; exact devict (D p) hlg
  · rw [sendN_11 p]; exact drelease (D p)
end
set_option maxRecDepth 100000 in
theorem ac_rstep {s : St} {i : Int} (ho : s.ok) (hw : s.few) : AC Tryz.prog 16 [stT s, .int .i64 i] (stT (sendS s i)) := by
  cases hr : runsB s i 1
  · rw [show sendS s i = s by unfold sendS; rw [hr]; rfl]
    exact ac_path mixed (ext := [33]) (fuel := 9) (n := 3) (orc := [vD false]) (an (ac_rruns hr ho hw) trivial) (by kernel_rfl)
  · obtain ⟨h1, h2, h3⟩ := runs_iff.1 hr
    obtain ⟨hB, hi0, hi1⟩ := has_iff.1 h1
    obtain ⟨n, rfl⟩ : ∃ n : Nat, i = n := ⟨i.toNat, by omega⟩
    rw [sendS_is hr]
    rw [Int.toNat_natCast] at h2 h3
    exact dstep hB (.of ho) hw (by omega) h2 h3
end Go.Proofs.YtfllnpcoggmepaaGreat

/- The document's Steps: as many steps as there are, told by plain states. -/
namespace Go.Proofs.YtfllnpcoggmepaaGreat
set_option linter.unusedVariables false
set_option linter.unusedSimpArgs false
open Go.RowKit
def bS (s : St) : Option Blk := some ⟨true, false, 20, 1, [stT s]⟩
def hdR (s : St) (i m o : Int) (b : Bool) : Sg := ⟨mkT 33 [(1, .int .i64 i), (2, .int .i64 m), (3, pt 0), (6, pt 1), (8, .int .i64 o), (9, vD b)], [bS s, bZ]⟩
theorem few_of {s : St} (h : stB s = true) (hl : s.lg.length ≤ 1000) : s.few := by
  obtain ⟨a, b, c, d, -, -⟩ := full_lines h
  have h1 := th_len h
  have h2 := ok_len (stn_iff.1 a).1
  have h3 := ok_len (stn_iff.1 b).1
  have h4 := ok_len (stn_iff.1 c).1
  have h5 := ok_len (stn_iff.1 d).1
  have h6 := (ok_iff.1 (word_ok h).2.1).1
  exact ⟨by omega, by omega, by omega, by omega, by omega, by omega, hl⟩
section
variable {s : St} {i m o : Int} {b : Bool}
set_option maxRecDepth 100000 in
theorem re_many (h : decide (o < m) = false) : LoopP Tryz.prog (loopOf Tryz.prog 13 0) (hdR s i m o b) (.exit 0) (hdR s i m o b) := loop_end mixed (fuel := 9) (n := 6) (im := [0, 1]) (keep := [1, 2, 3, 6, 8, 9]) (ext := [33, 16]) (orc := [.bool false]) (an h trivial) (by intro e; cases e) (by kernel_rfl)
set_option maxRecDepth 100000 in
theorem re_thou (h : decide (o < m) = true) (h2 : decide (o < 1000) = false) : LoopP Tryz.prog (loopOf Tryz.prog 13 0) (hdR s i m o b) (.exit 0) (hdR s i m o b) := loop_end mixed (fuel := 9) (n := 6) (im := [0, 1]) (keep := [1, 2, 3, 6, 8, 9]) (ext := [33, 16]) (orc := [.bool true, .bool false]) (an h <| an h2 trivial) (by intro e; cases e) (by kernel_rfl)
set_option maxRecDepth 100000 in
theorem re_not (h : decide (o < m) = true) (h2 : decide (o < 1000) = true) : LoopP Tryz.prog (loopOf Tryz.prog 13 0) (hdR s i m o false) (.exit 0) (hdR s i m o false) := loop_end mixed (fuel := 9) (n := 6) (im := [0, 1]) (keep := [1, 2, 3, 6, 8, 9]) (ext := [33, 16]) (orc := [.bool true, .bool true]) (an h <| an h2 trivial) (by intro e; cases e) (by kernel_rfl)
set_option maxRecDepth 100000 in
theorem re_more {u : St} {c : Bool} {x : Exit} {S : Sg} (h : decide (o < m) = true) (h2 : decide (o < 1000) = true) (hs : AC Tryz.prog 16 [stT s, .int .i64 i] (stT u)) (ho : In64 (o + 1)) (hr : AC Tryz.prog 33 [stT u, .int .i64 i, .int .i64 1] (.bool c))
    (hL : LoopP Tryz.prog (loopOf Tryz.prog 13 0) (hdR u i m (o + 1) c) x S) : LoopP Tryz.prog (loopOf Tryz.prog 13 0) (hdR s i m o true) x S := loop_more mixed (fuel := 9) (n := 6) (im := [0, 1]) (keep := [1, 2, 3, 6, 8, 9]) (ext := [33, 16]) (orc := [.bool true, .bool true, stT u, vD c]) (an h <| an h2 <| an hs <| an ho <| an hr trivial) (by kernel_rfl) hL
theorem rsteps_lp (k : Nat) : ∀ {s : St} {o : Int}, Vk s → s.few → s.ok → 0 ≤ o → (min m 1000 - o).toNat = k → s.lg.length + k ≤ 1000 → LoopP Tryz.prog (loopOf Tryz.prog 13 0) (hdR s i m o (runsB s i 1)) (.exit 0) (hdR (sendK s i k).1 i m (o + (sendK s i k).2) (runsB (sendK s i k).1 i 1)) := by
  have stop : ∀ {s : St} {o : Int} (b : Bool), LoopP Tryz.prog (loopOf Tryz.prog 13 0) (hdR s i m o b) (.exit 0) (hdR s i m o b) → LoopP Tryz.prog (loopOf Tryz.prog 13 0) (hdR s i m o b) (.exit 0) (hdR s i m (o + ((0 : Nat) : Int)) b) := fun b h => by
    simpa using h
  induction k with
  | zero =>
    intro s o _ _ _ _ hk _
    simp only [sendK]
    refine stop _ ?_
    by_cases h : o < m
    · exact re_thou (by simp [h]) (by simp; omega)
    · exact re_many (by simp; omega)
  | succ k ih =>
    intro s o hv hw ho h0 hk hl
    have hm : decide (o < m) = true := by simp; omega
    have hm2 : decide (o < 1000) = true := by simp; omega
    cases hr : runsB s i 1
    · have : sendK s i (k + 1) = (s, 0) := by simp [sendK, hr]
      rw [this]
      refine (hr ▸ stop (s := s) (o := o) false ?_)
      exact re_not hm hm2
    · obtain ⟨h1, h2, h3⟩ := runs_iff.1 hr
      obtain ⟨hB, hi0, hi1⟩ := has_iff.1 h1
      obtain ⟨n, rfl⟩ : ∃ n : Nat, i = n := ⟨i.toNat, by omega⟩
      have hn : n < s.th.length := by omega
      rw [Int.toNat_natCast] at h2 h3
      have hs1 : (gth s.th n).st ≠ 0 := by omega
      have e : sendK s n (k + 1) = ((sendK (sendN s n) n k).1, (sendK (sendN s n) n k).2 + 1) := by simp only [sendK, hr, if_true, sendS_is hr]
      rw [e]
      have hB' := sendN_stB hB hn hs1
      have hv' := sendN_vk hv hB hn hs1
      have hl' := sendN_lg hB hn
      have ho' := ok_of hB' hv' (by omega)
      have hw' := few_of hB' (by omega)
      refine re_more (u := sendN s n) (c := runsB (sendN s n) n 1) hm hm2 (dstep hB hv hw hn h2 h3) (by constructor <;> omega) (ac_rruns rfl ho' hw') ?_
      have := ih (s := sendN s n) (o := o + 1) hv' hw' ho' (by omega) (by omega) (by omega)
      rw [show o + (((sendK (sendN s n) n k).2 + 1 : Nat) : Int) = o + 1 + ((sendK (sendN s n) n k).2 : Int) by omega]
      exact this
set_option maxRecDepth 100000 in
theorem ac_rsteps0 {u : St} {b c : Bool} (hr : AC Tryz.prog 33 [stT s, .int .i64 i, .int .i64 1] (.bool b)) (hL : LoopP Tryz.prog (loopOf Tryz.prog 13 0) (hdR s i m 0 b) (.exit 0) (hdR u i m o c)) : AC Tryz.prog 13 [stT s, .int .i64 i, .int .i64 m] (.tuple #[stT u, .int .i64 o]) :=
  ac_path mixed (ext := [33, 16]) (fuel := 9) (n := 5) (orc := [vD b, oL [0, 1] [1, 2, 3, 6, 8, 9] 0 [(1, .int .i64 i), (2, .int .i64 m), (3, pt 0), (6, pt 1), (8, .int .i64 o), (9, vD c)] [bS u, bZ]]) (an hr <| an hL trivial) (by kernel_rfl)
/-- Some steps. -/
theorem ac_rsteps (ho : s.ok) (hw : s.few) (hl : s.lg.length + (min m 1000).toNat ≤ 1000) : AC Tryz.prog 13 [stT s, .int .i64 i, .int .i64 m] (.tuple #[stT (sendK s i (min m 1000).toNat).1, .int .i64 (sendK s i (min m 1000).toNat).2]) := by
  have h := rsteps_lp (i := i) (m := m) (min m 1000 - 0).toNat (s := s) (o := 0) (.of ho) hw ho (Int.le_refl _) rfl (by rw [show min m 1000 - 0 = min m 1000 by omega]; exact hl)
  rw [show min m 1000 - 0 = min m 1000 by omega, Int.zero_add] at h
  exact ac_rsteps0 (ac_rruns rfl ho hw) h
end
end Go.Proofs.YtfllnpcoggmepaaGreat

/- Contracts told by abstract values: whether two states are one. -/
namespace Go.Proofs.YtfllnpcoggmepaaGreat
set_option linter.unusedVariables false
set_option linter.unusedSimpArgs false
open Go.RowKit
theorem ac_rints (l : List Int) (hm : l.length ≤ 1000000) : AC Tryz.prog 28 [rowI l, rowI l] (.bool true) := by
  intro O W vs hl hat ; obtain ⟨ys, rfl, _, _, rfl, h0, _, _, rfl, h1, rfl⟩ := args_of hat
  obtain ⟨p, k, rfl, hs⟩ := rp_rowI.1 h0
  obtain ⟨q, k', rfl, ht⟩ := rp_rowI.1 h1
  refine (rints_any l l p q k k' W hs.s ht.s (by omega)).mono ?_
  rintro e W' ⟨rfl, hk⟩
  exact ⟨_, rfl, rp_bool.2 (by simp), hk⟩
theorem ac_rssame (l : List Slo) (hm : l.length ≤ 1000) : AC Tryz.prog 34 [rowS l, rowS l] (.bool true) := by
  intro O W vs hl hat ; obtain ⟨ys, rfl, _, _, rfl, h0, _, _, rfl, h1, rfl⟩ := args_of hat
  obtain ⟨p, k, rfl, hs⟩ := rp_rowS.1 h0
  obtain ⟨q, k', rfl, ht⟩ := rp_rowS.1 h1
  refine (rssame_any l l p q k k' W hs.s ht.s hm).mono ?_
  rintro e W' ⟨rfl, hk⟩
  exact ⟨_, rfl, rp_bool.2 (by simp), hk⟩
theorem ask_th (t : Th) (x y : Operand) : AskP Tryz.prog (.binOp .neq 44 x y 44) [thT t, thT t] (.bool false) :=
  ask_bin (fun x y W => (guard_agg (by kernel_rfl) x y _ _ W).1) (fun W => by simpa using th_neq t t W) x y
theorem ask_en (t : En) (x y : Operand) : AskP Tryz.prog (.binOp .neq 60 x y 60) [enT t, enT t] (.bool false) :=
  ask_bin (fun x y W => (guard_agg (by kernel_rfl) x y _ _ W).1) (fun W => by simpa using en_neq t t W) x y
theorem ask_cf (c : Cf) (x y : Operand) : AskP Tryz.prog (.binOp .eql 23 x y 23) [cfT c, cfT c] (.bool true) :=
  ask_bin (fun x y W => (guard_agg (by kernel_rfl) x y _ _ W).2) (fun W => by simpa using cf_eql c c W) x y
theorem ask_wd (h t m : Int) (x y : Operand) : AskP Tryz.prog (.binOp .eql 25 x y 25) [wdT h t m, wdT h t m] (.bool true) :=
  ask_bin (fun x y W => (guard_agg (by kernel_rfl) x y _ _ W).2) (fun W => by simpa using wo_eql ⟨h, t, m⟩ ⟨h, t, m⟩ W) x y
def hdTh (l : List Th) (i : Int) : Sg := ⟨mkT 26 [(0, rowT l), (1, rowT l), (5, .int .i64 i)], []⟩
def hdEn (l : List En) (i : Int) : Sg := ⟨mkT 26 [(0, rowE l), (1, rowE l), (5, .int .i64 i)], []⟩
def gle (l : List En) (i : Nat) : En := l.getD i ⟨0, 0, 0, 0, 0⟩
theorem ixEn {l : List En} {i : Nat} (h : i < l.length) : IxP ((l.map enT).toArray) (i : Int) (enT (gle l i)) := ⟨by omega, by simp [gle, h]⟩
set_option maxRecDepth 100000 in
theorem th_lp (l : List Th) (hm : l.length ≤ 1000000) : ∀ (k i : Nat), l.length - i = k → i ≤ l.length → LoopP Tryz.prog (loopOf Tryz.prog 36 0) (hdTh l i) (.exit 0) (hdTh l l.length)
  | 0, i, hk, hi => by
    have : i = l.length := by omega
    subst this
    exact loop_end mixed (fuel := 9) (n := 3) (im := []) (keep := [0, 1, 5]) (ext := []) (orc := [.bool false]) (an (show decide ((l.length : Int) < l.length) = false by simp) trivial) (by intro e; cases e) (by kernel_rfl)
  | k + 1, i, hk, hi => by
    have ih := th_lp l hm k (i + 1) (by omega) (by omega)
    rw [show ((i + 1 : Nat) : Int) = (i : Int) + 1 by omega] at ih
    exact loop_more mixed (fuel := 9) (n := 3) (im := []) (keep := [0, 1, 5]) (ext := []) (orc := [.bool true, thT (gth l i), thT (gth l i), .bool false, .bool false])
      (an (show decide ((i : Int) < l.length) = true by simp; omega) <| an (ixT (l := l) (n := i) (by omega)) <| an (ixT (l := l) (n := i) (by omega)) <| an (ask_th (gth l i) (.tmp 20) (.tmp 24)) <| an (rfl : false = false) <| an (show In64 ((i : Int) + 1) by constructor <;> omega) trivial) (by kernel_rfl) ih
set_option maxRecDepth 100000 in
theorem en_lp (l : List En) (hm : l.length ≤ 1000000) : ∀ (k i : Nat), l.length - i = k → i ≤ l.length → LoopP Tryz.prog (loopOf Tryz.prog 20 0) (hdEn l i) (.exit 0) (hdEn l l.length)
  | 0, i, hk, hi => by
    have : i = l.length := by omega
    subst this
    exact loop_end mixed (fuel := 9) (n := 3) (im := []) (keep := [0, 1, 5]) (ext := []) (orc := [.bool false]) (an (show decide ((l.length : Int) < l.length) = false by simp) trivial) (by intro e; cases e) (by kernel_rfl)
  | k + 1, i, hk, hi => by
    have ih := en_lp l hm k (i + 1) (by omega) (by omega)
    rw [show ((i + 1 : Nat) : Int) = (i : Int) + 1 by omega] at ih
    exact loop_more mixed (fuel := 9) (n := 3) (im := []) (keep := [0, 1, 5]) (ext := []) (orc := [.bool true, enT (gle l i), enT (gle l i), .bool false, .bool false])
      (an (show decide ((i : Int) < l.length) = true by simp; omega) <| an (ixEn (l := l) (i := i) (by omega)) <| an (ixEn (l := l) (i := i) (by omega)) <| an (ask_en (gle l i) (.tmp 20) (.tmp 24)) <| an (rfl : false = false) <| an (show In64 ((i : Int) + 1) by constructor <;> omega) trivial) (by kernel_rfl) ih
set_option maxRecDepth 100000 in
theorem ac_rthreads (l : List Th) (hm : l.length ≤ 1000000) : AC Tryz.prog 36 [rowT l, rowT l] (.bool true) :=
  ac_path mixed (ext := []) (fuel := 9) (n := 3) (orc := [.bool false, oL [] [0, 1, 5] 0 [(0, rowT l), (1, rowT l), (5, .int .i64 l.length)] []])
    (an (show ((l.length : Int) != l.length) = false by simp) <| an (th_lp l hm l.length 0 rfl (by omega)) trivial) (by kernel_rfl)
set_option maxRecDepth 100000 in
theorem ac_rlogs (l : List En) (hm : l.length ≤ 1000000) : AC Tryz.prog 20 [rowE l, rowE l] (.bool true) :=
  ac_path mixed (ext := []) (fuel := 9) (n := 3) (orc := [.bool false, oL [] [0, 1, 5] 0 [(0, rowE l), (1, rowE l), (5, .int .i64 l.length)] []])
    (an (show ((l.length : Int) != l.length) = false by simp) <| an (en_lp l hm l.length 0 rfl (by omega)) trivial) (by kernel_rfl)
set_option maxRecDepth 100000 in
theorem ac_resame (ep : Int) (l : List Int) (hm : l.length ≤ 1000000) : AC Tryz.prog 35 [evT ep l, evT ep l] (.bool true) := by
  rw [show (true : Bool) = (ep == ep) by simp]
  exact ac_path mixed (ext := [28]) (fuel := 9) (n := 3) (orc := [vD true]) (an (ac_rints l hm) trivial) (by kernel_rfl)
set_option maxRecDepth 100000 in
/-- A state is the same as itself. -/
theorem ac_rsame {s : St} (hw : s.few) (hl : s.lg.length ≤ 1000000) : AC Tryz.prog 14 [stT s, stT s] (.bool true) :=
  ac_path mixed (ext := [34, 28, 35, 36, 20]) (fuel := 9) (n := 3)
    (orc := [.bool true, .nilFunc, .bool true, .nilFunc, vD true, vD true, vD true, vD true, vD true, vD true, vD true, .bool true])
    (an (ask_cf s.cf (.tmp 10) (.tmp 12)) <| an (ask_wd s.hd s.tl s.md (.tmp 16) (.tmp 18)) <| an (ac_rssame s.sl hw.sl) <| an (ac_rints s.sn (by have := hw.sn; omega)) <| an (ac_rints s.rc (by have := hw.rc; omega)) <| an (ac_resame s.fe s.fl (by have := hw.fl; omega)) <| an (ac_resame s.ee s.el (by have := hw.el; omega)) <|
      an (ac_rthreads s.th (by have := hw.th; omega)) <| an (ac_rlogs s.lg hl) <| an (show (s.nw == s.nw) = true by simp) trivial) (by kernel_rfl)
end Go.Proofs.YtfllnpcoggmepaaGreat

/- Contracts told by abstract values: the program's New, Invoke, Queue, by the engine. -/
namespace Go.Proofs.YtfllnpcoggmepaaGreat
set_option linter.unusedVariables false
set_option linter.unusedSimpArgs false
open Go.RowKit
def quT (q : Qu) : Value := .agg #[rowI q.vals, .int .i64 q.cap, .int .i64 q.pol, .int .i64 q.mode]
theorem ac_ccheck {c : Cf} {r : Int} (h : (if cfB c = true then 0 else 20) = r) : AC Tryz.prog 54 [cfT c] (.int .i64 r) := by
  intro O W vs hl hat ; obtain ⟨ys, rfl, _, _, rfl, h0, rfl⟩ := args_of hat
  rw [rp_cfT] at h0
  subst h0
  refine (ccheck_val (b := cfB c) (Lib.hid rfl) W).mono ?_
  rintro e W' ⟨rfl, hk⟩
  exact ⟨_, rfl, rp_int.2 (by rw [h]), hk⟩
theorem ac_croom (c : Cf) : AC Tryz.prog 60 [cfT c] (.int .i64 (cfR c)) := by
  intro O W vs hl hat ; obtain ⟨ys, rfl, _, _, rfl, h0, rfl⟩ := args_of hat
  rw [rp_cfT] at h0
  subst h0
  refine (croom_any c.lg c.th c.po c.wt c.sp c.yi c.si W).mono ?_
  rintro e W' ⟨rfl, hk⟩
  exact ⟨_, rfl, rp_int.2 rfl, hk⟩
theorem ac_snew (r : Int) (hr : In64 r) : AC Tryz.prog 59 [.int .i64 r] (rowS (newL r)) := by
  intro O W vs hl hat ; obtain ⟨ys, rfl, _, _, rfl, h0, rfl⟩ := args_of hat
  rw [rp_int] at h0
  subst h0
  refine (snew_any r hr W).mono ?_
  rintro e W' ⟨p, k, rfl, ho, hk⟩
  exact ⟨_, rfl, rowS_own hl ho, hk⟩
theorem ac_omay {c : Cf} {i k r : Int} (h : opMay c.th c.si i k = r) : AC Tryz.prog 62 [cfT c, .int .i64 i, .int .i64 k] (.int .i64 r) := by
  intro O W vs hl hat ; obtain ⟨ys, rfl, _, _, rfl, h0, _, _, rfl, h1, _, _, rfl, h2, rfl⟩ := args_of hat
  rw [rp_cfT] at h0
  rw [rp_int] at h1 h2
  subst h0 h1 h2
  refine (omay_any c.lg c.th c.po c.wt c.sp c.yi c.si i k W).mono ?_
  rintro e W' ⟨rfl, hk⟩
  exact ⟨_, rfl, rp_int.2 (by rw [h]), hk⟩
theorem ac_tbeg {t r : Th} {k v u E : Int} (h : thBeg t k v u E r) : AC Tryz.prog 63 [thT t, .int .i64 k, .int .i64 v, .int .i64 u] (.tuple #[thT r, .int .i64 E]) := by
  intro O W vs hl hat ; obtain ⟨ys, rfl, _, _, rfl, h0, _, _, rfl, h1, _, _, rfl, h2, _, _, rfl, h3, rfl⟩ := args_of hat
  rw [rp_thT] at h0
  rw [rp_int] at h1 h2 h3
  subst h0 h1 h2 h3
  refine (tbeg_val h W).mono ?_
  rintro e W' ⟨rfl, hk⟩
  exact ⟨_, rfl, tup2 (rp_thT.2 rfl) (rp_int.2 rfl), hk⟩
theorem ac_place {p r : Int} (hp : In64 p) (hr : In64 r) : AC Tryz.prog 130 [.int .i64 p, .int .i64 r] (.int .i64 (placeI p r)) := by
  intro O W vs hl hat ; obtain ⟨ys, rfl, _, _, rfl, h0, _, _, rfl, h1, rfl⟩ := args_of hat
  rw [rp_int] at h0 h1
  subst h0 h1
  refine (place_any p r hp hr W).mono ?_
  rintro e W' ⟨rfl, hk⟩
  exact ⟨_, rfl, rp_int.2 rfl, hk⟩
theorem make_th {n : Int} (h0 : 0 ≤ n) (h1 : n ≤ 1000) : MakeP n n (List.replicate n.toNat th0).length ((List.replicate n.toNat th0).map thT) (thT th0) := ⟨by simp; omega, by omega, by omega, by simp⟩
set_option maxRecDepth 100000 in
theorem ac_pnew {c : Cf} (hc : cfB c = true) : AC Tryz.prog 22 [cfT c] (.tuple #[stT (newSt c), .int .i64 0]) :=
  ac_path mixed (ext := [54, 60, 59]) (fuel := 9) (n := 4) (orc := [.int .i64 0, .nilFunc, .int .i64 (cfR c), rowS (newL (cfR c)), rowT (List.replicate c.th.toNat th0)])
    (an (ac_ccheck (c := c) (r := 0) (by simp [hc])) <| an (ac_croom c) <| an (ac_snew (cfR c) (room_in c)) <| an (make_th (n := c.th) (by have := cf_th hc; omega) (by have := cf_th hc; omega)) <| an (len_map (f := thT) (List.replicate c.th.toNat th0)) trivial) (by kernel_rfl)
set_option maxRecDepth 100000 in
theorem ac_pinv_1 {s : St} {i k v u : Int} (hA : stB s = false) (ho : s.ok) (hf : s.fit) : AC Tryz.prog 23 [stT s, .int .i64 i, .int .i64 k, .int .i64 v, .int .i64 u] (.tuple #[stT s, .int .i64 20]) :=
  ac_path mixed (ext := [21, 122, 121, 124, 123]) (fuel := 9) (n := 5) (orc := [vD false, rowS s.sl, rowI s.sn, rowI s.rc, rowI s.fl, rowI s.el, rowT s.th, rowE s.lg])
    (an (ac_pcheck hA ho) <| an (ac_copS s.sl hf.sl) <| an (ac_copI s.sn hf.sn) <| an (ac_copI s.rc hf.rc) <| an (ac_copI s.fl hf.fl) <| an (ac_copI s.el hf.el) <| an (ac_copT s.th hf.th) <| an (ac_copE s.lg hf.lg) trivial) (by kernel_rfl)
set_option maxRecDepth 100000 in
theorem ac_pinv_2 {s : St} {i k v u E : Int} (hA : stB s = true) (hE : opMay s.cf.th s.cf.si i k = E) (hE0 : E ≠ 0) (ho : s.ok) (hf : s.fit) : AC Tryz.prog 23 [stT s, .int .i64 i, .int .i64 k, .int .i64 v, .int .i64 u] (.tuple #[stT s, .int .i64 E]) :=
  ac_path mixed (ext := [21, 122, 121, 124, 123, 62]) (fuel := 9) (n := 5) (orc := [vD true, .int .i64 E, .bool true, rowS s.sl, rowI s.sn, rowI s.rc, rowI s.fl, rowI s.el, rowT s.th, rowE s.lg])
    (an (ac_pcheck hA ho) <| an (ac_omay hE) <| an (show (E != 0) = true by simpa using hE0) <| an (ac_copS s.sl hf.sl) <| an (ac_copI s.sn hf.sn) <| an (ac_copI s.rc hf.rc) <| an (ac_copI s.fl hf.fl) <| an (ac_copI s.el hf.el) <| an (ac_copT s.th hf.th) <| an (ac_copE s.lg hf.lg) trivial) (by kernel_rfl)
set_option maxRecDepth 100000 in
theorem ac_pinv_3 {s : St} {n : Nat} {k v u E : Int} {t : Th} (hA : stB s = true) (hM : opMay s.cf.th s.cf.si n k = 0) (hT : thBeg (gth s.th n) k v u E t) (hn : n < s.th.length) (ho : s.ok) (hf : s.fit) :
    AC Tryz.prog 23 [stT s, .int .i64 n, .int .i64 k, .int .i64 v, .int .i64 u] (.tuple #[stT (s.setTh n t), .int .i64 E]) :=
  ac_path mixed (ext := [21, 122, 121, 124, 62, 63]) (fuel := 9) (n := 5)
    (orc := [vD true, .int .i64 0, .nilFunc, thT (gth s.th n), .tuple #[thT t, .int .i64 E], rowS s.sl, rowI s.sn, rowI s.rc, rowI s.fl, rowI s.el, rowT s.th, rowE s.lg, thT (gth s.th n), rowT (s.th.set n t)])
    (an (ac_pcheck hA ho) <| an (ac_omay hM) <| an (ixT hn) <| an (ac_tbeg hT) <| an (ac_copS s.sl hf.sl) <| an (ac_copI s.sn hf.sn) <| an (ac_copI s.rc hf.rc) <| an (ac_copI s.fl hf.fl) <| an (ac_copI s.el hf.el) <| an (allK_T s.th) <| an (app_nil (f := thT) (lt_ne hn) hf.th) <|
      an (ac_copE s.lg hf.lg) <| an (idT hn) <| an (elT hn) <| an (setT s.th n t) <| an (show LenP s.th.length (s.th.set n t).length ((s.th.set n t).map thT) from ⟨by simp, by simp⟩) trivial) (by kernel_rfl)
theorem ac_pinvoke {s : St} {i k v u E : Int} {r : St} (h : stBeg s i k v u E r) (ho : s.ok) (hf : s.fit) : AC Tryz.prog 23 [stT s, .int .i64 i, .int .i64 k, .int .i64 v, .int .i64 u] (.tuple #[stT r, .int .i64 E]) := by
  rcases h with ⟨hA, rfl, rfl⟩ | ⟨hA, h0, rfl, rfl⟩ | ⟨hA, h0, n, t, rfl, hn, hT, rfl⟩
  · exact ac_pinv_1 hA ho hf
  · exact ac_pinv_2 hA rfl h0 ho hf
  · exact ac_pinv_3 hA h0 hT hn ho hf

/-! ### What is there -/
def qZ : Value := .agg #[.slice none 0 0, .int .i64 0, .int .i64 0, .int .i64 0]
def qN (v : Value) (c p m : Int) : Value := .agg #[v, .int .i64 c, .int .i64 p, .int .i64 m]
def hdQ0 (s : St) (r n i : Int) : Sg := ⟨mkT 39 [(1, pt 0), (2, pt 1), (3, pt 2), (21, .int .i64 n), (22, .int .i64 i)], [some ⟨true, false, 20, 1, [stT s]⟩, some ⟨true, false, 4, 1, [qZ]⟩, some ⟨true, false, 4, 1, [qN (.slice none 0 0) r s.cf.po s.md]⟩]⟩
def hdQ (s : St) (r n i : Int) (l : List Int) : Sg := ⟨mkT 39 [(1, pt 0), (2, pt 1), (3, pt 2), (21, .int .i64 n), (22, .int .i64 i)], [some ⟨true, false, 20, 1, [stT s]⟩, some ⟨true, false, 4, 1, [qZ]⟩, some ⟨true, false, 4, 1, [qN (.slice (some ⟨3, 0, some 0⟩) l.length 0) r s.cf.po s.md]⟩, some ⟨true, true, 1, l.length, l.map (.int .i64 ·)⟩]⟩
def atL (s : St) (i : Nat) : List Int := (List.range i).map fun (n : Nat) => atV s (s.hd + n)
theorem atL_s (s : St) (i : Nat) : atL s (i + 1) = atL s i ++ [atV s (s.hd + i)] := by simp [atL, List.range_succ]
theorem lenI' (l : List Int) : l.length = (l.map (Value.int .i64 ·)).length := by simp
theorem at_ix {s : St} (h : stB s = true) {p : Int} (hp : 0 ≤ p) : IxP ((s.sl.map slT).toArray) (placeI p s.sl.length) (slT (gs s.sl (plc s.sl p))) := by
  have hl : liesS s.sl p = true := lies_iff.2 ⟨hp, (word_ok h).2.1⟩
  obtain ⟨h1, h2⟩ := plc_lt hl
  rw [h2]
  exact ⟨by omega, by simp [gs_eq h1, h1]⟩
section
variable {s : St} {r : Int} {n : Nat}
set_option maxRecDepth 100000 in
theorem q_0 (h : stB s = true) (hn : s.tl - s.hd = n) (h0 : 0 < n) (hL : LoopP Tryz.prog (loopOf Tryz.prog 24 0) (hdQ s r n 1 (atL s 1)) (.exit 0) (hdQ s r n n (atL s n))) : LoopP Tryz.prog (loopOf Tryz.prog 24 0) (hdQ0 s r n 0) (.exit 0) (hdQ s r n n (atL s n)) := by
  have hc := check_len (word_ok h).1
  have hs := word_ok h
  have hr := cf_room (st_iff.1 h).1
  refine loop_more mixed (ext := [130]) (fuel := 9) (n := 3) (im := [0, 1, 2, 4]) (keep := [1, 2, 3, 21, 22]) (orc := [.bool true, .int .i64 (placeI (s.hd + 0) s.sl.length), slT (gs s.sl (plc s.sl (s.hd + 0))), rowI (atL s 1)])
    (an (show decide ((0 : Int) < n) = true by simp; omega) <| an (show In64 (s.hd + 0) by constructor <;> omega) <| an (ac_place (p := s.hd + 0) (r := s.sl.length) (by constructor <;> omega) (by constructor <;> omega)) <| an (at_ix h (p := s.hd + 0) (by omega)) <| an (rfl : (1 : Nat) = 1) <| an (allK_I [atV s (s.hd + 0)]) <|
      an (show 0 < 1 ∧ AppP (atL s 1).length ((atL s 1).map (Value.int .i64 ·)) 0 [] 1 [.int .i64 (atV s (s.hd + 0))] from ⟨by omega, by simp [atL], by simp [atL], by omega⟩) <| an (show In64 ((0 : Int) + 1) by constructor <;> omega) trivial) (by kernel_rfl) hL
set_option maxRecDepth 100000 in
theorem q_1 (h : stB s = true) (hn : s.tl - s.hd = n) : ∀ (k i : Nat), n - i = k → i ≤ n → LoopP Tryz.prog (loopOf Tryz.prog 24 0) (hdQ s r n i (atL s i)) (.exit 0) (hdQ s r n n (atL s n))
  | 0, i, hk, hi => by
    have : i = n := by omega
    subst this
    exact loop_end mixed (ext := [130]) (fuel := 9) (n := 3) (im := [0, 1, 2, 3]) (keep := [1, 2, 3, 21, 22]) (orc := [.bool false]) (an (show decide ((i : Int) < i) = false by simp) trivial) (by intro e; cases e) (by kernel_rfl)
  | k + 1, i, hk, hi => by
    have hc := check_len (word_ok h).1
    have hs := word_ok h
    have hr := cf_room (st_iff.1 h).1
    have ih := q_1 h hn k (i + 1) (by omega) (by omega)
    rw [show ((i + 1 : Nat) : Int) = (i : Int) + 1 by omega] at ih
    have hl : (atL s i).length = i := by simp [atL]
    have hl1 : (atL s (i + 1)).length = i + 1 := by simp [atL]
    exact loop_more mixed (ext := [130]) (fuel := 9) (n := 3) (im := [0, 1, 2, 5]) (keep := [1, 2, 3, 21, 22]) (orc := [.bool true, .int .i64 (placeI (s.hd + i) s.sl.length), slT (gs s.sl (plc s.sl (s.hd + i))), rowI (atL s (i + 1))])
      (an (show decide ((i : Int) < n) = true by simp; omega) <| an (show In64 (s.hd + i) by constructor <;> omega) <| an (ac_place (p := s.hd + i) (r := s.sl.length) (by constructor <;> omega) (by constructor <;> omega)) <| an (at_ix h (p := s.hd + i) (by omega)) <| an (rfl : (1 : Nat) = 1) <| an (allK_I [atV s (s.hd + i)]) <|
        an (lenI' (atL s i)) <| an (show AppP (atL s (i + 1)).length ((atL s (i + 1)).map (Value.int .i64 ·)) (atL s i).length ((atL s i).map (Value.int .i64 ·)) 1 [.int .i64 (atV s (s.hd + i))] from ⟨by omega, by rw [atL_s]; simp, by omega⟩) <| an (show In64 ((i : Int) + 1) by constructor <;> omega) trivial) (by kernel_rfl) ih
set_option maxRecDepth 100000 in
theorem ac_pqueue {q : Qu} (hq : quV s = q) (ho : s.ok) : AC Tryz.prog 24 [stT s] (quT q) := by
  subst hq
  cases hB : stB s
  · rw [show quV s = ⟨[], 0, 0, 0⟩ by unfold quV; rw [hB]; rfl]
    exact ac_path mixed (ext := [21, 60, 66]) (fuel := 9) (n := 4) (orc := [vD false]) (an (ac_pcheck hB ho) trivial) (by kernel_rfl)
  · have hc := check_len (word_ok hB).1
    obtain ⟨n, hn⟩ : ∃ n : Nat, s.tl - s.hd = n := ⟨(s.tl - s.hd).toNat, by omega⟩
    rw [show quV s = ⟨atL s n, cfR s.cf, s.cf.po, s.md⟩ by unfold quV; rw [if_pos hB, hn]; rfl]
    have hL : AC Tryz.prog 66 [wdT s.hd s.tl s.md] (.int .i64 n) := by
      have := ac_poslen (h := s.hd) (t := s.tl) (m := s.md) (by constructor <;> omega) (by constructor <;> omega)
      rwa [hc.2.2.2.2.2.1, hn] at this
    by_cases h0 : n = 0
    · subst h0
      exact ac_path mixed (ext := [21, 60, 66]) (fuel := 9) (n := 4) (orc := [vD true, .int .i64 (cfR s.cf), .int .i64 (0 : Nat), .nilFunc]) (an (ac_pcheck hB ho) <| an (ac_croom s.cf) <| an hL trivial) (by kernel_rfl)
    · have h1 := q_1 (r := cfR s.cf) hB hn (n - 1) 1 rfl (by omega)
      exact ac_path mixed (ext := [21, 60, 66]) (fuel := 9) (n := 4) (orc := [vD true, .int .i64 (cfR s.cf), .int .i64 n, oL [0, 1, 2] [1, 2, 3, 21, 22] 0 [(1, pt 0), (2, pt 1), (3, pt 2), (21, .int .i64 n), (22, .int .i64 n)] (hdQ s (cfR s.cf) n n (atL s n)).H])
        (an (ac_pcheck hB ho) <| an (ac_croom s.cf) <| an hL <| an (q_0 hB hn (by omega) h1) <| an (len_map (f := (Value.int .i64 ·)) (atL s n)) trivial) (by kernel_rfl)
end
end Go.Proofs.YtfllnpcoggmepaaGreat
