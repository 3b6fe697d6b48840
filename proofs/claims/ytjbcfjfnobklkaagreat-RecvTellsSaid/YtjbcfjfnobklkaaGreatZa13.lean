/- Texts merged: RcPP, RcWP, RcLP, RcMP, RcNP, RcRP. -/
import Derived.Test.YtjbcfjfnobklkaaGreatZa12
import Derived.Test.YtjbcfjfnobklkaaGreatZa9
import Derived.Test.YtjbcfjfnobklkaaGreatZa11
/- The head of the laws of layer 15 (awake), by contracts told by abstract values. -/
namespace Go.Proofs.YtjbcfjfnobklkaaGreat
set_option linter.unusedVariables false
set_option linter.unusedSimpArgs false
open Go.RowKit
theorem flN_v : flN cW 1 = vR := by rfl
theorem st_R {s : St} {i m : Int} {k : Nat} {r : St} {c : Nat} (hB : stB s = true) (ho : s.ok) (hg : s.lg.length ≤ 10) (hk : (min m 1000).toNat = k) (h : recvK s i k = (r, c)) : AC Tryz.prog 12 [stT s, .int .i64 i, .int .i64 m] (.tuple #[stT r, .int .i64 c]) := by
  have := ac_vst (i := i) (m := m) ho (fit_of hB (by omega)) (by omega)
  rw [hk, h] at this
  exact this
set_option maxRecDepth 100000 in
theorem ac_awakeR : AC Tryz.prog 10 [] (.bool true) :=
  ac_path mixed (ext := [22, 23, 12, 17, 18]) (fuel := 9) (n := 5)
    (orc := [.tuple #[stT vR, .bool true], .tuple #[stT xR, .int .i64 0], .tuple #[stT aR, .int .i64 7], .tuple #[stT bR, .int .i64 4], .tuple #[stT yR, .int .i64 0], .tuple #[stT zR, .int .i64 4], .nilFunc, .nilFunc, .nilFunc, .nilFunc, .nilFunc, .nilFunc, thT ⟨0, 4, 0, 0, 0, 0, 0, 0, false, 1, 10⟩, .nilFunc, thT ⟨0, 4, 0, 0, 0, 0, 0, 0, false, 1, 10⟩, .nilFunc, .bool true, .nilFunc, enT e1R, .bool true, .nilFunc, .nilFunc, thT ⟨1, 4, 0, 0, 4, 0, 0, 0, false, 1, 10⟩, .nilFunc, .nilFunc, thT ⟨0, 5, 0, 0, 0, 0, 0, 0, false, 4, 0⟩, .nilFunc, vD true, vD false, .int .i64 3, .nilFunc, .int .i64 1, .nilFunc, .int .i64 0])
    (an (flN_v ▸ ac_filled (n := 1) cW_b sW_in (by decide)) <| an (ac_pinvoke w_ix vR_in (fit_of vR_b (by decide))) <| an (st_R (i := 1) (m := 100) xR_b xR_in (by decide) (by decide) w_ar) <| an (st_R (i := 1) (m := 4) xR_b xR_in (by decide) (by decide) w_br) <| an (ac_pinvoke w_iy aR_in (fit_of aR_b (by decide))) <| an (st_R (i := 0) (m := 100) yR_b yR_in (by decide) (by decide) w_zr) <|
      an (ixT (l := aR.th) (n := 1) (by decide)) <| an (ixT (l := aR.th) (n := 1) (by decide)) <| an (ask_bin (fun x y W => (guard_agg (by kernel_rfl) x y _ _ W).2) (fun W => by simpa using wo_eql ⟨1, 1, 0⟩ ⟨1, 1, 0⟩ W) (.tmp 86) (.tmp 87)) <| an (ixEn (l := aR.lg) (i := 1) (by decide)) <| an (ask_bin (fun x y W => (guard_agg (by kernel_rfl) x y _ _ W).2) (fun W => by simpa using en_eql e1R e1R W) (.tmp 94) (.tmp 95)) <|
      an (ixT (l := bR.th) (n := 1) (by decide)) <| an (ixT (l := zR.th) (n := 0) (by decide)) <| an (ac_vinside (pc := 1) (b := true) (by decide)) <| an (ac_vinside (pc := 0) (b := false) (by decide)) <| an (ac_vnear (pc := 3) (k := 3) (by decide)) <| an (ac_vnear (pc := 6) (k := 1) (by decide)) <| an (ac_vnear (pc := 9) (k := 0) (by decide)) trivial) (by kernel_rfl)
end Go.Proofs.YtjbcfjfnobklkaaGreat

/- The document's Take, by the engine. -/
namespace Go.Proofs.YtjbcfjfnobklkaaGreat
set_option linter.unusedVariables false
set_option linter.unusedSimpArgs false
open Go.RowKit
section
variable {h t m r : Int}
set_option maxRecDepth 100000 in
theorem er_take (hh : In64 h) (ht : In64 t) (hm : In64 m) (hr : In64 r) : AC Tryz.prog 94 [wdT h t m, .int .i64 r] (.tuple #[wdT (tkH h t m r) t m, .int .i64 (tkP h t m r), .int .i64 (tkR h t m r)]) := by
  cases hc : checkB h t m r
  · have e : tkR h t m r = 7 := by simp [tkR, haltB, hc]
    rw [(tk_n (by omega)).1, (tk_n (by omega)).2, e]
    exact ac_path mixed (ext := [167]) (fuel := 9) (n := 6) (orc := [vD false]) (an (ac_rposchk hc hh ht hm hr) trivial) (by kernel_rfl)
  · have hb := check_len hc
    by_cases h2 : m = 2
    · have e : tkR h t m r = 7 := by simp [tkR, haltB, h2]
      rw [(tk_n (by omega)).1, (tk_n (by omega)).2, e]
      exact ac_path mixed (ext := [167]) (fuel := 9) (n := 6) (orc := [vD true, .bool true]) (an (ac_rposchk hc hh ht hm hr) <| an (show (m == 2) = true by simp [h2]) trivial) (by kernel_rfl)
    · have e0 := tk_of hc
      rw [if_neg h2] at e0
      by_cases hs : h < t
      · have e : tkR h t m r = 1 := by rw [e0, if_pos hs]
        rw [(tk_y e).1, (tk_y e).2, e]
        exact ac_path mixed (ext := [167]) (fuel := 9) (n := 6) (orc := [vD true, .bool false, .bool true]) (an (ac_rposchk hc hh ht hm hr) <| an (show (m == 2) = false by simp [h2]) <| an (show decide (h < t) = true by simp [hs]) <| an (show In64 (h + 1) by simp only [In64]; omega) trivial) (by kernel_rfl)
      · rw [if_neg hs] at e0
        by_cases h1 : m = 1
        · have e : tkR h t m r = 6 := by rw [e0, if_pos h1]
          rw [(tk_n (by omega)).1, (tk_n (by omega)).2, e]
          exact ac_path mixed (ext := [167]) (fuel := 9) (n := 6) (orc := [vD true, .bool false, .bool false, .bool true]) (an (ac_rposchk hc hh ht hm hr) <| an (show (m == 2) = false by simp [h2]) <| an (show decide (h < t) = false by simp [hs]) <| an (show (m == 1) = true by simp [h1]) trivial) (by kernel_rfl)
        · have e : tkR h t m r = 4 := by rw [e0, if_neg h1]
          rw [(tk_n (by omega)).1, (tk_n (by omega)).2, e]
          exact ac_path mixed (ext := [167]) (fuel := 9) (n := 6) (orc := [vD true, .bool false, .bool false, .bool false]) (an (ac_rposchk hc hh ht hm hr) <| an (show (m == 2) = false by simp [h2]) <| an (show decide (h < t) = false by simp [hs]) <| an (show (m == 1) = false by simp [h1]) trivial) (by kernel_rfl)
end
end Go.Proofs.YtjbcfjfnobklkaaGreat

/- The document's Step of who receives, case by case, told by plain states. -/
namespace Go.Proofs.YtjbcfjfnobklkaaGreat
set_option linter.unusedVariables false
set_option linter.unusedSimpArgs false
open Go.RowKit
/-- What is true of a state in which thread n, at step c, receives. -/
structure Dr (s : St) (n : Nat) (c : Int) : Prop where
  ck : stB s = true
  ok : s.ok
  few : s.few
  hn : n < s.th.length
  st : (gth s.th n).st = 1
  sd : opSide (gth s.th n).ki = 2
  pc : (gth s.th n).pc = c
section
variable {s : St} {n : Nat} {c : Int}
theorem Dr.ht (h : Dr s n c) : gth s.th n = pcT (gth s.th n) c := by rw [← h.pc]; rfl
theorem Dr.ix (h : Dr s n c) : IxP ((s.th.map thT).toArray) (n : Int) (thT (pcT (gth s.th n) c)) := by
  have := ixT h.hn
  rw [h.ht] at this
  exact this
theorem Dr.has (h : Dr s n c) : hasB s n = true := has_of h.ck h.hn
theorem Dr.ru (h : Dr s n c) : runsB s n 2 = true := runs_iff.2 ⟨h.has, by simpa using h.st, by simpa using h.sd⟩
theorem Dr.rs (h : Dr s n c) : thRuns (gth s.th n).st = 0 := by rw [h.st]; rfl
theorem Dr.lrc (h : Dr s n c) : okLn s.rc = true := (stn_iff.1 (full_lines h.ck).2.1).1
theorem Dr.i15 (h : Dr s n c) : (0 : Int) ≤ n ∧ (n : Int) ≤ 15 := (ok_th h.ck h.hn).2
theorem Dr.ful (h : Dr s n c) : okE s.fe s.fl = true := (full_lines h.ck).2.2.2.2.1
theorem Dr.emp (h : Dr s n c) : okE s.ee s.el = true := (full_lines h.ck).2.2.2.2.2
theorem Dr.sl (h : Dr s n c) : okSl s.sl = true := (word_ok h.ck).2.1
theorem Dr.bd (h : Dr s n c) : 0 ≤ (gth s.th n).re ∧ (gth s.th n).re ≤ 1099511627776 ∧ 0 ≤ (gth s.th n).tr ∧ (gth s.th n).tr ≤ 1099511627776 := by
  have h1 := gth_ok h.ck h.hn
  generalize gth s.th n = t at h1
  obtain ⟨st, ki, va, un, pc, re, se, tr, la, rs, go⟩ := t
  rw [thB_iff] at h1
  simp only
  omega
theorem Dr.re0 (h : Dr s n c) : 0 ≤ (gth s.th n).re := h.bd.1
theorem Dr.rei (h : Dr s n c) : In64 (gth s.th n).re := by have := h.bd; constructor <;> omega
theorem Dr.tr1 (h : Dr s n c) (_hr : decide ((gth s.th n).tr < 1099511627776) = true) : In64 ((gth s.th n).tr + 1) := by have := h.bd; constructor <;> omega
theorem Dr.onw (h : Dr s n c) (hr : decide ((gth s.th n).tr < 1099511627776) = true) : AC Tryz.prog 43 [stT s, .int .i64 n, thT (upT (gth s.th n) c)] (stT (s.onTh n onT)) := by
  have e : s.onTh n onT = s.setTh n (upT (gth s.th n) c) := by
    unfold St.onTh onT upT
    rw [if_pos (of_decide_eq_true hr), h.pc]
  rw [e]
  exact ac_rwith s n (upT (gth s.th n) c) h.hn h.few.th
theorem Dr.onx (h : Dr s n c) (hr : decide ((gth s.th n).tr < 1099511627776) = false) : AC Tryz.prog 43 [stT s, .int .i64 n, thT (pcT (gth s.th n) c)] (stT (s.onTh n onT)) := by
  have e : s.onTh n onT = s.setTh n (pcT (gth s.th n) c) := by
    unfold St.onTh onT pcT
    rw [if_neg (of_decide_eq_false hr), h.pc]
  rw [e]
  exact ac_rwith s n (pcT (gth s.th n) c) h.hn h.few.th
theorem Dr.len (h : Dr s n c) : In64 (s.sl.length : Int) := by have := h.few.sl; constructor <;> omega
theorem Dr.see {r : Int} (h : Dr s n c) (hs : seesR s = r) : AC Tryz.prog 94 [wdT s.hd s.tl s.md, .int .i64 s.sl.length] (.tuple #[wdT (tkH s.hd s.tl s.md s.sl.length) s.tl s.md, .int .i64 (tkP s.hd s.tl s.md s.sl.length), .int .i64 r]) := hs ▸ er_take h.ok.hd h.ok.tl h.ok.md h.len
theorem Dr.see1 (h : Dr s n c) (hs : seesR s = 1) : AC Tryz.prog 94 [wdT s.hd s.tl s.md, .int .i64 s.sl.length] (.tuple #[wdT (s.hd + 1) s.tl s.md, .int .i64 s.hd, .int .i64 1]) := by
  have := h.see hs
  rw [(tk_y hs).1, (tk_y hs).2] at this
  exact this
theorem Dr.ix3 (h : Dr s n 3) : IxP ((((s.toWord (s.hd + 1) s.tl s.md).onTh n (regT · s.hd 4)).th.map thT).toArray) (n : Int) (thT (regT (pcT (gth s.th n) 3) s.hd 4)) := by
  have := ixT (l := ((s.toWord (s.hd + 1) s.tl s.md).onTh n (regT · s.hd 4)).th) (n := n) (by show n < (s.th.set n _).length; rw [List.length_set]; exact h.hn)
  rw [gth_on (s := s.toWord (s.hd + 1) s.tl s.md) h.hn] at this
  exact this
theorem hA3 (h : n < s.th.length) : n < ((s.toWord (s.hd + 1) s.tl s.md).onTh n (regT · s.hd 4)).th.length := by show n < (s.th.set n _).length; rw [List.length_set]; exact h
theorem Dr.nx {v : Int} (_h : Dr s n c) (hn : waySt s (gth s.th n).tr = v) : AC Tryz.prog 93 [cfT s.cf, .int .i64 (gth s.th n).tr] (.int .i64 v) := by subst hn; exact ac_rnext s.cf (gth s.th n).tr
theorem Dr.com (h : Dr s n c) (hb : cmB s.ee s.el (gth s.th n).se n = true) : AC Tryz.prog 103 [evT s.ee s.el, .int .i64 (gth s.th n).se, .int .i64 n] (.tuple #[evT s.ee (s.el ++ [(n : Int)]), .bool true, .int .i64 (entE s.el n)]) := by
  have := ac_rcommit hb h.emp h.i15
  rw [show cmL s.ee s.el (gth s.th n).se n = s.el ++ [(n : Int)] by unfold cmL; rw [if_pos hb]] at this
  exact this
theorem Dr.con (h : Dr s n c) (hb : cmB s.ee s.el (gth s.th n).se n = false) : AC Tryz.prog 103 [evT s.ee s.el, .int .i64 (gth s.th n).se, .int .i64 n] (.tuple #[evT s.ee s.el, .bool false, .int .i64 (entE s.el n)]) := by
  have := ac_rcommit hb h.emp h.i15
  rw [show cmL s.ee s.el (gth s.th n).se n = s.el by unfold cmL; rw [hb]; rfl] at this
  exact this
set_option maxRecDepth 100000 in
theorem dr_enter (h : Dr s n 0)  : AC Tryz.prog 16 [stT s, .int .i64 n] (stT ((s.toRc (entL s.rc n)).onTh n (pcT · 1))) :=
  ac_path mixed (ext := [31, 43, 165, 46, 95, 36, 90, 49, 41, 42, 94, 44, 45, 103, 104, 50, 93]) (fuel := 9) (n := 6) (orc := [vD true, thT (pcT (gth s.th n) 0), .nilFunc, .tuple #[rowI (entL s.rc n), .int .i64 (entE s.rc n)], thT (pcT (gth s.th n) 0), stT ((s.toRc (entL s.rc n)).onTh n (pcT · 1))])
    (an (ac_rruns h.ru h.ok h.few) <| an h.ix <| an (ac_renter h.lrc h.i15) <| an (h.ix) <| an (ac_rwith (s.toRc (entL s.rc n)) n (pcT (pcT (gth s.th n) 0) 1) h.hn h.few.th) trivial) (by kernel_rfl)
set_option maxRecDepth 100000 in
theorem dr_first (h : Dr s n 1) (hp : (plI s.rc n == 0) = true) : AC Tryz.prog 16 [stT s, .int .i64 n] (stT (s.onTh n (pcT · 2))) :=
  ac_path mixed (ext := [31, 43, 165, 46, 95, 36, 90, 49, 41, 42, 94, 44, 45, 103, 104, 50, 93]) (fuel := 9) (n := 6) (orc := [vD true, thT (pcT (gth s.th n) 1), .nilFunc, .nilFunc, .int .i64 (plI s.rc n), .bool true, thT (pcT (gth s.th n) 1), stT ((s).onTh n (pcT · 2))])
    (an (ac_rruns h.ru h.ok h.few) <| an h.ix <| an (ac_rlplace (l := s.rc) (i := n) rfl) <| an (hp) <| an (h.ix) <| an (ac_rwith (s) n (pcT (pcT (gth s.th n) 1) 2) h.hn h.few.th) trivial) (by kernel_rfl)
set_option maxRecDepth 100000 in
theorem dr_firstL (h : Dr s n 1) (hp : (plI s.rc n == 0) = false) (hl : (gth s.th n).la = true) : AC Tryz.prog 16 [stT s, .int .i64 n] (stT (toldS s n (gth s.th n).ki 5 0 9)) :=
  ac_path mixed (ext := [31, 43, 165, 46, 95, 36, 90, 49, 41, 42, 94, 44, 45, 103, 104, 50, 93]) (fuel := 9) (n := 6) (orc := [vD true, thT (pcT (gth s.th n) 1), .nilFunc, .nilFunc, .int .i64 (plI s.rc n), .bool false, thT (pcT (gth s.th n) 1), .bool true, thT (pcT (gth s.th n) 1), stT (tellS (s) n (gth s.th n).ki (5) 0), thT (gth (tellS (s) n (gth s.th n).ki (5) 0).th n), stT (toldS (s) n (gth s.th n).ki (5) 0 9)])
    (an (ac_rruns h.ru h.ok h.few) <| an h.ix <| an (ac_rlplace (l := s.rc) (i := n) rfl) <| an (hp) <| an (h.ix) <| an (hl) <| an (h.ix) <| an (ac_rtell (k := (gth s.th n).ki) (r := 5) (g := 0) h.has h.ok h.few) <| an (ixT (l := (tellS (s) n (gth s.th n).ki (5) 0).th) (by rw [tell_len]; exact h.hn)) <| an (ac_rwith (tellS (s) n (gth s.th n).ki (5) 0) n (pcT (gth (tellS (s) n (gth s.th n).ki (5) 0).th n) 9) (by rw [tell_len]; exact h.hn) (by rw [tell_len]; exact h.few.th)) trivial) (by kernel_rfl)
set_option maxRecDepth 100000 in
theorem dr_firstT (h : Dr s n 1) (hp : (plI s.rc n == 0) = false) (hl : (gth s.th n).la = false) (hr : decide ((gth s.th n).tr < 1099511627776) = true) : AC Tryz.prog 16 [stT s, .int .i64 n] (stT (s.onTh n onT)) :=
  ac_path mixed (ext := [31, 43, 165, 46, 95, 36, 90, 49, 41, 42, 94, 44, 45, 103, 104, 50, 93]) (fuel := 9) (n := 6) (orc := [vD true, thT (pcT (gth s.th n) 1), .nilFunc, .nilFunc, .int .i64 (plI s.rc n), .bool false, thT (pcT (gth s.th n) 1), .bool false, thT (pcT (gth s.th n) 1), .bool true, stT (s.onTh n onT)])
    (an (ac_rruns h.ru h.ok h.few) <| an h.ix <| an (ac_rlplace (l := s.rc) (i := n) rfl) <| an (hp) <| an (h.ix) <| an (hl) <| an (h.ix) <| an (hr) <| an (h.tr1 hr) <| an (h.onw hr) trivial) (by kernel_rfl)
set_option maxRecDepth 100000 in
theorem dr_firstX (h : Dr s n 1) (hp : (plI s.rc n == 0) = false) (hl : (gth s.th n).la = false) (hr : decide ((gth s.th n).tr < 1099511627776) = false) : AC Tryz.prog 16 [stT s, .int .i64 n] (stT (s.onTh n onT)) :=
  ac_path mixed (ext := [31, 43, 165, 46, 95, 36, 90, 49, 41, 42, 94, 44, 45, 103, 104, 50, 93]) (fuel := 9) (n := 6) (orc := [vD true, thT (pcT (gth s.th n) 1), .nilFunc, .nilFunc, .int .i64 (plI s.rc n), .bool false, thT (pcT (gth s.th n) 1), .bool false, thT (pcT (gth s.th n) 1), .bool false, stT (s.onTh n onT)])
    (an (ac_rruns h.ru h.ok h.few) <| an h.ix <| an (ac_rlplace (l := s.rc) (i := n) rfl) <| an (hp) <| an (h.ix) <| an (hl) <| an (h.ix) <| an (hr) <| an (h.onx hr) trivial) (by kernel_rfl)
set_option maxRecDepth 100000 in
theorem dr_lookR (h : Dr s n 2) (hs : seesR s = 1) : AC Tryz.prog 16 [stT s, .int .i64 n] (stT (s.onTh n (pcT · 3))) :=
  ac_path mixed (ext := [31, 43, 165, 46, 95, 36, 90, 49, 41, 42, 94, 44, 45, 103, 104, 50, 93]) (fuel := 9) (n := 6) (orc := [vD true, thT (pcT (gth s.th n) 2), .nilFunc, .nilFunc, .nilFunc, .tuple #[wdT (tkH s.hd s.tl s.md s.sl.length) s.tl s.md, .int .i64 (tkP s.hd s.tl s.md s.sl.length), .int .i64 1], .nilFunc, thT (pcT (gth s.th n) 2), stT ((s).onTh n (pcT · 3))])
    (an (ac_rruns h.ru h.ok h.few) <| an h.ix <| an (h.see hs) <| an (h.ix) <| an (ac_rwith (s) n (pcT (pcT (gth s.th n) 2) 3) h.hn h.few.th) trivial) (by kernel_rfl)
set_option maxRecDepth 100000 in
theorem dr_lookE (h : Dr s n 2) (h1 : (seesR s == 1) = false) (h4 : (seesR s != 4) = true) : AC Tryz.prog 16 [stT s, .int .i64 n] (stT (toldS s n (gth s.th n).ki (seesR s) 0 9)) :=
  ac_path mixed (ext := [31, 43, 165, 46, 95, 36, 90, 49, 41, 42, 94, 44, 45, 103, 104, 50, 93]) (fuel := 9) (n := 6) (orc := [vD true, thT (pcT (gth s.th n) 2), .nilFunc, .nilFunc, .nilFunc, .tuple #[wdT (tkH s.hd s.tl s.md s.sl.length) s.tl s.md, .int .i64 (tkP s.hd s.tl s.md s.sl.length), .int .i64 (seesR s)], .bool false, .bool true, thT (pcT (gth s.th n) 2), stT (tellS (s) n (gth s.th n).ki (seesR s) 0), thT (gth (tellS (s) n (gth s.th n).ki (seesR s) 0).th n), stT (toldS (s) n (gth s.th n).ki (seesR s) 0 9)])
    (an (ac_rruns h.ru h.ok h.few) <| an h.ix <| an (h.see rfl) <| an (h1) <| an (h4) <| an (h.ix) <| an (ac_rtell (k := (gth s.th n).ki) (r := seesR s) (g := 0) h.has h.ok h.few) <| an (ixT (l := (tellS (s) n (gth s.th n).ki (seesR s) 0).th) (by rw [tell_len]; exact h.hn)) <| an (ac_rwith (tellS (s) n (gth s.th n).ki (seesR s) 0) n (pcT (gth (tellS (s) n (gth s.th n).ki (seesR s) 0).th n) 9) (by rw [tell_len]; exact h.hn) (by rw [tell_len]; exact h.few.th)) trivial) (by kernel_rfl)
set_option maxRecDepth 100000 in
theorem dr_lookB (h : Dr s n 2) (hs : seesR s = 4) (hk : ((gth s.th n).ki == 5) = true) : AC Tryz.prog 16 [stT s, .int .i64 n] (stT (toldS s n (gth s.th n).ki 4 0 9)) :=
  ac_path mixed (ext := [31, 43, 165, 46, 95, 36, 90, 49, 41, 42, 94, 44, 45, 103, 104, 50, 93]) (fuel := 9) (n := 6) (orc := [vD true, thT (pcT (gth s.th n) 2), .nilFunc, .nilFunc, .nilFunc, .tuple #[wdT (tkH s.hd s.tl s.md s.sl.length) s.tl s.md, .int .i64 (tkP s.hd s.tl s.md s.sl.length), .int .i64 4], .nilFunc, .nilFunc, thT (pcT (gth s.th n) 2), .bool true, thT (pcT (gth s.th n) 2), stT (tellS (s) n (gth s.th n).ki (4) 0), thT (gth (tellS (s) n (gth s.th n).ki (4) 0).th n), stT (toldS (s) n (gth s.th n).ki (4) 0 9)])
    (an (ac_rruns h.ru h.ok h.few) <| an h.ix <| an (h.see hs) <| an (h.ix) <| an (hk) <| an (h.ix) <| an (ac_rtell (k := (gth s.th n).ki) (r := 4) (g := 0) h.has h.ok h.few) <| an (ixT (l := (tellS (s) n (gth s.th n).ki (4) 0).th) (by rw [tell_len]; exact h.hn)) <| an (ac_rwith (tellS (s) n (gth s.th n).ki (4) 0) n (pcT (gth (tellS (s) n (gth s.th n).ki (4) 0).th n) 9) (by rw [tell_len]; exact h.hn) (by rw [tell_len]; exact h.few.th)) trivial) (by kernel_rfl)
set_option maxRecDepth 100000 in
theorem dr_lookL (h : Dr s n 2) (hs : seesR s = 4) (hk : ((gth s.th n).ki == 5) = false) (hl : (gth s.th n).la = true) : AC Tryz.prog 16 [stT s, .int .i64 n] (stT (toldS s n (gth s.th n).ki 5 0 9)) :=
  ac_path mixed (ext := [31, 43, 165, 46, 95, 36, 90, 49, 41, 42, 94, 44, 45, 103, 104, 50, 93]) (fuel := 9) (n := 6) (orc := [vD true, thT (pcT (gth s.th n) 2), .nilFunc, .nilFunc, .nilFunc, .tuple #[wdT (tkH s.hd s.tl s.md s.sl.length) s.tl s.md, .int .i64 (tkP s.hd s.tl s.md s.sl.length), .int .i64 4], .nilFunc, .nilFunc, thT (pcT (gth s.th n) 2), .bool false, .bool true, thT (pcT (gth s.th n) 2), stT (tellS (s) n (gth s.th n).ki (5) 0), thT (gth (tellS (s) n (gth s.th n).ki (5) 0).th n), stT (toldS (s) n (gth s.th n).ki (5) 0 9)])
    (an (ac_rruns h.ru h.ok h.few) <| an h.ix <| an (h.see hs) <| an (h.ix) <| an (hk) <| an (hl) <| an (h.ix) <| an (ac_rtell (k := (gth s.th n).ki) (r := 5) (g := 0) h.has h.ok h.few) <| an (ixT (l := (tellS (s) n (gth s.th n).ki (5) 0).th) (by rw [tell_len]; exact h.hn)) <| an (ac_rwith (tellS (s) n (gth s.th n).ki (5) 0) n (pcT (gth (tellS (s) n (gth s.th n).ki (5) 0).th n) 9) (by rw [tell_len]; exact h.hn) (by rw [tell_len]; exact h.few.th)) trivial) (by kernel_rfl)
set_option maxRecDepth 100000 in
theorem dr_lookP (h : Dr s n 2) (hs : seesR s = 4) (hk : ((gth s.th n).ki == 5) = false) (hl : (gth s.th n).la = false) (hn : waySt s (gth s.th n).tr = 2) : AC Tryz.prog 16 [stT s, .int .i64 n] (stT (s.onTh n (pcT · 5))) :=
  ac_path mixed (ext := [31, 43, 165, 46, 95, 36, 90, 49, 41, 42, 94, 44, 45, 103, 104, 50, 93]) (fuel := 9) (n := 6) (orc := [vD true, thT (pcT (gth s.th n) 2), .nilFunc, .nilFunc, .nilFunc, .tuple #[wdT (tkH s.hd s.tl s.md s.sl.length) s.tl s.md, .int .i64 (tkP s.hd s.tl s.md s.sl.length), .int .i64 4], .nilFunc, .nilFunc, thT (pcT (gth s.th n) 2), .bool false, .bool false, .int .i64 2, .nilFunc, thT (pcT (gth s.th n) 2), stT ((s).onTh n (pcT · 5))])
    (an (ac_rruns h.ru h.ok h.few) <| an h.ix <| an (h.see hs) <| an (h.ix) <| an (hk) <| an (hl) <| an (h.nx hn) <| an (h.ix) <| an (ac_rwith (s) n (pcT (pcT (gth s.th n) 2) 5) h.hn h.few.th) trivial) (by kernel_rfl)
set_option maxRecDepth 100000 in
theorem dr_lookT (h : Dr s n 2) (hs : seesR s = 4) (hk : ((gth s.th n).ki == 5) = false) (hl : (gth s.th n).la = false) (hn : (waySt s (gth s.th n).tr == 2) = false) (hr : decide ((gth s.th n).tr < 1099511627776) = true) : AC Tryz.prog 16 [stT s, .int .i64 n] (stT (s.onTh n onT)) :=
  ac_path mixed (ext := [31, 43, 165, 46, 95, 36, 90, 49, 41, 42, 94, 44, 45, 103, 104, 50, 93]) (fuel := 9) (n := 6) (orc := [vD true, thT (pcT (gth s.th n) 2), .nilFunc, .nilFunc, .nilFunc, .tuple #[wdT (tkH s.hd s.tl s.md s.sl.length) s.tl s.md, .int .i64 (tkP s.hd s.tl s.md s.sl.length), .int .i64 4], .nilFunc, .nilFunc, thT (pcT (gth s.th n) 2), .bool false, .bool false, .int .i64 (waySt s (gth s.th n).tr), .bool false, thT (pcT (gth s.th n) 2), .bool true, stT (s.onTh n onT)])
    (an (ac_rruns h.ru h.ok h.few) <| an h.ix <| an (h.see hs) <| an (h.ix) <| an (hk) <| an (hl) <| an (h.nx rfl) <| an (hn) <| an (h.ix) <| an (hr) <| an (h.tr1 hr) <| an (h.onw hr) trivial) (by kernel_rfl)
set_option maxRecDepth 100000 in
theorem dr_lookX (h : Dr s n 2) (hs : seesR s = 4) (hk : ((gth s.th n).ki == 5) = false) (hl : (gth s.th n).la = false) (hn : (waySt s (gth s.th n).tr == 2) = false) (hr : decide ((gth s.th n).tr < 1099511627776) = false) : AC Tryz.prog 16 [stT s, .int .i64 n] (stT (s.onTh n onT)) :=
  ac_path mixed (ext := [31, 43, 165, 46, 95, 36, 90, 49, 41, 42, 94, 44, 45, 103, 104, 50, 93]) (fuel := 9) (n := 6) (orc := [vD true, thT (pcT (gth s.th n) 2), .nilFunc, .nilFunc, .nilFunc, .tuple #[wdT (tkH s.hd s.tl s.md s.sl.length) s.tl s.md, .int .i64 (tkP s.hd s.tl s.md s.sl.length), .int .i64 4], .nilFunc, .nilFunc, thT (pcT (gth s.th n) 2), .bool false, .bool false, .int .i64 (waySt s (gth s.th n).tr), .bool false, thT (pcT (gth s.th n) 2), .bool false, stT (s.onTh n onT)])
    (an (ac_rruns h.ru h.ok h.few) <| an h.ix <| an (h.see hs) <| an (h.ix) <| an (hk) <| an (hl) <| an (h.nx rfl) <| an (hn) <| an (h.ix) <| an (hr) <| an (h.onx hr) trivial) (by kernel_rfl)
set_option maxRecDepth 100000 in
theorem dr_takeF (h : Dr s n 3) (hs : seesR s = 4) : AC Tryz.prog 16 [stT s, .int .i64 n] (stT (s.onTh n (pcT · 2))) :=
  ac_path mixed (ext := [31, 43, 165, 46, 95, 36, 90, 49, 41, 42, 94, 44, 45, 103, 104, 50, 93]) (fuel := 9) (n := 6) (orc := [vD true, thT (pcT (gth s.th n) 3), .nilFunc, .nilFunc, .nilFunc, .nilFunc, .tuple #[wdT (tkH s.hd s.tl s.md s.sl.length) s.tl s.md, .int .i64 (tkP s.hd s.tl s.md s.sl.length), .int .i64 4], .nilFunc, thT (pcT (gth s.th n) 3), stT ((s).onTh n (pcT · 2))])
    (an (ac_rruns h.ru h.ok h.few) <| an h.ix <| an (h.see hs) <| an (h.ix) <| an (ac_rwith (s) n (pcT (pcT (gth s.th n) 3) 2) h.hn h.few.th) trivial) (by kernel_rfl)
set_option maxRecDepth 100000 in
theorem dr_takeE (h : Dr s n 3) (h4 : (seesR s == 4) = false) (h1 : (seesR s != 1) = true) : AC Tryz.prog 16 [stT s, .int .i64 n] (stT (toldS s n (gth s.th n).ki (seesR s) 0 9)) :=
  ac_path mixed (ext := [31, 43, 165, 46, 95, 36, 90, 49, 41, 42, 94, 44, 45, 103, 104, 50, 93]) (fuel := 9) (n := 6) (orc := [vD true, thT (pcT (gth s.th n) 3), .nilFunc, .nilFunc, .nilFunc, .nilFunc, .tuple #[wdT (tkH s.hd s.tl s.md s.sl.length) s.tl s.md, .int .i64 (tkP s.hd s.tl s.md s.sl.length), .int .i64 (seesR s)], .bool false, .bool true, thT (pcT (gth s.th n) 3), stT (tellS (s) n (gth s.th n).ki (seesR s) 0), thT (gth (tellS (s) n (gth s.th n).ki (seesR s) 0).th n), stT (toldS (s) n (gth s.th n).ki (seesR s) 0 9)])
    (an (ac_rruns h.ru h.ok h.few) <| an h.ix <| an (h.see rfl) <| an (h4) <| an (h1) <| an (h.ix) <| an (ac_rtell (k := (gth s.th n).ki) (r := seesR s) (g := 0) h.has h.ok h.few) <| an (ixT (l := (tellS (s) n (gth s.th n).ki (seesR s) 0).th) (by rw [tell_len]; exact h.hn)) <| an (ac_rwith (tellS (s) n (gth s.th n).ki (seesR s) 0) n (pcT (gth (tellS (s) n (gth s.th n).ki (seesR s) 0).th n) 9) (by rw [tell_len]; exact h.hn) (by rw [tell_len]; exact h.few.th)) trivial) (by kernel_rfl)
set_option maxRecDepth 100000 in
theorem dr_takeR (h : Dr s n 3) (hs : seesR s = 1) (hA : hasB ((s.toWord (s.hd + 1) s.tl s.md).onTh n (regT · s.hd 4)) n = true) (ho : ((s.toWord (s.hd + 1) s.tl s.md).onTh n (regT · s.hd 4)).ok) (hf : ((s.toWord (s.hd + 1) s.tl s.md).onTh n (regT · s.hd 4)).few) (hh : 0 ≤ s.hd) : AC Tryz.prog 16 [stT s, .int .i64 n] (stT (toldS ((s.toWord (s.hd + 1) s.tl s.md).onTh n (regT · s.hd 4)) n (gth s.th n).ki 1 (valV s s.hd) 4)) :=
  ac_path mixed (ext := [31, 43, 165, 46, 95, 36, 90, 49, 41, 42, 94, 44, 45, 103, 104, 50, 93]) (fuel := 9) (n := 6) (orc := [vD true, thT (pcT (gth s.th n) 3), .nilFunc, .nilFunc, .nilFunc, .nilFunc, .tuple #[wdT (s.hd + 1) s.tl s.md, .int .i64 s.hd, .int .i64 1], .nilFunc, .nilFunc, .int .i64 (valV s s.hd), thT (pcT (gth s.th n) 3), stT ((s.toWord (s.hd + 1) s.tl s.md).onTh n (regT · s.hd 4)), thT (regT (pcT (gth s.th n) 3) s.hd 4), stT (tellS ((s.toWord (s.hd + 1) s.tl s.md).onTh n (regT · s.hd 4)) n (gth s.th n).ki 1 (valV s s.hd)), thT (gth (tellS ((s.toWord (s.hd + 1) s.tl s.md).onTh n (regT · s.hd 4)) n (gth s.th n).ki 1 (valV s s.hd)).th n), stT (toldS ((s.toWord (s.hd + 1) s.tl s.md).onTh n (regT · s.hd 4)) n (gth s.th n).ki 1 (valV s s.hd) 4)])
    (an (ac_rruns h.ru h.ok h.few) <| an h.ix <| an (h.see1 hs) <| an (ac_rvalue h.ck hh h.ok.hd h.ok h.few) <| an (h.ix) <| an (ac_rwith (s.toWord (s.hd + 1) s.tl s.md) n (regT (pcT (gth s.th n) 3) s.hd 4) h.hn h.few.th) <| an (h.ix3) <| an (ac_rtell (k := (gth s.th n).ki) (r := 1) (g := valV s s.hd) hA ho hf) <| an (ixT (l := (tellS ((s.toWord (s.hd + 1) s.tl s.md).onTh n (regT · s.hd 4)) n (gth s.th n).ki 1 (valV s s.hd)).th) (by rw [tell_len]; exact hA3 h.hn)) <| an (ac_rwith (tellS ((s.toWord (s.hd + 1) s.tl s.md).onTh n (regT · s.hd 4)) n (gth s.th n).ki 1 (valV s s.hd)) n (pcT (gth (tellS ((s.toWord (s.hd + 1) s.tl s.md).onTh n (regT · s.hd 4)) n (gth s.th n).ki 1 (valV s s.hd)).th n) 4) (by rw [tell_len]; exact hA3 h.hn) (by rw [tell_len]; exact hf.th)) trivial) (by kernel_rfl)
set_option maxRecDepth 100000 in
theorem dr_read (h : Dr s n 4) (he : rlE s.sl (gth s.th n).re = 0) : AC Tryz.prog 16 [stT s, .int .i64 n] (stT (readR s n)) :=
  ac_path mixed (ext := [31, 43, 165, 46, 95, 36, 90, 49, 41, 42, 94, 44, 45, 103, 104, 50, 93]) (fuel := 9) (n := 6) (orc := [vD true, thT (pcT (gth s.th n) 4), .nilFunc, .nilFunc, .nilFunc, .nilFunc, .nilFunc, .tuple #[.int .i64 (rdV s.sl (gth s.th n).re), .int .i64 (rdE s.sl (gth s.th n).re)], .tuple #[rowS (rlL s.sl (gth s.th n).re), .int .i64 0], .nilFunc, stT (readR s n)])
    (an (ac_rruns h.ru h.ok h.few) <| an h.ix <| an (ac_rsread s.sl (gth s.th n).re h.few.sl h.rei) <| an (he ▸ ac_rrelease h.sl h.re0 h.rei) <| an (ac_rwith (s.toSl (rlL s.sl (gth s.th n).re)) n (gotT (gth s.th n) (rdV s.sl (gth s.th n).re) 6) h.hn h.few.th) trivial) (by kernel_rfl)
set_option maxRecDepth 100000 in
theorem dr_readN (h : Dr s n 4) (he : (rlE s.sl (gth s.th n).re == 0) = false) : AC Tryz.prog 16 [stT s, .int .i64 n] (stT (s.onTh n (gotT · (rdV s.sl (gth s.th n).re) 6))) :=
  ac_path mixed (ext := [31, 43, 165, 46, 95, 36, 90, 49, 41, 42, 94, 44, 45, 103, 104, 50, 93]) (fuel := 9) (n := 6) (orc := [vD true, thT (pcT (gth s.th n) 4), .nilFunc, .nilFunc, .nilFunc, .nilFunc, .nilFunc, .tuple #[.int .i64 (rdV s.sl (gth s.th n).re), .int .i64 (rdE s.sl (gth s.th n).re)], .tuple #[rowS (rlL s.sl (gth s.th n).re), .int .i64 (rlE s.sl (gth s.th n).re)], .bool false, stT (s.onTh n (gotT · (rdV s.sl (gth s.th n).re) 6))])
    (an (ac_rruns h.ru h.ok h.few) <| an h.ix <| an (ac_rsread s.sl (gth s.th n).re h.few.sl h.rei) <| an (ac_rrelease h.sl h.re0 h.rei) <| an (he) <| an (ac_rwith (s) n (gotT (gth s.th n) (rdV s.sl (gth s.th n).re) 6) h.hn h.few.th) trivial) (by kernel_rfl)
set_option maxRecDepth 100000 in
theorem dr_prep (h : Dr s n 5)  : AC Tryz.prog 16 [stT s, .int .i64 n] (stT (s.onTh n (seenT · s.ee 7))) :=
  ac_path mixed (ext := [31, 43, 165, 46, 95, 36, 90, 49, 41, 42, 94, 44, 45, 103, 104, 50, 93]) (fuel := 9) (n := 6) (orc := [vD true, thT (pcT (gth s.th n) 5), .nilFunc, .nilFunc, .nilFunc, .nilFunc, .nilFunc, .nilFunc, .int .i64 s.ee, stT (s.onTh n (seenT · s.ee 7))])
    (an (ac_rruns h.ru h.ok h.few) <| an h.ix <| an (ac_rprep h.emp) <| an (ac_rwith (s) n (seenT (gth s.th n) s.ee 7) h.hn h.few.th) trivial) (by kernel_rfl)
set_option maxRecDepth 100000 in
theorem dr_notifyN (h : Dr s n 6) (hb : hdB (ntT 1 s.fe s.fl) = false) : AC Tryz.prog 16 [stT s, .int .i64 n] (stT ((s.toFull (ntE s.fe s.fl) (ntL 1 s.fe s.fl)).onTh n (pcT · 9))) :=
  ac_path mixed (ext := [31, 43, 165, 46, 95, 36, 90, 49, 41, 42, 94, 44, 45, 103, 104, 50, 93]) (fuel := 9) (n := 6) (orc := [vD true, thT (pcT (gth s.th n) 6), .nilFunc, .nilFunc, .nilFunc, .nilFunc, .nilFunc, .nilFunc, .nilFunc, .tuple #[evT (ntE s.fe s.fl) (ntL 1 s.fe s.fl), .int .i64 (hdI (ntT 1 s.fe s.fl)), vD false], thT (pcT (gth s.th n) 6), stT ((s.toFull (ntE s.fe s.fl) (ntL 1 s.fe s.fl)).onTh n (pcT · 9))])
    (an (ac_rruns h.ru h.ok h.few) <| an h.ix <| an (hb ▸ ac_rnotify h.ful) <| an (h.ix) <| an (ac_rwith (s.toFull (ntE s.fe s.fl) (ntL 1 s.fe s.fl)) n (pcT (pcT (gth s.th n) 6) 9) h.hn h.few.th) trivial) (by kernel_rfl)
set_option maxRecDepth 100000 in
theorem dr_notifyW (h : Dr s n 6) (hb : hdB (ntT 1 s.fe s.fl) = true) {q : Nat} (hq : hdI (ntT 1 s.fe s.fl) = q) (hA : hasB ((s.toFull (ntE s.fe s.fl) (ntL 1 s.fe s.fl)).onTh n (pcT · 9)) q = true) (ho : ((s.toFull (ntE s.fe s.fl) (ntL 1 s.fe s.fl)).onTh n (pcT · 9)).ok) (hw : ((s.toFull (ntE s.fe s.fl) (ntL 1 s.fe s.fl)).onTh n (pcT · 9)).few) : AC Tryz.prog 16 [stT s, .int .i64 n] (stT (((s.toFull (ntE s.fe s.fl) (ntL 1 s.fe s.fl)).onTh n (pcT · 9)).onTh q wakeT)) :=
  ac_path mixed (ext := [31, 43, 165, 46, 95, 36, 90, 49, 41, 42, 94, 44, 45, 103, 104, 50, 93]) (fuel := 9) (n := 6) (orc := [vD true, thT (pcT (gth s.th n) 6), .nilFunc, .nilFunc, .nilFunc, .nilFunc, .nilFunc, .nilFunc, .nilFunc, .tuple #[evT (ntE s.fe s.fl) (ntL 1 s.fe s.fl), .int .i64 q, vD true], thT (pcT (gth s.th n) 6), stT ((s.toFull (ntE s.fe s.fl) (ntL 1 s.fe s.fl)).onTh n (pcT · 9)), stT (((s.toFull (ntE s.fe s.fl) (ntL 1 s.fe s.fl)).onTh n (pcT · 9)).onTh q wakeT)])
    (an (ac_rruns h.ru h.ok h.few) <| an h.ix <| an (hq ▸ hb ▸ ac_rnotify h.ful) <| an (h.ix) <| an (ac_rwith (s.toFull (ntE s.fe s.fl) (ntL 1 s.fe s.fl)) n (pcT (pcT (gth s.th n) 6) 9) h.hn h.few.th) <| an (ac_rwake hA ho hw) trivial) (by kernel_rfl)
set_option maxRecDepth 100000 in
theorem dr_againY (h : Dr s n 7) (hs : seesR s = 4) (hl : (!(gth s.th n).la) = true) : AC Tryz.prog 16 [stT s, .int .i64 n] (stT (s.onTh n (pcT · 8))) :=
  ac_path mixed (ext := [31, 43, 165, 46, 95, 36, 90, 49, 41, 42, 94, 44, 45, 103, 104, 50, 93]) (fuel := 9) (n := 6) (orc := [vD true, thT (pcT (gth s.th n) 7), .nilFunc, .nilFunc, .nilFunc, .nilFunc, .nilFunc, .nilFunc, .nilFunc, .nilFunc, .tuple #[wdT (tkH s.hd s.tl s.md s.sl.length) s.tl s.md, .int .i64 (tkP s.hd s.tl s.md s.sl.length), .int .i64 4], .nilFunc, .bool true, thT (pcT (gth s.th n) 7), stT ((s).onTh n (pcT · 8))])
    (an (ac_rruns h.ru h.ok h.few) <| an h.ix <| an (h.see hs) <| an (hl) <| an (h.ix) <| an (ac_rwith (s) n (pcT (pcT (gth s.th n) 7) 8) h.hn h.few.th) trivial) (by kernel_rfl)
set_option maxRecDepth 100000 in
theorem dr_againL (h : Dr s n 7) (hs : seesR s = 4) (hl : (!(gth s.th n).la) = false) : AC Tryz.prog 16 [stT s, .int .i64 n] (stT (s.onTh n (pcT · 2))) :=
  ac_path mixed (ext := [31, 43, 165, 46, 95, 36, 90, 49, 41, 42, 94, 44, 45, 103, 104, 50, 93]) (fuel := 9) (n := 6) (orc := [vD true, thT (pcT (gth s.th n) 7), .nilFunc, .nilFunc, .nilFunc, .nilFunc, .nilFunc, .nilFunc, .nilFunc, .nilFunc, .tuple #[wdT (tkH s.hd s.tl s.md s.sl.length) s.tl s.md, .int .i64 (tkP s.hd s.tl s.md s.sl.length), .int .i64 4], .nilFunc, .bool false, thT (pcT (gth s.th n) 7), stT ((s).onTh n (pcT · 2))])
    (an (ac_rruns h.ru h.ok h.few) <| an h.ix <| an (h.see hs) <| an (hl) <| an (h.ix) <| an (ac_rwith (s) n (pcT (pcT (gth s.th n) 7) 2) h.hn h.few.th) trivial) (by kernel_rfl)
set_option maxRecDepth 100000 in
theorem dr_againN (h : Dr s n 7) (h2 : (seesR s == 4) = false) : AC Tryz.prog 16 [stT s, .int .i64 n] (stT (s.onTh n (pcT · 2))) :=
  ac_path mixed (ext := [31, 43, 165, 46, 95, 36, 90, 49, 41, 42, 94, 44, 45, 103, 104, 50, 93]) (fuel := 9) (n := 6) (orc := [vD true, thT (pcT (gth s.th n) 7), .nilFunc, .nilFunc, .nilFunc, .nilFunc, .nilFunc, .nilFunc, .nilFunc, .nilFunc, .tuple #[wdT (tkH s.hd s.tl s.md s.sl.length) s.tl s.md, .int .i64 (tkP s.hd s.tl s.md s.sl.length), .int .i64 (seesR s)], .bool false, thT (pcT (gth s.th n) 7), stT ((s).onTh n (pcT · 2))])
    (an (ac_rruns h.ru h.ok h.few) <| an h.ix <| an (h.see rfl) <| an (h2) <| an (h.ix) <| an (ac_rwith (s) n (pcT (pcT (gth s.th n) 7) 2) h.hn h.few.th) trivial) (by kernel_rfl)
set_option maxRecDepth 100000 in
theorem dr_commitL (h : Dr s n 8) (hl : (gth s.th n).la = true) : AC Tryz.prog 16 [stT s, .int .i64 n] (stT (s.onTh n (pcT · 2))) :=
  ac_path mixed (ext := [31, 43, 165, 46, 95, 36, 90, 49, 41, 42, 94, 44, 45, 103, 104, 50, 93]) (fuel := 9) (n := 6) (orc := [vD true, thT (pcT (gth s.th n) 8), .nilFunc, .nilFunc, .nilFunc, .nilFunc, .nilFunc, .nilFunc, .nilFunc, .nilFunc, .nilFunc, thT (pcT (gth s.th n) 8), .bool true, thT (pcT (gth s.th n) 8), stT ((s).onTh n (pcT · 2))])
    (an (ac_rruns h.ru h.ok h.few) <| an h.ix <| an (h.ix) <| an (hl) <| an (h.ix) <| an (ac_rwith (s) n (pcT (pcT (gth s.th n) 8) 2) h.hn h.few.th) trivial) (by kernel_rfl)
set_option maxRecDepth 100000 in
theorem dr_commitW (h : Dr s n 8) (hl : (gth s.th n).la = false) (hb : cmB s.ee s.el (gth s.th n).se n = true) : AC Tryz.prog 16 [stT s, .int .i64 n] (stT ((s.toEmpty s.ee (s.el ++ [(n : Int)])).onTh n (parkT · 2))) :=
  ac_path mixed (ext := [31, 43, 165, 46, 95, 36, 90, 49, 41, 42, 94, 44, 45, 103, 104, 50, 93]) (fuel := 9) (n := 6) (orc := [vD true, thT (pcT (gth s.th n) 8), .nilFunc, .nilFunc, .nilFunc, .nilFunc, .nilFunc, .nilFunc, .nilFunc, .nilFunc, .nilFunc, thT (pcT (gth s.th n) 8), .bool false, thT (pcT (gth s.th n) 8), .tuple #[evT s.ee (s.el ++ [(n : Int)]), vD true, .int .i64 (entE s.el n)], thT (pcT (gth s.th n) 8), .tuple #[thT (parkT (gth s.th n) 2), .int .i64 0], stT ((s.toEmpty s.ee (s.el ++ [(n : Int)])).onTh n (parkT · 2))])
    (an (ac_rruns h.ru h.ok h.few) <| an h.ix <| an (h.ix) <| an (hl) <| an (h.ix) <| an (h.com hb) <| an (h.ix) <| an (ac_rpark (park_of8 h.rs)) <| an (ac_rwith (s.toEmpty s.ee (s.el ++ [(n : Int)])) n (parkT (gth s.th n) 2) h.hn h.few.th) trivial) (by kernel_rfl)
set_option maxRecDepth 100000 in
theorem dr_commitN (h : Dr s n 8) (hl : (gth s.th n).la = false) (hb : cmB s.ee s.el (gth s.th n).se n = false) : AC Tryz.prog 16 [stT s, .int .i64 n] (stT (s.onTh n (pcT · 2))) :=
  ac_path mixed (ext := [31, 43, 165, 46, 95, 36, 90, 49, 41, 42, 94, 44, 45, 103, 104, 50, 93]) (fuel := 9) (n := 6) (orc := [vD true, thT (pcT (gth s.th n) 8), .nilFunc, .nilFunc, .nilFunc, .nilFunc, .nilFunc, .nilFunc, .nilFunc, .nilFunc, .nilFunc, thT (pcT (gth s.th n) 8), .bool false, thT (pcT (gth s.th n) 8), .tuple #[evT s.ee s.el, vD false, .int .i64 (entE s.el n)], thT (pcT (gth s.th n) 8), stT ((s).onTh n (pcT · 2))])
    (an (ac_rruns h.ru h.ok h.few) <| an h.ix <| an (h.ix) <| an (hl) <| an (h.ix) <| an (h.con hb) <| an (h.ix) <| an (ac_rwith (s) n (pcT (pcT (gth s.th n) 8) 2) h.hn h.few.th) trivial) (by kernel_rfl)
set_option maxRecDepth 100000 in
theorem dr_leave9 (h : Dr s n 9)  : AC Tryz.prog 16 [stT s, .int .i64 n] (stT ((s.toRc (lvL s.rc n)).onTh n doneT)) :=
  ac_path mixed (ext := [31, 43, 165, 46, 95, 36, 90, 49, 41, 42, 94, 44, 45, 103, 104, 50, 93]) (fuel := 9) (n := 6) (orc := [vD true, thT (pcT (gth s.th n) 9), .nilFunc, .nilFunc, .nilFunc, .nilFunc, .nilFunc, .nilFunc, .nilFunc, .nilFunc, .nilFunc, .tuple #[rowI (lvL s.rc n), .int .i64 (lvE s.rc n)], .tuple #[thT (doneT (gth s.th n)), .int .i64 0], stT ((s.toRc (lvL s.rc n)).onTh n doneT)])
    (an (ac_rruns h.ru h.ok h.few) <| an h.ix <| an (ac_rleave (i := (n : Int)) h.lrc) <| an (ac_rdone (done_of (c := 9) h.rs)) <| an (ac_rwith (s.toRc (lvL s.rc n)) n (doneT (gth s.th n)) h.hn h.few.th) trivial) (by kernel_rfl)
set_option maxRecDepth 100000 in
theorem dr_leave10 (h : Dr s n 10)  : AC Tryz.prog 16 [stT s, .int .i64 n] (stT ((s.toRc (lvL s.rc n)).onTh n doneT)) :=
  ac_path mixed (ext := [31, 43, 165, 46, 95, 36, 90, 49, 41, 42, 94, 44, 45, 103, 104, 50, 93]) (fuel := 9) (n := 6) (orc := [vD true, thT (pcT (gth s.th n) 10), .nilFunc, .nilFunc, .nilFunc, .nilFunc, .nilFunc, .nilFunc, .nilFunc, .nilFunc, .nilFunc, .tuple #[rowI (lvL s.rc n), .int .i64 (lvE s.rc n)], .tuple #[thT (doneT (gth s.th n)), .int .i64 0], stT ((s.toRc (lvL s.rc n)).onTh n doneT)])
    (an (ac_rruns h.ru h.ok h.few) <| an h.ix <| an (ac_rleave (i := (n : Int)) h.lrc) <| an (ac_rdone (done_of (c := 10) h.rs)) <| an (ac_rwith (s.toRc (lvL s.rc n)) n (doneT (gth s.th n)) h.hn h.few.th) trivial) (by kernel_rfl)
set_option maxRecDepth 100000 in
theorem dr_leave11 (h : Dr s n 11)  : AC Tryz.prog 16 [stT s, .int .i64 n] (stT ((s.toRc (lvL s.rc n)).onTh n doneT)) :=
  ac_path mixed (ext := [31, 43, 165, 46, 95, 36, 90, 49, 41, 42, 94, 44, 45, 103, 104, 50, 93]) (fuel := 9) (n := 6) (orc := [vD true, thT (pcT (gth s.th n) 11), .nilFunc, .nilFunc, .nilFunc, .nilFunc, .nilFunc, .nilFunc, .nilFunc, .nilFunc, .nilFunc, .tuple #[rowI (lvL s.rc n), .int .i64 (lvE s.rc n)], .tuple #[thT (doneT (gth s.th n)), .int .i64 0], stT ((s.toRc (lvL s.rc n)).onTh n doneT)])
    (an (ac_rruns h.ru h.ok h.few) <| an h.ix <| an (ac_rleave (i := (n : Int)) h.lrc) <| an (ac_rdone (done_of (c := 11) h.rs)) <| an (ac_rwith (s.toRc (lvL s.rc n)) n (doneT (gth s.th n)) h.hn h.few.th) trivial) (by kernel_rfl)
end
end Go.Proofs.YtjbcfjfnobklkaaGreat

/- The document's Step of who receives is the step of plain states. -/
namespace Go.Proofs.YtjbcfjfnobklkaaGreat
set_option linter.unusedVariables false
set_option linter.unusedSimpArgs false
open Go.RowKit
section
variable {s : St} {n : Nat} {c : Int}
theorem rfirst (h : Dr s n 1) : AC Tryz.prog 16 [stT s, .int .i64 n] (stT (firstR s n)) := by
  unfold firstR
  split
  · next hp => exact dr_first h (by simp [hp])
  · next hp =>
    split
    · next hl => exact dr_firstL h (bne_of hp) hl
    · next hl =>
      have hl' : (gth s.th n).la = false := by simpa using hl
      rcases try_or (gth s.th n) with hr | hr
      · exact dr_firstT h (bne_of hp) hl' hr
      · exact dr_firstX h (bne_of hp) hl' hr
theorem rlook (h : Dr s n 2) : AC Tryz.prog 16 [stT s, .int .i64 n] (stT (lookR s n)) := by
  unfold lookR
  split
  · next hs => exact dr_lookR h hs
  · next h1 =>
    split
    · next h4 => exact dr_lookE h (bne_of h1) (by simp [h4])
    · next h4 =>
      have hs : seesR s = 4 := Classical.not_not.1 h4
      split
      · next hk => exact dr_lookB h hs (by simp [hk])
      · next hk =>
        split
        · next hl => exact dr_lookL h hs (bne_of hk) hl
        · next hl =>
          have hl' : (gth s.th n).la = false := by simpa using hl
          split
          · next hw => exact dr_lookP h hs (bne_of hk) hl' hw
          · next hw =>
            rcases try_or (gth s.th n) with hr | hr
            · exact dr_lookT h hs (bne_of hk) hl' (bne_of hw) hr
            · exact dr_lookX h hs (bne_of hk) hl' (bne_of hw) hr
theorem rtake (h : Dr s n 3) (hl : s.lg.length ≤ 999999) (hv : Vk s) : AC Tryz.prog 16 [stT s, .int .i64 n] (stT (takeR s n)) := by
  unfold takeR
  split
  · next hs => exact dr_takeF h hs
  · next h4 =>
    split
    · next h1 => exact dr_takeE h (bne_of h4) (by simp [h1])
    · next h1 =>
      have hs : seesR s = 1 := Classical.not_not.1 h1
      have hB := takeB_ok h.ck h.hn (by have := h.st; omega) hs
      have hv3 : Vk ((s.toWord (s.hd + 1) s.tl s.md).onTh n (regT · s.hd 4)) := Vk.on (s := s.toWord (s.hd + 1) s.tl s.md) (f := (regT · s.hd 4)) ⟨hv.cf, hv.sl, hv.th⟩ h.hn fun _ => ⟨rfl, rfl⟩
      have hf : ((s.toWord (s.hd + 1) s.tl s.md).onTh n (regT · s.hd 4)).few := ⟨h.few.sl, h.few.sn, h.few.rc, h.few.fl, h.few.el, by show (s.th.set n _).length ≤ 1000; rw [List.length_set]; exact h.few.th, h.few.lg⟩
      exact dr_takeR h hs (has_of hB (hA3 h.hn)) (ok_of hB hv3 (by show s.lg.length ≤ 1000000; omega)) hf (by have := check_len (word_ok h.ck).1; omega)
theorem rread (h : Dr s n 4) : AC Tryz.prog 16 [stT s, .int .i64 n] (stT (readR s n)) := by
  by_cases he : rlE s.sl (gth s.th n).re = 0
  · exact dr_read h he
  · have := dr_readN h (bne_of he)
    have e : rlL s.sl (gth s.th n).re = s.sl := by
      unfold rlE at he
      unfold rlL
      split at he
      · exact absurd rfl he
      · next hb => rw [if_neg hb]
    unfold readR
    rw [e]
    exact this
theorem rnotify (h : Dr s n 6) (hl : s.lg.length ≤ 999999) (hv : Vk s) : AC Tryz.prog 16 [stT s, .int .i64 n] (stT (notifyR s n)) := by
  obtain ⟨-, -, d, -, e, -⟩ := full_lines h.ck
  have h1 : stB (s.toFull (ntE s.fe s.fl) (ntL 1 s.fe s.fl)) = true := by
    refine full_stB h.ck ?_ ?_
    · simp only [ntE, ntL, e, if_true]; exact okE_nx e (ok_drop (okE_ln e) 1)
    · simp only [ntL, e, if_true]; exact stn_sub d (ok_drop (okE_ln e) 1) (fun x hx => List.mem_of_mem_drop hx)
  unfold notifyR
  split
  · next hb =>
    have hth := th_len h.ck
    have hq : ∃ q : Nat, hdI (ntT 1 s.fe s.fl) = q ∧ q < s.th.length := by
      have hb' := hb
      simp only [ntT, e, if_true] at hb' ⊢
      cases hl : s.fl with
      | nil => rw [hl] at hb'; cases hb'
      | cons y r =>
        have hy : y ∈ s.fl := by rw [hl]; exact List.mem_cons_self
        have h3 := (stn_iff.1 d).2 y hy
        have h4 := (okl_iff.1 (stn_iff.1 d).1).1 y hy
        exact ⟨y.toNat, by show y = _; omega, by omega⟩
    obtain ⟨q, hq, hql⟩ := hq
    have h9 : stB ((s.toFull (ntE s.fe s.fl) (ntL 1 s.fe s.fl)).onTh n (pcT · 9)) = true := onTh_stB h1 (pcT_ok (gth_ok h.ck h.hn) (by have := h.st; omega) (by decide))
    have hA : hasB ((s.toFull (ntE s.fe s.fl) (ntL 1 s.fe s.fl)).onTh n (pcT · 9)) q = true := has_of h9 (by show q < (s.th.set n _).length; rw [List.length_set]; exact hql)
    have hv9 : Vk ((s.toFull (ntE s.fe s.fl) (ntL 1 s.fe s.fl)).onTh n (pcT · 9)) := Vk.on (s := s.toFull (ntE s.fe s.fl) (ntL 1 s.fe s.fl)) (f := (pcT · 9)) ⟨hv.cf, hv.sl, hv.th⟩ h.hn fun _ => ⟨rfl, rfl⟩
    have hf : ((s.toFull (ntE s.fe s.fl) (ntL 1 s.fe s.fl)).onTh n (pcT · 9)).few := ⟨h.few.sl, h.few.sn, h.few.rc, by show (ntL 1 s.fe s.fl).length ≤ 1000; simp only [ntL, e, if_true, List.length_drop]; have := h.few.fl; omega, h.few.el, by show (s.th.set n _).length ≤ 1000; rw [List.length_set]; exact h.few.th, h.few.lg⟩
    have := dr_notifyW h hb hq hA (ok_of h9 hv9 (by show s.lg.length ≤ 1000000; omega)) hf
    rw [hq]
    unfold wakeS
    rw [if_pos hA, Int.toNat_natCast]
    exact this
  · next hb => exact dr_notifyN h (by simpa using hb)
theorem rcommit (h : Dr s n 8) : AC Tryz.prog 16 [stT s, .int .i64 n] (stT (commitR s n)) := by
  unfold commitR
  split
  · next hl => exact dr_commitL h hl
  · next hl =>
    have hl' : (gth s.th n).la = false := by simpa using hl
    split
    · next hb => exact dr_commitW h hl' hb
    · next hb => exact dr_commitN h hl' (by simpa using hb)
theorem ragain (h : Dr s n 7) : AC Tryz.prog 16 [stT s, .int .i64 n] (stT (recvN s n)) := by
  rw [recvN_7 h.pc]
  by_cases hs : seesR s = 4
  · cases hl : (gth s.th n).la
    · rw [if_pos ⟨hs, rfl⟩]; exact dr_againY h hs (by rw [hl]; rfl)
    · rw [if_neg (by simp)]; exact dr_againL h hs (by rw [hl]; rfl)
  · rw [if_neg (fun e => hs e.1)]; exact dr_againN h (bne_of hs)
/-- A step of who receives. -/
theorem rstep (hB : stB s = true) (hv : Vk s) (hw : s.few) (hn : n < s.th.length) (hst : (gth s.th n).st = 1) (hsd : opSide (gth s.th n).ki = 2) : AC Tryz.prog 16 [stT s, .int .i64 n] (stT (recvN s n)) := by
  have hlg : s.lg.length ≤ 999999 := by have := hw.lg; omega
  have ho := ok_of hB hv (by omega)
  have D : ∀ {c : Int}, (gth s.th n).pc = c → Dr s n c := fun hc => ⟨hB, ho, hw, hn, hst, hsd, hc⟩
  obtain p | p | p | p | p | p | p | p | p | p := pc_or' (gth_ok hB hn)
  · rw [recvN_0 p]; exact dr_enter (D p)
  · rw [recvN_1 p]; exact rfirst (D p)
  · rw [recvN_2 p]; exact rlook (D p)
  · rw [recvN_3 p]; exact rtake (D p) hlg hv
  · rw [recvN_4 p]; exact rread (D p)
  · rw [recvN_5 p]; exact dr_prep (D p)
  · rw [recvN_6 p]; exact rnotify (D p) hlg hv
  · exact ragain (D p)
  · rw [recvN_8 p]; exact rcommit (D p)
  · rw [recvN_9 p]
    rcases p with p | p | p
    · exact dr_leave9 (D p)
    · exact dr_leave10 (D p)
    · exact dr_leave11 (D p)
end
set_option maxRecDepth 100000 in
theorem ac_rrstep {s : St} {i : Int} (ho : s.ok) (hw : s.few) : AC Tryz.prog 16 [stT s, .int .i64 i] (stT (recvS s i)) := by
  cases hr : runsB s i 2
  · rw [show recvS s i = s by unfold recvS; rw [hr]; rfl]
    exact ac_path mixed (ext := [31]) (fuel := 9) (n := 3) (orc := [vD false]) (an (ac_rruns hr ho hw) trivial) (by kernel_rfl)
  · obtain ⟨h1, h2, h3⟩ := runs_iff.1 hr
    obtain ⟨hB, hi0, hi1⟩ := has_iff.1 h1
    obtain ⟨n, rfl⟩ : ∃ n : Nat, i = n := ⟨i.toNat, by omega⟩
    rw [recvS_is hr]
    rw [Int.toNat_natCast] at h2 h3
    exact rstep hB (.of ho) hw (by omega) h2 h3
end Go.Proofs.YtjbcfjfnobklkaaGreat

/- The document's Steps of who receives: as many steps as there are, told by plain states. -/
namespace Go.Proofs.YtjbcfjfnobklkaaGreat
set_option linter.unusedVariables false
set_option linter.unusedSimpArgs false
open Go.RowKit
section
variable {s : St} {i m o : Int} {b : Bool}
set_option maxRecDepth 100000 in
theorem rx_many (h : decide (o < m) = false) : LoopP Tryz.prog (loopOf Tryz.prog 13 0) (hdR s i m o b) (.exit 0) (hdR s i m o b) := loop_end mixed (fuel := 9) (n := 6) (im := [0, 1]) (keep := [1, 2, 3, 6, 8, 9]) (ext := [31, 16]) (orc := [.bool false]) (an h trivial) (by intro e; cases e) (by kernel_rfl)
set_option maxRecDepth 100000 in
theorem rx_thou (h : decide (o < m) = true) (h2 : decide (o < 1000) = false) : LoopP Tryz.prog (loopOf Tryz.prog 13 0) (hdR s i m o b) (.exit 0) (hdR s i m o b) := loop_end mixed (fuel := 9) (n := 6) (im := [0, 1]) (keep := [1, 2, 3, 6, 8, 9]) (ext := [31, 16]) (orc := [.bool true, .bool false]) (an h <| an h2 trivial) (by intro e; cases e) (by kernel_rfl)
set_option maxRecDepth 100000 in
theorem rx_not (h : decide (o < m) = true) (h2 : decide (o < 1000) = true) : LoopP Tryz.prog (loopOf Tryz.prog 13 0) (hdR s i m o false) (.exit 0) (hdR s i m o false) := loop_end mixed (fuel := 9) (n := 6) (im := [0, 1]) (keep := [1, 2, 3, 6, 8, 9]) (ext := [31, 16]) (orc := [.bool true, .bool true]) (an h <| an h2 trivial) (by intro e; cases e) (by kernel_rfl)
set_option maxRecDepth 100000 in
theorem rx_more {u : St} {c : Bool} {x : Exit} {S : Sg} (h : decide (o < m) = true) (h2 : decide (o < 1000) = true) (hs : AC Tryz.prog 16 [stT s, .int .i64 i] (stT u)) (ho : In64 (o + 1)) (hr : AC Tryz.prog 31 [stT u, .int .i64 i, .int .i64 2] (.bool c))
    (hL : LoopP Tryz.prog (loopOf Tryz.prog 13 0) (hdR u i m (o + 1) c) x S) : LoopP Tryz.prog (loopOf Tryz.prog 13 0) (hdR s i m o true) x S := loop_more mixed (fuel := 9) (n := 6) (im := [0, 1]) (keep := [1, 2, 3, 6, 8, 9]) (ext := [31, 16]) (orc := [.bool true, .bool true, stT u, vD c]) (an h <| an h2 <| an hs <| an ho <| an hr trivial) (by kernel_rfl) hL
theorem rxsteps_lp (k : Nat) : ∀ {s : St} {o : Int}, Vk s → s.few → s.ok → 0 ≤ o → (min m 1000 - o).toNat = k → s.lg.length + k ≤ 1000 → LoopP Tryz.prog (loopOf Tryz.prog 13 0) (hdR s i m o (runsB s i 2)) (.exit 0) (hdR (recvK s i k).1 i m (o + (recvK s i k).2) (runsB (recvK s i k).1 i 2)) := by
  have stop : ∀ {s : St} {o : Int} (b : Bool), LoopP Tryz.prog (loopOf Tryz.prog 13 0) (hdR s i m o b) (.exit 0) (hdR s i m o b) → LoopP Tryz.prog (loopOf Tryz.prog 13 0) (hdR s i m o b) (.exit 0) (hdR s i m (o + ((0 : Nat) : Int)) b) := fun b h => by
    simpa using h
  induction k with
  | zero =>
    intro s o _ _ _ _ hk _
    simp only [recvK]
    refine stop _ ?_
    by_cases h : o < m
    · exact rx_thou (by simp [h]) (by simp; omega)
    · exact rx_many (by simp; omega)
  | succ k ih =>
    intro s o hv hw ho h0 hk hl
    have hm : decide (o < m) = true := by simp; omega
    have hm2 : decide (o < 1000) = true := by simp; omega
    cases hr : runsB s i 2
    · have : recvK s i (k + 1) = (s, 0) := by simp [recvK, hr]
      rw [this]
      refine (hr ▸ stop (s := s) (o := o) false ?_)
      exact rx_not hm hm2
    · obtain ⟨h1, h2, h3⟩ := runs_iff.1 hr
      obtain ⟨hB, hi0, hi1⟩ := has_iff.1 h1
      obtain ⟨n, rfl⟩ : ∃ n : Nat, i = n := ⟨i.toNat, by omega⟩
      have hn : n < s.th.length := by omega
      rw [Int.toNat_natCast] at h2 h3
      have hs1 : (gth s.th n).st ≠ 0 := by omega
      have e : recvK s n (k + 1) = ((recvK (recvN s n) n k).1, (recvK (recvN s n) n k).2 + 1) := by simp only [recvK, hr, if_true, recvS_is hr]
      rw [e]
      have hB' := recvN_stB hB hn hs1
      have hv' := recvN_vk hv hB hn hs1
      have hl' : (recvN s n).lg.length ≤ s.lg.length + 1 := by rcases (recvN_lgOk (s := s) (n := n)).1 with h | ⟨x, h⟩ <;> rw [h] <;> simp
      have ho' := ok_of hB' hv' (by omega)
      have hw' := few_of hB' (by omega)
      refine rx_more (u := recvN s n) (c := runsB (recvN s n) n 2) hm hm2 (rstep hB hv hw hn h2 h3) (by constructor <;> omega) (ac_rruns rfl ho' hw') ?_
      have := ih (s := recvN s n) (o := o + 1) hv' hw' ho' (by omega) (by omega) (by omega)
      rw [show o + (((recvK (recvN s n) n k).2 + 1 : Nat) : Int) = o + 1 + ((recvK (recvN s n) n k).2 : Int) by omega]
      exact this
set_option maxRecDepth 100000 in
theorem ac_rrsteps0 {u : St} {b c : Bool} (hr : AC Tryz.prog 31 [stT s, .int .i64 i, .int .i64 2] (.bool b)) (hL : LoopP Tryz.prog (loopOf Tryz.prog 13 0) (hdR s i m 0 b) (.exit 0) (hdR u i m o c)) : AC Tryz.prog 13 [stT s, .int .i64 i, .int .i64 m] (.tuple #[stT u, .int .i64 o]) :=
  ac_path mixed (ext := [31, 16]) (fuel := 9) (n := 5) (orc := [vD b, oL [0, 1] [1, 2, 3, 6, 8, 9] 0 [(1, .int .i64 i), (2, .int .i64 m), (3, pt 0), (6, pt 1), (8, .int .i64 o), (9, vD c)] [bS u, bZ]]) (an hr <| an hL trivial) (by kernel_rfl)
/-- Some steps. -/
theorem ac_rrsteps (ho : s.ok) (hw : s.few) (hl : s.lg.length + (min m 1000).toNat ≤ 1000) : AC Tryz.prog 13 [stT s, .int .i64 i, .int .i64 m] (.tuple #[stT (recvK s i (min m 1000).toNat).1, .int .i64 (recvK s i (min m 1000).toNat).2]) := by
  have h := rxsteps_lp (i := i) (m := m) (min m 1000 - 0).toNat (s := s) (o := 0) (.of ho) hw ho (Int.le_refl _) rfl (by rw [show min m 1000 - 0 = min m 1000 by omega]; exact hl)
  rw [show min m 1000 - 0 = min m 1000 by omega, Int.zero_add] at h
  exact ac_rrsteps0 (ac_rruns rfl ho hw) h
end
end Go.Proofs.YtjbcfjfnobklkaaGreat

/- Layer 15's first law (RecvTells): its walk, by contracts told by abstract values. -/
namespace Go.Proofs.YtjbcfjfnobklkaaGreat
set_option linter.unusedVariables false
set_option linter.unusedSimpArgs false
open Go.RowKit
theorem recvK_few {i : Int} (k : Nat) : ∀ {s : St}, stB s = true → s.lg.length + k ≤ 1000 → (recvK s i k).1.few ∧ (recvK s i k).1.lg.length ≤ 1000000 := by
  induction k with
  | zero => intro s hB hl; exact ⟨few_of (s := s) hB (by omega), by show s.lg.length ≤ 1000000; omega⟩
  | succ k ih =>
    intro s hB hl
    cases hr : runsB s i 2
    · rw [recvK_off hr]; exact ⟨few_of (s := s) hB (by omega), by show s.lg.length ≤ 1000000; omega⟩
    · rw [recvK_on hr]
      have h1 : (recvS s i).lg.length ≤ s.lg.length + 1 := by rcases (recvS_lgOk s i).1 with h | ⟨x, h⟩ <;> rw [h] <;> simp
      exact ih (s := recvS s i) (by rw [recvS_stB]; exact hB) (by omega)
section
variable {s u v : St} {i m pc : Int} {k : Nat}
set_option maxRecDepth 100000 in
theorem rtells_yes (hF : fewB s = true) (hm : decide (30 < m) = false) (hP : AC Tryz.prog 12 [stT s, .int .i64 i, .int .i64 m] (.tuple #[stT u, .int .i64 k])) (hR : AC Tryz.prog 13 [stT s, .int .i64 i, .int .i64 m] (.tuple #[stT u, .int .i64 k]))
    (hp : AC Tryz.prog 15 [stT s, .int .i64 i] (stT v)) (hr : AC Tryz.prog 16 [stT s, .int .i64 i] (stT v)) (hv : AC Tryz.prog 14 [stT v, stT v] (.bool true)) (hu : AC Tryz.prog 14 [stT u, stT u] (.bool true)) :
    AC Tryz.prog 3 [stT s, .int .i64 i, .int .i64 m, .int .i64 pc] (.bool true) := by
  by_cases e3 : pc = 3
  · have h3 : (pc == 3) = true := by simp [e3]
    have h4 : (pc == 4) = false := by simp [e3]
    have h6 : (pc == 6) = false := by simp [e3]
    have e := e3
    exact ac_path mixed (ext := [10, 11, 12, 13, 15, 16, 14, 17, 18]) (fuel := 9) (n := 6) (orc := [vD true, vD true, .bool false, .tuple #[stT u, .int .i64 k], .tuple #[stT u, .int .i64 k], .bool true, .bool false, .bool false, stT v, stT v, vD true, vD true, .bool true, vD true, .bool true, .bool true, .nilFunc, .int .i64 3])
      (an ac_awakeR <| an (hF ▸ ac_rfew s) <| an hm <| an hP <| an hR <| an h3 <| an h4 <| an h6 <| an hp <| an hr <| an hv <| an hu <| an (show ((k : Int) == k) = true by simp) <| an (ac_vinside (pc := pc) (b := true) (by simp; omega)) <| an (show decide (1 ≤ pc) = true by simp; omega) <| an (ask_bb (a := true) (b := decide (pc ≤ 11)) (by simp; omega) (.tmp 66) (.tmp 72)) <| an (ac_vnear (pc := pc) (k := 3) (by simp [e])) trivial) (by kernel_rfl)
  have h3 : (pc == 3) = false := by simp [e3]
  by_cases e4 : pc = 4
  · have h4 : (pc == 4) = true := by simp [e4]
    have h6 : (pc == 6) = false := by simp [e4]
    have e := e4
    exact ac_path mixed (ext := [10, 11, 12, 13, 15, 16, 14, 17, 18]) (fuel := 9) (n := 6) (orc := [vD true, vD true, .bool false, .tuple #[stT u, .int .i64 k], .tuple #[stT u, .int .i64 k], .bool false, .bool true, .bool false, stT v, stT v, vD true, vD true, .bool true, vD true, .bool true, .bool true, .nilFunc, .int .i64 2])
      (an ac_awakeR <| an (hF ▸ ac_rfew s) <| an hm <| an hP <| an hR <| an h3 <| an h4 <| an h6 <| an hp <| an hr <| an hv <| an hu <| an (show ((k : Int) == k) = true by simp) <| an (ac_vinside (pc := pc) (b := true) (by simp; omega)) <| an (show decide (1 ≤ pc) = true by simp; omega) <| an (ask_bb (a := true) (b := decide (pc ≤ 11)) (by simp; omega) (.tmp 66) (.tmp 72)) <| an (ac_vnear (pc := pc) (k := 2) (by simp [e])) trivial) (by kernel_rfl)
  have h4 : (pc == 4) = false := by simp [e4]
  by_cases e6 : pc = 6
  · have h6 : (pc == 6) = true := by simp [e6]
    have e := e6
    exact ac_path mixed (ext := [10, 11, 12, 13, 15, 16, 14, 17, 18]) (fuel := 9) (n := 6) (orc := [vD true, vD true, .bool false, .tuple #[stT u, .int .i64 k], .tuple #[stT u, .int .i64 k], .bool false, .bool false, .bool true, stT v, stT v, vD true, vD true, .bool true, vD true, .bool true, .bool true, .nilFunc, .int .i64 1])
      (an ac_awakeR <| an (hF ▸ ac_rfew s) <| an hm <| an hP <| an hR <| an h3 <| an h4 <| an h6 <| an hp <| an hr <| an hv <| an hu <| an (show ((k : Int) == k) = true by simp) <| an (ac_vinside (pc := pc) (b := true) (by simp; omega)) <| an (show decide (1 ≤ pc) = true by simp; omega) <| an (ask_bb (a := true) (b := decide (pc ≤ 11)) (by simp; omega) (.tmp 66) (.tmp 72)) <| an (ac_vnear (pc := pc) (k := 1) (by simp [e])) trivial) (by kernel_rfl)
  have h6 : (pc == 6) = false := by simp [e6]
  have hn := ac_vnear (pc := pc) (k := 0) (by rw [if_neg e3, if_neg e4, if_neg e6])
  by_cases h1 : 1 ≤ pc
  · by_cases h2 : pc ≤ 11
    · exact ac_path mixed (ext := [10, 11, 12, 13, 15, 16, 14, 17, 18]) (fuel := 9) (n := 6) (orc := [vD true, vD true, .bool false, .tuple #[stT u, .int .i64 k], .tuple #[stT u, .int .i64 k], .bool false, .bool false, .bool false, stT v, stT v, vD true, vD true, .bool true, vD true, .bool true, .bool true, .nilFunc, .int .i64 0])
        (an ac_awakeR <| an (hF ▸ ac_rfew s) <| an hm <| an hP <| an hR <| an h3 <| an h4 <| an h6 <| an hp <| an hr <| an hv <| an hu <| an (show ((k : Int) == k) = true by simp) <| an (ac_vinside (pc := pc) (b := true) (by simp; omega)) <| an (show decide (1 ≤ pc) = true by simp [h1]) <| an (ask_bb (a := true) (b := decide (pc ≤ 11)) (by simp [h2]) (.tmp 66) (.tmp 72)) <| an hn trivial) (by kernel_rfl)
    · exact ac_path mixed (ext := [10, 11, 12, 13, 15, 16, 14, 17, 18]) (fuel := 9) (n := 6) (orc := [vD true, vD true, .bool false, .tuple #[stT u, .int .i64 k], .tuple #[stT u, .int .i64 k], .bool false, .bool false, .bool false, stT v, stT v, vD true, vD true, .bool true, vD false, .bool true, .bool true, .nilFunc, .int .i64 0])
        (an ac_awakeR <| an (hF ▸ ac_rfew s) <| an hm <| an hP <| an hR <| an h3 <| an h4 <| an h6 <| an hp <| an hr <| an hv <| an hu <| an (show ((k : Int) == k) = true by simp) <| an (ac_vinside (pc := pc) (b := false) (by simp; omega)) <| an (show decide (1 ≤ pc) = true by simp [h1]) <| an (ask_bb (a := false) (b := decide (pc ≤ 11)) (by simp; omega) (.tmp 66) (.tmp 72)) <| an hn trivial) (by kernel_rfl)
  · exact ac_path mixed (ext := [10, 11, 12, 13, 15, 16, 14, 17, 18]) (fuel := 9) (n := 6) (orc := [vD true, vD true, .bool false, .tuple #[stT u, .int .i64 k], .tuple #[stT u, .int .i64 k], .bool false, .bool false, .bool false, stT v, stT v, vD true, vD true, .bool true, vD false, .bool false, .bool true, .nilFunc, .int .i64 0])
      (an ac_awakeR <| an (hF ▸ ac_rfew s) <| an hm <| an hP <| an hR <| an h3 <| an h4 <| an h6 <| an hp <| an hr <| an hv <| an hu <| an (show ((k : Int) == k) = true by simp) <| an (ac_vinside (pc := pc) (b := false) (by simp; omega)) <| an (show decide (1 ≤ pc) = false by simp; omega) <| an (ask_bb (a := false) (b := false) rfl (.tmp 66) (.tmp 72)) <| an hn trivial) (by kernel_rfl)
end
end Go.Proofs.YtjbcfjfnobklkaaGreat
