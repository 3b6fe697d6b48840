/- Texts merged: AcYQ, AcVQ, AcZQ, AcBQ, AcCQ, StepGQ, SlotGQ, EqsQ, AcWQ, AcDQ, AcEQ. -/
import Derived.Test.YtcakapmpifnfpaaGreatZa6
import Derived.Test.YtcakapmpifnfpaaGreatZa4
import Derived.Test.YtcakapmpifnfpaaGreatZa7
import Derived.Test.YtcakapmpifnfpaaGreatZa5
import Derived.Laws.StructEq
/- Contracts told by abstract values: whether the program's ring, and threads, may be, by the engine (in place of walks of XFabD). -/
namespace Go.Proofs.YtcakapmpifnfpaaGreat
set_option linter.unusedVariables false
set_option linter.unusedSimpArgs false
open Go.RowKit
theorem ac_croom0 {c : Cf} {R : Int} (h : cfR c = R) : AC Tryz.prog 34 [cfT c] (.int .i64 R) := by
  intro O W vs hl hat ; obtain ⟨ys, rfl, _, _, rfl, h0, rfl⟩ := args_of hat
  rw [rp_cfT] at h0
  subst h0
  refine (croom_any c.lg c.th c.po c.wt c.sp c.yi c.si W).mono ?_
  rintro e W' ⟨rfl, hk⟩
  exact ⟨_, rfl, rp_int.2 (by rw [← h]; rfl), hk⟩
theorem ac_pck0 {h t m r : Int} {b : Bool} (hb : checkB h t m r = b) (hh : In64 h) (ht : In64 t) (hm : In64 m) (hr : In64 r) : AC Tryz.prog 47 [wdT h t m, .int .i64 r] (.bool b) := by
  intro O W vs hl hat ; obtain ⟨ys, rfl, _, _, rfl, h0, _, _, rfl, h1, rfl⟩ := args_of hat
  rw [rp_wdT] at h0
  rw [rp_int] at h1
  subst h0 h1
  refine (check_any h t m r hh ht hm hr W).mono ?_
  rintro e W' ⟨rfl, hk⟩
  exact ⟨_, rfl, rp_bool.2 (by rw [hb]), hk⟩
theorem ac_pscheck {l : List Slo} {b : Bool} (h : okSl l = b) (hm : l.length ≤ 1000) : AC Tryz.prog 48 [rowS l] (.bool b) := by
  intro O W vs hl hat ; obtain ⟨ys, rfl, _, _, rfl, h0, rfl⟩ := args_of hat
  obtain ⟨p, k, rfl, hs⟩ := rp_rowS.1 h0
  refine (scheck_any l p k W hs.s hm).mono ?_
  rintro e W' ⟨rfl, hk⟩
  exact ⟨_, rfl, rp_bool.2 (by rw [h]), hk⟩
theorem ac_ptcheck {t : Th} {b : Bool} (h : thB t = b) : AC Tryz.prog 53 [thT t] (.bool b) := by
  intro O W vs hl hat ; obtain ⟨ys, rfl, _, _, rfl, h0, rfl⟩ := args_of hat
  rw [rp_thT] at h0
  subst h0
  refine (tcheck_any W).mono ?_
  rintro e W' ⟨rfl, hk⟩
  exact ⟨_, rfl, rp_bool.2 (by rw [← h]), hk⟩
set_option maxRecDepth 100000 in
theorem ac_pring {s : St} {b : Bool} (hb : ringSt s = b) (ho : s.ok) : AC Tryz.prog 27 [stT s] (.bool b) := by
  subst hb
  have hRi : In64 (cfR s.cf) := room_in s.cf
  have hRb := cf_bd s.cf
  cases hA : checkB s.hd s.tl s.md (cfR s.cf)
  · rw [show ringSt s = false by simp [ringSt, hA]]
    exact ac_path mixed (ext := [34, 47, 48, 53]) (fuel := 9) (n := 6) (orc := [.int .i64 (cfR s.cf), vD false]) (an (ac_croom0 (c := s.cf) rfl) <| an (ac_pck0 hA ho.hd ho.tl ho.md hRi) trivial) (by kernel_rfl)
  · by_cases hL : (s.sl.length : Int) = cfR s.cf
    · rw [show ringSt s = okSl s.sl by simp [ringSt, hA, hL]]
      exact ac_path mixed (ext := [34, 47, 48, 53]) (fuel := 9) (n := 6) (orc := [.int .i64 (cfR s.cf), vD true, .bool true, .bool (okSl s.sl)]) (an (ac_croom0 (c := s.cf) rfl) <| an (ac_pck0 hA ho.hd ho.tl ho.md hRi) <| an (show ((s.sl.length : Int) == cfR s.cf) = true by simpa using hL) <| an (ac_pscheck (l := s.sl) rfl (by omega)) trivial) (by kernel_rfl)
    · rw [show ringSt s = false by simp [ringSt, hL]]
      exact ac_path mixed (ext := [34, 47, 48, 53]) (fuel := 9) (n := 6) (orc := [.int .i64 (cfR s.cf), vD true, .bool false]) (an (ac_croom0 (c := s.cf) rfl) <| an (ac_pck0 hA ho.hd ho.tl ho.md hRi) <| an (show ((s.sl.length : Int) == cfR s.cf) = false by simpa using hL) trivial) (by kernel_rfl)
/-! ### Threads -/
def hdYt (l : List Th) (i : Int) : Sg := ⟨mkT 19 [(0, rowT l), (1, .func (.func 52) #[] #[]), (7, .int .i64 l.length), (8, .int .i64 i)], []⟩
def hdYtN (j : Int) : Sg := ⟨mkT 19 [(4, .int .i64 j)], []⟩
theorem in_next {i n : Nat} (h : i < n) (hm : n ≤ maxLen) : In64 ((i : Int) + 1) := by unfold maxLen at hm; constructor <;> omega
theorem any_atT {l : List Th} {i : Nat} (h : i < l.length) : (l.drop i).any notTh = (!thB (gth l i) || (l.drop (i + 1)).any notTh) := by rw [List.drop_eq_getElem_cons h, gth_eq h]; rfl
section
variable {l : List Th}
set_option maxRecDepth 100000 in
theorem yt_yes (hm : l.length ≤ maxLen) : ∀ (k i : Nat), l.length - i = k → i ≤ l.length → (l.drop i).any notTh = false → LoopP Tryz.prog (loopOf Tryz.prog 83 0) (hdYt l i) (.exit 0) (hdYt l l.length)
  | 0, i, hk, hi, _ => by
    have : i = l.length := by omega
    subst this
    exact loop_end mixed (fuel := 9) (n := 5) (im := []) (keep := [0, 1, 7, 8]) (ext := [53]) (orc := [.bool false]) (an (show decide ((l.length : Int) < l.length) = false by simp) trivial) (by intro e; cases e) (by kernel_rfl)
  | k + 1, i, hk, hi, he => by
    have ha : i < l.length := by omega
    rw [any_atT ha, Bool.or_eq_false_iff] at he
    have ih := yt_yes hm k (i + 1) (by omega) (by omega) he.2
    rw [show ((i + 1 : Nat) : Int) = (i : Int) + 1 by omega] at ih
    exact loop_more mixed (fuel := 9) (n := 5) (im := []) (keep := [0, 1, 7, 8]) (ext := [53]) (orc := [.bool true, thT (gth l i), vD true])
      (an (show decide ((i : Int) < l.length) = true by simp; omega) <| an (rowT_el ha) <| an (ac_ptcheck (by simpa using he.1)) <| an (in_next ha hm) trivial) (by kernel_rfl) ih
set_option maxRecDepth 100000 in
theorem yt_no (hm : l.length ≤ maxLen) : ∀ (k i : Nat), l.length - i = k → i ≤ l.length → (l.drop i).any notTh = true → ∃ j : Nat, LoopP Tryz.prog (loopOf Tryz.prog 83 0) (hdYt l i) .ret (hdYtN j)
  | 0, i, hk, hi, he => absurd he (by rw [List.drop_eq_nil_of_le (by omega)]; simp)
  | k + 1, i, hk, hi, he => by
    have ha : i < l.length := by omega
    rw [any_atT ha] at he
    cases h1 : thB (gth l i)
    · exact ⟨i, loop_end mixed (fuel := 9) (n := 5) (im := []) (keep := [4]) (ext := [53]) (orc := [.bool true, thT (gth l i), vD false])
        (an (show decide ((i : Int) < l.length) = true by simp; omega) <| an (rowT_el ha) <| an (ac_ptcheck h1) trivial) (by intro e; cases e) (by kernel_rfl)⟩
    · rw [h1, Bool.not_true, Bool.false_or] at he
      obtain ⟨j, ih⟩ := yt_no hm k (i + 1) (by omega) (by omega) he
      rw [show ((i + 1 : Nat) : Int) = (i : Int) + 1 by omega] at ih
      exact ⟨j, loop_more mixed (fuel := 9) (n := 5) (im := []) (keep := [0, 1, 7, 8]) (ext := [53]) (orc := [.bool true, thT (gth l i), vD true])
        (an (show decide ((i : Int) < l.length) = true by simp; omega) <| an (rowT_el ha) <| an (ac_ptcheck h1) <| an (in_next ha hm) trivial) (by kernel_rfl) ih⟩
end
set_option maxRecDepth 100000 in
theorem ac_pthreads {s : St} {b : Bool} (hb : thsSt s = b) (ho : s.ok) : AC Tryz.prog 30 [stT s] (.bool b) := by
  subst hb
  have hm : s.th.length ≤ maxLen := ho.th.2
  by_cases hL : (s.th.length : Int) = s.cf.th
  · cases ha : s.th.any notTh
    · rw [show thsSt s = true by simp [thsSt, hL, ha]]
      exact ac_path mixed (ext := [34, 47, 48, 53]) (fuel := 9) (n := 6) (orc := [.bool true, oL [] [0, 1, 7, 8] 0 [(0, rowT s.th), (1, .func (.func 52) #[] #[]), (7, .int .i64 s.th.length), (8, .int .i64 s.th.length)] []])
        (an (show ((s.th.length : Int) == s.cf.th) = true by simpa using hL) <| an (yt_yes hm s.th.length 0 rfl (by omega) (by simpa using ha)) trivial) (by kernel_rfl)
    · obtain ⟨j, hj⟩ := yt_no (l := s.th) hm s.th.length 0 rfl (by omega) (by simpa using ha)
      rw [show thsSt s = !decide (0 ≤ (j : Int)) by simp [thsSt, hL, ha]]
      exact ac_path mixed (ext := [34, 47, 48, 53]) (fuel := 9) (n := 6) (orc := [.bool true, oL [] [0, 1, 7, 8] (-1) [(4, .int .i64 j)] []])
        (an (show ((s.th.length : Int) == s.cf.th) = true by simpa using hL) <| an hj trivial) (by kernel_rfl)
  · rw [show thsSt s = false by simp [thsSt, hL]]
    exact ac_path mixed (ext := [34, 47, 48, 53]) (fuel := 9) (n := 6) (orc := [.bool false]) (an (show ((s.th.length : Int) == s.cf.th) = false by simpa using hL) trivial) (by kernel_rfl)
end Go.Proofs.YtcakapmpifnfpaaGreat

/- Contracts told by abstract values: threads, and ways to wait, by the engine. -/
namespace Go.Proofs.YtcakapmpifnfpaaGreat
set_option linter.unusedVariables false
set_option linter.unusedSimpArgs false
open Go.RowKit
theorem bne_no {a b : Int} (h : a ≠ b) : (a == b) = false := by simp [h]
theorem two_no {a : Int} (h : a = 2) : (a == 0) = false := by simp [h]
theorem bne_yes {a b : Int} (h : a = b) : (a == b) = true := by simp [h]
set_option maxRecDepth 100000
theorem ac_pruns {t : Th} {e : Int} (he : thRuns t.st = e) : AC Tryz.prog 56 [thT t] (.int .i64 e) := by
  subst he
  unfold thRuns
  by_cases h0 : t.st = 0
  · rw [if_pos h0]; exact ac_path mixed (ext := []) (fuel := 9) (n := 6) (orc := [.bool true]) (an (bne_yes h0) trivial) (by kernel_rfl)
  · rw [if_neg h0]
    by_cases h2 : t.st = 2
    · rw [if_pos h2]; exact ac_path mixed (ext := []) (fuel := 9) (n := 6) (orc := [.bool false, .bool true]) (an (bne_no h0) <| an (bne_yes h2) trivial) (by kernel_rfl)
    · rw [if_neg h2]; exact ac_path mixed (ext := []) (fuel := 9) (n := 6) (orc := [.bool false, .bool false]) (an (bne_no h0) <| an (bne_no h2) trivial) (by kernel_rfl)
theorem ac_ppark {t : Th} {p e : Int} {r : Th} (h : thPark t p e r) : AC Tryz.prog 149 [thT t, .int .i64 p] (.tuple #[thT r, .int .i64 e]) := by (rcases h with ⟨h0, rfl, rfl⟩ | ⟨h2, rfl, rfl⟩ | ⟨h0, h2, rfl, rfl⟩; (exact ac_path mixed (ext := []) (fuel := 9) (n := 6) (orc := [.bool true, .nilFunc]) (an (bne_yes h0) trivial) (by kernel_rfl)); (exact ac_path mixed (ext := []) (fuel := 9) (n := 6) (orc := [.bool false, .bool true, .nilFunc]) (an (two_no h2) <| an (bne_yes h2) trivial) (by kernel_rfl)); (exact ac_path mixed (ext := []) (fuel := 9) (n := 6) (orc := [.bool false, .bool false, .nilFunc]) (an (bne_no h0) <| an (bne_no h2) trivial) (by kernel_rfl)))
theorem ac_pdone {t : Th} {e : Int} {r : Th} (h : thDone t e r) : AC Tryz.prog 151 [thT t] (.tuple #[thT r, .int .i64 e]) := by (rcases h with ⟨h0, rfl, rfl⟩ | ⟨h2, rfl, rfl⟩ | ⟨h0, h2, rfl, rfl⟩; (exact ac_path mixed (ext := []) (fuel := 9) (n := 6) (orc := [.bool true, .nilFunc]) (an (bne_yes h0) trivial) (by kernel_rfl)); (exact ac_path mixed (ext := []) (fuel := 9) (n := 6) (orc := [.bool false, .bool true, .nilFunc]) (an (two_no h2) <| an (bne_yes h2) trivial) (by kernel_rfl)); (exact ac_path mixed (ext := []) (fuel := 9) (n := 6) (orc := [.bool false, .bool false, .nilFunc]) (an (bne_no h0) <| an (bne_no h2) trivial) (by kernel_rfl)))
theorem ac_twake (t : Th) : AC Tryz.prog 69 [thT t] (thT (wakeT t)) := by
  unfold wakeT
  by_cases h : t.st = 2
  · rw [if_pos h]; exact ac_path mixed (ext := []) (fuel := 9) (n := 6) (orc := [.bool true]) (an (bne_yes h) trivial) (by kernel_rfl)
  · rw [if_neg h]; exact ac_path mixed (ext := []) (fuel := 9) (n := 6) (orc := [.bool false]) (an (bne_no h) trivial) (by kernel_rfl)
theorem ac_ocheck {k : Int} {b : Bool} (hb : opB k = b) : AC Tryz.prog 63 [.int .i64 k] (.bool b) := by
  (intro O W vs hl hat; obtain ⟨ys, rfl, _, _, rfl, h0, rfl⟩ := args_of hat; rw [rp_int] at h0; subst h0)
  refine (ocheck_any k W).mono ?_
  rintro e W' ⟨rfl, hk⟩
  exact ⟨_, rfl, rp_bool.2 (by rw [hb]), hk⟩
theorem ac_otimed {k : Int} {b : Bool} (hb : opTimed k = b) : AC Tryz.prog 65 [.int .i64 k] (.bool b) := by
  (intro O W vs hl hat; obtain ⟨ys, rfl, _, _, rfl, h0, rfl⟩ := args_of hat; rw [rp_int] at h0; subst h0)
  refine (otimed_any k W).mono ?_
  rintro e W' ⟨rfl, hk⟩
  exact ⟨_, rfl, rp_bool.2 (by rw [hb]), hk⟩
theorem ac_tbeg {t r : Th} {k v u E : Int} (h : thBeg t k v u E r) : AC Tryz.prog 37 [thT t, .int .i64 k, .int .i64 v, .int .i64 u] (.tuple #[thT r, .int .i64 E]) := by
  have n0 : t.st = 0 → (!(t.st == 0)) = false := fun h => by simp [h]
  rcases h with ⟨h0, rfl, rfl⟩ | ⟨h0, h1, rfl, rfl⟩ | ⟨h0, h1, h2, rfl, rfl⟩ | ⟨h0, h1, h2, h3, rfl, rfl⟩ | ⟨h0, h1, h2, h3, rfl, rfl⟩
  · exact ac_path mixed (ext := [63, 65]) (fuel := 9) (n := 6) (orc := [.bool true]) (an (show (!(r.st == 0)) = true by simp [h0]) trivial) (by kernel_rfl)
  · exact ac_path mixed (ext := [63, 65]) (fuel := 9) (n := 6) (orc := [.bool false, vD false]) (an (n0 h0) <| an (ac_ocheck h1) trivial) (by kernel_rfl)
  · exact ac_path mixed (ext := [63, 65]) (fuel := 9) (n := 6) (orc := [.bool false, vD true, vD false]) (an (n0 h0) <| an (ac_ocheck h1) <| an (ac_otimed h2) trivial) (by kernel_rfl)
  · by_cases a : 0 ≤ u
    · exact ac_path mixed (ext := [63, 65]) (fuel := 9) (n := 6) (orc := [.bool false, vD true, vD true, .bool true, .bool true]) (an (n0 h0) <| an (ac_ocheck h1) <| an (ac_otimed h2) <| an (decide_eq_true a) <| an (show (!decide (u ≤ 1099511627776)) = true by simp <;> omega) trivial) (by kernel_rfl)
    · exact ac_path mixed (ext := [63, 65]) (fuel := 9) (n := 6) (orc := [.bool false, vD true, vD true, .bool false]) (an (n0 h0) <| an (ac_ocheck h1) <| an (ac_otimed h2) <| an (decide_eq_false a) trivial) (by kernel_rfl)
  · exact ac_path mixed (ext := [63, 65]) (fuel := 9) (n := 6) (orc := [.bool false, vD true, vD true, .bool true, .bool false]) (an (n0 h0) <| an (ac_ocheck h1) <| an (ac_otimed h2) <| an (decide_eq_true h3.1) <| an (show (!decide (u ≤ 1099511627776)) = false by simp [h3.2]) trivial) (by kernel_rfl)
/-! ### How one waits -/
theorem may_wt {lg th po wt sp yi : Int} (h : mayB lg th po wt sp yi = true) : (wt = 0 ∨ wt = 1 ∨ wt = 2 ∨ wt = 3) ∧ (0 ≤ sp ∧ sp ≤ 8) ∧ (0 ≤ yi ∧ yi ≤ 8) := by
  have hp := may_iff.1 h
  omega
theorem ac_ccheck {c : Cf} {r : Int} (h : (if cfB c = true then 0 else 20) = r) : AC Tryz.prog 26 [cfT c] (.int .i64 r) := by
  intro O W vs hl hat
  obtain ⟨ys, rfl, _, _, rfl, h0, rfl⟩ := args_of hat
  rw [rp_cfT] at h0
  subst h0
  refine (ccheck_val (b := cfB c) (Lib.hid rfl) W).mono ?_
  rintro e W' ⟨rfl, hk⟩
  exact ⟨_, rfl, rp_int.2 (by rw [h]), hk⟩
theorem ac_pnext (c : Cf) (n : Int) : AC Tryz.prog 188 [cfT c, .int .i64 n] (.int .i64 (wtnI c.lg c.th c.po c.wt c.sp c.yi (max n 0))) := by
  obtain ⟨lg, th, po, wt, sp, yi, si⟩ := c
  show AC _ _ _ (.int .i64 (wtnI lg th po wt sp yi (max n 0)))
  unfold wtnI
  cases hm : mayB lg th po wt sp yi
  · exact ac_path mixed (ext := [26]) (fuel := 9) (n := 6) (orc := [.int .i64 20, .nilFunc]) (an (ac_ccheck (c := ⟨lg, th, po, wt, sp, yi, si⟩) (r := 20) (by show (if mayB lg th po wt sp yi = true then (0 : Int) else 20) = 20; rw [hm]; rfl)) trivial) (by kernel_rfl)
  · have hk : AC Tryz.prog 26 [cfT ⟨lg, th, po, wt, sp, yi, si⟩] (.int .i64 0) := ac_ccheck (by show (if mayB lg th po wt sp yi = true then (0 : Int) else 20) = 0; rw [hm]; rfl)
    obtain ⟨h0, h1, h2⟩ := may_wt hm
    rw [if_pos rfl]
    obtain rfl | rfl | rfl | rfl := h0
    · exact ac_path mixed (ext := [26]) (fuel := 9) (n := 6) (orc := [.int .i64 0, .nilFunc]) (an hk trivial) (by kernel_rfl)
    · exact ac_path mixed (ext := [26]) (fuel := 9) (n := 6) (orc := [.int .i64 0, .nilFunc]) (an hk trivial) (by kernel_rfl)
    · rw [show wayI 2 sp yi (max n 0) = if max n 0 < sp then 0 else if max n 0 < sp + yi then 1 else 2 from rfl]
      by_cases a : max n 0 < sp
      · rw [if_pos a]; exact ac_path mixed (ext := [26]) (fuel := 9) (n := 6) (orc := [.int .i64 0, .nilFunc, .bool true]) (an hk <| an (decide_eq_true a) trivial) (by kernel_rfl)
      · rw [if_neg a]
        by_cases b : max n 0 < sp + yi
        · rw [if_pos b]; exact ac_path mixed (ext := [26]) (fuel := 9) (n := 6) (orc := [.int .i64 0, .nilFunc, .bool false, .bool true]) (an hk <| an (decide_eq_false a) <| an (show In64 (sp + yi) by constructor <;> omega) <| an (decide_eq_true b) trivial) (by kernel_rfl)
        · rw [if_neg b]; exact ac_path mixed (ext := [26]) (fuel := 9) (n := 6) (orc := [.int .i64 0, .nilFunc, .bool false, .bool false]) (an hk <| an (decide_eq_false a) <| an (show In64 (sp + yi) by constructor <;> omega) <| an (decide_eq_false b) trivial) (by kernel_rfl)
    · exact ac_path mixed (ext := [26]) (fuel := 9) (n := 6) (orc := [.int .i64 0, .nilFunc]) (an hk trivial) (by kernel_rfl)
end Go.Proofs.YtcakapmpifnfpaaGreat

/- Contracts told by abstract values: the program's Check of a state, by the engine; whether it has a thread, and what lies at a position. -/
namespace Go.Proofs.YtcakapmpifnfpaaGreat
set_option linter.unusedVariables false
set_option linter.unusedSimpArgs false
open Go.RowKit
theorem ac_plcheck {l : List Int} {b : Bool} (h : okLn l = b) : AC Tryz.prog 50 [rowI l] (.bool b) := by
  intro O W vs hl hat ; obtain ⟨ys, rfl, _, _, rfl, h0, rfl⟩ := args_of hat
  obtain ⟨p, k, rfl, hs⟩ := rp_rowI.1 h0
  refine (lcheck_any l p k W hs.s).mono ?_
  rintro e W' ⟨rfl, hk⟩
  exact ⟨_, rfl, rp_bool.2 (by rw [h]), hk⟩
set_option maxRecDepth 100000 in
theorem ac_pecheck {ep : Int} {l : List Int} {b : Bool} (h : okE ep l = b) : AC Tryz.prog 29 [evT ep l] (.bool b) := by
  subst h
  by_cases h0 : 0 ≤ ep
  · by_cases h1 : ep ≤ 1099511627776
    · rw [show okE ep l = okLn l by simp [okE, h0, h1]]
      exact ac_path mixed (ext := [50]) (fuel := 9) (n := 3) (orc := [.bool true, .bool true, .bool (okLn l)]) (an (show decide (0 ≤ ep) = true by simpa using h0) <| an (show decide (ep ≤ 1099511627776) = true by simpa using h1) <| an (ac_plcheck (l := l) rfl) trivial) (by kernel_rfl)
    · rw [show okE ep l = false by simp [okE, h1]]
      exact ac_path mixed (ext := [50]) (fuel := 9) (n := 3) (orc := [.bool true, .bool false]) (an (show decide (0 ≤ ep) = true by simpa using h0) <| an (show decide (ep ≤ 1099511627776) = false by simpa using h1) trivial) (by kernel_rfl)
  · rw [show okE ep l = false by simp [okE, h0]]
    exact ac_path mixed (ext := [50]) (fuel := 9) (n := 3) (orc := [.bool false]) (an (show decide (0 ≤ ep) = false by simpa using h0) trivial) (by kernel_rfl)
/-! ### Lines -/
def gZ (l : List Int) (i : Nat) : Int := l.getD i 0
theorem gZ_eq {l : List Int} {i : Nat} (h : i < l.length) : gZ l i = l[i] := by simp [gZ, h]
theorem ixZ' {l : List Int} {i : Nat} (h : i < l.length) : IxP ((l.map (Value.int .i64 ·)).toArray) (i : Int) (.int .i64 (gZ l i)) := ⟨by omega, by simp [gZ_eq h, h]⟩
theorem any_at {α : Type} {f : α → Bool} {l : List α} {i : Nat} (h : i < l.length) : (l.drop i).any f = (f l[i] || (l.drop (i + 1)).any f) := by rw [List.drop_eq_getElem_cons h]; rfl
def zkB (m : Int) : List (Option Blk) := [some ⟨true, false, 1, 1, [.int .i64 m]⟩]
def zkT (l : List Int) (i : Int) : List (Nat × Value) := [(0, rowI l), (1, .func (.func 49) #[] #[.pointer (some ⟨0, 0, some 0⟩)]), (7, .int .i64 l.length), (8, .int .i64 i)]
def zkS (m : Int) (l : List Int) (i : Int) : Sg := ⟨mkT 19 (zkT l i), zkB m⟩
def zkN (m j : Int) : Sg := ⟨mkT 19 [(4, .int .i64 j)], zkB m⟩
abbrev ZkL (m : Int) (l : List Int) (i : Int) (x : Exit) (S : Sg) : Prop := LoopK Tryz.prog 1 (loopOf Tryz.prog 78 0) (zkS m l i) x S
section
variable {l : List Int} {m : Int}
set_option maxRecDepth 100000 in
theorem zk_yes (hm : l.length ≤ maxLen) : ∀ (k i : Nat), l.length - i = k → i ≤ l.length → (l.drop i).any (overB m) = false → ZkL m l i (.exit 0) (zkS m l l.length)
  | 0, i, hk, hi, _ => by
    have : i = l.length := by omega
    subst this
    exact loopK_end mixed (fuel := 9) (n := 5) (im := [0]) (keep := [0, 1, 7, 8]) (ext := []) (orc := [.bool false]) (an (show decide ((l.length : Int) < l.length) = false by simp) trivial) (by intro e; cases e) (by kernel_rfl) (by rfl)
  | k + 1, i, hk, hi, he => by
    have ha : i < l.length := by omega
    rw [any_at ha, Bool.or_eq_false_iff] at he
    have ih := zk_yes hm k (i + 1) (by omega) (by omega) he.2
    rw [show ((i + 1 : Nat) : Int) = (i : Int) + 1 by omega] at ih
    exact loopK_more mixed (fuel := 9) (n := 5) (im := [0]) (keep := [0, 1, 7, 8]) (ext := []) (orc := [.bool true, .int .i64 (gZ l i), .bool false])
      (an (show decide ((i : Int) < l.length) = true by simp; omega) <| an (ixZ' ha) <| an (show decide (m ≤ gZ l i) = false by rw [gZ_eq ha]; exact he.1) <| an (in_next ha hm) trivial) (by kernel_rfl) (by rfl) ih
set_option maxRecDepth 100000 in
theorem zk_no (hm : l.length ≤ maxLen) : ∀ (k i : Nat), l.length - i = k → i ≤ l.length → (l.drop i).any (overB m) = true → ∃ j : Nat, ZkL m l i .ret (zkN m j)
  | 0, i, hk, hi, he => absurd he (by rw [List.drop_eq_nil_of_le (by omega)]; simp)
  | k + 1, i, hk, hi, he => by
    have ha : i < l.length := by omega
    rw [any_at ha] at he
    cases h1 : overB m l[i]
    · rw [h1, Bool.false_or] at he
      obtain ⟨j, ih⟩ := zk_no hm k (i + 1) (by omega) (by omega) he
      rw [show ((i + 1 : Nat) : Int) = (i : Int) + 1 by omega] at ih
      exact ⟨j, loopK_more mixed (fuel := 9) (n := 5) (im := [0]) (keep := [0, 1, 7, 8]) (ext := []) (orc := [.bool true, .int .i64 (gZ l i), .bool false])
        (an (show decide ((i : Int) < l.length) = true by simp; omega) <| an (ixZ' ha) <| an (show decide (m ≤ gZ l i) = false by rw [gZ_eq ha]; exact h1) <| an (in_next ha hm) trivial) (by kernel_rfl) (by rfl) ih⟩
    · exact ⟨i, loopK_end mixed (fuel := 9) (n := 5) (im := [0]) (keep := [4]) (ext := []) (orc := [.bool true, .int .i64 (gZ l i), .bool true])
        (an (show decide ((i : Int) < l.length) = true by simp; omega) <| an (ixZ' ha) <| an (show decide (m ≤ gZ l i) = true by rw [gZ_eq ha]; exact h1) trivial) (by intro e; cases e) (by kernel_rfl) (by rfl)⟩
end
/-! ### A state -/
def zkE : List FuncId := [26, 27, 30, 50, 29]
def zkR (s : St) : List Value := [rowI s.sn, rowI s.rc, rowI s.fl, rowI s.el]
def zk0 : List Value := [.int .i64 0, .nilFunc, vD true]
def zkC (s : St) (l : List Int) : List Value := [.nilFunc, rowI l, vD true, oK 1 [2] [0, 1, 7, 8] 0 (zkT l l.length) (zkB s.cf.th), .nilFunc]
def zkF (l : List Int) : List Value := [.nilFunc, rowI l, vD false]
def zkG (s : St) (l : List Int) (j : Int) : List Value := [.nilFunc, rowI l, vD true, oK 1 [2] [0, 1, 7, 8] (-1) [(4, .int .i64 j)] (zkB s.cf.th), .bool true]
abbrev Zk (s : St) (b : Bool) : Prop := AC Tryz.prog 11 [stT s] (.bool b)
abbrev ZkI (s : St) (i : Nat) (l : List Int) (b : Bool) (B : Prop) : Prop := ((0 : Int) ≤ (i : Int) ∧ (i : Int).toNat < 4) ∧ ElP (zkR s) i (rowI l) ∧ AC Tryz.prog 50 [rowI l] (.bool b) ∧ B
section
variable {s : St} {l : List Int} {i : Nat} {B : Prop} (hi : i < 4) (he : (zkR s)[i]? = some (rowI l))
include hi he
theorem zk_f (h : okLn l = false) : ZkI s i l false True := ⟨⟨by omega, by omega⟩, he, ac_plcheck h, trivial⟩
theorem zk_g (h : okLn l = true) {j : Nat} (hj : ZkL s.cf.th l (0 : Nat) .ret (zkN s.cf.th j)) : ZkI s i l true (ZkL s.cf.th l (0 : Nat) .ret (zkN s.cf.th j) ∧ decide ((0 : Int) ≤ (j : Int)) = true ∧ True) := ⟨⟨by omega, by omega⟩, he, ac_plcheck h, hj, by simp, trivial⟩
theorem zk_c (h : stnB s.cf.th l = true) (hm : l.length ≤ maxLen) (b : B) : ZkI s i l true (ZkL s.cf.th l (0 : Nat) (.exit 0) (zkS s.cf.th l l.length) ∧ In64 ((i : Int) + 1) ∧ B) := by
  simp only [stnB, Bool.and_eq_true, Bool.not_eq_true'] at h
  exact ⟨⟨by omega, by omega⟩, he, ac_plcheck h.1, zk_yes hm l.length 0 rfl (by omega) (by simpa using h.2), ⟨by omega, by omega⟩, b⟩
end
theorem zk_or {m : Int} {l : List Int} (h : stnB m l = false) (hm : l.length ≤ maxLen) : okLn l = false ∨ okLn l = true ∧ ∃ j : Nat, ZkL m l (0 : Nat) .ret (zkN m j) := by
  cases h1 : okLn l
  · exact .inl rfl
  · refine .inr ⟨rfl, zk_no hm l.length 0 rfl (by omega) ?_⟩
    simpa [stnB, h1] using h
set_option maxRecDepth 100000 in
theorem ac_pcheck {s : St} {b : Bool} (h : stB s = b) (ho : s.ok) : Zk s b := by
  subst h
  cases h0 : cfB s.cf
  · rw [show stB s = false by simp [stB, h0]]
    exact ac_path mixed (ext := zkE) (fuel := 9) (n := 6) (orc := [.int .i64 20, .nilFunc]) (an (ac_ccheck (c := s.cf) (r := 20) (by simp [h0])) trivial) (by kernel_rfl)
  have c0 := ac_ccheck (c := s.cf) (r := 0) (by simp [h0])
  cases h1 : ringSt s
  · rw [show stB s = false by simp [stB, h1]]
    exact ac_path mixed (ext := zkE) (fuel := 9) (n := 6) (orc := [.int .i64 0, .nilFunc, vD false]) (an c0 <| an (ac_pring h1 ho) trivial) (by kernel_rfl)
  have c1 := ac_pring h1 ho
  cases g0 : stnB s.cf.th s.sn
  · rw [show stB s = false by simp [stB, lnsSt, g0]]
    rcases zk_or g0 ho.sn.2 with e | ⟨e, j, hj⟩
    · exact ac_path mixed (ext := zkE) (fuel := 9) (n := 6) (orc := zk0 ++ zkF s.sn) (an c0 <| an c1 <| zk_f (s := s) (i := 0) (by decide) rfl e) (by kernel_rfl)
    · exact ac_path mixed (ext := zkE) (fuel := 9) (n := 6) (orc := zk0 ++ zkG s s.sn j) (an c0 <| an c1 <| zk_g (s := s) (i := 0) (by decide) rfl e hj) (by kernel_rfl)
  cases g1 : stnB s.cf.th s.rc
  · rw [show stB s = false by simp [stB, lnsSt, g1]]
    rcases zk_or g1 ho.rc.2 with e | ⟨e, j, hj⟩
    · exact ac_path mixed (ext := zkE) (fuel := 9) (n := 6) (orc := zk0 ++ zkC s s.sn ++ zkF s.rc) (an c0 <| an c1 <| zk_c (s := s) (i := 0) (by decide) rfl g0 ho.sn.2 <| zk_f (s := s) (i := 1) (by decide) rfl e) (by kernel_rfl)
    · exact ac_path mixed (ext := zkE) (fuel := 9) (n := 6) (orc := zk0 ++ zkC s s.sn ++ zkG s s.rc j) (an c0 <| an c1 <| zk_c (s := s) (i := 0) (by decide) rfl g0 ho.sn.2 <| zk_g (s := s) (i := 1) (by decide) rfl e hj) (by kernel_rfl)
  cases g2 : stnB s.cf.th s.fl
  · rw [show stB s = false by simp [stB, lnsSt, g2]]
    rcases zk_or g2 ho.fl.2 with e | ⟨e, j, hj⟩
    · exact ac_path mixed (ext := zkE) (fuel := 9) (n := 6) (orc := zk0 ++ zkC s s.sn ++ zkC s s.rc ++ zkF s.fl) (an c0 <| an c1 <| zk_c (s := s) (i := 0) (by decide) rfl g0 ho.sn.2 <| zk_c (s := s) (i := 1) (by decide) rfl g1 ho.rc.2 <| zk_f (s := s) (i := 2) (by decide) rfl e) (by kernel_rfl)
    · exact ac_path mixed (ext := zkE) (fuel := 9) (n := 6) (orc := zk0 ++ zkC s s.sn ++ zkC s s.rc ++ zkG s s.fl j) (an c0 <| an c1 <| zk_c (s := s) (i := 0) (by decide) rfl g0 ho.sn.2 <| zk_c (s := s) (i := 1) (by decide) rfl g1 ho.rc.2 <| zk_g (s := s) (i := 2) (by decide) rfl e hj) (by kernel_rfl)
  cases g3 : stnB s.cf.th s.el
  · rw [show stB s = false by simp [stB, lnsSt, g3]]
    rcases zk_or g3 ho.el.2 with e | ⟨e, j, hj⟩
    · exact ac_path mixed (ext := zkE) (fuel := 9) (n := 6) (orc := zk0 ++ zkC s s.sn ++ zkC s s.rc ++ zkC s s.fl ++ zkF s.el) (an c0 <| an c1 <| zk_c (s := s) (i := 0) (by decide) rfl g0 ho.sn.2 <| zk_c (s := s) (i := 1) (by decide) rfl g1 ho.rc.2 <| zk_c (s := s) (i := 2) (by decide) rfl g2 ho.fl.2 <| zk_f (s := s) (i := 3) (by decide) rfl e) (by kernel_rfl)
    · exact ac_path mixed (ext := zkE) (fuel := 9) (n := 6) (orc := zk0 ++ zkC s s.sn ++ zkC s s.rc ++ zkC s s.fl ++ zkG s s.el j) (an c0 <| an c1 <| zk_c (s := s) (i := 0) (by decide) rfl g0 ho.sn.2 <| zk_c (s := s) (i := 1) (by decide) rfl g1 ho.rc.2 <| zk_c (s := s) (i := 2) (by decide) rfl g2 ho.fl.2 <| zk_g (s := s) (i := 3) (by decide) rfl e hj) (by kernel_rfl)
  cases h2 : okE s.fe s.fl
  · rw [show stB s = false by simp [stB, h2]]
    exact ac_path mixed (ext := zkE) (fuel := 9) (n := 6) (orc := zk0 ++ zkC s s.sn ++ zkC s s.rc ++ zkC s s.fl ++ zkC s s.el ++ [.nilFunc, vD false]) (an c0 <| an c1 <| zk_c (s := s) (i := 0) (by decide) rfl g0 ho.sn.2 <| zk_c (s := s) (i := 1) (by decide) rfl g1 ho.rc.2 <| zk_c (s := s) (i := 2) (by decide) rfl g2 ho.fl.2 <| zk_c (s := s) (i := 3) (by decide) rfl g3 ho.el.2 <| an (ac_pecheck h2) trivial) (by kernel_rfl)
  cases h3 : okE s.ee s.el
  · rw [show stB s = false by simp [stB, h3]]
    exact ac_path mixed (ext := zkE) (fuel := 9) (n := 6) (orc := zk0 ++ zkC s s.sn ++ zkC s s.rc ++ zkC s s.fl ++ zkC s s.el ++ [.nilFunc, vD true, vD false]) (an c0 <| an c1 <| zk_c (s := s) (i := 0) (by decide) rfl g0 ho.sn.2 <| zk_c (s := s) (i := 1) (by decide) rfl g1 ho.rc.2 <| zk_c (s := s) (i := 2) (by decide) rfl g2 ho.fl.2 <| zk_c (s := s) (i := 3) (by decide) rfl g3 ho.el.2 <| an (ac_pecheck h2) <| an (ac_pecheck h3) trivial) (by kernel_rfl)
  cases h4 : decide (0 ≤ s.nw)
  · rw [show stB s = false by simp only [stB, h4]; simp]
    exact ac_path mixed (ext := zkE) (fuel := 9) (n := 6) (orc := zk0 ++ zkC s s.sn ++ zkC s s.rc ++ zkC s s.fl ++ zkC s s.el ++ [.nilFunc, vD true, vD true, .bool false]) (an c0 <| an c1 <| zk_c (s := s) (i := 0) (by decide) rfl g0 ho.sn.2 <| zk_c (s := s) (i := 1) (by decide) rfl g1 ho.rc.2 <| zk_c (s := s) (i := 2) (by decide) rfl g2 ho.fl.2 <| zk_c (s := s) (i := 3) (by decide) rfl g3 ho.el.2 <| an (ac_pecheck h2) <| an (ac_pecheck h3) <| an h4 trivial) (by kernel_rfl)
  cases h5 : decide (s.nw ≤ 1099511627776)
  · rw [show stB s = false by simp only [stB, h5]; simp]
    exact ac_path mixed (ext := zkE) (fuel := 9) (n := 6) (orc := zk0 ++ zkC s s.sn ++ zkC s s.rc ++ zkC s s.fl ++ zkC s s.el ++ [.nilFunc, vD true, vD true, .bool true, .bool false]) (an c0 <| an c1 <| zk_c (s := s) (i := 0) (by decide) rfl g0 ho.sn.2 <| zk_c (s := s) (i := 1) (by decide) rfl g1 ho.rc.2 <| zk_c (s := s) (i := 2) (by decide) rfl g2 ho.fl.2 <| zk_c (s := s) (i := 3) (by decide) rfl g3 ho.el.2 <| an (ac_pecheck h2) <| an (ac_pecheck h3) <| an h4 <| an h5 trivial) (by kernel_rfl)
  rw [show stB s = thsSt s by simp only [stB, lnsSt, h0, h1, g0, g1, g2, g3, h2, h3, h4, h5]; simp]
  exact ac_path mixed (ext := zkE) (fuel := 9) (n := 6) (orc := zk0 ++ zkC s s.sn ++ zkC s s.rc ++ zkC s s.fl ++ zkC s s.el ++ [.nilFunc, vD true, vD true, .bool true, .bool true, .bool (thsSt s)]) (an c0 <| an c1 <| zk_c (s := s) (i := 0) (by decide) rfl g0 ho.sn.2 <| zk_c (s := s) (i := 1) (by decide) rfl g1 ho.rc.2 <| zk_c (s := s) (i := 2) (by decide) rfl g2 ho.fl.2 <| zk_c (s := s) (i := 3) (by decide) rfl g3 ho.el.2 <| an (ac_pecheck h2) <| an (ac_pecheck h3) <| an h4 <| an h5 <| an (ac_pthreads (s := s) rfl ho) trivial) (by kernel_rfl)
set_option maxRecDepth 100000 in
theorem ac_phas {s : St} {i : Int} {b : Bool} (h : hasB s i = b) (ho : s.ok) : AC Tryz.prog 67 [stT s, .int .i64 i] (.bool b) := by
  subst h
  cases hB : stB s
  · rw [show hasB s i = false by simp [hasB, hB]]
    exact ac_path mixed (ext := [11]) (fuel := 9) (n := 4) (orc := [vD false]) (an (ac_pcheck hB ho) trivial) (by kernel_rfl)
  · by_cases h0 : 0 ≤ i
    · rw [show hasB s i = decide (i < s.th.length) by simp [hasB, hB, h0]]
      exact ac_path mixed (ext := [11]) (fuel := 9) (n := 4) (orc := [vD true, .bool true]) (an (ac_pcheck hB ho) <| an (show decide (0 ≤ i) = true by simpa using h0) trivial) (by kernel_rfl)
    · rw [show hasB s i = false by simp [hasB, h0]]
      exact ac_path mixed (ext := [11]) (fuel := 9) (n := 4) (orc := [vD true, .bool false]) (an (ac_pcheck hB ho) <| an (show decide (0 ≤ i) = false by simpa using h0) trivial) (by kernel_rfl)
theorem ac_place0 {p r k : Int} (h : placeI p r = k) (hp : In64 p) (hr : In64 r) : AC Tryz.prog 75 [.int .i64 p, .int .i64 r] (.int .i64 k) := by
  intro O W vs hl hat
  obtain ⟨ys, rfl, _, _, rfl, h0, _, _, rfl, h1, rfl⟩ := args_of hat
  rw [rp_int] at h0 h1
  subst h0 h1
  refine (place_any p r hp hr W).mono ?_
  rintro e W' ⟨rfl, hk⟩
  exact ⟨_, rfl, rp_int.2 (by rw [h]), hk⟩
set_option maxRecDepth 100000 in
theorem ac_pvalue (s : St) (p : Int) (ho : s.ok) (hp : In64 p) : AC Tryz.prog 154 [stT s, .int .i64 p] (.int .i64 (valV s p)) := by
  by_cases h0 : p < 0
  · rw [show valV s p = 0 by simp [valV, h0]]
    exact ac_path mixed (ext := [11, 75]) (fuel := 9) (n := 4) (orc := [.bool true]) (an (show decide (p < 0) = true by simpa using h0) trivial) (by kernel_rfl)
  · have d0 : decide (p < 0) = false := by simpa using h0
    cases hB : stB s
    · rw [show valV s p = 0 by simp [valV, hB]]
      exact ac_path mixed (ext := [11, 75]) (fuel := 9) (n := 4) (orc := [.bool false, vD false]) (an d0 <| an (ac_pcheck hB ho) trivial) (by kernel_rfl)
    · have hk := (word_ok hB).2.1
      obtain ⟨hi, hpl⟩ := plc_lt (l := s.sl) (p := p) (lies_iff.2 ⟨by omega, hk⟩)
      have hm := (ok_iff.1 hk).1
      rw [show valV s p = (gs s.sl (plc s.sl p)).vl by simp [valV, h0, hB, atV]]
      exact ac_path mixed (ext := [11, 75]) (fuel := 9) (n := 4) (orc := [.bool false, vD true, .int .i64 (plc s.sl p), slT (gs s.sl (plc s.sl p))])
        (an d0 <| an (ac_pcheck hB ho) <| an (ac_place0 hpl hp (by constructor <;> omega)) <| an (show IxP ((s.sl.map slT).toArray) ((plc s.sl p : Nat) : Int) (slT (gs s.sl (plc s.sl p))) from ⟨by omega, by simp [gs_eq hi, hi]⟩) trivial) (by kernel_rfl)
end Go.Proofs.YtcakapmpifnfpaaGreat

/- Contracts told by abstract values: the program's fabric: copies of its own; who is woken; what is told. -/
namespace Go.Proofs.YtcakapmpifnfpaaGreat
set_option linter.unusedVariables false
set_option linter.unusedSimpArgs false
open Go.RowKit
set_option maxRecDepth 100000 in
theorem ac_copI (l : List Int) (hm : l.length ≤ 1000000) : AC Tryz.prog 60 [rowI l] (rowI l) := by
  by_cases h : l = []
  · subst h
    exact ac_path mixed (ext := []) (fuel := 9) (n := 3) (orc := [.slice none 0 0]) (And.intro (allK_I []) (And.intro (rfl : (0 : Nat) = 0) trivial)) (by kernel_rfl)
  · exact ac_path mixed (ext := []) (fuel := 9) (n := 3) (orc := [rowI l]) (And.intro (allK_I l) (And.intro (app_nil (f := (Value.int .i64 ·)) h hm) (And.intro (len_map (f := (Value.int .i64 ·)) l) trivial))) (by kernel_rfl)
set_option maxRecDepth 100000 in
theorem ac_copS (l : List Slo) (hm : l.length ≤ 1000000) : AC Tryz.prog 59 [rowS l] (rowS l) := by
  by_cases h : l = []
  · subst h
    exact ac_path mixed (ext := []) (fuel := 9) (n := 3) (orc := [.slice none 0 0]) (And.intro (allK_S []) (And.intro (rfl : (0 : Nat) = 0) trivial)) (by kernel_rfl)
  · exact ac_path mixed (ext := []) (fuel := 9) (n := 3) (orc := [rowS l]) (And.intro (allK_S l) (And.intro (app_nil (f := slT) h hm) (And.intro (len_map (f := slT) l) trivial))) (by kernel_rfl)
set_option maxRecDepth 100000 in
theorem ac_copT (l : List Th) (hm : l.length ≤ 1000000) : AC Tryz.prog 61 [rowT l] (rowT l) := by
  by_cases h : l = []
  · subst h
    exact ac_path mixed (ext := []) (fuel := 9) (n := 3) (orc := [.slice none 0 0]) (And.intro (allK_T []) (And.intro (rfl : (0 : Nat) = 0) trivial)) (by kernel_rfl)
  · exact ac_path mixed (ext := []) (fuel := 9) (n := 3) (orc := [rowT l]) (And.intro (allK_T l) (And.intro (app_nil (f := thT) h hm) (And.intro (len_map (f := thT) l) trivial))) (by kernel_rfl)
set_option maxRecDepth 100000 in
theorem ac_copE (l : List En) (hm : l.length ≤ 1000000) : AC Tryz.prog 62 [rowE l] (rowE l) := by
  by_cases h : l = []
  · subst h
    exact ac_path mixed (ext := []) (fuel := 9) (n := 3) (orc := [.slice none 0 0]) (And.intro (allK_E []) (And.intro (rfl : (0 : Nat) = 0) trivial)) (by kernel_rfl)
  · exact ac_path mixed (ext := []) (fuel := 9) (n := 3) (orc := [rowE l]) (And.intro (allK_E l) (And.intro (app_nil (f := enT) h hm) (And.intro (len_map (f := enT) l) trivial))) (by kernel_rfl)
end Go.Proofs.YtcakapmpifnfpaaGreat

/- Contracts told by abstract values: the program's fabric, its threads its caller's own: Wake, Tell. -/
namespace Go.Proofs.YtcakapmpifnfpaaGreat
set_option linter.unusedVariables false
set_option linter.unusedSimpArgs false
open Go.RowKit
def stL (s : St) : Array Value := #[.int .i64 s.cf.lg, .int .i64 s.cf.th, .int .i64 s.cf.po, .int .i64 s.cf.wt, .int .i64 s.cf.sp, .int .i64 s.cf.yi, .bool s.cf.si, .int .i64 s.hd, .int .i64 s.tl, .int .i64 s.md, rowS s.sl, rowI s.sn, rowI s.rc, .int .i64 s.fe, rowI s.fl, .int .i64 s.ee, rowI s.el, .int .i64 s.nw, rowT s.th, rowE s.lg]
def rsT (t : Th) (r : Int) : Th := ⟨t.st, t.ki, t.va, t.un, t.pc, t.re, t.se, t.tr, t.la, r, t.go⟩
def rgT (t : Th) (r g : Int) : Th := ⟨t.st, t.ki, t.va, t.un, t.pc, t.re, t.se, t.tr, t.la, r, g⟩
/-- Its lists are not too long. -/
structure St.fit (s : St) : Prop where
  sl : s.sl.length ≤ 1000000
  sn : s.sn.length ≤ 1000000
  rc : s.rc.length ≤ 1000000
  fl : s.fl.length ≤ 1000000
  el : s.el.length ≤ 1000000
  th : s.th.length ≤ 1000000
  lg : s.lg.length ≤ 1000000
theorem el2 {n : Nat} {l : List Th} (h : n < l.length) (t : Th) : ElP ((l.set n t).map thT) (0 + (n : Int).toNat) (thT t) := by simp [ElP, h]
theorem set2 (l : List Th) (n : Nat) (t u : Th) : (l.set n u).map thT = ((l.set n t).map thT).set (0 + (n : Int).toNat) (thT u) := by simp [List.map_set]
theorem lenE (l : List En) : l.length = (l.map enT).length := by simp
theorem lenT (l : List Th) : l.length = l.length ∧ l.length = (l.map thT).length := ⟨rfl, by simp⟩
theorem lenTs (l : List Th) (n : Nat) (t : Th) : l.length = (l.set n t).length ∧ l.length = ((l.set n t).map thT).length := ⟨by simp, by simp⟩
theorem has_lt {s : St} {n : Nat} (h : hasB s n = true) : n < s.th.length := by have := (has_iff.1 h).2.2; omega
theorem lt_ne {l : List Th} {n : Nat} (h : n < l.length) : l ≠ [] := by rintro rfl; simp at h
set_option maxRecDepth 100000 in
/-- Nobody is woken: all is as it was, its threads in memory of the caller's own. -/
theorem ao_keep {s : St} {i : Int} (hA : hasB s i = false) (ho : s.ok) (hf : s.fit) (ht : s.th ≠ []) : AO Tryz.prog 40 [stT s, .int .i64 i] (stL s) 18 11 :=
  ao_path mixed (ext := [67, 60, 59, 62]) (fuel := 9) (n := 5) (pos := 18) (orc := [vD false, rowS s.sl, rowI s.sn, rowI s.rc, rowI s.fl, rowI s.el, rowT s.th, rowE s.lg])
    (And.intro (ac_phas hA ho) (And.intro (ac_copS s.sl hf.sl) (And.intro (ac_copI s.sn hf.sn) (And.intro (ac_copI s.rc hf.rc) (And.intro (ac_copI s.fl hf.fl) (And.intro (ac_copI s.el hf.el)
      (And.intro (allK_T s.th) (And.intro (app_nil (f := thT) ht hf.th) (And.intro (ac_copE s.lg hf.lg) (And.intro (lenT s.th) trivial)))))))))) (by kernel_rfl)
set_option maxRecDepth 100000 in
theorem ao_wake {s : St} {n : Nat} (hA : hasB s n = true) (ho : s.ok) (hf : s.fit) : AO Tryz.prog 40 [stT s, .int .i64 n] (stL (s.onTh n wakeT)) 18 11 :=
  ao_path mixed (ext := [67, 60, 59, 62, 69]) (fuel := 9) (n := 5) (pos := 18)
    (orc := [vD true, rowS s.sl, rowI s.sn, rowI s.rc, rowI s.fl, rowI s.el, rowT s.th, rowE s.lg, thT (gth s.th n), thT (wakeT (gth s.th n)), thT (gth s.th n), rowT (s.th.set n (wakeT (gth s.th n)))])
    (And.intro (ac_phas hA ho) (And.intro (ac_copS s.sl hf.sl) (And.intro (ac_copI s.sn hf.sn) (And.intro (ac_copI s.rc hf.rc) (And.intro (ac_copI s.fl hf.fl) (And.intro (ac_copI s.el hf.el)
      (And.intro (allK_T s.th) (And.intro (app_nil (f := thT) (lt_ne (has_lt hA)) hf.th) (And.intro (ac_copE s.lg hf.lg) (And.intro (idT (has_lt hA)) (And.intro (elT (has_lt hA)) (And.intro (ac_twake (gth s.th n)) (And.intro (elT (has_lt hA))
        (And.intro (setT s.th n (wakeT (gth s.th n))) (And.intro (lenTs s.th n (wakeT (gth s.th n))) trivial))))))))))))))) (by kernel_rfl)
theorem app_one {α : Type} {f : α → Value} (l : List α) (x : α) (hm : l.length ≤ 1000000) : AppP (l ++ [x]).length ((l ++ [x]).map f) l.length (l.map f) 1 [f x] := ⟨by simp, by simp, by omega⟩
theorem app_fst {α : Type} {f : α → Value} (x : α) : 0 < 1 ∧ AppP ([] ++ [x]).length (([] ++ [x]).map f) 0 [] 1 [f x] := ⟨by omega, by simp, by simp, by omega⟩
theorem ixT {n : Nat} {l : List Th} (h : n < l.length) : IxP ((l.map thT).toArray) (n : Int) (thT (gth l n)) := rowT_el h
theorem allK_1 (x : En) : AllK 5 [enT x] := allK_E [x]
def tlE (s : St) (n : Nat) (k r g : Int) : En := ⟨n, k, (gth s.th n).va, r, g⟩
theorem lenA (l : List En) (x : En) : LenP (l ++ [x]).length (l ++ [x]).length ((l ++ [x]).map enT) := len_map (f := enT) (l ++ [x])
set_option maxRecDepth 100000 in
theorem ao_tell {s : St} {n : Nat} {k r g : Int} (hA : hasB s n = true) (hk : (k != 9) = true) (ho : s.ok) (hf : s.fit) : AO Tryz.prog 153 [stT s, .int .i64 n, .int .i64 k, .int .i64 r, .int .i64 g] (stL ((s.setTh n (rgT (gth s.th n) r g)).addLg (tlE s n k r g))) 18 11 := by
  have hn := has_lt hA
  by_cases hl : s.lg = []
  · rw [show (s.setTh n (rgT (gth s.th n) r g)).addLg (tlE s n k r g) = ⟨s.cf, s.hd, s.tl, s.md, s.sl, s.sn, s.rc, s.fe, s.fl, s.ee, s.el, s.nw, s.th.set n (rgT (gth s.th n) r g), [] ++ [tlE s n k r g]⟩ by unfold St.addLg St.setTh; rw [hl]]
    refine ao_path mixed (ext := [67, 60, 59]) (fuel := 9) (n := 5) (pos := 18)
      (orc := [vD true, rowS s.sl, rowI s.sn, rowI s.rc, rowI s.fl, rowI s.el, rowT s.th, .slice none 0 0, .bool true, thT (gth s.th n), rowT (s.th.set n (rsT (gth s.th n) r)), thT (rsT (gth s.th n) r), rowT (s.th.set n (rgT (gth s.th n) r g)), thT (gth s.th n), rowE ([] ++ [tlE s n k r g])])
      (an (ac_phas hA ho) <| an (ac_copS s.sl hf.sl) <| an (ac_copI s.sn hf.sn) <| an (ac_copI s.rc hf.rc) <| an (ac_copI s.fl hf.fl) <| an (ac_copI s.el hf.el) <| an (allK_T s.th) <| an (app_nil (f := thT) (lt_ne hn) hf.th) <|
        an (allK_E s.lg) <| an (show s.lg.length = 0 by rw [hl]; rfl) <| an (idT hn) <| an hk <| an (elT hn) <| an (setT s.th n (rsT (gth s.th n) r)) <| an (el2 hn (rsT (gth s.th n) r)) <| an (set2 s.th n (rsT (gth s.th n) r) (rgT (gth s.th n) r g)) <| an (ixT hn) <| an (rfl : (1 : Nat) = 1) <| an (allK_1 (tlE s n k r g)) <| an (app_fst (f := enT) (tlE s n k r g)) <|
        an (lenTs s.th n (rgT (gth s.th n) r g)) <| an (lenA [] (tlE s n k r g)) trivial) (by kernel_rfl)
  · refine ao_path mixed (ext := [67, 60, 59]) (fuel := 9) (n := 5) (pos := 18)
      (orc := [vD true, rowS s.sl, rowI s.sn, rowI s.rc, rowI s.fl, rowI s.el, rowT s.th, rowE s.lg, .bool true, thT (gth s.th n), rowT (s.th.set n (rsT (gth s.th n) r)), thT (rsT (gth s.th n) r), rowT (s.th.set n (rgT (gth s.th n) r g)), thT (gth s.th n), rowE (s.lg ++ [tlE s n k r g])])
      (an (ac_phas hA ho) <| an (ac_copS s.sl hf.sl) <| an (ac_copI s.sn hf.sn) <| an (ac_copI s.rc hf.rc) <| an (ac_copI s.fl hf.fl) <| an (ac_copI s.el hf.el) <| an (allK_T s.th) <| an (app_nil (f := thT) (lt_ne hn) hf.th) <|
        an (allK_E s.lg) <| an (app_nil (f := enT) hl hf.lg) <| an (idT hn) <| an hk <| an (elT hn) <| an (setT s.th n (rsT (gth s.th n) r)) <| an (el2 hn (rsT (gth s.th n) r)) <| an (set2 s.th n (rsT (gth s.th n) r) (rgT (gth s.th n) r g)) <| an (ixT hn) <| an (rfl : (1 : Nat) = 1) <| an (allK_1 (tlE s n k r g)) <| an (lenE s.lg) <| an (app_one (f := enT) s.lg (tlE s n k r g) hf.lg) <|
        an (lenTs s.th n (rgT (gth s.th n) r g)) <| an (lenA s.lg (tlE s n k r g)) trivial) (by kernel_rfl)
set_option maxRecDepth 100000 in
theorem ao_tell9 {s : St} {n : Nat} {r g : Int} (hA : hasB s n = true) (ho : s.ok) (hf : s.fit) : AO Tryz.prog 153 [stT s, .int .i64 n, .int .i64 9, .int .i64 r, .int .i64 g] (stL (s.addLg (tlE s n 9 r g))) 18 11 := by
  have hn := has_lt hA
  by_cases hl : s.lg = []
  · rw [show s.addLg (tlE s n 9 r g) = ⟨s.cf, s.hd, s.tl, s.md, s.sl, s.sn, s.rc, s.fe, s.fl, s.ee, s.el, s.nw, s.th, [] ++ [tlE s n 9 r g]⟩ by unfold St.addLg; rw [hl]]
    refine ao_path mixed (ext := [67, 60, 59]) (fuel := 9) (n := 5) (pos := 18)
      (orc := [vD true, rowS s.sl, rowI s.sn, rowI s.rc, rowI s.fl, rowI s.el, rowT s.th, .slice none 0 0, .nilFunc, thT (gth s.th n), rowE ([] ++ [tlE s n 9 r g])])
      (an (ac_phas hA ho) <| an (ac_copS s.sl hf.sl) <| an (ac_copI s.sn hf.sn) <| an (ac_copI s.rc hf.rc) <| an (ac_copI s.fl hf.fl) <| an (ac_copI s.el hf.el) <| an (allK_T s.th) <| an (app_nil (f := thT) (lt_ne hn) hf.th) <|
        an (allK_E s.lg) <| an (show s.lg.length = 0 by rw [hl]; rfl) <| an (idT hn) <| an (ixT hn) <| an (rfl : (1 : Nat) = 1) <| an (allK_1 (tlE s n 9 r g)) <| an (app_fst (f := enT) (tlE s n 9 r g)) <|
        an (lenT s.th) <| an (lenA [] (tlE s n 9 r g)) trivial) (by kernel_rfl)
  · refine ao_path mixed (ext := [67, 60, 59]) (fuel := 9) (n := 5) (pos := 18)
      (orc := [vD true, rowS s.sl, rowI s.sn, rowI s.rc, rowI s.fl, rowI s.el, rowT s.th, rowE s.lg, .nilFunc, thT (gth s.th n), rowE (s.lg ++ [tlE s n 9 r g])])
      (an (ac_phas hA ho) <| an (ac_copS s.sl hf.sl) <| an (ac_copI s.sn hf.sn) <| an (ac_copI s.rc hf.rc) <| an (ac_copI s.fl hf.fl) <| an (ac_copI s.el hf.el) <| an (allK_T s.th) <| an (app_nil (f := thT) (lt_ne hn) hf.th) <|
        an (allK_E s.lg) <| an (app_nil (f := enT) hl hf.lg) <| an (idT hn) <| an (ixT hn) <| an (rfl : (1 : Nat) = 1) <| an (allK_1 (tlE s n 9 r g)) <| an (lenE s.lg) <| an (app_one (f := enT) s.lg (tlE s n 9 r g) hf.lg) <|
        an (lenT s.th) <| an (lenA s.lg (tlE s n 9 r g)) trivial) (by kernel_rfl)
set_option maxRecDepth 100000 in
/-- What a state's lists are copied into: whoever is not there is not woken. -/
theorem ac_keep {s : St} {i : Int} (hA : hasB s i = false) (ho : s.ok) (hf : s.fit) : AC Tryz.prog 40 [stT s, .int .i64 i] (stT s) :=
  ac_path mixed (ext := [67, 60, 59, 62, 61]) (fuel := 9) (n := 5) (orc := [vD false, rowS s.sl, rowI s.sn, rowI s.rc, rowI s.fl, rowI s.el, rowT s.th, rowE s.lg])
    (an (ac_phas hA ho) <| an (ac_copS s.sl hf.sl) <| an (ac_copI s.sn hf.sn) <| an (ac_copI s.rc hf.rc) <| an (ac_copI s.fl hf.fl) <| an (ac_copI s.el hf.el) <| an (ac_copT s.th hf.th) <| an (ac_copE s.lg hf.lg) trivial) (by kernel_rfl)
end Go.Proofs.YtcakapmpifnfpaaGreat

/- Layer 17: a state handed back whose log is none, or is the caller's own. -/
namespace Go.Proofs.YtcakapmpifnfpaaGreat
set_option linter.unusedVariables false
set_option linter.unusedSimpArgs false
open Go.RowKit
/-- A call that hands back a struct whose slice at place pos is none. -/
def evRunN (P : Program) (ext : List FuncId) (fuel n : Nat) (g : FuncId) (args orc : List Value) (pos : Nat) : Option (List Value × Prop) :=
  match evFn P ext fuel n g args [] orc with
  | some (.agg xs, H, [], ob) => match xs.toList[pos]? with
    | some (.slice none 0 0) => match lendL (lendA (look H)) xs.toList with
      | some (al, is, ps) => if is.all (fun i => (look H i).isSome) then some (al.set pos (.slice none 0 0), conj (ob ++ ps)) else none
      | none => none
    | _ => none
  | _ => none
theorem ac_pathN {P : Program} (hm : P.follows .mixedOrders = true) {ext : List FuncId} {fuel n : Nat} {g : FuncId} {args orc : List Value} {pos : Nat} {cs : List Value} {A : Prop} (hA : A) (h : evRunN P ext fuel n g args orc pos = some (cs, A)) : AC P g args (.agg cs.toArray) := by
  unfold evRunN at h
  split at h
  · next xs H ob hev =>
    split at h
    · next hp =>
      split at h
      · next al is ps hl =>
        split at h
        · next his =>
          cases h
          obtain ⟨hb1, hb2⟩ := conj_append.1 hA
          intro O W vs hlow hat
          have hH : HConc nowhere O [] W := ⟨hlow, fun _ _ => rfl, fun i => by simp [look, HAt], fun i j b b' g k k' h1 => by simp [look] at h1⟩
          refine (evFn_ok hm n _ _ _ _ _ _ _ _ hev hb1 nowhere O W vs hH hat).mono ?_
          rintro e W' ⟨c, ρ', O', rfl, hr, hH', hE⟩
          obtain ⟨us, rfl, hau⟩ := rp_agg.1 hr
          have h5 := lendL_ok (H := look H) (fun v v' c is ob => lendA_ok) hl hb2 (ys := us.toList) (by simpa using hau) (fun j _ => hH'.hp j)
          have hlen : al.length = us.toList.length := by have := h5.1; simpa using this.symm
          have hat2 : AtAll (Rp nowhere (Unlent ρ' O' is) W') (al.set pos (.slice none 0 0)).toArray us := by
            refine ⟨by simpa using hlen.symm, fun j x hx => ?_⟩
            simp only [List.getElem?_toArray, List.getElem?_set] at hx
            split at hx
            · next e =>
              subst e
              obtain ⟨u, hu, hru⟩ := hau.2 pos _ (by simpa using hp)
              split at hx
              · cases hx
                exact ⟨_, hu, rp_nils.2 (rp_nils.1 hru)⟩
              · cases hx
            · obtain ⟨y, hy, hr'⟩ := h5.2 j x (by simpa using hx)
              exact ⟨y, by simpa using hy, hr'⟩
          refine ⟨_, rfl, (rp_agg.2 ⟨us, rfl, hat2⟩ : Rp nowhere (Unlent ρ' O' is) W' _ _).mono ⟨Nat.le_refl _, fun g _ hn => ⟨fun hO => hn ⟨hE.keepO g hO fun i b hb => by simp [look] at hb, fun i hi k hk => ?_⟩, rfl⟩, Shp.of_same fun _ _ => rfl⟩ (Sub.refl _), ⟨hE.str.2.1, hE.str.1, hE.str.2.2, hE.still.size, fun g hg => hE.blk g hg fun i b hb => by simp [look] at hb⟩⟩
          rcases hE.new i _ hk with h2 | ⟨-, h2⟩
          · cases h2
          · have := hlow g hO
            rcases h2 with h2 | ⟨j, b, k, h2, -⟩
            · simp at h2; omega
            · simp [look] at h2
        · cases h
      · cases h
    · cases h
  · cases h
/-- A state's parts, its log none. -/
def stN (s : St) : Array Value := #[.int .i64 s.cf.lg, .int .i64 s.cf.th, .int .i64 s.cf.po, .int .i64 s.cf.wt, .int .i64 s.cf.sp, .int .i64 s.cf.yi, .bool s.cf.si, .int .i64 s.hd, .int .i64 s.tl, .int .i64 s.md, rowS s.sl, rowI s.sn, rowI s.rc, .int .i64 s.fe, rowI s.fl, .int .i64 s.ee, rowI s.el, .int .i64 s.nw, rowT s.th, .slice none 0 0]
set_option maxRecDepth 100000 in
theorem ao_keepL {s : St} {i : Int} (hA : hasB s i = false) (ho : s.ok) (hf : s.fit) (hl : s.lg ≠ []) : AO Tryz.prog 40 [stT s, .int .i64 i] (stL s) 19 5 :=
  ao_path mixed (ext := [67, 60, 59, 61]) (fuel := 9) (n := 5) (pos := 19) (orc := [vD false, rowS s.sl, rowI s.sn, rowI s.rc, rowI s.fl, rowI s.el, rowT s.th, rowE s.lg])
    (an (ac_phas hA ho) <| an (ac_copS s.sl hf.sl) <| an (ac_copI s.sn hf.sn) <| an (ac_copI s.rc hf.rc) <| an (ac_copI s.fl hf.fl) <| an (ac_copI s.el hf.el) <| an (ac_copT s.th hf.th) <| an (allK_E s.lg) <| an (app_nil (f := enT) hl hf.lg) <| an (show s.lg.length = s.lg.length ∧ s.lg.length = (s.lg.map enT).length from ⟨rfl, by simp⟩) trivial) (by kernel_rfl)
set_option maxRecDepth 100000 in
theorem ac_keepN {s : St} {i : Int} (hA : hasB s i = false) (ho : s.ok) (hf : s.fit) (hl : s.lg = []) : AC Tryz.prog 40 [stT s, .int .i64 i] (.agg (stN s)) :=
  ac_pathN mixed (ext := [67, 60, 59, 61]) (fuel := 9) (n := 5) (pos := 19) (orc := [vD false, rowS s.sl, rowI s.sn, rowI s.rc, rowI s.fl, rowI s.el, rowT s.th, .slice none 0 0])
    (an (ac_phas hA ho) <| an (ac_copS s.sl hf.sl) <| an (ac_copI s.sn hf.sn) <| an (ac_copI s.rc hf.rc) <| an (ac_copI s.fl hf.fl) <| an (ac_copI s.el hf.el) <| an (ac_copT s.th hf.th) <| an (allK_E s.lg) <| an (show s.lg.length = 0 by rw [hl]; rfl) trivial) (by kernel_rfl)
end Go.Proofs.YtcakapmpifnfpaaGreat

/- Layer 9: whose turn it is; written, read, released. -/
namespace Go.Proofs.YtcakapmpifnfpaaGreat
set_option linter.unusedVariables false
set_option linter.unusedSimpArgs false
open Go.ChangeShapes Go.WideShapes Go.ChangeAt Go.RowKit

theorem slo_field0 (a b : Int) (W : World) : (Instr.field 64 (.agg #[.int .i64 a, .int .i64 b]) 0).run Tryz.prog W = .ok (.int .i64 a) W := by kernel_rfl
theorem slo_field1 (a b : Int) (W : World) : (Instr.field 64 (.agg #[.int .i64 a, .int .i64 b]) 1).run Tryz.prog W = .ok (.int .i64 b) W := by kernel_rfl

theorem sready_any (l : List Slo) (q : Int) (p : Option Addr) (k : Nat) (w : World) (hl : Sl w 2 Slo.cells l (.slice p l.length k)) (hm : l.length ≤ 1000) (hq : In64 q) :
    Calls Tryz.prog 172 #[.slice p l.length k, .int .i64 q] w fun e w' => e = .returned (.bool (rdyB l q)) ∧ Kept w w' := by
  have H := Lib.hid hl
  unfold rdyB
  clear hl
  cases h1 : liesS l q
  · have H1 := Lib.hid h1
    clear h1
    go_enter Tryz.func172, Tryz.ntmps172
    go_wp2_with fail
    refine (slies_val H1.out p k _ H.out hm).mono ?_
    rintro e w1 ⟨rfl, hg1⟩
    go_wp2
    go_ret
    exact ⟨rfl, by repeat' (first | (with_reducible exact Below.refl _ _) | (with_reducible assumption) | (with_reducible refine kept_alloc ?_ _) | (with_reducible refine kept_drewN ?_ _) | (with_reducible refine Below.drew ?_) | (with_reducible refine Below.setCell ?_ (by first | omega | (simp; omega) | (simp; done)) _) | (refine kept_trans ?_ (by with_reducible assumption)))⟩
  · have H1 := Lib.hid h1
    obtain ⟨h2, h3⟩ := plc_lt h1
    have H2 := Lib.hid h2
    have H3 := Lib.hid h3
    have hf := fun W => slo_field0 (gs l (plc l q)).st (gs l (plc l q)).vl W
    clear h1 h2 h3
    generalize plc l q = i at *
    go_enter Tryz.func172, Tryz.ntmps172
    go_wp2_with fail
    refine (slies_val H1.out p k _ H.out hm).mono ?_
    rintro e w1 ⟨rfl, hg1⟩
    go_wp2_with fail
    refine (sat_any l q i p k _ (H.out.kept (by repeat' (first | (with_reducible exact Below.refl _ _) | (with_reducible assumption) | (with_reducible refine kept_alloc ?_ _) | (with_reducible refine kept_drewN ?_ _) | (with_reducible refine Below.drew ?_) | (with_reducible refine Below.setCell ?_ (by first | omega | (simp; omega) | (simp; done)) _) | (refine kept_trans ?_ (by with_reducible assumption))))) hm hq H3.out H2.out).mono ?_
    rintro e w2 ⟨rfl, hg2⟩
    go_wp2
    go_ret
    exact ⟨ret_bool (by simp), by repeat' (first | (with_reducible exact Below.refl _ _) | (with_reducible assumption) | (with_reducible refine kept_alloc ?_ _) | (with_reducible refine kept_drewN ?_ _) | (with_reducible refine Below.drew ?_) | (with_reducible refine Below.setCell ?_ (by first | omega | (simp; omega) | (simp; done)) _) | (refine kept_trans ?_ (by with_reducible assumption)))⟩
theorem sready_val {l : List Slo} {q : Int} {b : Bool} (hb : rdyB l q = b) (p : Option Addr) (k : Nat) (w : World) (hl : Sl w 2 Slo.cells l (.slice p l.length k)) (hm : l.length ≤ 1000) (hq : In64 q) :
    Calls Tryz.prog 172 #[.slice p l.length k, .int .i64 q] w fun e w' => e = .returned (.bool b) ∧ Kept w w' := hb ▸ sready_any l q p k w hl hm hq

set_option maxHeartbeats 1000000 in
theorem sread_any (l : List Slo) (q : Int) (p : Option Addr) (k : Nat) (w : World) (hl : Sl w 2 Slo.cells l (.slice p l.length k)) (hm : l.length ≤ 1000) (hq : In64 q) :
    Calls Tryz.prog 161 #[.slice p l.length k, .int .i64 q] w fun e w' => e = .returned (.tuple #[.int .i64 (rdV l q), .int .i64 (rdE l q)]) ∧ Kept w w' := by
  have H := Lib.hid hl
  unfold rdV rdE
  clear hl
  cases h1 : rdyB l q
  · have H1 := Lib.hid h1
    clear h1
    go_enter Tryz.func161, Tryz.ntmps161
    go_wp2_with fail
    refine (sready_val H1.out p k _ H.out hm hq).mono ?_
    rintro e w1 ⟨rfl, hg1⟩
    go_wp2
    go_ret2
    exact ⟨rfl, by repeat' (first | (with_reducible exact Below.refl _ _) | (with_reducible assumption) | (with_reducible refine kept_alloc ?_ _) | (with_reducible refine kept_drewN ?_ _) | (with_reducible refine Below.drew ?_) | (with_reducible refine Below.setCell ?_ (by first | omega | (simp; omega) | (simp; done)) _) | (refine kept_trans ?_ (by with_reducible assumption)))⟩
  · have H1 := Lib.hid h1
    obtain ⟨h2, h3⟩ := plc_lt (rdy_lies h1).1
    have H2 := Lib.hid h2
    have H3 := Lib.hid h3
    have hf := fun W => slo_field1 (gs l (plc l q)).st (gs l (plc l q)).vl W
    clear h1 h2 h3
    generalize plc l q = i at *
    go_enter Tryz.func161, Tryz.ntmps161
    go_wp2_with fail
    refine (sready_val H1.out p k _ H.out hm hq).mono ?_
    rintro e w1 ⟨rfl, hg1⟩
    go_wp2_with fail
    refine (sat_any l q i p k _ (H.out.kept (by repeat' (first | (with_reducible exact Below.refl _ _) | (with_reducible assumption) | (with_reducible refine kept_alloc ?_ _) | (with_reducible refine kept_drewN ?_ _) | (with_reducible refine Below.drew ?_) | (with_reducible refine Below.setCell ?_ (by first | omega | (simp; omega) | (simp; done)) _) | (refine kept_trans ?_ (by with_reducible assumption))))) hm hq H3.out H2.out).mono ?_
    rintro e w2 ⟨rfl, hg2⟩
    go_wp2
    go_ret2
    exact ⟨rfl, by repeat' (first | (with_reducible exact Below.refl _ _) | (with_reducible assumption) | (with_reducible refine kept_alloc ?_ _) | (with_reducible refine kept_drewN ?_ _) | (with_reducible refine Below.drew ?_) | (with_reducible refine Below.setCell ?_ (by first | omega | (simp; omega) | (simp; done)) _) | (refine kept_trans ?_ (by with_reducible assumption)))⟩
/-- What a call that hands back slots of its own, and an error, leaves. -/
def RetSE (w : World) (r : List Slo) (c : Int) (e : Ending) (w' : World) : Prop :=
  ∃ g, e = .returned (.tuple #[.slice (some ⟨g, 0, none⟩) r.length r.length, .int .i64 c]) ∧ Ow w' w.heap.size 64 2 Slo.cells r (.slice (some ⟨g, 0, none⟩) r.length r.length) ∧ Kept w w'
theorem write1_enters : ∀ args w, (callFunc 174 args).run Tryz.prog w = .ok (.enter 174 args) w := enters_of Tryz.func174 (by kernel_rfl) rfl
theorem release1_enters : ∀ args w, (callFunc 186 args).run Tryz.prog w = .ok (.enter 186 args) w := enters_of Tryz.func186 (by kernel_rfl) rfl

set_option maxHeartbeats 2000000 in
theorem swrite_any (l : List Slo) (q v : Int) (p : Option Addr) (k : Nat) (w : World) (hl : Sl w 2 Slo.cells l (.slice p l.length k)) (hm : l.length ≤ 1000) (hq : In64 q) :
    Calls Tryz.prog 144 #[.slice p l.length k, .int .i64 q, .int .i64 v] w (RetSE w (wrL l q v) (wrE l q)) := by
  have H := Lib.hid hl
  clear hl
  cases h1 : liesS l q
  · have H1 := Lib.hid h1
    have h2 : rdyB l q = false := by simp [rdyB, h1]
    have e2 : wrL l q v = l ∧ wrE l q = 40 := by simp [wrL, wrE, h1, h2]
    rw [e2.1, e2.2]
    clear h1 h2 e2
    go_enter Tryz.func144, Tryz.ntmps144
    go_wp2_with fail
    refine (slies_val H1.out p k _ (H.out.kept (by repeat' (first | (with_reducible exact Below.refl _ _) | (with_reducible assumption) | (with_reducible refine kept_alloc ?_ _) | (with_reducible refine kept_drewN ?_ _) | (with_reducible refine Below.drew ?_) | (with_reducible refine Below.setCell ?_ (by first | omega | (simp; omega) | (simp; done)) _) | (refine kept_trans ?_ (by with_reducible assumption))))) hm).mono ?_
    rintro e w1 ⟨rfl, hg1⟩
    have hB : Below w.heap.size w w1 := by repeat' (first | (with_reducible exact Below.refl _ _) | (with_reducible assumption) | (with_reducible refine kept_alloc ?_ _) | (with_reducible refine kept_drewN ?_ _) | (with_reducible refine Below.drew ?_) | (with_reducible refine Below.setCell ?_ (by first | omega | (simp; omega) | (simp; done)) _) | (refine kept_trans ?_ (by with_reducible assumption)))
    clear hg1
    go_wp2_with fail
    refine (slaid_any l p k _ (H.out.kept hB) hm).mono ?_
    rintro e w2 ⟨g, rfl, -, ho, hb⟩
    have HO := Lib.hid ho
    clear ho
    go_wp2
    go_ret2
    exact ⟨g, rfl, ow_mono HO.out hB.size, by repeat' (first | (with_reducible exact Below.refl _ _) | (with_reducible assumption) | (with_reducible refine kept_alloc ?_ _) | (with_reducible refine kept_drewN ?_ _) | (with_reducible refine Below.drew ?_) | (with_reducible refine Below.setCell ?_ (by first | omega | (simp; omega) | (simp; done)) _) | (refine kept_trans ?_ (by with_reducible assumption)))⟩
  · cases h2 : rdyB l q
    · have H1 := Lib.hid h1
      have H2 := Lib.hid h2
      have e2 : wrL l q v = l ∧ wrE l q = 30 := by simp [wrL, wrE, h1, h2]
      rw [e2.1, e2.2]
      clear h1 h2 e2
      go_enter Tryz.func144, Tryz.ntmps144
      go_wp2_with fail
      refine (slies_val H1.out p k _ (H.out.kept (by repeat' (first | (with_reducible exact Below.refl _ _) | (with_reducible assumption) | (with_reducible refine kept_alloc ?_ _) | (with_reducible refine kept_drewN ?_ _) | (with_reducible refine Below.drew ?_) | (with_reducible refine Below.setCell ?_ (by first | omega | (simp; omega) | (simp; done)) _) | (refine kept_trans ?_ (by with_reducible assumption))))) hm).mono ?_
      rintro e w1 ⟨rfl, hg1⟩
      have hB1 : Below w.heap.size w w1 := by repeat' (first | (with_reducible exact Below.refl _ _) | (with_reducible assumption) | (with_reducible refine kept_alloc ?_ _) | (with_reducible refine kept_drewN ?_ _) | (with_reducible refine Below.drew ?_) | (with_reducible refine Below.setCell ?_ (by first | omega | (simp; omega) | (simp; done)) _) | (refine kept_trans ?_ (by with_reducible assumption)))
      clear hg1
      go_wp2_with fail
      refine (sready_val H2.out p k _ (H.out.kept hB1) hm hq).mono ?_
      rintro e w2 ⟨rfl, hg2⟩
      have hB : Below w.heap.size w w2 := kept_trans hB1 hg2
      clear hg2 hB1
      go_wp2_with fail
      refine (slaid_any l p k _ (H.out.kept hB) hm).mono ?_
      rintro e w3 ⟨g, rfl, -, ho, hb⟩
      have HO := Lib.hid ho
      clear ho
      go_wp2
      go_ret2
      exact ⟨g, rfl, ow_mono HO.out hB.size, by repeat' (first | (with_reducible exact Below.refl _ _) | (with_reducible assumption) | (with_reducible refine kept_alloc ?_ _) | (with_reducible refine kept_drewN ?_ _) | (with_reducible refine Below.drew ?_) | (with_reducible refine Below.setCell ?_ (by first | omega | (simp; omega) | (simp; done)) _) | (refine kept_trans ?_ (by with_reducible assumption)))⟩
    · have H1 := Lib.hid h1
      have H2 := Lib.hid h2
      obtain ⟨h3, h4⟩ := plc_lt h1
      have HQ := Lib.hid (rdy_lies h2).2
      have H3 := Lib.hid h3
      have H4 := Lib.hid h4
      have e2 : wrL l q v = l.set (plc l q) ⟨q, v⟩ ∧ wrE l q = 0 := by simp [wrL, wrE, h1, h2]
      rw [e2.1, e2.2]
      clear h1 h2 h3 h4 e2
      unfold RetSE
      rw [List.length_set]
      generalize plc l q = i at *
      go_enter Tryz.func144, Tryz.ntmps144
      go_wp2_with fail
      refine (slies_val H1.out p k _ (H.out.kept (by repeat' (first | (with_reducible exact Below.refl _ _) | (with_reducible assumption) | (with_reducible refine kept_alloc ?_ _) | (with_reducible refine kept_drewN ?_ _) | (with_reducible refine Below.drew ?_) | (with_reducible refine Below.setCell ?_ (by first | omega | (simp; omega) | (simp; done)) _) | (refine kept_trans ?_ (by with_reducible assumption))))) hm).mono ?_
      rintro e w1 ⟨rfl, hg1⟩
      have hcs : CellsAt w1 [(w.heap.size, 0, .int .i64 v)] := cells_keep hg1 (by (simp only [CellsAt]; (repeat' (first | exact trivial | (refine And.intro ?_ ?_))); all_goals (first | (focus ((try simp only [World.size_setCell, World.size_alloc]); omega)) | (repeat (first | rfl | assumption | (refine (World.cell?_alloc_past _ _ _ ?_).trans ?_; focus ((try simp only [World.size_setCell, World.size_alloc]); omega)) | (refine (World.cell?_alloc_at _ _ _ _ ?_).trans ?_; focus ((try simp only [World.size_setCell, World.size_alloc]); done)) | (refine (World.cell?_setCell_other _ _ _ _ ?_).trans ?_; focus (simp; done)) | (refine (World.cell?_setCell_other _ _ _ _ ?_).trans ?_; focus (simp; omega)) | (refine World.cell?_setCell_same' _ _ _ ?_; focus (simp; done)))))))
      have hB1 : Below w.heap.size w w1 := by repeat' (first | (with_reducible exact Below.refl _ _) | (with_reducible assumption) | (with_reducible refine kept_alloc ?_ _) | (with_reducible refine kept_drewN ?_ _) | (with_reducible refine Below.drew ?_) | (with_reducible refine Below.setCell ?_ (by first | omega | (simp; omega) | (simp; done)) _) | (refine kept_trans ?_ (by with_reducible assumption)))
      clear hg1
      go_wp2_with fail
      refine (sready_val H2.out p k _ (H.out.kept hB1) hm hq).mono ?_
      rintro e w2 ⟨rfl, hg2⟩
      have hcs := cells_keep hg2 hcs
      have hB : Below w.heap.size w w2 := kept_trans hB1 hg2
      clear hg2 hB1
      have hPk := Lib.hid (write1_pokes v w.heap.size w2 hcs.1.1 hcs.1.2)
      clear hcs
      go_wp2_with fail
      refine (schanged_any l q i _ _ _ p k _ write1_enters (H.out.kept hB) hm hq H4.out H3.out hPk.out).mono ?_
      rintro e w3 ⟨g, rfl, -, ho, hb⟩
      rw [HQ.out, List.length_set] at ho
      rw [List.length_set]
      have HO := Lib.hid ho
      clear ho
      go_wp2
      go_ret2
      exact ⟨g, rfl, ow_mono HO.out hB.size, by repeat' (first | (with_reducible exact Below.refl _ _) | (with_reducible assumption) | (with_reducible refine kept_alloc ?_ _) | (with_reducible refine kept_drewN ?_ _) | (with_reducible refine Below.drew ?_) | (with_reducible refine Below.setCell ?_ (by first | omega | (simp; omega) | (simp; done)) _) | (refine kept_trans ?_ (by with_reducible assumption)))⟩

set_option maxHeartbeats 2000000 in
theorem srelease_any (l : List Slo) (q : Int) (p : Option Addr) (k : Nat) (w : World) (hl : Sl w 2 Slo.cells l (.slice p l.length k)) (hm : l.length ≤ 1000) (hq : In64 q) :
    Calls Tryz.prog 155 #[.slice p l.length k, .int .i64 q] w (RetSE w (rlL l q) (rlE l q)) := by
  have H := Lib.hid hl
  clear hl
  cases h1 : rdyB l q
  · have H1 := Lib.hid h1
    have e1 : rlB l q = false := by simp [rlB, h1]
    have e2 : rlL l q = l ∧ rlE l q = 40 := by simp [rlL, rlE, e1]
    rw [e2.1, e2.2]
    clear h1 e1 e2
    go_enter Tryz.func155, Tryz.ntmps155
    go_wp2_with fail
    refine (sready_val H1.out p k _ (H.out.kept (by repeat' (first | (with_reducible exact Below.refl _ _) | (with_reducible assumption) | (with_reducible refine kept_alloc ?_ _) | (with_reducible refine kept_drewN ?_ _) | (with_reducible refine Below.drew ?_) | (with_reducible refine Below.setCell ?_ (by first | omega | (simp; omega) | (simp; done)) _) | (refine kept_trans ?_ (by with_reducible assumption))))) hm hq).mono ?_
    rintro e w1 ⟨rfl, hg1⟩
    have hcs : CellsAt w1 [(w.heap.size, 0, .slice p l.length k), (w.heap.size + 1, 0, .int .i64 q)] := cells_keep hg1 (by (simp only [CellsAt]; (repeat' (first | exact trivial | (refine And.intro ?_ ?_))); all_goals (first | (focus ((try simp only [World.size_setCell, World.size_alloc]); omega)) | (repeat (first | rfl | assumption | (refine (World.cell?_alloc_past _ _ _ ?_).trans ?_; focus ((try simp only [World.size_setCell, World.size_alloc]); omega)) | (refine (World.cell?_alloc_at _ _ _ _ ?_).trans ?_; focus ((try simp only [World.size_setCell, World.size_alloc]); done)) | (refine (World.cell?_setCell_other _ _ _ _ ?_).trans ?_; focus (simp; done)) | (refine (World.cell?_setCell_other _ _ _ _ ?_).trans ?_; focus (simp; omega)) | (refine World.cell?_setCell_same' _ _ _ ?_; focus (simp; done)))))))
    have hq0 := hcs.1.2; have hq1 := hcs.2.1.2; have hz0 := hcs.1.1; have hz1 := hcs.2.1.1
    have hB : Below w.heap.size w w1 := by repeat' (first | (with_reducible exact Below.refl _ _) | (with_reducible assumption) | (with_reducible refine kept_alloc ?_ _) | (with_reducible refine kept_drewN ?_ _) | (with_reducible refine Below.drew ?_) | (with_reducible refine Below.setCell ?_ (by first | omega | (simp; omega) | (simp; done)) _) | (refine kept_trans ?_ (by with_reducible assumption)))
    clear hg1
    go_wp2_with fail
    refine (slaid_any l p k _ (H.out.kept hB) hm).mono ?_
    rintro e w2 ⟨g, rfl, -, ho, hb⟩
    have HO := Lib.hid ho
    clear ho
    go_wp2
    go_ret2
    exact ⟨g, rfl, ow_mono HO.out hB.size, by repeat' (first | (with_reducible exact Below.refl _ _) | (with_reducible assumption) | (with_reducible refine kept_alloc ?_ _) | (with_reducible refine kept_drewN ?_ _) | (with_reducible refine Below.drew ?_) | (with_reducible refine Below.setCell ?_ (by first | omega | (simp; omega) | (simp; done)) _) | (refine kept_trans ?_ (by with_reducible assumption)))⟩
  · cases h5 : decide (1099511627776 < q)
    · have H1 := Lib.hid h1
      obtain ⟨h3, h4⟩ := plc_lt (rdy_lies h1).1
      have H3 := Lib.hid h3
      have H4 := Lib.hid h4
      have hqa : 0 ≤ q := (lies_iff.1 (rdy_lies h1).1).1
      have hqb : q ≤ 1099511627776 := by simpa using h5
      have e1 : rlB l q = true := by simp [rlB, h1, hqb]
      have e2 : rlL l q = l.set (plc l q) ⟨q + l.length, (gs l (plc l q)).vl⟩ ∧ rlE l q = 0 := by simp [rlL, rlE, e1]
      rw [e2.1, e2.2]
      clear h1 h3 h4 e1 e2
      unfold RetSE
      rw [List.length_set]
      generalize plc l q = i at *
      go_enter Tryz.func155, Tryz.ntmps155
      go_wp2_with fail
      refine (sready_val H1.out p k _ (H.out.kept (by repeat' (first | (with_reducible exact Below.refl _ _) | (with_reducible assumption) | (with_reducible refine kept_alloc ?_ _) | (with_reducible refine kept_drewN ?_ _) | (with_reducible refine Below.drew ?_) | (with_reducible refine Below.setCell ?_ (by first | omega | (simp; omega) | (simp; done)) _) | (refine kept_trans ?_ (by with_reducible assumption))))) hm hq).mono ?_
      rintro e w1 ⟨rfl, hg1⟩
      have hcs : CellsAt w1 [(w.heap.size, 0, .slice p l.length k), (w.heap.size + 1, 0, .int .i64 q)] := cells_keep hg1 (by (simp only [CellsAt]; (repeat' (first | exact trivial | (refine And.intro ?_ ?_))); all_goals (first | (focus ((try simp only [World.size_setCell, World.size_alloc]); omega)) | (repeat (first | rfl | assumption | (refine (World.cell?_alloc_past _ _ _ ?_).trans ?_; focus ((try simp only [World.size_setCell, World.size_alloc]); omega)) | (refine (World.cell?_alloc_at _ _ _ _ ?_).trans ?_; focus ((try simp only [World.size_setCell, World.size_alloc]); done)) | (refine (World.cell?_setCell_other _ _ _ _ ?_).trans ?_; focus (simp; done)) | (refine (World.cell?_setCell_other _ _ _ _ ?_).trans ?_; focus (simp; omega)) | (refine World.cell?_setCell_same' _ _ _ ?_; focus (simp; done)))))))
      have hq0 := hcs.1.2; have hq1 := hcs.2.1.2; have hz0 := hcs.1.1; have hz1 := hcs.2.1.1
      have hB : Below w.heap.size w w1 := by repeat' (first | (with_reducible exact Below.refl _ _) | (with_reducible assumption) | (with_reducible refine kept_alloc ?_ _) | (with_reducible refine kept_drewN ?_ _) | (with_reducible refine Below.drew ?_) | (with_reducible refine Below.setCell ?_ (by first | omega | (simp; omega) | (simp; done)) _) | (refine kept_trans ?_ (by with_reducible assumption)))
      clear hg1
      have hPk := Lib.hid (release1_pokes q l.length (w.heap.size + 1) w.heap.size p k w1 ⟨hqa, hqb⟩ hm hcs.2.1.1 hcs.1.1 hcs.2.1.2 hcs.1.2)
      go_wp2_with fail
      refine (schanged_any l q i _ _ _ p k _ release1_enters (H.out.kept hB) hm hq H4.out H3.out hPk.out).mono ?_
      rintro e w3 ⟨g, rfl, -, ho, hb⟩
      rw [List.length_set] at ho
      rw [List.length_set]
      have HO := Lib.hid ho
      clear ho
      go_wp2
      go_ret2
      exact ⟨g, rfl, ow_mono HO.out hB.size, by repeat' (first | (with_reducible exact Below.refl _ _) | (with_reducible assumption) | (with_reducible refine kept_alloc ?_ _) | (with_reducible refine kept_drewN ?_ _) | (with_reducible refine Below.drew ?_) | (with_reducible refine Below.setCell ?_ (by first | omega | (simp; omega) | (simp; done)) _) | (refine kept_trans ?_ (by with_reducible assumption)))⟩
    · have H1 := Lib.hid h1
      have hq1 : 1099511627776 < q := by simpa using h5
      have e1 : rlB l q = false := by simp [rlB, h1]; omega
      have e2 : rlL l q = l ∧ rlE l q = 40 := by simp [rlL, rlE, e1]
      rw [e2.1, e2.2]
      clear h1 e1 e2
      go_enter Tryz.func155, Tryz.ntmps155
      go_wp2_with fail
      refine (sready_val H1.out p k _ (H.out.kept (by repeat' (first | (with_reducible exact Below.refl _ _) | (with_reducible assumption) | (with_reducible refine kept_alloc ?_ _) | (with_reducible refine kept_drewN ?_ _) | (with_reducible refine Below.drew ?_) | (with_reducible refine Below.setCell ?_ (by first | omega | (simp; omega) | (simp; done)) _) | (refine kept_trans ?_ (by with_reducible assumption))))) hm hq).mono ?_
      rintro e w1 ⟨rfl, hg1⟩
      have hcs : CellsAt w1 [(w.heap.size, 0, .slice p l.length k), (w.heap.size + 1, 0, .int .i64 q)] := cells_keep hg1 (by (simp only [CellsAt]; (repeat' (first | exact trivial | (refine And.intro ?_ ?_))); all_goals (first | (focus ((try simp only [World.size_setCell, World.size_alloc]); omega)) | (repeat (first | rfl | assumption | (refine (World.cell?_alloc_past _ _ _ ?_).trans ?_; focus ((try simp only [World.size_setCell, World.size_alloc]); omega)) | (refine (World.cell?_alloc_at _ _ _ _ ?_).trans ?_; focus ((try simp only [World.size_setCell, World.size_alloc]); done)) | (refine (World.cell?_setCell_other _ _ _ _ ?_).trans ?_; focus (simp; done)) | (refine (World.cell?_setCell_other _ _ _ _ ?_).trans ?_; focus (simp; omega)) | (refine World.cell?_setCell_same' _ _ _ ?_; focus (simp; done)))))))
      have hq0 := hcs.1.2; have hq1 := hcs.2.1.2; have hz0 := hcs.1.1; have hz1 := hcs.2.1.1
      have hB : Below w.heap.size w w1 := by repeat' (first | (with_reducible exact Below.refl _ _) | (with_reducible assumption) | (with_reducible refine kept_alloc ?_ _) | (with_reducible refine kept_drewN ?_ _) | (with_reducible refine Below.drew ?_) | (with_reducible refine Below.setCell ?_ (by first | omega | (simp; omega) | (simp; done)) _) | (refine kept_trans ?_ (by with_reducible assumption)))
      clear hg1
      go_wp2_with fail
      refine (slaid_any l p k _ (H.out.kept hB) hm).mono ?_
      rintro e w2 ⟨g, rfl, -, ho, hb⟩
      have HO := Lib.hid ho
      clear ho
      go_wp2
      go_ret2
      exact ⟨g, rfl, ow_mono HO.out hB.size, by repeat' (first | (with_reducible exact Below.refl _ _) | (with_reducible assumption) | (with_reducible refine kept_alloc ?_ _) | (with_reducible refine kept_drewN ?_ _) | (with_reducible refine Below.drew ?_) | (with_reducible refine Below.setCell ?_ (by first | omega | (simp; omega) | (simp; done)) _) | (refine kept_trans ?_ (by with_reducible assumption)))⟩
end Go.Proofs.YtcakapmpifnfpaaGreat

/- '==' on structs of the api, field by field: entries, configurations, words. Written by tools/eqs.py. -/
namespace Go.Proofs.YtcakapmpifnfpaaGreat
set_option linter.unusedVariables false
set_option linter.unusedSimpArgs false
open Go.ChangeShapes Go.WideShapes Go.ChangeAt Go.RowKit
/-- A word. -/
structure Wo3 where
  hd : Int
  tl : Int
  md : Int
instance enEq : DecidableEq En := fun a b => decidable_of_iff (a.th = b.th ∧ a.ki = b.ki ∧ a.va = b.va ∧ a.re = b.re ∧ a.go = b.go) (by cases a; cases b; simp)
set_option maxHeartbeats 1000000 in
theorem en_equal (a b : En) (w : World) : (Op.equal 81 (.agg #[.int .i64 a.th, .int .i64 a.ki, .int .i64 a.va, .int .i64 a.re, .int .i64 a.go]) (.agg #[.int .i64 b.th, .int .i64 b.ki, .int .i64 b.va, .int .i64 b.re, .int .i64 b.go])).run Tryz.prog w = .ok (decide (a = b)) w := by
  have hu := Tryz.underlying81
  have h3 := Tryz.underlying3
  have h4 := Tryz.underlying4
  have hp : Tryz.prog.stoodInHeld 81 = false := by kernel_rfl
  have hc : Tryz.prog.info? 3 = _ := rfl
  have hd : Tryz.prog.info? 4 = _ := rfl
  have e : decide (a = b) = (a.th == b.th && ((a.ki == b.ki && ((a.va == b.va && ((a.re == b.re && (a.go == b.go)))))))) := by
    rw [Bool.eq_iff_iff]; cases a; cases b; simp [and_assoc]
  rw [e]
  unfold Op.equal Op.maxDepth
  rw [run_equalIn_struct w 9999 _ _ _ (by unfold Program.fieldsOf; rw [hu]) hp]
  unfold Program.fieldsOf
  rw [hu]
  cases c0 : (a.th == b.th)
  · simp [Op.eqFields, part, isAgg, run_underlying h3, run_underlying h4, run_equalIn_int _ _ _ _ _ _ _ h3, run_equalIn_bool _ _ _ _ _ h4, c0]
  cases c1 : (a.ki == b.ki)
  · simp [Op.eqFields, part, isAgg, run_underlying h3, run_underlying h4, run_equalIn_int _ _ _ _ _ _ _ h3, run_equalIn_bool _ _ _ _ _ h4, c0, c1]
  cases c2 : (a.va == b.va)
  · simp [Op.eqFields, part, isAgg, run_underlying h3, run_underlying h4, run_equalIn_int _ _ _ _ _ _ _ h3, run_equalIn_bool _ _ _ _ _ h4, c0, c1, c2]
  cases c3 : (a.re == b.re)
  · simp [Op.eqFields, part, isAgg, run_underlying h3, run_underlying h4, run_equalIn_int _ _ _ _ _ _ _ h3, run_equalIn_bool _ _ _ _ _ h4, c0, c1, c2, c3]
  cases c4 : (a.go == b.go)
  · simp [Op.eqFields, part, isAgg, run_underlying h3, run_underlying h4, run_equalIn_int _ _ _ _ _ _ _ h3, run_equalIn_bool _ _ _ _ _ h4, c0, c1, c2, c3, c4]
  simp [Op.eqFields, part, isAgg, run_underlying h3, run_underlying h4, run_equalIn_int _ _ _ _ _ _ _ h3, run_equalIn_bool _ _ _ _ _ h4, c0, c1, c2, c3, c4]
theorem en_neq (a b : En) (w : World) : (binOp .neq 81 (.agg #[.int .i64 a.th, .int .i64 a.ki, .int .i64 a.va, .int .i64 a.re, .int .i64 a.go]) (.agg #[.int .i64 b.th, .int .i64 b.ki, .int .i64 b.va, .int .i64 b.re, .int .i64 b.go])).run Tryz.prog w = .ok (.bool (!decide (a = b))) w := by
  have h := en_equal a b w
  have hu := Tryz.underlying81
  simp [binOp, h, run_underlying hu, Result.andThen]
instance cfEq : DecidableEq Cf := fun a b => decidable_of_iff (a.lg = b.lg ∧ a.th = b.th ∧ a.po = b.po ∧ a.wt = b.wt ∧ a.sp = b.sp ∧ a.yi = b.yi ∧ a.si = b.si) (by cases a; cases b; simp)
set_option maxHeartbeats 1000000 in
theorem cf_equal (a b : Cf) (w : World) : (Op.equal 23 (.agg #[.int .i64 a.lg, .int .i64 a.th, .int .i64 a.po, .int .i64 a.wt, .int .i64 a.sp, .int .i64 a.yi, .bool a.si]) (.agg #[.int .i64 b.lg, .int .i64 b.th, .int .i64 b.po, .int .i64 b.wt, .int .i64 b.sp, .int .i64 b.yi, .bool b.si])).run Tryz.prog w = .ok (decide (a = b)) w := by
  have hu := Tryz.underlying23
  have h3 := Tryz.underlying3
  have h4 := Tryz.underlying4
  have hp : Tryz.prog.stoodInHeld 23 = false := by kernel_rfl
  have hc : Tryz.prog.info? 3 = _ := rfl
  have hd : Tryz.prog.info? 4 = _ := rfl
  have e : decide (a = b) = (a.lg == b.lg && ((a.th == b.th && ((a.po == b.po && ((a.wt == b.wt && ((a.sp == b.sp && ((a.yi == b.yi && (a.si == b.si)))))))))))) := by
    rw [Bool.eq_iff_iff]; cases a; cases b; simp [and_assoc]
  rw [e]
  unfold Op.equal Op.maxDepth
  rw [run_equalIn_struct w 9999 _ _ _ (by unfold Program.fieldsOf; rw [hu]) hp]
  unfold Program.fieldsOf
  rw [hu]
  cases c0 : (a.lg == b.lg)
  · simp [Op.eqFields, part, isAgg, run_underlying h3, run_underlying h4, run_equalIn_int _ _ _ _ _ _ _ h3, run_equalIn_bool _ _ _ _ _ h4, c0]
  cases c1 : (a.th == b.th)
  · simp [Op.eqFields, part, isAgg, run_underlying h3, run_underlying h4, run_equalIn_int _ _ _ _ _ _ _ h3, run_equalIn_bool _ _ _ _ _ h4, c0, c1]
  cases c2 : (a.po == b.po)
  · simp [Op.eqFields, part, isAgg, run_underlying h3, run_underlying h4, run_equalIn_int _ _ _ _ _ _ _ h3, run_equalIn_bool _ _ _ _ _ h4, c0, c1, c2]
  cases c3 : (a.wt == b.wt)
  · simp [Op.eqFields, part, isAgg, run_underlying h3, run_underlying h4, run_equalIn_int _ _ _ _ _ _ _ h3, run_equalIn_bool _ _ _ _ _ h4, c0, c1, c2, c3]
  cases c4 : (a.sp == b.sp)
  · simp [Op.eqFields, part, isAgg, run_underlying h3, run_underlying h4, run_equalIn_int _ _ _ _ _ _ _ h3, run_equalIn_bool _ _ _ _ _ h4, c0, c1, c2, c3, c4]
  cases c5 : (a.yi == b.yi)
  · simp [Op.eqFields, part, isAgg, run_underlying h3, run_underlying h4, run_equalIn_int _ _ _ _ _ _ _ h3, run_equalIn_bool _ _ _ _ _ h4, c0, c1, c2, c3, c4, c5]
  cases c6 : (a.si == b.si)
  · simp [Op.eqFields, part, isAgg, run_underlying h3, run_underlying h4, run_equalIn_int _ _ _ _ _ _ _ h3, run_equalIn_bool _ _ _ _ _ h4, c0, c1, c2, c3, c4, c5, c6]
  simp [Op.eqFields, part, isAgg, run_underlying h3, run_underlying h4, run_equalIn_int _ _ _ _ _ _ _ h3, run_equalIn_bool _ _ _ _ _ h4, c0, c1, c2, c3, c4, c5, c6]
theorem cf_eql (a b : Cf) (w : World) : (binOp .eql 23 (.agg #[.int .i64 a.lg, .int .i64 a.th, .int .i64 a.po, .int .i64 a.wt, .int .i64 a.sp, .int .i64 a.yi, .bool a.si]) (.agg #[.int .i64 b.lg, .int .i64 b.th, .int .i64 b.po, .int .i64 b.wt, .int .i64 b.sp, .int .i64 b.yi, .bool b.si])).run Tryz.prog w = .ok (.bool (decide (a = b))) w := by
  have h := cf_equal a b w
  have hu := Tryz.underlying23
  simp [binOp, h, run_underlying hu, Result.andThen]
instance woEq : DecidableEq Wo3 := fun a b => decidable_of_iff (a.hd = b.hd ∧ a.tl = b.tl ∧ a.md = b.md) (by cases a; cases b; simp)
set_option maxHeartbeats 1000000 in
theorem wo_equal (a b : Wo3) (w : World) : (Op.equal 25 (.agg #[.int .i64 a.hd, .int .i64 a.tl, .int .i64 a.md]) (.agg #[.int .i64 b.hd, .int .i64 b.tl, .int .i64 b.md])).run Tryz.prog w = .ok (decide (a = b)) w := by
  have hu := Tryz.underlying25
  have h3 := Tryz.underlying3
  have h4 := Tryz.underlying4
  have hp : Tryz.prog.stoodInHeld 25 = false := by kernel_rfl
  have hc : Tryz.prog.info? 3 = _ := rfl
  have hd : Tryz.prog.info? 4 = _ := rfl
  have e : decide (a = b) = (a.hd == b.hd && ((a.tl == b.tl && (a.md == b.md)))) := by
    rw [Bool.eq_iff_iff]; cases a; cases b; simp [and_assoc]
  rw [e]
  unfold Op.equal Op.maxDepth
  rw [run_equalIn_struct w 9999 _ _ _ (by unfold Program.fieldsOf; rw [hu]) hp]
  unfold Program.fieldsOf
  rw [hu]
  cases c0 : (a.hd == b.hd)
  · simp [Op.eqFields, part, isAgg, run_underlying h3, run_underlying h4, run_equalIn_int _ _ _ _ _ _ _ h3, run_equalIn_bool _ _ _ _ _ h4, c0]
  cases c1 : (a.tl == b.tl)
  · simp [Op.eqFields, part, isAgg, run_underlying h3, run_underlying h4, run_equalIn_int _ _ _ _ _ _ _ h3, run_equalIn_bool _ _ _ _ _ h4, c0, c1]
  cases c2 : (a.md == b.md)
  · simp [Op.eqFields, part, isAgg, run_underlying h3, run_underlying h4, run_equalIn_int _ _ _ _ _ _ _ h3, run_equalIn_bool _ _ _ _ _ h4, c0, c1, c2]
  simp [Op.eqFields, part, isAgg, run_underlying h3, run_underlying h4, run_equalIn_int _ _ _ _ _ _ _ h3, run_equalIn_bool _ _ _ _ _ h4, c0, c1, c2]
theorem wo_neq (a b : Wo3) (w : World) : (binOp .neq 25 (.agg #[.int .i64 a.hd, .int .i64 a.tl, .int .i64 a.md]) (.agg #[.int .i64 b.hd, .int .i64 b.tl, .int .i64 b.md])).run Tryz.prog w = .ok (.bool (!decide (a = b))) w := by
  have h := wo_equal a b w
  have hu := Tryz.underlying25
  simp [binOp, h, run_underlying hu, Result.andThen]
theorem wo_eql (a b : Wo3) (w : World) : (binOp .eql 25 (.agg #[.int .i64 a.hd, .int .i64 a.tl, .int .i64 a.md]) (.agg #[.int .i64 b.hd, .int .i64 b.tl, .int .i64 b.md])).run Tryz.prog w = .ok (.bool (decide (a = b))) w := by
  have h := wo_equal a b w
  have hu := Tryz.underlying25
  simp [binOp, h, run_underlying hu, Result.andThen]
end Go.Proofs.YtcakapmpifnfpaaGreat

/- Contracts told by abstract values: the word, by the engine (in place of the walks of XWordC and XWordD). -/
namespace Go.Proofs.YtcakapmpifnfpaaGreat
set_option linter.unusedVariables false
set_option linter.unusedSimpArgs false
open Go.RowKit
theorem two_is {f : Operand → Value} {x y : Operand} {a b : Value} (h : [x, y].map f = [a, b]) : f x = a ∧ f y = b := by simpa using h
theorem guard_agg {t : TypeId} (hg : Tryz.prog.eqGuardType Tryz.prog.depth t = false) (x y : Operand) (a b : Array Value) (W : World) : (eqGuard .neq t x y (.agg a) (.agg b)).run Tryz.prog W = .ok () W ∧ (eqGuard .eql t x y (.agg a) (.agg b)).run Tryz.prog W = .ok () W := by
  constructor <;> simp [eqGuard, hg]
theorem ask_bin {t : TypeId} {bo : BinOp} {a b : Array Value} {r : Value} (hg : ∀ x y W, (eqGuard bo t x y (.agg a) (.agg b)).run Tryz.prog W = .ok () W) (h : ∀ W, (binOp bo t (.agg a) (.agg b)).run Tryz.prog W = .ok r W) (x y : Operand) : AskP Tryz.prog (.binOp bo t x y t) [.agg a, .agg b] r := by
  intro W o f ho hm
  obtain ⟨h1, h2⟩ := two_is hm
  simp [execOp, ho, h1, h2, hg, h]
section
variable {h t m r : Int}
theorem ac_poschk {b : Bool} (hb : checkB h t m r = b) (hh : In64 h) (ht : In64 t) (hm : In64 m) (hr : In64 r) : AC Tryz.prog 47 [wdT h t m, .int .i64 r] (.bool b) := by
  intro O W vs hl hat ; obtain ⟨ys, rfl, _, _, rfl, h0, _, _, rfl, h1, rfl⟩ := args_of hat
  rw [rp_wdT] at h0
  rw [rp_int] at h1
  subst h0 h1
  refine (check_any h t m r hh ht hm hr W).mono ?_
  rintro e W' ⟨rfl, hk⟩
  exact ⟨_, rfl, rp_bool.2 (by rw [hb]), hk⟩
theorem ac_posfull {b : Bool} (hb : fullB h t r = b) (hh : In64 h) (ht : In64 t) : AC Tryz.prog 177 [wdT h t m, .int .i64 r] (.bool b) := by
  intro O W vs hl hat ; obtain ⟨ys, rfl, _, _, rfl, h0, _, _, rfl, h1, rfl⟩ := args_of hat
  rw [rp_wdT] at h0
  rw [rp_int] at h1
  subst h0 h1
  refine (full_any h t m r hh ht W).mono ?_
  rintro e W' ⟨rfl, hk⟩
  exact ⟨_, rfl, rp_bool.2 (by rw [hb]), hk⟩
set_option maxRecDepth 100000 in
theorem ew_accept (hh : In64 h) (ht : In64 t) (hm : In64 m) (hr : In64 r) : AC Tryz.prog 145 [wdT h t m, .int .i64 r] (.tuple #[wdT h (acT h t m r) m, .int .i64 (acP h t m r), .int .i64 (acR h t m r)]) := by
  have no : acR h t m r ≠ 1 → acT h t m r = t ∧ acP h t m r = 0 := fun e => by simp [acT, acP, e]
  by_cases h2 : m = 2
  · have e : acR h t m r = 7 := by simp [acR, haltB, h2]
    rw [(no (by omega)).1, (no (by omega)).2, e]
    exact ac_path mixed (ext := [47, 177]) (fuel := 9) (n := 6) (orc := [.bool true]) (an (show (m == 2) = true by simp [h2]) trivial) (by kernel_rfl)
  · cases hc : checkB h t m r
    · have e : acR h t m r = 7 := by simp [acR, haltB, hc]
      rw [(no (by omega)).1, (no (by omega)).2, e]
      exact ac_path mixed (ext := [47, 177]) (fuel := 9) (n := 6) (orc := [.bool false, vD false]) (an (show (m == 2) = false by simp [h2]) <| an (ac_poschk hc hh ht hm hr) trivial) (by kernel_rfl)
    · have hH : haltB h t m r = false := by simp [haltB, h2, hc]
      by_cases h1 : m = 1
      · have e : acR h t m r = 6 := by unfold acR; rw [hH]; simp [h1]
        rw [(no (by omega)).1, (no (by omega)).2, e]
        exact ac_path mixed (ext := [47, 177]) (fuel := 9) (n := 6) (orc := [.bool false, vD true, .bool true]) (an (show (m == 2) = false by simp [h2]) <| an (ac_poschk hc hh ht hm hr) <| an (show (m == 1) = true by simp [h1]) trivial) (by kernel_rfl)
      · cases hf : fullB h t r
        · by_cases h3 : t = 1099511627776
          · have e : acR h t m r = 2 := by unfold acR; rw [hH]; simp [h1, h3]
            rw [(no (by omega)).1, (no (by omega)).2, e]
            exact ac_path mixed (ext := [47, 177]) (fuel := 9) (n := 6) (orc := [.bool false, vD true, .bool false, vD false, .bool true]) (an (show (m == 2) = false by simp [h2]) <| an (ac_poschk hc hh ht hm hr) <| an (show (m == 1) = false by simp [h1]) <| an (ac_posfull (m := m) hf hh ht) <| an (show (t == 1099511627776) = true by simp [h3]) trivial) (by kernel_rfl)
          · have e : acR h t m r = 1 := by unfold acR; rw [hH, hf]; simp [h1, h3]
            rw [show acT h t m r = t + 1 by simp [acT, e], show acP h t m r = t by simp [acP, e], e]
            have hb : t ≤ 1099511627776 := by simp only [checkB, Bool.and_eq_true, decide_eq_true_eq] at hc; omega
            exact ac_path mixed (ext := [47, 177]) (fuel := 9) (n := 6) (orc := [.bool false, vD true, .bool false, vD false, .bool false]) (an (show (m == 2) = false by simp [h2]) <| an (ac_poschk hc hh ht hm hr) <| an (show (m == 1) = false by simp [h1]) <| an (ac_posfull (m := m) hf hh ht) <| an (show (t == 1099511627776) = false by simp [h3]) <| an (show In64 (t + 1) by have := ht; simp only [In64] at this ⊢; omega) trivial) (by kernel_rfl)
        · have e : acR h t m r = 2 := by unfold acR; rw [hH, hf]; simp [h1]
          rw [(no (by omega)).1, (no (by omega)).2, e]
          exact ac_path mixed (ext := [47, 177]) (fuel := 9) (n := 6) (orc := [.bool false, vD true, .bool false, vD true]) (an (show (m == 2) = false by simp [h2]) <| an (ac_poschk hc hh ht hm hr) <| an (show (m == 1) = false by simp [h1]) <| an (ac_posfull (m := m) hf hh ht) trivial) (by kernel_rfl)
theorem ac_poslen (hh : In64 h) (ht : In64 t) : AC Tryz.prog 74 [wdT h t m] (.int .i64 (lenI h t)) := by
  intro O W vs hl hat
  obtain ⟨ys, rfl, _, _, rfl, h0, rfl⟩ := args_of hat
  rw [rp_wdT] at h0
  subst h0
  refine (len_any h t m hh ht W).mono ?_
  rintro e W' ⟨rfl, hk⟩
  exact ⟨_, rfl, rp_int.2 rfl, hk⟩
set_option maxRecDepth 100000 in
theorem ew_take (hh : In64 h) (ht : In64 t) (hm : In64 m) (hr : In64 r) : AC Tryz.prog 160 [wdT h t m, .int .i64 r] (.tuple #[wdT (tkH h t m r) t m, .int .i64 (tkP h t m r), .int .i64 (tkR h t m r)]) := by
  by_cases h2 : m = 2
  · have e : tkR h t m r = 7 := by simp [tkR, haltB, h2]
    rw [(tk_n (by omega)).1, (tk_n (by omega)).2, e]
    exact ac_path mixed (ext := [47, 74]) (fuel := 9) (n := 6) (orc := [.bool true]) (an (show (m == 2) = true by simp [h2]) trivial) (by kernel_rfl)
  · cases hc : checkB h t m r
    · have e : tkR h t m r = 7 := by simp [tkR, haltB, hc]
      rw [(tk_n (by omega)).1, (tk_n (by omega)).2, e]
      exact ac_path mixed (ext := [47, 74]) (fuel := 9) (n := 6) (orc := [.bool false, vD false]) (an (show (m == 2) = false by simp [h2]) <| an (ac_poschk hc hh ht hm hr) trivial) (by kernel_rfl)
    · have hH : haltB h t m r = false := by simp [haltB, h2, hc]
      by_cases hs : 0 < lenI h t
      · have e : tkR h t m r = 1 := by unfold tkR; rw [hH]; simp [someB, hs]
        rw [(tk_y e).1, (tk_y e).2, e]
        have hb : h ≤ t := by simp only [checkB, Bool.and_eq_true, decide_eq_true_eq] at hc; omega
        have hb2 : t ≤ 1099511627776 := by simp only [checkB, Bool.and_eq_true, decide_eq_true_eq] at hc; omega
        exact ac_path mixed (ext := [47, 74]) (fuel := 9) (n := 6) (orc := [.bool false, vD true, .int .i64 (lenI h t), .bool true]) (an (show (m == 2) = false by simp [h2]) <| an (ac_poschk hc hh ht hm hr) <| an (ac_poslen (m := m) hh ht) <| an (show decide (0 < lenI h t) = true by simp [hs]) <| an (show In64 (h + 1) by have := hh; simp only [In64] at this ⊢; omega) trivial) (by kernel_rfl)
      · by_cases h1 : m = 1
        · have e : tkR h t m r = 6 := by unfold tkR; rw [hH]; simp [someB, hs, h1]
          rw [(tk_n (by omega)).1, (tk_n (by omega)).2, e]
          exact ac_path mixed (ext := [47, 74]) (fuel := 9) (n := 6) (orc := [.bool false, vD true, .int .i64 (lenI h t), .bool false, .bool true]) (an (show (m == 2) = false by simp [h2]) <| an (ac_poschk hc hh ht hm hr) <| an (ac_poslen (m := m) hh ht) <| an (show decide (0 < lenI h t) = false by simp [hs]) <| an (show (m == 1) = true by simp [h1]) trivial) (by kernel_rfl)
        · have e : tkR h t m r = 4 := by unfold tkR; rw [hH]; simp [someB, hs, h1]
          rw [(tk_n (by omega)).1, (tk_n (by omega)).2, e]
          exact ac_path mixed (ext := [47, 74]) (fuel := 9) (n := 6) (orc := [.bool false, vD true, .int .i64 (lenI h t), .bool false, .bool false]) (an (show (m == 2) = false by simp [h2]) <| an (ac_poschk hc hh ht hm hr) <| an (ac_poslen (m := m) hh ht) <| an (show decide (0 < lenI h t) = false by simp [hs]) <| an (show (m == 1) = false by simp [h1]) trivial) (by kernel_rfl)
set_option maxRecDepth 100000 in
theorem ew_sees (hh : In64 h) (ht : In64 t) (hm : In64 m) (hr : In64 r) : AC Tryz.prog 168 [wdT h t m, .int .i64 r] (.tuple #[.int .i64 (acR h t m r), .int .i64 (tkR h t m r)]) := by
  exact ac_path mixed (ext := [145, 160]) (fuel := 9) (n := 6) (orc := [.tuple #[wdT h (acT h t m r) m, .int .i64 (acP h t m r), .int .i64 (acR h t m r)], .tuple #[wdT (tkH h t m r) t m, .int .i64 (tkP h t m r), .int .i64 (tkR h t m r)]]) (an (ew_accept hh ht hm hr) <| an (ew_take hh ht hm hr) trivial) (by kernel_rfl)
theorem ask_wn {a b c d e f : Int} {q : Bool} (hq : (!decide ((⟨a, b, c⟩ : Wo3) = ⟨d, e, f⟩)) = q) (x y : Operand) : AskP Tryz.prog (.binOp .neq 25 x y 25) [wdT a b c, wdT d e f] (.bool q) :=
  ask_bin (fun x y W => (guard_agg (by kernel_rfl) x y _ _ W).1) (fun W => by rw [← hq]; exact wo_neq ⟨a, b, c⟩ ⟨d, e, f⟩ W) x y
set_option maxRecDepth 100000 in
theorem ew_evict {x : Int} (hh : In64 h) (ht : In64 t) (hm : In64 m) (hr : In64 r) : AC Tryz.prog 152 [wdT h t m, .int .i64 r, .int .i64 x] (.tuple #[wdT (evH h t m r x) t m, .bool (evwB h t m r x)]) := by
  have no : evwB h t m r x = false → evH h t m r x = h := fun e => by simp [evH, e]
  by_cases hx : h = x ∧ m = 0
  · have hn : (!decide ((⟨h, t, m⟩ : Wo3) = ⟨x, t, 0⟩)) = false := by simp [hx.1, hx.2]
    cases hc : checkB h t m r
    · have e : evwB h t m r x = false := by simp [evwB, hc]
      rw [no e, e]
      exact ac_path mixed (ext := [47, 177, 74]) (fuel := 9) (n := 6) (orc := [.bool false, .nilFunc, vD false]) (an (ask_wn hn (.tmp 13) (.tmp 14)) <| an (ac_poschk hc hh ht hm hr) trivial) (by kernel_rfl)
    · cases hf : fullB h t r
      · have e : evwB h t m r x = false := by simp [evwB, hf]
        rw [no e, e]
        exact ac_path mixed (ext := [47, 177, 74]) (fuel := 9) (n := 6) (orc := [.bool false, .nilFunc, vD true, vD false]) (an (ask_wn hn (.tmp 13) (.tmp 14)) <| an (ac_poschk hc hh ht hm hr) <| an (ac_posfull (m := m) hf hh ht) trivial) (by kernel_rfl)
      · by_cases hs : 0 < lenI h t
        · have e : evwB h t m r x = true := by
            unfold evwB someB
            rw [hc, hf]
            simp [hx.1, hx.2]
            rw [← hx.1]; exact hs
          rw [show evH h t m r x = h + 1 by simp [evH, e], e]
          have hb : h ≤ t ∧ t ≤ 1099511627776 := by simp only [checkB, Bool.and_eq_true, decide_eq_true_eq] at hc; omega
          exact ac_path mixed (ext := [47, 177, 74]) (fuel := 9) (n := 6) (orc := [.bool false, .nilFunc, vD true, vD true, .int .i64 (lenI h t), .bool false]) (an (ask_wn hn (.tmp 13) (.tmp 14)) <| an (ac_poschk hc hh ht hm hr) <| an (ac_posfull (m := m) hf hh ht) <| an (ac_poslen (m := m) hh ht) <| an (show (!decide (0 < lenI h t)) = false by simp [hs]) <| an (show In64 (h + 1) by have := hh; simp only [In64] at this ⊢; omega) trivial) (by kernel_rfl)
        · have e : evwB h t m r x = false := by simp [evwB, someB, hs]
          rw [no e, e]
          exact ac_path mixed (ext := [47, 177, 74]) (fuel := 9) (n := 6) (orc := [.bool false, .nilFunc, vD true, vD true, .int .i64 (lenI h t), .bool true]) (an (ask_wn hn (.tmp 13) (.tmp 14)) <| an (ac_poschk hc hh ht hm hr) <| an (ac_posfull (m := m) hf hh ht) <| an (ac_poslen (m := m) hh ht) <| an (show (!decide (0 < lenI h t)) = true by simp [hs]) trivial) (by kernel_rfl)
  · have e : evwB h t m r x = false := by
      cases he : evwB h t m r x
      · rfl
      · simp only [evwB, Bool.and_eq_true, beq_iff_eq] at he; exact absurd ⟨he.1.1.1.1, he.1.1.1.2⟩ hx
    rw [no e, e]
    exact ac_path mixed (ext := [47, 177, 74]) (fuel := 9) (n := 6) (orc := [.bool true, .nilFunc]) (an (ask_wn (show (!decide ((⟨h, t, m⟩ : Wo3) = ⟨x, t, 0⟩)) = true by simp; omega) (.tmp 13) (.tmp 14)) trivial) (by kernel_rfl)
/-! ### The document's -/
end
end Go.Proofs.YtcakapmpifnfpaaGreat

/- Contracts told by abstract values: what a step of the program calls, of lines, events, slots, words, threads. -/
namespace Go.Proofs.YtcakapmpifnfpaaGreat
set_option linter.unusedVariables false
set_option linter.unusedSimpArgs false
open Go.RowKit
section
variable {O : Nat → Prop} {W W' : World}
theorem own_low (hl : Low O W) : ∀ g, W.heap.size ≤ g → ¬ O g := fun g hg hO => by have := hl g hO; omega
theorem rowI_own (hl : Low O W) {r : List Int} {p : Option Addr} {k : Nat} (h : Ow W' W.heap.size 3 1 intC r (.slice p r.length k)) : Rp nowhere O W' (rowI r) (.slice p r.length k) := rp_rowI.2 ⟨p, k, rfl, (Ow.loc intEnc h).mono (own_low hl)⟩
theorem rowS_own (hl : Low O W) {r : List Slo} {p : Option Addr} {k : Nat} (h : Ow W' W.heap.size 64 2 Slo.cells r (.slice p r.length k)) : Rp nowhere O W' (rowS r) (.slice p r.length k) := rp_rowS.2 ⟨p, k, rfl, (Ow.loc Slo.enc h).mono (own_low hl)⟩
theorem tup2 {ρ : PMap} {a b x y : Value} (h : Rp ρ O W a x) (k : Rp ρ O W b y) : Rp ρ O W (.tuple #[a, b]) (.tuple #[x, y]) := rp_tupL.2 ⟨_, rfl, _, _, rfl, h, _, _, rfl, k, rfl⟩
theorem tup3 {ρ : PMap} {a b c x y z : Value} (h : Rp ρ O W a x) (k : Rp ρ O W b y) (l : Rp ρ O W c z) : Rp ρ O W (.tuple #[a, b, c]) (.tuple #[x, y, z]) := rp_tupL.2 ⟨_, rfl, _, _, rfl, h, _, _, rfl, k, _, _, rfl, l, rfl⟩
end
theorem ac_penter (l : List Int) (i : Int) (hm : l.length ≤ 999999) : AC Tryz.prog 136 [rowI l, .int .i64 i] (.tuple #[rowI (entL l i), .int .i64 (entE l i)]) := by
  intro O W vs hl hat ; obtain ⟨ys, rfl, _, _, rfl, h0, _, _, rfl, h1, rfl⟩ := args_of hat
  obtain ⟨p, k, rfl, hs⟩ := rp_rowI.1 h0
  rw [rp_int] at h1
  subst h1
  refine (lenter_own l i p k W hs.s hm).mono ?_
  rintro e W' ⟨p', k', rfl, ho, hk⟩
  exact ⟨_, rfl, tup2 (rowI_own hl ho) (rp_int.2 rfl), hk⟩
theorem ac_pleave (l : List Int) (i : Int) (hm : l.length ≤ 999999) : AC Tryz.prog 150 [rowI l, .int .i64 i] (.tuple #[rowI (lvL l i), .int .i64 (lvE l i)]) := by
  intro O W vs hl hat ; obtain ⟨ys, rfl, _, _, rfl, h0, _, _, rfl, h1, rfl⟩ := args_of hat
  obtain ⟨p, k, rfl, hs⟩ := rp_rowI.1 h0
  rw [rp_int] at h1
  subst h1
  refine (lleave_own l i p k W hs.s hm).mono ?_
  rintro e W' ⟨p', k', rfl, ho, hk⟩
  exact ⟨_, rfl, tup2 (rowI_own hl ho) (rp_int.2 rfl), hk⟩
theorem ac_pfirst {l : List Int} {i : Int} {b : Bool} (hb : (plI l i == 0) = b) : AC Tryz.prog 138 [rowI l, .int .i64 i] (.bool b) := by
  intro O W vs hl hat ; obtain ⟨ys, rfl, _, _, rfl, h0, _, _, rfl, h1, rfl⟩ := args_of hat
  obtain ⟨p, k, rfl, hs⟩ := rp_rowI.1 h0
  rw [rp_int] at h1
  subst h1
  refine (lfirst_any l i p k W hs.s).mono ?_
  rintro e W' ⟨rfl, hk⟩
  exact ⟨_, rfl, rp_bool.2 (by rw [hb]), hk⟩
theorem ac_plnext (l : List Int) (hm : l.length ≤ 999999) : AC Tryz.prog 196 [rowI l] (.tuple #[.int .i64 (nxI l), rowI (nxL l), .bool (nxB l)]) := by
  intro O W vs hl hat ; obtain ⟨ys, rfl, _, _, rfl, h0, rfl⟩ := args_of hat
  obtain ⟨p, k, rfl, hs⟩ := rp_rowI.1 h0
  refine (lnext_own l p k W hs.s hm).mono ?_
  rintro e W' ⟨p', k', rfl, ho, hk⟩
  exact ⟨_, rfl, tup3 (rp_int.2 rfl) (rowI_own hl ho) (rp_bool.2 rfl), hk⟩
set_option maxRecDepth 100000 in
theorem ac_pekept (ep : Int) (l : List Int) (hm : l.length ≤ 1000000) : AC Tryz.prog 180 [evT ep l] (evT ep l) := by
  by_cases h : l = []
  · subst h
    exact ac_path mixed (ext := []) (fuel := 9) (n := 3) (orc := [.slice none 0 0]) (an (allK_I []) <| an (rfl : (0 : Nat) = 0) trivial) (by kernel_rfl)
  · exact ac_path mixed (ext := []) (fuel := 9) (n := 3) (orc := [rowI l]) (an (allK_I l) <| an (app_nil (f := (Value.int .i64 ·)) h hm) <| an (len_map (f := (Value.int .i64 ·)) l) trivial) (by kernel_rfl)
def evE : List FuncId := [29, 180, 136, 196]
set_option maxRecDepth 100000 in
theorem ac_pprep (ep : Int) (l : List Int) : AC Tryz.prog 146 [evT ep l] (.int .i64 (prE ep l)) := by
  cases h : okE ep l
  · rw [show prE ep l = -1 by simp [prE, h]]
    exact ac_path mixed (ext := evE) (fuel := 9) (n := 3) (orc := [vD false]) (an (ac_pecheck h) trivial) (by kernel_rfl)
  · rw [show prE ep l = ep by simp [prE, h]]
    exact ac_path mixed (ext := evE) (fuel := 9) (n := 3) (orc := [vD true]) (an (ac_pecheck h) trivial) (by kernel_rfl)
theorem nxE_mn (ep : Int) : nxE ep = min (ep + 1) 1099511627776 := by unfold nxE; split <;> omega
set_option maxRecDepth 100000 in
theorem ac_pnotify {ep : Int} {l : List Int} {b : Bool} (hb : hdB (ntT 1 ep l) = b) (hm : l.length ≤ 999999) : AC Tryz.prog 147 [evT ep l] (.tuple #[evT (ntE ep l) (ntL 1 ep l), .int .i64 (hdI (ntT 1 ep l)), .bool b]) := by
  subst hb
  cases h : okE ep l
  · rw [show ntE ep l = ep by simp [ntE, h], show ntL 1 ep l = l by simp [ntL, h], show ntT 1 ep l = [] by simp [ntT, h]]
    exact ac_path mixed (ext := evE) (fuel := 9) (n := 9) (orc := [vD false, evT ep l, .nilFunc]) (an (ac_pecheck h) <| an (ac_pekept ep l (by omega)) trivial) (by kernel_rfl)
  · have ho := okE_ln h
    have he := (okE_iff.1 h).1
    rw [show ntE ep l = min (ep + 1) 1099511627776 by rw [← nxE_mn]; simp [ntE, h], show ntL 1 ep l = l.drop 1 by simp [ntL, h], show ntT 1 ep l = l.take 1 by simp [ntT, h]]
    have hn := ac_plnext l hm
    cases l with
    | nil =>
      rw [show nxI [] = 0 from rfl, show nxL [] = [] from rfl, show nxB [] = false from rfl] at hn
      exact ac_path mixed (ext := evE) (fuel := 9) (n := 9) (orc := [vD true, evT ep [], .nilFunc, .tuple #[.int .i64 0, rowI [], vD false], .nilFunc]) (an (ac_pecheck h) <| an (ac_pekept ep [] (by omega)) <| an hn <| an (show In64 (ep + 1) by constructor <;> omega) trivial) (by kernel_rfl)
    | cons x r =>
      have h1 : nxB (x :: r) = true := by simp [nxB, ho]
      rw [show nxI (x :: r) = x by simp [nxI, h1], show nxL (x :: r) = r by simp [nxL, h1], h1] at hn
      exact ac_path mixed (ext := evE) (fuel := 9) (n := 9) (orc := [vD true, evT ep (x :: r), .nilFunc, .tuple #[.int .i64 x, rowI r, vD true], rowI [x], .nilFunc, .nilFunc, .int .i64 x])
        (an (ac_pecheck h) <| an (ac_pekept ep (x :: r) (by omega)) <| an hn <| an (rfl : (1 : Nat) = 1) <| an (allK_I [x]) <| an (app_nil (f := (Value.int .i64 ·)) (l := [x]) (by simp) (by simp)) <| an (show In64 (ep + 1) by constructor <;> omega) <| an (len_map (f := (Value.int .i64 ·)) [x]) <|
          an (show IxP (([x].map (Value.int .i64 ·)).toArray) 0 (.int .i64 x) from ⟨by omega, rfl⟩) trivial) (by kernel_rfl)
set_option maxRecDepth 100000 in
theorem ac_pcommit {ep : Int} {l : List Int} {s i : Int} {b : Bool} (hb : cmB ep l s i = b) (hm : l.length ≤ 999999) : AC Tryz.prog 148 [evT ep l, .int .i64 s, .int .i64 i] (.tuple #[evT ep (cmL ep l s i), .bool b, .int .i64 (cmC ep l i)]) := by
  subst hb
  have hk := ac_pekept ep l (by omega)
  cases h : okE ep l
  · have h1 : cmB ep l s i = false := by simp [cmB, h]
    rw [show cmL ep l s i = l by unfold cmL; rw [h1]; rfl, h1, show cmC ep l i = 40 by simp [cmC, h]]
    exact ac_path mixed (ext := evE) (fuel := 9) (n := 5) (orc := [vD false, evT ep l]) (an (ac_pecheck h) <| an hk trivial) (by kernel_rfl)
  · rw [show cmC ep l i = entE l i by simp [cmC, h]]
    have hn := ac_penter l i hm
    by_cases he : entE l i = 0
    · rw [he] at hn ⊢
      by_cases hq : ep = s
      · have h1 : cmB ep l s i = true := by subst hq; simp [cmB, h, he]
        rw [show cmL ep l s i = entL l i by unfold cmL; rw [if_pos h1, ent_yes he], h1]
        exact ac_path mixed (ext := evE) (fuel := 9) (n := 5) (orc := [vD true, .tuple #[rowI (entL l i), .int .i64 0], .nilFunc, .bool false]) (an (ac_pecheck h) <| an hn <| an (show (ep != s) = false by simp [hq]) trivial) (by kernel_rfl)
      · have h1 : cmB ep l s i = false := by simp [cmB, hq]
        rw [show cmL ep l s i = l by unfold cmL; rw [h1]; rfl, h1]
        exact ac_path mixed (ext := evE) (fuel := 9) (n := 5) (orc := [vD true, .tuple #[rowI (entL l i), .int .i64 0], .nilFunc, .bool true, evT ep l]) (an (ac_pecheck h) <| an hn <| an (show (ep != s) = true by simp [hq]) <| an hk trivial) (by kernel_rfl)
    · have h1 : cmB ep l s i = false := by simp [cmB, he]
      rw [show cmL ep l s i = l by unfold cmL; rw [h1]; rfl, h1]
      exact ac_path mixed (ext := evE) (fuel := 9) (n := 5) (orc := [vD true, .tuple #[rowI (entL l i), .int .i64 (entE l i)], .bool true, evT ep l]) (an (ac_pecheck h) <| an hn <| an (show (entE l i != 0) = true by simpa using he) <| an hk trivial) (by kernel_rfl)
theorem ac_pwrite (l : List Slo) (q v : Int) (hm : l.length ≤ 1000) (hq : In64 q) : AC Tryz.prog 144 [rowS l, .int .i64 q, .int .i64 v] (.tuple #[rowS (wrL l q v), .int .i64 (wrE l q)]) := by
  intro O W vs hl hat ; obtain ⟨ys, rfl, _, _, rfl, h0, _, _, rfl, h1, _, _, rfl, h2, rfl⟩ := args_of hat
  obtain ⟨p, k, rfl, hs⟩ := rp_rowS.1 h0
  rw [rp_int] at h1 h2
  subst h1 h2
  refine (swrite_any l q v p k W hs.s hm hq).mono ?_
  rintro e W' ⟨g, rfl, ho, hk⟩
  exact ⟨_, rfl, tup2 (rowS_own hl ho) (rp_int.2 rfl), hk⟩
theorem ac_prelease (l : List Slo) (q : Int) (hm : l.length ≤ 1000) (hq : In64 q) : AC Tryz.prog 155 [rowS l, .int .i64 q] (.tuple #[rowS (rlL l q), .int .i64 (rlE l q)]) := by
  intro O W vs hl hat ; obtain ⟨ys, rfl, _, _, rfl, h0, _, _, rfl, h1, rfl⟩ := args_of hat
  obtain ⟨p, k, rfl, hs⟩ := rp_rowS.1 h0
  rw [rp_int] at h1
  subst h1
  refine (srelease_any l q p k W hs.s hm hq).mono ?_
  rintro e W' ⟨g, rfl, ho, hk⟩
  exact ⟨_, rfl, tup2 (rowS_own hl ho) (rp_int.2 rfl), hk⟩
theorem ac_paccept (h t m r : Int) (hh : In64 h) (ht : In64 t) (hm : In64 m) (hr : In64 r) : AC Tryz.prog 145 [wdT h t m, .int .i64 r] (.tuple #[wdT h (acT h t m r) m, .int .i64 (acP h t m r), .int .i64 (acR h t m r)]) := ew_accept hh ht hm hr
theorem ac_psees (h t m r : Int) (hh : In64 h) (ht : In64 t) (hm : In64 m) (hr : In64 r) : AC Tryz.prog 168 [wdT h t m, .int .i64 r] (.tuple #[.int .i64 (acR h t m r), .int .i64 (tkR h t m r)]) := ew_sees hh ht hm hr
theorem ac_pevict {h t m r x : Int} {b : Bool} (hb : evwB h t m r x = b) (hh : In64 h) (ht : In64 t) (hm : In64 m) (hr : In64 r) (hx : In64 x) : AC Tryz.prog 152 [wdT h t m, .int .i64 r, .int .i64 x] (.tuple #[wdT (evH h t m r x) t m, .bool b]) := hb ▸ ew_evict hh ht hm hr
theorem ac_pside (k : Int) : AC Tryz.prog 43 [.int .i64 k] (.int .i64 (opSide k)) := by
  intro O W vs hl hat ; obtain ⟨ys, rfl, _, _, rfl, h0, rfl⟩ := args_of hat
  rw [rp_int] at h0
  subst h0
  refine (oside_any k W).mono ?_
  rintro e W' ⟨rfl, hk⟩
  exact ⟨_, rfl, rp_int.2 rfl, hk⟩
theorem ac_ponce {k : Int} {b : Bool} (hb : opOnce k = b) : AC Tryz.prog 187 [.int .i64 k] (.bool b) := by
  intro O W vs hl hat ; obtain ⟨ys, rfl, _, _, rfl, h0, rfl⟩ := args_of hat
  rw [rp_int] at h0
  subst h0
  refine (oonce_any k W).mono ?_
  rintro e W' ⟨rfl, hk⟩
  exact ⟨_, rfl, rp_bool.2 (by rw [hb]), hk⟩
end Go.Proofs.YtcakapmpifnfpaaGreat

/- The program's steps: what is known at the head of their loop. -/
namespace Go.Proofs.YtcakapmpifnfpaaGreat
set_option linter.unusedVariables false
set_option linter.unusedSimpArgs false
open Go.RowKit
def pt (k : Nat) : Value := .pointer (some ⟨k, 0, some 0⟩)
/-- A state whose threads are a block k of the call's own. -/
def stO (s : St) (k N : Nat) : List Value := [.int .i64 s.cf.lg, .int .i64 s.cf.th, .int .i64 s.cf.po, .int .i64 s.cf.wt, .int .i64 s.cf.sp, .int .i64 s.cf.yi, .bool s.cf.si, .int .i64 s.hd, .int .i64 s.tl, .int .i64 s.md, rowS s.sl, rowI s.sn, rowI s.rc, .int .i64 s.fe, rowI s.fl, .int .i64 s.ee, rowI s.el, .int .i64 s.nw, .slice (some ⟨k, 0, some 0⟩) N 0, rowE s.lg]
def zSt : Value := .agg #[.int .i64 0, .int .i64 0, .int .i64 0, .int .i64 0, .int .i64 0, .int .i64 0, vD false, .int .i64 0, .int .i64 0, .int .i64 0, .slice none 0 0, .slice none 0 0, .slice none 0 0, .int .i64 0, .slice none 0 0, .int .i64 0, .slice none 0 0, .int .i64 0, .slice none 0 0, .slice none 0 0]
def bT (l : List Th) (N : Nat) : Option Blk := some ⟨true, true, 11, N, l.map thT⟩
def bX (s : St) (i : Int) (N : Nat) : Option Blk := some ⟨true, false, 21, 1, [.agg (stO s 1 N ++ [Value.int .i64 i]).toArray]⟩
def bZ : Option Blk := some ⟨true, false, 20, 1, [zSt]⟩
/-- At the head of the loop: many m, often o. -/
def hdS (s : St) (i m o : Int) (N : Nat) : Sg := ⟨mkT 33 [(2, .int .i64 m), (6, pt 2), (8, pt 0), (9, .int .i64 o)], [bX s i N, bT s.th N, bZ]⟩
/-- What is answered at the head of a round: thread t, at step c, does what is on side k. -/
def sPO (t : Th) (c k : Int) : List Value := [.bool true, vD true, .bool false, .bool false, thT (pcT t c), .int .i64 0, .nilFunc, thT (pcT t c), .int .i64 k, .nilFunc, thT (pcT t c)]
/-- One more round: thread n, at step c, sends. -/
structure Rn (s : St) (n : Nat) (t : Th) (c m o : Int) : Prop where
  lt : decide (o < min m 1000) = true
  ck : stB s = true
  ok : s.ok
  hn : n < s.th.length
  ht : gth s.th n = pcT t c
  rs : thRuns t.st = 0
  sd : opSide t.ki = 1
  fit : s.fit
  o1 : In64 (o + 1)
section
variable {s : St} {n : Nat} {t : Th} {c m o : Int}
theorem Rn.ge (_h : Rn s n t c m o) : decide ((n : Int) < 0) = false := by simp
theorem Rn.le (h : Rn s n t c m o) : decide ((s.th.length : Int) ≤ n) = false := by have := h.hn; simp; omega
theorem Rn.el (h : Rn s n t c m o) : ElP (s.th.map thT) (0 + (n : Int).toNat) (thT (pcT t c)) := h.ht ▸ elT h.hn
theorem Rn.ru (h : Rn s n t c m o) : AC Tryz.prog 56 [thT (pcT t c)] (.int .i64 0) := ac_pruns (t := pcT t c) h.rs
theorem Rn.si (h : Rn s n t c m o) : AC Tryz.prog 43 [.int .i64 (pcT t c).ki] (.int .i64 1) := by have := ac_pside (pcT t c).ki; exact h.sd ▸ this
theorem Rn.id (h : Rn s n t c m o) : 0 ≤ (n : Int) ∧ (n : Int).toNat < s.th.length := idT h.hn
theorem Rn.ln (_h : Rn s n t c m o) : LenP s.th.length s.th.length (s.th.map thT) := len_map s.th
theorem Rn.pa {B : Prop} (h : Rn s n t c m o) (k : B) : decide (o < min m 1000) = true ∧ LenP s.th.length s.th.length (s.th.map thT) ∧ AC Tryz.prog 11 [stT s] (.bool true) ∧ decide ((n : Int) < 0) = false ∧ decide ((s.th.length : Int) ≤ n) = false ∧ (0 ≤ (n : Int) ∧ (n : Int).toNat < s.th.length) ∧ ElP (s.th.map thT) (0 + (n : Int).toNat) (thT (pcT t c)) ∧ AC Tryz.prog 56 [thT (pcT t c)] (.int .i64 0) ∧ (0 ≤ (n : Int) ∧ (n : Int).toNat < s.th.length) ∧ ElP (s.th.map thT) (0 + (n : Int).toNat) (thT (pcT t c)) ∧ AC Tryz.prog 43 [.int .i64 (pcT t c).ki] (.int .i64 1) ∧ (0 ≤ (n : Int) ∧ (n : Int).toNat < s.th.length) ∧ ElP (s.th.map thT) (0 + (n : Int).toNat) (thT (pcT t c)) ∧ B := an h.lt <| an h.ln <| an (ac_pcheck h.ck h.ok) <| an h.ge <| an h.le <| an h.id <| an h.el <| an h.ru <| an h.id <| an h.el <| an h.si <| an h.id <| an h.el k
end
section
variable {s : St} {n : Nat} {t : Th} {m o : Int} {x : Exit} {S : Sg}
theorem ac_pprep' {ep v : Int} {l : List Int} (h : prE ep l = v) : AC Tryz.prog 146 [evT ep l] (.int .i64 v) := h ▸ ac_pprep ep l
set_option maxRecDepth 100000 in
theorem lp_prep (h : Rn s n t 5 m o) (he : prE s.fe s.fl = s.fe) (hL : LoopP Tryz.prog (loopOf Tryz.prog 84 0) (hdS (s.setTh n (seenT t s.fe 7)) n m (o + 1) s.th.length) x S) : LoopP Tryz.prog (loopOf Tryz.prog 84 0) (hdS s n m o s.th.length) x S :=
  loop_more mixed (fuel := 9) (n := 9) (im := [0, 1, 2]) (keep := [2, 6, 8, 9]) (ext := [11, 56, 43, 146]) (orc := [.bool true, vD true, .bool false, .bool false, thT (pcT t 5), .int .i64 0, .nilFunc, thT (pcT t 5), .int .i64 1, .nilFunc, thT (pcT t 5), .int .i64 s.fe, thT (pcT t 5), vRow s.th.length ((s.th.set n (seenT t s.fe 5)).map thT), thT (seenT t s.fe 5), vRow s.th.length ((s.th.set n (seenT t s.fe 7)).map thT)])
    (an h.lt <| an h.ln <| an (ac_pcheck h.ck h.ok) <| an h.ge <| an h.le <| an h.id <| an h.el <| an h.ru <| an h.id <| an h.el <| an h.si <| an h.id <| an h.el <| an h.id <| an (ac_pprep' he) <| an h.el <| an (setT s.th n (seenT t s.fe 5)) <| an h.id <| an (el2 h.hn (seenT t s.fe 5)) <| an (set2 s.th n (seenT t s.fe 5) (seenT t s.fe 7)) <| an h.o1 trivial) (by kernel_rfl) hL
end
end Go.Proofs.YtcakapmpifnfpaaGreat
