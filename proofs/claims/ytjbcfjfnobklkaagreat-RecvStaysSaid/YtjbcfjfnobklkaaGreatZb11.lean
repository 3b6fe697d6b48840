/- Texts merged: AcKQ, AcLQ, AcMQ, AcNQ, AcOQ, AcTQ, AcPQ, AcQQ, AcRQ, SdPQ, SdKQ, SdQQ, RecvFQ, SdAQ. -/
import Derived.Test.YtjbcfjfnobklkaaGreatZb10
import Derived.Test.YtjbcfjfnobklkaaGreatZb5
import Derived.Test.YtjbcfjfnobklkaaGreatZb8
import Derived.Test.YtjbcfjfnobklkaaGreatZb7
import Derived.Test.YtjbcfjfnobklkaaGreatZb6
/- Contracts told by abstract values: the document's slots, Is, Tell, Wake, Value, Runs. -/
namespace Go.Proofs.YtjbcfjfnobklkaaGreat
set_option linter.unusedVariables false
set_option linter.unusedSimpArgs false
open Go.RowKit
/-! ### States -/
end Go.Proofs.YtjbcfjfnobklkaaGreat

/- The document's Step, case by case, told by plain states. -/
namespace Go.Proofs.YtjbcfjfnobklkaaGreat
set_option linter.unusedVariables false
set_option linter.unusedSimpArgs false
open Go.RowKit
/-- What is true of a state in which thread n, at step c, sends. -/
structure Dn (s : St) (n : Nat) (c : Int) : Prop where
  ck : stB s = true
  ok : s.ok
  few : s.few
  hn : n < s.th.length
  st : (gth s.th n).st = 1
  sd : opSide (gth s.th n).ki = 1
  pc : (gth s.th n).pc = c
section
variable {s : St} {n : Nat} {c : Int}
theorem Dn.ht (h : Dn s n c) : gth s.th n = pcT (gth s.th n) c := by rw [← h.pc]; rfl
theorem Dn.ix (h : Dn s n c) : IxP ((s.th.map thT).toArray) (n : Int) (thT (pcT (gth s.th n) c)) := by
  have := ixT h.hn
  rw [h.ht] at this
  exact this
theorem Dn.has (h : Dn s n c) : hasB s n = true := has_of h.ck h.hn
theorem Dn.ru (h : Dn s n c) : runsB s n 1 = true := runs_iff.2 ⟨h.has, by simpa using h.st, by simpa using h.sd⟩
theorem Dn.rs (h : Dn s n c) : thRuns (gth s.th n).st = 0 := by rw [h.st]; rfl
theorem Dn.i15 (h : Dn s n c) : (0 : Int) ≤ n ∧ (n : Int) ≤ 15 := (ok_th h.ck h.hn).2
theorem Dn.ful (h : Dn s n c) : okE s.fe s.fl = true := (full_lines h.ck).2.2.2.2.1
theorem Dn.emp (h : Dn s n c) : okE s.ee s.el = true := (full_lines h.ck).2.2.2.2.2
theorem Dn.sl (h : Dn s n c) : okSl s.sl = true := (word_ok h.ck).2.1
theorem Dn.bd (h : Dn s n c) : 0 ≤ (gth s.th n).re ∧ (gth s.th n).re ≤ 1099511627776 ∧ 0 ≤ (gth s.th n).tr ∧ (gth s.th n).tr ≤ 1099511627776 := by
  have h1 := gth_ok h.ck h.hn
  generalize gth s.th n = t at h1
  obtain ⟨st, ki, va, un, pc, re, se, tr, la, rs, go⟩ := t
  rw [thB_iff] at h1
  simp only
  omega
theorem Dn.len (h : Dn s n c) : In64 (s.sl.length : Int) := by have := h.few.sl; constructor <;> omega
theorem Dn.nx {v : Int} (_h : Dn s n c) (hn : waySt s (gth s.th n).tr = v) : AC Tryz.prog 93 [cfT s.cf, .int .i64 (gth s.th n).tr] (.int .i64 v) := by subst hn; exact ac_rnext s.cf (gth s.th n).tr
theorem Dn.con (h : Dn s n c) (hb : cmB s.fe s.fl (gth s.th n).se n = false) : AC Tryz.prog 103 [evT s.fe s.fl, .int .i64 (gth s.th n).se, .int .i64 n] (.tuple #[evT s.fe s.fl, .bool false, .int .i64 (entE s.fl n)]) := by
  have := ac_rcommit hb h.ful h.i15
  rw [show cmL s.fe s.fl (gth s.th n).se n = s.fl by unfold cmL; rw [hb]; rfl] at this
  exact this
end
end Go.Proofs.YtjbcfjfnobklkaaGreat

/- The document's Step is the step of plain states; Steps as many as there are. -/
namespace Go.Proofs.YtjbcfjfnobklkaaGreat
set_option linter.unusedVariables false
set_option linter.unusedSimpArgs false
open Go.RowKit
section
variable {s : St} {n : Nat} {c : Int}
theorem Dn.sp (h : Dn s n c) (hl : s.lg.length ≤ 999999) : Sp s n 1 0 := ⟨by decide, h.ck, h.ok, h.hn, h.st, h.sd, hl, by constructor <;> omega⟩
end
end Go.Proofs.YtjbcfjfnobklkaaGreat

/- The document's Steps: as many steps as there are, told by plain states. -/
namespace Go.Proofs.YtjbcfjfnobklkaaGreat
set_option linter.unusedVariables false
set_option linter.unusedSimpArgs false
open Go.RowKit
theorem few_of {s : St} (h : stB s = true) (hl : s.lg.length ≤ 1000) : s.few := by
  obtain ⟨a, b, c, d, -, -⟩ := full_lines h
  have h1 := th_len h
  have h2 := ok_len (stn_iff.1 a).1
  have h3 := ok_len (stn_iff.1 b).1
  have h4 := ok_len (stn_iff.1 c).1
  have h5 := ok_len (stn_iff.1 d).1
  have h6 := (ok_iff.1 (word_ok h).2.1).1
  exact ⟨by omega, by omega, by omega, by omega, by omega, by omega, hl⟩
section
variable {s : St} {i m o : Int} {b : Bool}
end
end Go.Proofs.YtjbcfjfnobklkaaGreat

/- Contracts told by abstract values: whether two states are one. -/
namespace Go.Proofs.YtjbcfjfnobklkaaGreat
set_option linter.unusedVariables false
set_option linter.unusedSimpArgs false
open Go.RowKit
theorem ac_rints (l : List Int) (hm : l.length ≤ 1000000) : AC Tryz.prog 33 [rowI l, rowI l] (.bool true) := by
  intro O W vs hl hat ; obtain ⟨ys, rfl, _, _, rfl, h0, _, _, rfl, h1, rfl⟩ := args_of hat
  obtain ⟨p, k, rfl, hs⟩ := rp_rowI.1 h0
  obtain ⟨q, k', rfl, ht⟩ := rp_rowI.1 h1
  refine (rints_any l l p q k k' W hs.s ht.s (by omega)).mono ?_
  rintro e W' ⟨rfl, hk⟩
  exact ⟨_, rfl, rp_bool.2 (by simp), hk⟩
theorem ac_rssame (l : List Slo) (hm : l.length ≤ 1000) : AC Tryz.prog 32 [rowS l, rowS l] (.bool true) := by
  intro O W vs hl hat ; obtain ⟨ys, rfl, _, _, rfl, h0, _, _, rfl, h1, rfl⟩ := args_of hat
  obtain ⟨p, k, rfl, hs⟩ := rp_rowS.1 h0
  obtain ⟨q, k', rfl, ht⟩ := rp_rowS.1 h1
  refine (rssame_any l l p q k k' W hs.s ht.s hm).mono ?_
  rintro e W' ⟨rfl, hk⟩
  exact ⟨_, rfl, rp_bool.2 (by simp), hk⟩
theorem ask_th (t : Th) (x y : Operand) : AskP Tryz.prog (.binOp .neq 44 x y 44) [thT t, thT t] (.bool false) :=
  ask_bin (fun x y W => (guard_agg (by kernel_rfl) x y _ _ W).1) (fun W => by simpa using th_neq t t W) x y
theorem ask_en (t : En) (x y : Operand) : AskP Tryz.prog (.binOp .neq 60 x y 60) [enT t, enT t] (.bool false) :=
  ask_bin (fun x y W => (guard_agg (by kernel_rfl) x y _ _ W).1) (fun W => by simpa using en_neq t t W) x y
theorem ask_cf (c : Cf) (x y : Operand) : AskP Tryz.prog (.binOp .eql 23 x y 23) [cfT c, cfT c] (.bool true) :=
  ask_bin (fun x y W => (guard_agg (by kernel_rfl) x y _ _ W).2) (fun W => by simpa using cf_eql c c W) x y
theorem ask_wd (h t m : Int) (x y : Operand) : AskP Tryz.prog (.binOp .eql 25 x y 25) [wdT h t m, wdT h t m] (.bool true) :=
  ask_bin (fun x y W => (guard_agg (by kernel_rfl) x y _ _ W).2) (fun W => by simpa using wo_eql ⟨h, t, m⟩ ⟨h, t, m⟩ W) x y
def hdTh (l : List Th) (i : Int) : Sg := ⟨mkT 26 [(0, rowT l), (1, rowT l), (5, .int .i64 i)], []⟩
def hdEn (l : List En) (i : Int) : Sg := ⟨mkT 26 [(0, rowE l), (1, rowE l), (5, .int .i64 i)], []⟩
def gle (l : List En) (i : Nat) : En := l.getD i ⟨0, 0, 0, 0, 0⟩
theorem ixEn {l : List En} {i : Nat} (h : i < l.length) : IxP ((l.map enT).toArray) (i : Int) (enT (gle l i)) := ⟨by omega, by simp [gle, h]⟩
set_option maxRecDepth 100000 in
theorem th_lp (l : List Th) (hm : l.length ≤ 1000000) : ∀ (k i : Nat), l.length - i = k → i ≤ l.length → LoopP Tryz.prog (loopOf Tryz.prog 35 0) (hdTh l i) (.exit 0) (hdTh l l.length)
  | 0, i, hk, hi => by
    have : i = l.length := by omega
    subst this
    exact loop_end mixed (fuel := 9) (n := 3) (im := []) (keep := [0, 1, 5]) (ext := []) (orc := [.bool false]) (an (show decide ((l.length : Int) < l.length) = false by simp) trivial) (by intro e; cases e) (by kernel_rfl)
  | k + 1, i, hk, hi => by
    have ih := th_lp l hm k (i + 1) (by omega) (by omega)
    rw [show ((i + 1 : Nat) : Int) = (i : Int) + 1 by omega] at ih
    exact loop_more mixed (fuel := 9) (n := 3) (im := []) (keep := [0, 1, 5]) (ext := []) (orc := [.bool true, thT (gth l i), thT (gth l i), .bool false, .bool false])
      (an (show decide ((i : Int) < l.length) = true by simp; omega) <| an (ixT (l := l) (n := i) (by omega)) <| an (ixT (l := l) (n := i) (by omega)) <| an (ask_th (gth l i) (.tmp 20) (.tmp 24)) <| an (rfl : false = false) <| an (show In64 ((i : Int) + 1) by constructor <;> omega) trivial) (by kernel_rfl) ih
set_option maxRecDepth 100000 in
theorem en_lp (l : List En) (hm : l.length ≤ 1000000) : ∀ (k i : Nat), l.length - i = k → i ≤ l.length → LoopP Tryz.prog (loopOf Tryz.prog 20 0) (hdEn l i) (.exit 0) (hdEn l l.length)
  | 0, i, hk, hi => by
    have : i = l.length := by omega
    subst this
    exact loop_end mixed (fuel := 9) (n := 3) (im := []) (keep := [0, 1, 5]) (ext := []) (orc := [.bool false]) (an (show decide ((l.length : Int) < l.length) = false by simp) trivial) (by intro e; cases e) (by kernel_rfl)
  | k + 1, i, hk, hi => by
    have ih := en_lp l hm k (i + 1) (by omega) (by omega)
    rw [show ((i + 1 : Nat) : Int) = (i : Int) + 1 by omega] at ih
    exact loop_more mixed (fuel := 9) (n := 3) (im := []) (keep := [0, 1, 5]) (ext := []) (orc := [.bool true, enT (gle l i), enT (gle l i), .bool false, .bool false])
      (an (show decide ((i : Int) < l.length) = true by simp; omega) <| an (ixEn (l := l) (i := i) (by omega)) <| an (ixEn (l := l) (i := i) (by omega)) <| an (ask_en (gle l i) (.tmp 20) (.tmp 24)) <| an (rfl : false = false) <| an (show In64 ((i : Int) + 1) by constructor <;> omega) trivial) (by kernel_rfl) ih
set_option maxRecDepth 100000 in
theorem ac_rthreads (l : List Th) (hm : l.length ≤ 1000000) : AC Tryz.prog 35 [rowT l, rowT l] (.bool true) :=
  ac_path mixed (ext := []) (fuel := 9) (n := 3) (orc := [.bool false, oL [] [0, 1, 5] 0 [(0, rowT l), (1, rowT l), (5, .int .i64 l.length)] []])
    (an (show ((l.length : Int) != l.length) = false by simp) <| an (th_lp l hm l.length 0 rfl (by omega)) trivial) (by kernel_rfl)
set_option maxRecDepth 100000 in
theorem ac_rlogs (l : List En) (hm : l.length ≤ 1000000) : AC Tryz.prog 20 [rowE l, rowE l] (.bool true) :=
  ac_path mixed (ext := []) (fuel := 9) (n := 3) (orc := [.bool false, oL [] [0, 1, 5] 0 [(0, rowE l), (1, rowE l), (5, .int .i64 l.length)] []])
    (an (show ((l.length : Int) != l.length) = false by simp) <| an (en_lp l hm l.length 0 rfl (by omega)) trivial) (by kernel_rfl)
set_option maxRecDepth 100000 in
theorem ac_resame (ep : Int) (l : List Int) (hm : l.length ≤ 1000000) : AC Tryz.prog 34 [evT ep l, evT ep l] (.bool true) := by
  rw [show (true : Bool) = (ep == ep) by simp]
  exact ac_path mixed (ext := [33]) (fuel := 9) (n := 3) (orc := [vD true]) (an (ac_rints l hm) trivial) (by kernel_rfl)
set_option maxRecDepth 100000 in
/-- A state is the same as itself. -/
theorem ac_rsame {s : St} (hw : s.few) (hl : s.lg.length ≤ 1000000) : AC Tryz.prog 14 [stT s, stT s] (.bool true) :=
  ac_path mixed (ext := [32, 33, 34, 35, 20]) (fuel := 9) (n := 3)
    (orc := [.bool true, .nilFunc, .bool true, .nilFunc, vD true, vD true, vD true, vD true, vD true, vD true, vD true, .bool true])
    (an (ask_cf s.cf (.tmp 10) (.tmp 12)) <| an (ask_wd s.hd s.tl s.md (.tmp 16) (.tmp 18)) <| an (ac_rssame s.sl hw.sl) <| an (ac_rints s.sn (by have := hw.sn; omega)) <| an (ac_rints s.rc (by have := hw.rc; omega)) <| an (ac_resame s.fe s.fl (by have := hw.fl; omega)) <| an (ac_resame s.ee s.el (by have := hw.el; omega)) <|
      an (ac_rthreads s.th (by have := hw.th; omega)) <| an (ac_rlogs s.lg hl) <| an (show (s.nw == s.nw) = true by simp) trivial) (by kernel_rfl)
end Go.Proofs.YtjbcfjfnobklkaaGreat

/- Contracts told by abstract values: the program's New, Invoke, Queue, by the engine. -/
namespace Go.Proofs.YtjbcfjfnobklkaaGreat
set_option linter.unusedVariables false
set_option linter.unusedSimpArgs false
open Go.RowKit
theorem ac_ccheck {c : Cf} {r : Int} (h : (if cfB c = true then 0 else 20) = r) : AC Tryz.prog 52 [cfT c] (.int .i64 r) := by
  intro O W vs hl hat ; obtain ⟨ys, rfl, _, _, rfl, h0, rfl⟩ := args_of hat
  rw [rp_cfT] at h0
  subst h0
  refine (ccheck_val (b := cfB c) (Lib.hid rfl) W).mono ?_
  rintro e W' ⟨rfl, hk⟩
  exact ⟨_, rfl, rp_int.2 (by rw [h]), hk⟩
theorem ac_croom (c : Cf) : AC Tryz.prog 64 [cfT c] (.int .i64 (cfR c)) := by
  intro O W vs hl hat ; obtain ⟨ys, rfl, _, _, rfl, h0, rfl⟩ := args_of hat
  rw [rp_cfT] at h0
  subst h0
  refine (croom_any c.lg c.th c.po c.wt c.sp c.yi c.si W).mono ?_
  rintro e W' ⟨rfl, hk⟩
  exact ⟨_, rfl, rp_int.2 rfl, hk⟩
theorem ac_snew (r : Int) (hr : In64 r) : AC Tryz.prog 116 [.int .i64 r] (rowS (newL r)) := by
  intro O W vs hl hat ; obtain ⟨ys, rfl, _, _, rfl, h0, rfl⟩ := args_of hat
  rw [rp_int] at h0
  subst h0
  refine (snew_any r hr W).mono ?_
  rintro e W' ⟨p, k, rfl, ho, hk⟩
  exact ⟨_, rfl, rowS_own hl ho, hk⟩
theorem ac_omay {c : Cf} {i k r : Int} (h : opMay c.th c.si i k = r) : AC Tryz.prog 60 [cfT c, .int .i64 i, .int .i64 k] (.int .i64 r) := by
  intro O W vs hl hat ; obtain ⟨ys, rfl, _, _, rfl, h0, _, _, rfl, h1, _, _, rfl, h2, rfl⟩ := args_of hat
  rw [rp_cfT] at h0
  rw [rp_int] at h1 h2
  subst h0 h1 h2
  refine (omay_any c.lg c.th c.po c.wt c.sp c.yi c.si i k W).mono ?_
  rintro e W' ⟨rfl, hk⟩
  exact ⟨_, rfl, rp_int.2 (by rw [h]), hk⟩
theorem ac_tbeg {t r : Th} {k v u E : Int} (h : thBeg t k v u E r) : AC Tryz.prog 61 [thT t, .int .i64 k, .int .i64 v, .int .i64 u] (.tuple #[thT r, .int .i64 E]) := by
  intro O W vs hl hat ; obtain ⟨ys, rfl, _, _, rfl, h0, _, _, rfl, h1, _, _, rfl, h2, _, _, rfl, h3, rfl⟩ := args_of hat
  rw [rp_thT] at h0
  rw [rp_int] at h1 h2 h3
  subst h0 h1 h2 h3
  refine (tbeg_val h W).mono ?_
  rintro e W' ⟨rfl, hk⟩
  exact ⟨_, rfl, tup2 (rp_thT.2 rfl) (rp_int.2 rfl), hk⟩
theorem make_th {n : Int} (h0 : 0 ≤ n) (h1 : n ≤ 1000) : MakeP n n (List.replicate n.toNat th0).length ((List.replicate n.toNat th0).map thT) (thT th0) := ⟨by simp; omega, by omega, by omega, by simp⟩
set_option maxRecDepth 100000 in
theorem ac_pnew {c : Cf} (hc : cfB c = true) : AC Tryz.prog 57 [cfT c] (.tuple #[stT (newSt c), .int .i64 0]) :=
  ac_path mixed (ext := [52, 64, 116]) (fuel := 9) (n := 4) (orc := [.int .i64 0, .nilFunc, .int .i64 (cfR c), rowS (newL (cfR c)), rowT (List.replicate c.th.toNat th0)])
    (an (ac_ccheck (c := c) (r := 0) (by simp [hc])) <| an (ac_croom c) <| an (ac_snew (cfR c) (room_in c)) <| an (make_th (n := c.th) (by have := cf_th hc; omega) (by have := cf_th hc; omega)) <| an (len_map (f := thT) (List.replicate c.th.toNat th0)) trivial) (by kernel_rfl)
set_option maxRecDepth 100000 in
theorem ac_pnew_no {c : Cf} (hc : cfB c = false) : AC Tryz.prog 57 [cfT c] (.tuple #[stT st0, .int .i64 20]) :=
  ac_path mixed (ext := [52, 64, 116]) (fuel := 9) (n := 4) (orc := [.int .i64 20, .nilFunc])
    (an (ac_ccheck (c := c) (r := 20) (by simp [hc])) trivial) (by kernel_rfl)
set_option maxRecDepth 100000 in
theorem ac_pinv_1 {s : St} {i k v u : Int} (hA : stB s = false) (ho : s.ok) (hf : s.fit) : AC Tryz.prog 23 [stT s, .int .i64 i, .int .i64 k, .int .i64 v, .int .i64 u] (.tuple #[stT s, .int .i64 20]) :=
  ac_path mixed (ext := [21, 122, 121, 124, 123]) (fuel := 9) (n := 5) (orc := [vD false, rowS s.sl, rowI s.sn, rowI s.rc, rowI s.fl, rowI s.el, rowT s.th, rowE s.lg])
    (an (ac_pcheck hA ho) <| an (ac_copS s.sl hf.sl) <| an (ac_copI s.sn hf.sn) <| an (ac_copI s.rc hf.rc) <| an (ac_copI s.fl hf.fl) <| an (ac_copI s.el hf.el) <| an (ac_copT s.th hf.th) <| an (ac_copE s.lg hf.lg) trivial) (by kernel_rfl)
set_option maxRecDepth 100000 in
theorem ac_pinv_2 {s : St} {i k v u E : Int} (hA : stB s = true) (hE : opMay s.cf.th s.cf.si i k = E) (hE0 : E ≠ 0) (ho : s.ok) (hf : s.fit) : AC Tryz.prog 23 [stT s, .int .i64 i, .int .i64 k, .int .i64 v, .int .i64 u] (.tuple #[stT s, .int .i64 E]) :=
  ac_path mixed (ext := [21, 122, 121, 124, 123, 60]) (fuel := 9) (n := 5) (orc := [vD true, .int .i64 E, .bool true, rowS s.sl, rowI s.sn, rowI s.rc, rowI s.fl, rowI s.el, rowT s.th, rowE s.lg])
    (an (ac_pcheck hA ho) <| an (ac_omay hE) <| an (show (E != 0) = true by simpa using hE0) <| an (ac_copS s.sl hf.sl) <| an (ac_copI s.sn hf.sn) <| an (ac_copI s.rc hf.rc) <| an (ac_copI s.fl hf.fl) <| an (ac_copI s.el hf.el) <| an (ac_copT s.th hf.th) <| an (ac_copE s.lg hf.lg) trivial) (by kernel_rfl)
set_option maxRecDepth 100000 in
theorem ac_pinv_3 {s : St} {n : Nat} {k v u E : Int} {t : Th} (hA : stB s = true) (hM : opMay s.cf.th s.cf.si n k = 0) (hT : thBeg (gth s.th n) k v u E t) (hn : n < s.th.length) (ho : s.ok) (hf : s.fit) :
    AC Tryz.prog 23 [stT s, .int .i64 n, .int .i64 k, .int .i64 v, .int .i64 u] (.tuple #[stT (s.setTh n t), .int .i64 E]) :=
  ac_path mixed (ext := [21, 122, 121, 124, 60, 61]) (fuel := 9) (n := 5)
    (orc := [vD true, .int .i64 0, .nilFunc, thT (gth s.th n), .tuple #[thT t, .int .i64 E], rowS s.sl, rowI s.sn, rowI s.rc, rowI s.fl, rowI s.el, rowT s.th, rowE s.lg, thT (gth s.th n), rowT (s.th.set n t)])
    (an (ac_pcheck hA ho) <| an (ac_omay hM) <| an (ixT hn) <| an (ac_tbeg hT) <| an (ac_copS s.sl hf.sl) <| an (ac_copI s.sn hf.sn) <| an (ac_copI s.rc hf.rc) <| an (ac_copI s.fl hf.fl) <| an (ac_copI s.el hf.el) <| an (allK_T s.th) <| an (app_nil (f := thT) (lt_ne hn) hf.th) <|
      an (ac_copE s.lg hf.lg) <| an (idT hn) <| an (elT hn) <| an (setT s.th n t) <| an (show LenP s.th.length (s.th.set n t).length ((s.th.set n t).map thT) from ⟨by simp, by simp⟩) trivial) (by kernel_rfl)
theorem ac_pinvoke {s : St} {i k v u E : Int} {r : St} (h : stBeg s i k v u E r) (ho : s.ok) (hf : s.fit) : AC Tryz.prog 23 [stT s, .int .i64 i, .int .i64 k, .int .i64 v, .int .i64 u] (.tuple #[stT r, .int .i64 E]) := by
  rcases h with ⟨hA, rfl, rfl⟩ | ⟨hA, h0, rfl, rfl⟩ | ⟨hA, h0, n, t, rfl, hn, hT, rfl⟩
  · exact ac_pinv_1 hA ho hf
  · exact ac_pinv_2 hA rfl h0 ho hf
  · exact ac_pinv_3 hA h0 hT hn ho hf

/-! ### What is there -/
section
variable {s : St} {r : Int} {n : Nat}
end
end Go.Proofs.YtjbcfjfnobklkaaGreat

/- The head of the laws of layer 14 (awake), by contracts told by abstract values. -/
namespace Go.Proofs.YtjbcfjfnobklkaaGreat
set_option linter.unusedVariables false
set_option linter.unusedSimpArgs false
open Go.RowKit
def cW : Cf := ⟨1, 2, 0, 0, 0, 0, false⟩
def sW : St := newSt cW
theorem cW_b : cfB cW = true := by decide
theorem sW_b : stB sW = true := new_stB cW_b
theorem cW_in : cW.ok := by simp [cW, Cf.ok, In64]
theorem sW_in : sW.ok := ok_of sW_b ⟨cW_in, fun x hx => by
  have hx' : x = ⟨0, 0⟩ ∨ x = ⟨1, 0⟩ := by
    have : sW.sl = [⟨0, 0⟩, ⟨1, 0⟩] := rfl
    rw [this] at hx; simpa using hx
  rcases hx' with rfl | rfl <;> (constructor <;> decide), fun t ht => by
  have ht' : t = th0 := by
    have : sW.th = [th0, th0] := rfl
    rw [this] at ht; simpa using ht
  subst ht'
  constructor <;> (constructor <;> decide)⟩ (by decide)
end Go.Proofs.YtjbcfjfnobklkaaGreat

/- What the laws of layer 14 call: Few, the program's Step, Steps of any state. -/
namespace Go.Proofs.YtjbcfjfnobklkaaGreat
set_option linter.unusedVariables false
set_option linter.unusedSimpArgs false
open Go.RowKit
theorem nil_no {s : St} (h : s.th = []) : stB s = false := by
  cases hB : stB s
  · rfl
  · have := (th_len hB).2.1; rw [h] at this; simp at this
theorem sendK_no {s : St} {i : Int} (h : stB s = false) (k : Nat) : sendK s i k = (s, 0) := by
  cases k with
  | zero => rfl
  | succ k => simp [sendK, runsB, hasB, h]
set_option maxRecDepth 100000 in
theorem ac_psteps_nil {s : St} {i m : Int} (h : s.th = []) (ho : s.ok) (hf : s.fit) : AC Tryz.prog 58 [stT s, .int .i64 i, .int .i64 m] (.tuple #[stT s, .int .i64 0]) := by
  cases hm : decide ((0 : Int) < min m 1000)
  · exact ac_path mixed (ext := [70, 21]) (fuel := 9) (n := 5) (orc := [stT s, .bool false]) (an (ac_keep (neg_no s) ho hf) <| an hm trivial) (by kernel_rfl)
  · exact ac_path mixed (ext := [70, 21]) (fuel := 9) (n := 5) (orc := [stT s, .bool true, vD false]) (an (ac_keep (neg_no s) ho hf) <| an hm <| an (ac_pcheck (nil_no h) ho) trivial) (by kernel_rfl)
/-- Some steps of the program, of any state. -/
theorem ac_pst {s : St} {i m : Int} (ho : s.ok) (hf : s.fit) (hl : s.lg.length ≤ 800000) : AC Tryz.prog 58 [stT s, .int .i64 i, .int .i64 m] (.tuple #[stT (sendK s i (min m 1000).toNat).1, .int .i64 (sendK s i (min m 1000).toNat).2]) := by
  by_cases h : s.th = []
  · rw [sendK_no (nil_no h)]; exact ac_psteps_nil h ho hf
  · exact ac_psteps ho hf h hl
def fewB (s : St) : Bool := decide ((s.sl.length : Int) ≤ 100) && (decide ((s.th.length : Int) ≤ 100) && (decide ((s.sn.length : Int) ≤ 100) && (decide ((s.rc.length : Int) ≤ 100) && (decide ((s.fl.length : Int) ≤ 100) && (decide ((s.el.length : Int) ≤ 100) && decide ((s.lg.length : Int) ≤ 200))))))
set_option maxRecDepth 100000 in
theorem ac_rfew (s : St) : AC Tryz.prog 11 [stT s] (.bool (fewB s)) := by
  unfold fewB
  cases h1 : decide ((s.sl.length : Int) ≤ 100)
  · exact ac_path mixed (ext := []) (fuel := 9) (n := 3) (orc := [.bool false]) (an h1 trivial) (by kernel_rfl)
  cases h2 : decide ((s.th.length : Int) ≤ 100)
  · exact ac_path mixed (ext := []) (fuel := 9) (n := 3) (orc := [.bool true, .bool false]) (an h1 <| an h2 trivial) (by kernel_rfl)
  cases h3 : decide ((s.sn.length : Int) ≤ 100)
  · exact ac_path mixed (ext := []) (fuel := 9) (n := 3) (orc := [.bool true, .bool true, .bool false]) (an h1 <| an h2 <| an h3 trivial) (by kernel_rfl)
  cases h4 : decide ((s.rc.length : Int) ≤ 100)
  · exact ac_path mixed (ext := []) (fuel := 9) (n := 3) (orc := [.bool true, .bool true, .bool true, .bool false]) (an h1 <| an h2 <| an h3 <| an h4 trivial) (by kernel_rfl)
  cases h5 : decide ((s.fl.length : Int) ≤ 100)
  · exact ac_path mixed (ext := []) (fuel := 9) (n := 3) (orc := [.bool true, .bool true, .bool true, .bool true, .bool false]) (an h1 <| an h2 <| an h3 <| an h4 <| an h5 trivial) (by kernel_rfl)
  cases h6 : decide ((s.el.length : Int) ≤ 100)
  · exact ac_path mixed (ext := []) (fuel := 9) (n := 3) (orc := [.bool true, .bool true, .bool true, .bool true, .bool true, .bool false]) (an h1 <| an h2 <| an h3 <| an h4 <| an h5 <| an h6 trivial) (by kernel_rfl)
  exact ac_path mixed (ext := []) (fuel := 9) (n := 3) (orc := [.bool true, .bool true, .bool true, .bool true, .bool true, .bool true]) (an h1 <| an h2 <| an h3 <| an h4 <| an h5 <| an h6 trivial) (by kernel_rfl)
theorem few_is {s : St} (h : fewB s = true) : s.few ∧ s.fit ∧ s.lg.length ≤ 200 := by
  simp only [fewB, Bool.and_eq_true, decide_eq_true_eq] at h
  obtain ⟨h1, h2, h3, h4, h5, h6, h7⟩ := h
  exact ⟨⟨by omega, by omega, by omega, by omega, by omega, by omega, by omega⟩, ⟨by omega, by omega, by omega, by omega, by omega, by omega, by omega⟩, by omega⟩
/-- A contract, as a law's walk is asked. -/
theorem law_of {g : FuncId} {args : List Value} {vs : Array Value} {W : World} (h : AC Tryz.prog g args (.bool true)) (hv : AtAll (Rp nowhere (fun _ => False) W) args.toArray vs) : Calls Tryz.prog g vs W fun e W' => e = .returned (.bool true) ∧ Kept W W' := by
  refine (h (fun _ => False) W vs (fun g hg => hg.elim) hv).mono ?_
  rintro e W' ⟨c, rfl, hr, hk⟩
  rw [rp_bool] at hr
  exact ⟨by rw [hr], hk⟩
theorem st_free {W : World} {s : St} {z : Pz} (h : StAt W s z) : Rp nowhere (fun _ => False) W (stT s) (.agg #[.int .i64 s.cf.lg, .int .i64 s.cf.th, .int .i64 s.cf.po, .int .i64 s.cf.wt, .int .i64 s.cf.sp, .int .i64 s.cf.yi, .bool s.cf.si, .int .i64 s.hd, .int .i64 s.tl, .int .i64 s.md, .slice z.p1 s.sl.length z.k1, .slice z.p2 s.sn.length z.k2, .slice z.p3 s.rc.length z.k3, .int .i64 s.fe, .slice z.p4 s.fl.length z.k4, .int .i64 s.ee, .slice z.p5 s.el.length z.k5, .int .i64 s.nw, .slice z.p6 s.th.length z.k6, .slice z.p7 s.lg.length z.k7]) := rp_stT.2 ⟨z, rfl, h.loc.mono fun _ _ h => h⟩
end Go.Proofs.YtjbcfjfnobklkaaGreat

/- Layer 14's first law (SendTells): its walk, by contracts told by abstract values. -/
namespace Go.Proofs.YtjbcfjfnobklkaaGreat
set_option linter.unusedVariables false
set_option linter.unusedSimpArgs false
open Go.RowKit
theorem ask_bb {a b : Bool} (h : a = b) (x y : Operand) : AskP Tryz.prog (.binOp .eql 4 x y 4) [.bool a, .bool b] (.bool true) := by
  intro W o f ho hm
  obtain ⟨h1, h2⟩ := two_is hm
  subst h
  have hu : Tryz.prog.underlying 4 = some .bool := by kernel_rfl
  have : (binOp .eql 4 (.bool a) (.bool a)).run Tryz.prog W = .ok (.bool true) W := by
    have h := run_equalIn_bool' (P := Tryz.prog) W 9999 4 a a hu
    have h' : (Op.equal 4 (.bool a) (.bool a)).run Tryz.prog W = .ok true W := by
      unfold Op.equal Op.maxDepth
      rw [h]; simp
    simp [binOp, h']
  simp [execOp, ho, h1, h2, eqGuard, this]
section
variable {s u v : St} {i m pc : Int} {k : Nat}
end
end Go.Proofs.YtjbcfjfnobklkaaGreat

/- Layer 14, plain: what some steps of who sends are, and what they change. -/
namespace Go.Proofs.YtjbcfjfnobklkaaGreat
set_option linter.unusedVariables false
set_option linter.unusedSimpArgs false
theorem sendK_off {s : St} {i : Int} (h : runsB s i 1 = false) (k : Nat) : sendK s i k = (s, 0) := by
  cases k with
  | zero => rfl
  | succ k => simp [sendK, h]
theorem sendK_on {s : St} {i : Int} (h : runsB s i 1 = true) (k : Nat) : sendK s i (k + 1) = ((sendK (sendS s i) i k).1, (sendK (sendS s i) i k).2 + 1) := by simp [sendK, h]
/-! ### What threads share -/
/-- The word, the slots, Sends, Recvs, Full, Empty. -/
def shr (s : St) : (Int × Int × Int) × List Slo × List Int × List Int × (Int × List Int) × (Int × List Int) := ((s.hd, s.tl, s.md), s.sl, s.sn, s.rc, (s.fe, s.fl), (s.ee, s.el))
/-- In how many places two lists differ. -/
def diffL : List Slo → List Slo → Nat
  | a :: l, b :: m => (if a = b then 0 else 1) + diffL l m
  | _, _ => 0
def oneI (p : Prop) [Decidable p] : Nat := if p then 0 else 1
/-- In how many things two states differ. -/
def thingsN (a b : St) : Nat :=
  oneI ((a.hd, a.tl, a.md) = (b.hd, b.tl, b.md)) + diffL a.sl b.sl + oneI (a.sn = b.sn) + oneI (a.rc = b.rc) + oneI (a.fe = b.fe ∧ a.fl = b.fl) + oneI (a.ee = b.ee ∧ a.el = b.el)
theorem diffL_self : ∀ l : List Slo, diffL l l = 0
  | [] => rfl
  | a :: l => by simp [diffL, diffL_self l]
theorem diffL_set (x : Slo) : ∀ (l : List Slo) (i : Nat), diffL l (l.set i x) ≤ 1
  | [], i => by simp [diffL]
  | a :: l, 0 => by simp only [List.set_cons_zero, diffL, diffL_self]; split <;> omega
  | a :: l, i + 1 => by have := diffL_set x l i; simp only [List.set_cons_succ, diffL, if_true]; omega
theorem oneI_le (p : Prop) [Decidable p] : oneI p ≤ 1 := by unfold oneI; split <;> omega
theorem oneI_t [Decidable True] : oneI True = 0 := if_pos trivial
theorem things_shr {a b c : St} (h : shr b = shr c) : thingsN a b = thingsN a c := by
  simp only [shr, Prod.mk.injEq] at h
  obtain ⟨⟨h1, h2, h3⟩, h4, h5, h6, ⟨h7, h8⟩, h9, h10⟩ := h
  simp only [thingsN, h1, h2, h3, h4, h5, h6, h7, h8, h9, h10]
theorem things_self (s : St) : thingsN s s = 0 := by simp [thingsN, diffL_self, oneI]
theorem things_none {a b : St} (h : shr b = shr a) : thingsN a b ≤ 1 := by rw [things_shr h, things_self]; omega
theorem things_word (s : St) (x y z : Int) : thingsN s (s.toWord x y z) ≤ 1 := by
  simp only [thingsN, St.toWord, diffL_self, and_self, oneI_t, Nat.add_zero, Nat.zero_add]; exact oneI_le _
theorem things_sl (s : St) (l : List Slo) (h : diffL s.sl l ≤ 1) : thingsN s (s.toSl l) ≤ 1 := by
  simp only [thingsN, St.toSl, diffL_self, and_self, oneI_t]; omega
theorem things_rc (s : St) (l : List Int) : thingsN s (s.toRc l) ≤ 1 := by
  simp only [thingsN, St.toRc, diffL_self, and_self, oneI_t, Nat.add_zero, Nat.zero_add]; exact oneI_le _
theorem things_full (s : St) (e : Int) (l : List Int) : thingsN s (s.toFull e l) ≤ 1 := by
  simp only [thingsN, St.toFull, diffL_self, and_self, oneI_t, Nat.add_zero, Nat.zero_add]; exact oneI_le _
theorem things_empty (s : St) (e : Int) (l : List Int) : thingsN s (s.toEmpty e l) ≤ 1 := by
  simp only [thingsN, St.toEmpty, diffL_self, and_self, oneI_t, Nat.add_zero, Nat.zero_add]; exact oneI_le _
theorem shr_on (s : St) (n : Nat) (f : Th → Th) : shr (s.onTh n f) = shr s := rfl
theorem shr_tell (s : St) (i k r g : Int) : shr (tellS s i k r g) = shr s := by unfold tellS; split <;> rfl
theorem shr_told (s : St) (n : Nat) (k r g p : Int) : shr (toldS s n k r g p) = shr s := by unfold toldS; rw [shr_on, shr_tell]
theorem shr_wake (s : St) (i : Int) : shr (wakeS s i) = shr s := by unfold wakeS; split <;> rfl
/-! ### What becomes of the other threads -/
/-- Of two lists of threads, all but one are as they were, but for one who is woken. -/
structure Oth (l m : List Th) (i : Int) : Prop where
  len : m.length = l.length
  one : ∃ w : Nat, ∀ j : Nat, j < l.length → (j : Int) ≠ i → gth m j = gth l j ∨ (j = w ∧ (gth l j).st = 2 ∧ gth m j = wakeT (gth l j))
theorem Oth.refl (l : List Th) (i : Int) : Oth l l i := ⟨rfl, 0, fun _ _ _ => .inl rfl⟩
theorem Oth.set {l : List Th} {n : Nat} (t : Th) : Oth l (l.set n t) n := ⟨by simp, 0, fun j hj hne => .inl (by
  by_cases hn : n < l.length
  · rw [gth_set hn, if_neg (by omega)]
  · rw [List.set_eq_of_length_le (by omega)])⟩
theorem Oth.wake {l : List Th} {n w : Nat} (t : Th) (hw : w < l.length) : Oth l ((l.set n t).set w (wakeT (gth (l.set n t) w))) n := ⟨by simp, w, fun j hj hne => by
  have e1 : gth (l.set n t) j = gth l j := by
    by_cases hn : n < l.length
    · rw [gth_set hn, if_neg (by omega)]
    · rw [List.set_eq_of_length_le (by omega)]
  rw [gth_set (by simpa using hw)]
  split
  · next e =>
    subst e
    rw [e1]
    by_cases h2 : (gth l w).st = 2
    · exact .inr ⟨rfl, h2, rfl⟩
    · left; unfold wakeT; rw [if_neg h2]
  · exact .inl e1⟩
theorem th_tell (s : St) (n : Nat) (k r g : Int) : ∃ t, (tellS s n k r g).th = s.th.set n t := by
  unfold tellS; split
  · exact ⟨_, by simp [St.setTh, St.addLg]; rfl⟩
  · exact ⟨gth s.th n, gth_set_self.symm⟩
theorem th_told (s : St) (n : Nat) (k r g p : Int) : ∃ t, (toldS s n k r g p).th = s.th.set n t := by
  obtain ⟨t, ht⟩ := th_tell s n k r g
  exact ⟨pcT (gth (tellS s n k r g).th n) p, by show (tellS s n k r g).th.set n _ = _; rw [ht, List.set_set]⟩
/-! ### What is told, and what stays -/
/-- What is told is told behind all that was, at most once. -/
def LgOk (a b : List En) : Prop := b = a ∨ ∃ x, b = a ++ [x]
theorem lg_tell (s : St) (i k r g : Int) : LgOk s.lg (tellS s i k r g).lg := by
  unfold tellS; split
  · exact .inr ⟨_, rfl⟩
  · exact .inl rfl
theorem lg_told (s : St) (n : Nat) (k r g p : Int) : LgOk s.lg (toldS s n k r g p).lg := lg_tell s n k r g
theorem cf_tell (s : St) (i k r g : Int) : (tellS s i k r g).cf = s.cf ∧ (tellS s i k r g).nw = s.nw := by unfold tellS; split <;> exact ⟨rfl, rfl⟩
end Go.Proofs.YtjbcfjfnobklkaaGreat

/- What the laws of layer 14 share: values stay in their bounds, whatever steps there are. -/
namespace Go.Proofs.YtjbcfjfnobklkaaGreat
set_option linter.unusedVariables false
set_option linter.unusedSimpArgs false
open Go.ChangeShapes Go.WideShapes Go.ChangeAt Go.RowKit
theorem ask_u8 (v : Int) (h0 : 0 ≤ v) (h1 : v ≤ 255) (x : Operand) : AskP Tryz.prog (.convert 5 3 x) [.int .u8 v] (.int .i64 v) := by
  intro W o f ho hm
  have h : f x = .int .u8 v := by simpa [ho, Op.operands] using hm
  have hu := Tryz.underlying3
  have hw : IntKind.i64.wrap v = v := wrap_in ⟨by omega, by omega⟩
  have hv := Tryz.underlying5
  simp [execOp, ho, h, convert, run_underlying hu, run_underlying hv, Conv.intToInt, hw]
theorem sendS_all {s : St} (hB : stB s = true) (ho : s.ok) (hl : s.lg.length ≤ 900000) (i : Int) : (sendS s i).ok ∧ (sendS s i).lg.length ≤ s.lg.length + 1 := by
  cases hr : runsB s i 1
  · have : sendS s i = s := by simp [sendS, hr]
    rw [this]; exact ⟨ho, by omega⟩
  · obtain ⟨h1, h2, h3⟩ := runs_iff.1 hr
    obtain ⟨-, hi0, hi1⟩ := has_iff.1 h1
    obtain ⟨n, rfl⟩ : ∃ n : Nat, i = n := ⟨i.toNat, by omega⟩
    have hn : n < s.th.length := by omega
    rw [Int.toNat_natCast] at h2
    rw [sendS_is hr]
    have hg := sendN_lg hB hn
    exact ⟨ok_of (sendN_stB hB hn (by omega)) (sendN_vk (.of ho) hB hn (by omega)) (by omega), hg⟩
theorem sendK_all {i : Int} (k : Nat) : ∀ {s : St}, stB s = true → s.ok → s.lg.length + k ≤ 800000 → (sendK s i k).1.ok ∧ (sendK s i k).1.fit ∧ (sendK s i k).1.lg.length ≤ s.lg.length + k := by
  induction k with
  | zero => intro s hB ho hl; exact ⟨ho, fit_of (s := s) hB (by omega), by show s.lg.length ≤ _; omega⟩
  | succ k ih =>
    intro s hB ho hl
    cases hr : runsB s i 1
    · rw [sendK_off hr]; exact ⟨ho, fit_of (s := s) hB (by omega), by show s.lg.length ≤ _; omega⟩
    · rw [sendK_on hr]
      obtain ⟨h1, h2⟩ := sendS_all hB ho (by omega) i
      obtain ⟨h3, h4, h5⟩ := ih (s := sendS s i) (by rw [sendS_stB]; exact hB) h1 (by omega)
      exact ⟨h3, h4, by show (sendK (sendS s i) i k).1.lg.length ≤ _; omega⟩
theorem min_nat {a : Int} (h : 0 ≤ a) (h1 : a ≤ 1000) : (min a 1000).toNat = a.toNat := by omega
end Go.Proofs.YtjbcfjfnobklkaaGreat

/- Layer 14, plain: what a step of who sends tells is what the queue may be told of. -/
namespace Go.Proofs.YtjbcfjfnobklkaaGreat
set_option linter.unusedVariables false
set_option linter.unusedSimpArgs false
theorem atV_place {s : St} (h : stB s = true) {p : Int} (hp : 0 ≤ p) : valV s p = atV s p := by unfold valV; rw [if_neg (by omega), if_pos h]
end Go.Proofs.YtjbcfjfnobklkaaGreat

/- Layer 15: a step of who receives, as a plain function; what may be stays so; what it changes; what it tells. -/
namespace Go.Proofs.YtjbcfjfnobklkaaGreat
set_option linter.unusedVariables false
set_option linter.unusedSimpArgs false
def gotT (t : Th) (g p : Int) : Th := ⟨t.st, t.ki, t.va, t.un, p, t.re, t.se, t.tr, t.la, t.rs, g⟩
/-- What one is told who looks. -/
def seesR (s : St) : Int := tkR s.hd s.tl s.md s.sl.length
def firstR (s : St) (n : Nat) : St :=
  if plI s.rc n = 0 then s.onTh n (pcT · 2)
  else if (gth s.th n).la = true then toldS s n (gth s.th n).ki 5 0 9
  else s.onTh n onT
def lookR (s : St) (n : Nat) : St :=
  if seesR s = 1 then s.onTh n (pcT · 3)
  else if seesR s ≠ 4 then toldS s n (gth s.th n).ki (seesR s) 0 9
  else if (gth s.th n).ki = 5 then toldS s n (gth s.th n).ki 4 0 9
  else if (gth s.th n).la = true then toldS s n (gth s.th n).ki 5 0 9
  else if waySt s (gth s.th n).tr = 2 then s.onTh n (pcT · 5)
  else s.onTh n onT
def takeR (s : St) (n : Nat) : St :=
  if seesR s = 4 then s.onTh n (pcT · 2)
  else if seesR s ≠ 1 then toldS s n (gth s.th n).ki (seesR s) 0 9
  else toldS ((s.toWord (s.hd + 1) s.tl s.md).onTh n (regT · s.hd 4)) n (gth s.th n).ki 1 (valV s s.hd) 4
def readR (s : St) (n : Nat) : St := (s.toSl (rlL s.sl (gth s.th n).re)).onTh n (gotT · (rdV s.sl (gth s.th n).re) 6)
def notifyR (s : St) (n : Nat) : St :=
  if hdB (ntT 1 s.fe s.fl) = true then wakeS ((s.toFull (ntE s.fe s.fl) (ntL 1 s.fe s.fl)).onTh n (pcT · 9)) (hdI (ntT 1 s.fe s.fl))
  else (s.toFull (ntE s.fe s.fl) (ntL 1 s.fe s.fl)).onTh n (pcT · 9)
def commitR (s : St) (n : Nat) : St :=
  if (gth s.th n).la = true then s.onTh n (pcT · 2)
  else if cmB s.ee s.el (gth s.th n).se n = true then (s.toEmpty s.ee (s.el ++ [(n : Int)])).onTh n (parkT · 2)
  else s.onTh n (pcT · 2)
/-- A step of thread n, which receives. -/
def recvN (s : St) (n : Nat) : St :=
  if (gth s.th n).pc = 0 then (s.toRc (entL s.rc n)).onTh n (pcT · 1)
  else if (gth s.th n).pc = 1 then firstR s n
  else if (gth s.th n).pc = 2 then lookR s n
  else if (gth s.th n).pc = 3 then takeR s n
  else if (gth s.th n).pc = 4 then readR s n
  else if (gth s.th n).pc = 5 then s.onTh n (seenT · s.ee 7)
  else if (gth s.th n).pc = 6 then notifyR s n
  else if (gth s.th n).pc = 7 then (if seesR s = 4 ∧ (gth s.th n).la = false then s.onTh n (pcT · 8) else s.onTh n (pcT · 2))
  else if (gth s.th n).pc = 8 then commitR s n
  else (s.toRc (lvL s.rc n)).onTh n doneT
def recvS (s : St) (i : Int) : St := if runsB s i 2 = true then recvN s i.toNat else s
/-- Some steps of who receives, and how many there were. -/
def recvK (s : St) (i : Int) : Nat → St × Nat
  | 0 => (s, 0)
  | k + 1 => if runsB s i 2 = true then ((recvK (recvS s i) i k).1, (recvK (recvS s i) i k).2 + 1) else (s, 0)
theorem recvN_ind {P : St → Prop} {s : St} {n : Nat} (h0 : P ((s.toRc (entL s.rc n)).onTh n (pcT · 1))) (h1 : P (firstR s n)) (h2 : P (lookR s n)) (h3 : P (takeR s n)) (h4 : P (readR s n)) (h5 : P (s.onTh n (seenT · s.ee 7))) (h6 : P (notifyR s n)) (h7 : P (if seesR s = 4 ∧ (gth s.th n).la = false then s.onTh n (pcT · 8) else s.onTh n (pcT · 2))) (h8 : P (commitR s n)) (h9 : P ((s.toRc (lvL s.rc n)).onTh n doneT)) : P (recvN s n) := by
  unfold recvN
  by_cases c0 : (gth s.th n).pc = 0
  · rw [if_pos c0]; exact h0
  rw [if_neg c0]
  by_cases c1 : (gth s.th n).pc = 1
  · rw [if_pos c1]; exact h1
  rw [if_neg c1]
  by_cases c2 : (gth s.th n).pc = 2
  · rw [if_pos c2]; exact h2
  rw [if_neg c2]
  by_cases c3 : (gth s.th n).pc = 3
  · rw [if_pos c3]; exact h3
  rw [if_neg c3]
  by_cases c4 : (gth s.th n).pc = 4
  · rw [if_pos c4]; exact h4
  rw [if_neg c4]
  by_cases c5 : (gth s.th n).pc = 5
  · rw [if_pos c5]; exact h5
  rw [if_neg c5]
  by_cases c6 : (gth s.th n).pc = 6
  · rw [if_pos c6]; exact h6
  rw [if_neg c6]
  by_cases c7 : (gth s.th n).pc = 7
  · rw [if_pos c7]; exact h7
  rw [if_neg c7]
  by_cases c8 : (gth s.th n).pc = 8
  · rw [if_pos c8]; exact h8
  rw [if_neg c8]
  exact h9
theorem recvN_0 {s : St} {n : Nat} (h : (gth s.th n).pc = 0) : recvN s n = (s.toRc (entL s.rc n)).onTh n (pcT · 1) := by unfold recvN; rw [h]; rfl
theorem recvN_1 {s : St} {n : Nat} (h : (gth s.th n).pc = 1) : recvN s n = firstR s n := by unfold recvN; rw [h]; rfl
theorem recvN_2 {s : St} {n : Nat} (h : (gth s.th n).pc = 2) : recvN s n = lookR s n := by unfold recvN; rw [h]; rfl
theorem recvN_3 {s : St} {n : Nat} (h : (gth s.th n).pc = 3) : recvN s n = takeR s n := by unfold recvN; rw [h]; rfl
theorem recvN_4 {s : St} {n : Nat} (h : (gth s.th n).pc = 4) : recvN s n = readR s n := by unfold recvN; rw [h]; rfl
theorem recvN_5 {s : St} {n : Nat} (h : (gth s.th n).pc = 5) : recvN s n = s.onTh n (seenT · s.ee 7) := by unfold recvN; rw [h]; rfl
theorem recvN_6 {s : St} {n : Nat} (h : (gth s.th n).pc = 6) : recvN s n = notifyR s n := by unfold recvN; rw [h]; rfl
theorem recvN_7 {s : St} {n : Nat} (h : (gth s.th n).pc = 7) : recvN s n = (if seesR s = 4 ∧ (gth s.th n).la = false then s.onTh n (pcT · 8) else s.onTh n (pcT · 2)) := by unfold recvN; rw [h]; rfl
theorem recvN_8 {s : St} {n : Nat} (h : (gth s.th n).pc = 8) : recvN s n = commitR s n := by unfold recvN; rw [h]; rfl
theorem recvN_9 {s : St} {n : Nat} (h : (gth s.th n).pc = 9 ∨ (gth s.th n).pc = 10 ∨ (gth s.th n).pc = 11) : recvN s n = (s.toRc (lvL s.rc n)).onTh n doneT := by unfold recvN; rcases h with h | h | h <;> rw [h] <;> rfl
/-! ### What may be stays so -/
theorem gotT_ok {t : Th} (h : thB t = true) (h1 : t.st ≠ 0) {g p : Int} (hp : 0 ≤ p ∧ p ≤ 11) : thB (gotT t g p) = true := by
  obtain ⟨st, ki, va, un, pc, re, se, tr, la, rs, go⟩ := t
  simp only [gotT] at *; rw [thB_iff] at *; omega
theorem seesR_bd (s : St) : 0 ≤ seesR s ∧ seesR s ≤ 7 := by
  unfold seesR tkR; repeat' split
  all_goals omega
/-- What one is told who looks for something. -/
theorem seesR_or {s : St} (h : stB s = true) : (seesR s = 1 ∧ s.md ≠ 2 ∧ s.hd < s.tl) ∨ (seesR s = 4 ∧ s.md = 0 ∧ s.hd = s.tl) ∨ (seesR s = 6 ∧ s.md = 1 ∧ s.hd = s.tl) ∨ (seesR s = 7 ∧ s.md = 2) := by
  have c := (word_ok h).1
  have hl := check_len c
  unfold seesR tkR haltB
  rw [c, some_iff c]
  by_cases h2 : s.md = 2
  · simp [h2]
  · by_cases hs : s.hd < s.tl
    · simp [h2, hs]
    · by_cases h1 : s.md = 1
      · simp [h1, hs]; omega
      · simp [h1, h2, hs]; omega
theorem takeW_ok {s : St} (h : stB s = true) (hs : seesR s = 1) : stB (s.toWord (s.hd + 1) s.tl s.md) = true := by
  have hl := check_len (word_ok h).1
  refine word_stB h (check_iff.2 ?_)
  rcases seesR_or h with ⟨-, h2, h3⟩ | ⟨h1, -⟩ | ⟨h1, -⟩ | ⟨h1, -⟩ <;> omega
theorem firstR_stB {s : St} (h : stB s = true) {n : Nat} (hn : n < s.th.length) (h1 : (gth s.th n).st ≠ 0) : stB (firstR s n) = true := by
  unfold firstR
  repeat' split
  · exact onTh_stB h (pcT_ok (gth_ok h hn) h1 (by decide))
  · exact told_stB h hn h1 (by decide) (by decide)
  · exact onTh_stB h (onT_ok (gth_ok h hn) h1)
theorem lookR_stB {s : St} (h : stB s = true) {n : Nat} (hn : n < s.th.length) (h1 : (gth s.th n).st ≠ 0) : stB (lookR s n) = true := by
  unfold lookR
  repeat' split
  · exact onTh_stB h (pcT_ok (gth_ok h hn) h1 (by decide))
  · exact told_stB h hn h1 (seesR_bd s) (by decide)
  · exact told_stB h hn h1 (by decide) (by decide)
  · exact told_stB h hn h1 (by decide) (by decide)
  · exact onTh_stB h (pcT_ok (gth_ok h hn) h1 (by decide))
  · exact onTh_stB h (onT_ok (gth_ok h hn) h1)
theorem gth_on {s : St} {n : Nat} (hn : n < s.th.length) (f : Th → Th) : gth (s.onTh n f).th n = f (gth s.th n) := by show gth (s.th.set n _) n = _; rw [gth_set hn, if_pos rfl]
theorem takeB_ok {s : St} (h : stB s = true) {n : Nat} (hn : n < s.th.length) (h1 : (gth s.th n).st ≠ 0) (hs : seesR s = 1) : stB ((s.toWord (s.hd + 1) s.tl s.md).onTh n (regT · s.hd 4)) = true := by
  have hl := check_len (word_ok h).1
  exact onTh_stB (takeW_ok h hs) (regT_ok (gth_ok h hn) h1 (by omega) (by decide))
theorem takeR_stB {s : St} (h : stB s = true) {n : Nat} (hn : n < s.th.length) (h1 : (gth s.th n).st ≠ 0) : stB (takeR s n) = true := by
  unfold takeR
  repeat' split
  · exact onTh_stB h (pcT_ok (gth_ok h hn) h1 (by decide))
  · exact told_stB h hn h1 (seesR_bd s) (by decide)
  · next h2 h3 =>
    have hs : seesR s = 1 := Classical.not_not.1 h3
    refine told_stB (takeB_ok h hn h1 hs) (by show n < (s.th.set n _).length; simpa using hn) ?_ (by decide) (by decide)
    have := gth_on (s := s.toWord (s.hd + 1) s.tl s.md) (n := n) hn (regT · s.hd 4)
    rw [this]; exact h1
theorem readR_stB {s : St} (h : stB s = true) {n : Nat} (hn : n < s.th.length) (h1 : (gth s.th n).st ≠ 0) : stB (readR s n) = true :=
  onTh_stB (sl_stB h (rl_len _ _) (rlL_ok (word_ok h).2.1 _)) (gotT_ok (gth_ok h hn) h1 (by decide))
theorem notifyR_stB {s : St} (h : stB s = true) {n : Nat} (hn : n < s.th.length) (h1 : (gth s.th n).st ≠ 0) : stB (notifyR s n) = true := by
  obtain ⟨-, -, d, -, e, -⟩ := full_lines h
  have h2 : stB (s.toFull (ntE s.fe s.fl) (ntL 1 s.fe s.fl)) = true := by
    refine full_stB h ?_ ?_
    · simp only [ntE, ntL, e, if_true]; exact okE_nx e (ok_drop (okE_ln e) 1)
    · simp only [ntL, e, if_true]; exact stn_sub d (ok_drop (okE_ln e) 1) (fun x hx => List.mem_of_mem_drop hx)
  have h3 : stB ((s.toFull (ntE s.fe s.fl) (ntL 1 s.fe s.fl)).onTh n (pcT · 9)) = true := onTh_stB h2 (pcT_ok (gth_ok h hn) h1 (by decide))
  unfold notifyR
  split
  · exact wake_stB h3 _
  · exact h3
theorem commitR_stB {s : St} (h : stB s = true) {n : Nat} (hn : n < s.th.length) (h1 : (gth s.th n).st ≠ 0) : stB (commitR s n) = true := by
  obtain ⟨-, -, -, c, -, e⟩ := full_lines h
  unfold commitR
  repeat' split
  · exact onTh_stB h (pcT_ok (gth_ok h hn) h1 (by decide))
  · next hb =>
    have hE : entE s.el n = 0 := by simp only [cmB, Bool.and_eq_true, beq_iff_eq] at hb; exact hb.1.2
    have h2 := stn_ent c (ok_th h hn).1
    rw [ent_yes hE] at h2
    exact onTh_stB (s := s.toEmpty s.ee (s.el ++ [(n : Int)])) (empty_stB h (okE_with e (ok_snoc hE)) h2) (parkT_ok (gth_ok h hn) h1 (by decide))
  · exact onTh_stB h (pcT_ok (gth_ok h hn) h1 (by decide))
theorem recvN_stB {s : St} (h : stB s = true) {n : Nat} (hn : n < s.th.length) (h1 : (gth s.th n).st ≠ 0) : stB (recvN s n) = true := by
  obtain ⟨-, a, -, -, -, e⟩ := full_lines h
  have he := okE_iff.1 e
  have hg := gth_ok h hn
  refine recvN_ind (P := fun u => stB u = true) ?_ ?_ ?_ ?_ ?_ ?_ ?_ ?_ ?_ ?_
  · exact onTh_stB (rc_stB h (stn_ent a (ok_th h hn).1)) (pcT_ok hg h1 (by decide))
  · exact firstR_stB h hn h1
  · exact lookR_stB h hn h1
  · exact takeR_stB h hn h1
  · exact readR_stB h hn h1
  · exact onTh_stB h (seenT_ok hg h1 (by omega) (by decide))
  · exact notifyR_stB h hn h1
  · split
    · exact onTh_stB h (pcT_ok hg h1 (by decide))
    · exact onTh_stB h (pcT_ok hg h1 (by decide))
  · exact commitR_stB h hn h1
  · exact onTh_stB (rc_stB h (stn_lv a)) (doneT_ok hg h1)
/-- What may be stays so, and what may not be is left. -/
theorem recvS_stB (s : St) (i : Int) : stB (recvS s i) = stB s := by
  unfold recvS
  split
  · next hr =>
    obtain ⟨hh, h1, -⟩ := runs_iff.1 hr
    obtain ⟨h, h2, h3⟩ := has_iff.1 hh
    rw [h]
    exact recvN_stB h (by omega) (by omega)
  · rfl

/-! ### Some steps -/
theorem recvK_off {s : St} {i : Int} (h : runsB s i 2 = false) (k : Nat) : recvK s i k = (s, 0) := by
  cases k with
  | zero => rfl
  | succ k => simp [recvK, h]
theorem recvK_on {s : St} {i : Int} (h : runsB s i 2 = true) (k : Nat) : recvK s i (k + 1) = ((recvK (recvS s i) i k).1, (recvK (recvS s i) i k).2 + 1) := by simp [recvK, h]
theorem recvK_add (i : Int) (b : Nat) : ∀ (a : Nat) (s : St), recvK s i (a + b) = ((recvK (recvK s i a).1 i b).1, (recvK s i a).2 + (recvK (recvK s i a).1 i b).2)
  | 0, s => by simp [recvK]
  | a + 1, s => by
    cases h : runsB s i 2
    · rw [recvK_off h, recvK_off h (a + 1)]; simp [recvK_off h]
    · rw [show a + 1 + b = (a + b) + 1 by omega, recvK_on h, recvK_on h, recvK_add i b a (recvS s i)]
      simp only [Prod.mk.injEq, true_and]; omega
theorem recvK_le (i : Int) : ∀ (k : Nat) (s : St), (recvK s i k).2 ≤ k
  | 0, s => by simp [recvK]
  | k + 1, s => by
    cases h : runsB s i 2
    · simp [recvK_off h]
    · rw [recvK_on h]; have := recvK_le i k (recvS s i); show _ + 1 ≤ _; omega
theorem recvK_none {s : St} {i : Int} {k : Nat} (h : (recvK s i k).2 = 0) : (recvK s i k).1 = s := by
  cases k with
  | zero => rfl
  | succ k =>
    cases hr : runsB s i 2
    · rw [recvK_off hr]
    · rw [recvK_on hr] at h; simp at h
theorem recvK_stB (i : Int) : ∀ (k : Nat) (s : St), stB (recvK s i k).1 = stB s
  | 0, s => rfl
  | k + 1, s => by
    cases h : runsB s i 2
    · rw [recvK_off h]
    · rw [recvK_on h]; show stB (recvK (recvS s i) i k).1 = _; rw [recvK_stB i k, recvS_stB]
theorem recvS_no {s : St} (h : stB s = false) (i : Int) : recvS s i = s := by simp [recvS, runsB, hasB, h]

/-! ### What changes -/
theorem recvN_things {s : St} {n : Nat} : thingsN s (recvN s n) ≤ 1 := by
  refine recvN_ind (P := fun u => thingsN s u ≤ 1) ?_ ?_ ?_ ?_ ?_ ?_ ?_ ?_ ?_ ?_
  · rw [things_shr (shr_on _ _ _)]; exact things_rc _ _
  · unfold firstR; refine things_none ?_; (repeat' split) <;> first | exact shr_told _ _ _ _ _ _ | rfl
  · unfold lookR; refine things_none ?_; (repeat' split) <;> first | exact shr_told _ _ _ _ _ _ | rfl
  · unfold takeR; split
    · exact things_none rfl
    · split
      · exact things_none (shr_told _ _ _ _ _ _)
      · rw [things_shr (shr_told _ _ _ _ _ _), things_shr (shr_on _ _ _)]; exact things_word _ _ _ _
  · unfold readR
    rw [things_shr (shr_on _ _ _)]
    refine things_sl _ _ ?_
    unfold rlL; split
    · exact diffL_set _ _ _
    · rw [diffL_self]; omega
  · exact things_none rfl
  · unfold notifyR; split
    · rw [things_shr (shr_wake _ _), things_shr (shr_on _ _ _)]; exact things_full _ _ _
    · rw [things_shr (shr_on _ _ _)]; exact things_full _ _ _
  · refine things_none ?_; split <;> rfl
  · unfold commitR; split
    · exact things_none rfl
    · split
      · rw [things_shr (shr_on _ _ _)]; exact things_empty _ _ _
      · exact things_none rfl
  · rw [things_shr (shr_on _ _ _)]; exact things_rc _ _
theorem recvS_things (s : St) (i : Int) : thingsN s (recvS s i) ≤ 1 := by
  unfold recvS; split
  · exact recvN_things
  · rw [things_self]; omega
theorem recvN_oth {s : St} {n : Nat} : Oth s.th (recvN s n).th n := by
  have tl : ∀ (u : St) (k r g p : Int), u.th = s.th → Oth s.th (toldS u n k r g p).th n := fun u k r g p hu => by
    obtain ⟨t, ht⟩ := th_told u n k r g p
    rw [ht, hu]; exact Oth.set t
  have tl2 : ∀ (u : St) (t : Th) (k r g p : Int), u.th = s.th.set n t → Oth s.th (toldS u n k r g p).th n := fun u t k r g p hu => by
    obtain ⟨t', ht⟩ := th_told u n k r g p
    rw [ht, hu, List.set_set]; exact Oth.set t'
  have on : ∀ (u : St) (f : Th → Th), u.th = s.th → Oth s.th (u.onTh n f).th n := fun u f hu => by
    show Oth s.th (u.th.set n _) n
    rw [hu]; exact Oth.set _
  refine recvN_ind (P := fun u => Oth s.th u.th n) ?_ ?_ ?_ ?_ ?_ ?_ ?_ ?_ ?_ ?_
  · exact on _ _ rfl
  · unfold firstR; (repeat' split) <;> first | exact tl _ _ _ _ _ rfl | exact on _ _ rfl
  · unfold lookR; (repeat' split) <;> first | exact tl _ _ _ _ _ rfl | exact on _ _ rfl
  · unfold takeR; split
    · exact on _ _ rfl
    · split
      · exact tl _ _ _ _ _ rfl
      · exact tl2 _ _ _ _ _ _ rfl
  · exact on _ _ rfl
  · exact on _ _ rfl
  · unfold notifyR wakeS
    repeat' split
    · next hh =>
      have hi := has_iff.1 hh
      refine Oth.wake _ ?_
      have h2 := hi.2.2
      simp only [St.onTh, St.setTh, List.length_set] at h2
      have e : (s.toFull (ntE s.fe s.fl) (ntL 1 s.fe s.fl)).th = s.th := rfl
      rw [e] at h2; omega
    · exact on _ _ rfl
    · exact on _ _ rfl
  · split <;> exact on _ _ rfl
  · unfold commitR; (repeat' split) <;> exact on _ _ rfl
  · exact on _ _ rfl
theorem recvS_oth {s : St} {i : Int} : Oth s.th (recvS s i).th i := by
  unfold recvS; split
  · next h =>
    have := (has_iff.1 (runs_iff.1 h).1).2.1
    have h2 := recvN_oth (s := s) (n := i.toNat)
    rwa [Int.toNat_of_nonneg this] at h2
  · exact Oth.refl _ _
theorem recvN_lgOk {s : St} {n : Nat} : LgOk s.lg (recvN s n).lg ∧ (recvN s n).cf = s.cf ∧ (recvN s n).nw = s.nw := by
  have tl : ∀ (u : St) (k r g p : Int), u.lg = s.lg → u.cf = s.cf → u.nw = s.nw → LgOk s.lg (toldS u n k r g p).lg ∧ (toldS u n k r g p).cf = s.cf ∧ (toldS u n k r g p).nw = s.nw := fun u k r g p h1 h2 h3 =>
    ⟨h1 ▸ lg_told u n k r g p, (cf_tell u n k r g).1.trans h2, (cf_tell u n k r g).2.trans h3⟩
  have no : ∀ (u : St), u.lg = s.lg → u.cf = s.cf → u.nw = s.nw → LgOk s.lg u.lg ∧ u.cf = s.cf ∧ u.nw = s.nw := fun u h1 h2 h3 => ⟨.inl h1, h2, h3⟩
  refine recvN_ind (P := fun u => LgOk s.lg u.lg ∧ u.cf = s.cf ∧ u.nw = s.nw) ?_ ?_ ?_ ?_ ?_ ?_ ?_ ?_ ?_ ?_
  all_goals (try unfold firstR); (try unfold lookR); (try unfold takeR); (try unfold readR); (try unfold notifyR); (try unfold wakeS); (try unfold commitR)
  all_goals (repeat' split) <;> first | exact tl _ _ _ _ _ rfl rfl rfl | exact no _ rfl rfl rfl
theorem recvS_lgOk (s : St) (i : Int) : LgOk s.lg (recvS s i).lg ∧ (recvS s i).cf = s.cf ∧ (recvS s i).nw = s.nw := by
  unfold recvS; split
  · exact recvN_lgOk
  · exact ⟨.inl rfl, rfl, rfl⟩
theorem recvN_sl {s : St} {n : Nat} : (recvN s n).sl.length = s.sl.length := by
  have tl : ∀ (u : St) (k r g p : Int), (toldS u n k r g p).sl = u.sl := fun u k r g p => by have := shr_told u n k r g p; simp only [shr, Prod.mk.injEq] at this; exact this.2.1
  refine recvN_ind (P := fun u => u.sl.length = s.sl.length) ?_ ?_ ?_ ?_ ?_ ?_ ?_ ?_ ?_ ?_
  all_goals (try unfold firstR); (try unfold lookR); (try unfold takeR); (try unfold readR); (try unfold notifyR); (try unfold wakeS); (try unfold commitR)
  all_goals (repeat' split) <;> first | rfl | exact congrArg List.length (tl _ _ _ _ _) | exact rl_len _ _

/-! ### What is told -/
end Go.Proofs.YtjbcfjfnobklkaaGreat

/- Layer 14, plain: who sends alone. -/
namespace Go.Proofs.YtjbcfjfnobklkaaGreat
set_option linter.unusedVariables false
set_option linter.unusedSimpArgs false
/-- A state of which one thread, the places, and the lines that it may change, are told. -/
def mkS (s : St) (k : Nat) (hd tl : Int) (sl : List Slo) (sn fl : List Int) (ee : Int) (t : Th) (lg : List En) : St := ⟨s.cf, hd, tl, s.md, sl, sn, s.rc, s.fe, fl, ee, s.el, s.nw, s.th.set k t, lg⟩
section
variable {s : St} {k : Nat} {hd tl : Int} {sl : List Slo} {sn fl : List Int} {ee : Int} {t : Th} {lg : List En}
theorem gth_mk (hk : k < s.th.length) : gth (mkS s k hd tl sl sn fl ee t lg).th k = t := by show gth (s.th.set k t) k = t; rw [gth_set hk, if_pos rfl]
theorem on_mk (hk : k < s.th.length) (f : Th → Th) : (mkS s k hd tl sl sn fl ee t lg).onTh k f = mkS s k hd tl sl sn fl ee (f t) lg := by
  unfold St.onTh; rw [gth_mk hk]; unfold St.setTh mkS; simp only [List.set_set]
theorem len_mk : (mkS s k hd tl sl sn fl ee t lg).th.length = s.th.length := by simp [mkS]
theorem runs_mk (hk : k < s.th.length) (hB : stB (mkS s k hd tl sl sn fl ee t lg) = true) (h1 : t.st = 1) (h2 : opSide t.ki = 1) : runsB (mkS s k hd tl sl sn fl ee t lg) k 1 = true := by
  refine runs_iff.2 ⟨has_of hB (by rw [len_mk]; exact hk), ?_, ?_⟩ <;> rw [Int.toNat_natCast, gth_mk hk] <;> assumption
theorem off_mk (hk : k < s.th.length) (h1 : t.st ≠ 1) : runsB (mkS s k hd tl sl sn fl ee t lg) k 1 = false := by
  cases h : runsB (mkS s k hd tl sl sn fl ee t lg) k 1
  · rfl
  · have := (runs_iff.1 h).2.1; rw [Int.toNat_natCast, gth_mk hk] at this; exact absurd this h1
theorem told_mk (hk : k < s.th.length) (hB : stB (mkS s k hd tl sl sn fl ee t lg) = true) (ki r g p : Int) : toldS (mkS s k hd tl sl sn fl ee t lg) k ki r g p = mkS s k hd tl sl sn fl ee (pcT (tellT t ki r g) p) (lg ++ [⟨k, ki, t.va, r, g⟩]) := by
  unfold toldS
  rw [tell_th hB (by rw [len_mk]; exact hk), gth_mk hk]
  have e : ((mkS s k hd tl sl sn fl ee t lg).setTh k (tellT t ki r g)).addLg ⟨k, ki, t.va, r, g⟩ = mkS s k hd tl sl sn fl ee (tellT t ki r g) (lg ++ [⟨k, ki, t.va, r, g⟩]) := by
    unfold St.setTh St.addLg mkS; simp only [List.set_set]
  rw [e, on_mk hk]
theorem is_mk (hk : k < s.th.length) (hB : stB (mkS s k hd tl sl sn fl ee t lg) = true) (h1 : t.st = 1) (h2 : opSide t.ki = 1) : sendS (mkS s k hd tl sl sn fl ee t lg) k = sendN (mkS s k hd tl sl sn fl ee t lg) k := by
  have := runs_mk hk hB h1 h2
  unfold sendS; rw [if_pos this, Int.toNat_natCast]
theorem n_0 (hk : k < s.th.length) (p : t.pc = 0) : sendN (mkS s k hd tl sl sn fl ee t lg) k = mkS s k hd tl sl (entL sn k) fl ee (pcT t 1) lg := by
  rw [sendN_0 (by rw [gth_mk hk]; exact p)]
  show (mkS s k hd tl sl (entL sn k) fl ee t lg).onTh k _ = _
  rw [on_mk hk]
theorem n_1 (hk : k < s.th.length) (p : t.pc = 1) (h : plI sn k = 0) : sendN (mkS s k hd tl sl sn fl ee t lg) k = mkS s k hd tl sl sn fl ee (pcT t 2) lg := by
  rw [sendN_1 (by rw [gth_mk hk]; exact p)]
  unfold firstS
  rw [if_pos (show plI (mkS s k hd tl sl sn fl ee t lg).sn k = 0 from h), on_mk hk]
theorem n_2 (hk : k < s.th.length) (p : t.pc = 2) (h : acR hd tl s.md sl.length = 1) : sendN (mkS s k hd tl sl sn fl ee t lg) k = mkS s k hd tl sl sn fl ee (regT t tl 3) lg := by
  rw [sendN_2 (by rw [gth_mk hk]; exact p)]
  unfold lookS
  rw [if_pos (show seesS (mkS s k hd tl sl sn fl ee t lg) = 1 from h), on_mk hk]
  rfl
theorem n_3 (hk : k < s.th.length) (p : t.pc = 3) (h : wrE sl t.re = 0) : sendN (mkS s k hd tl sl sn fl ee t lg) k = mkS s k hd tl (wrL sl t.re t.va) sn fl ee (pcT t 4) lg := by
  rw [sendN_3 (by rw [gth_mk hk]; exact p), gth_mk hk]
  rw [if_pos (show wrE (mkS s k hd tl sl sn fl ee t lg).sl t.re = 0 from h)]
  show (mkS s k hd tl (wrL sl t.re t.va) sn fl ee t lg).onTh k _ = _
  rw [on_mk hk]
theorem n_4 (hk : k < s.th.length) (hB : stB (mkS s k hd tl sl sn fl ee t lg) = true) (p : t.pc = 4) (h : acR hd tl s.md sl.length = 1) : sendN (mkS s k hd tl sl sn fl ee t lg) k = mkS s k hd (tl + 1) sl sn fl ee (pcT (tellT t t.ki 1 0) 6) (lg ++ [⟨k, t.ki, t.va, 1, 0⟩]) := by
  rw [sendN_4 (by rw [gth_mk hk]; exact p)]
  unfold acceptS
  rw [if_pos (show seesS (mkS s k hd tl sl sn fl ee t lg) = 1 from h), gth_mk hk]
  have hw : stB ((mkS s k hd tl sl sn fl ee t lg).toWord (mkS s k hd tl sl sn fl ee t lg).hd ((mkS s k hd tl sl sn fl ee t lg).tl + 1) (mkS s k hd tl sl sn fl ee t lg).md) = true := by
    have h2 := ac_check (word_ok hB).1
    rw [(ac_y (show acR (mkS s k hd tl sl sn fl ee t lg).hd (mkS s k hd tl sl sn fl ee t lg).tl (mkS s k hd tl sl sn fl ee t lg).md (mkS s k hd tl sl sn fl ee t lg).sl.length = 1 from h)).1] at h2
    exact word_stB hB h2
  show toldS (mkS s k hd (tl + 1) sl sn fl ee t lg) k _ _ _ _ = _
  exact told_mk hk hw _ _ _ _
theorem n_6 (hk : k < s.th.length) (p : t.pc = 6) (h : s.el = []) : sendN (mkS s k hd tl sl sn fl ee t lg) k = mkS s k hd tl sl sn fl (ntE ee []) (pcT t 9) lg := by
  rw [sendN_6 (by rw [gth_mk hk]; exact p)]
  unfold notifyS
  have e1 : (mkS s k hd tl sl sn fl ee t lg).el = [] := h
  have e2 : hdB (ntT 1 (mkS s k hd tl sl sn fl ee t lg).ee []) = false := by unfold ntT; split <;> rfl
  have e3 : ntL 1 (mkS s k hd tl sl sn fl ee t lg).ee [] = [] := by unfold ntL; split <;> rfl
  rw [e1, e2, e3, if_neg (by decide)]
  have e4 : (mkS s k hd tl sl sn fl ee t lg).toEmpty (ntE (mkS s k hd tl sl sn fl ee t lg).ee []) [] = mkS s k hd tl sl sn fl (ntE ee []) t lg := by unfold St.toEmpty mkS; rw [h]
  rw [e4, on_mk hk]
theorem n_9 (hk : k < s.th.length) (p : t.pc = 9) : sendN (mkS s k hd tl sl sn fl ee t lg) k = mkS s k hd tl sl (lvL sn k) fl ee (doneT t) lg := by
  rw [sendN_9 (by rw [gth_mk hk]; exact p)]
  show (mkS s k hd tl sl (lvL sn k) fl ee t lg).onTh k _ = _
  rw [on_mk hk]
/-! What there is no room for. -/
end
theorem mk_self (s : St) (k : Nat) (t : Th) : s.setTh k t = mkS s k s.hd s.tl s.sl s.sn s.fl s.ee t s.lg := rfl
theorem ent_one {k : Nat} (hk : k < 16) : entL [] (k : Int) = [(k : Int)] := by
  have : entE [] (k : Int) = 0 := by
    have h1 : noneB 16 (k : Int) = false := by unfold noneB; simp; omega
    simp [entE, h1, okLn]
  rw [ent_yes this]; rfl
theorem pl_one {k : Nat} (hk : k < 16) : plI [(k : Int)] k = 0 := by
  have h1 : noneB 16 (k : Int) = false := by unfold noneB; simp; omega
  have : okLn [(k : Int)] = true := by simp [okLn, h1]
  simp [plI, this, ixI]
theorem lv_one {k : Nat} (hk : k < 16) : lvL [(k : Int)] k = [] := by
  unfold lvL; rw [pl_one hk]; rfl
/-- Some steps lead from one state to another one. -/
def Goes (k : Nat) (a : St) (n : Nat) (u : St) : Prop := stB a = true → stB u = true ∧ ∀ m, sendK a k (m + n) = ((sendK u k m).1, (sendK u k m).2 + n)
theorem Goes.trans {k n n' : Nat} {a b c : St} (h : Goes k a n b) (h' : Goes k b n' c) : Goes k a (n + n') c := fun ha => by
  obtain ⟨hb, e⟩ := h ha
  obtain ⟨hc, e'⟩ := h' hb
  refine ⟨hc, fun m => ?_⟩
  rw [show m + (n + n') = m + n' + n by omega, e, e']
  simp only [Prod.mk.injEq, true_and]; omega
section
variable {s u : St} {k : Nat} {hd tl : Int} {sl : List Slo} {sn fl : List Int} {ee : Int} {t : Th} {lg : List En}
theorem Goes.one (hk : k < s.th.length) (h1 : t.st = 1) (h2 : opSide t.ki = 1) (hu : stB (mkS s k hd tl sl sn fl ee t lg) = true → sendN (mkS s k hd tl sl sn fl ee t lg) k = u) : Goes k (mkS s k hd tl sl sn fl ee t lg) 1 u := fun hB => by
  have e := is_mk hk hB h1 h2
  rw [hu hB] at e
  refine ⟨by rw [← e, sendS_stB]; exact hB, fun m => ?_⟩
  rw [sendK_on (runs_mk hk hB h1 h2), e]
end
/-- One that sends: at which step; Reg, Seen, Tries, Result. -/
abbrev tS (ki v pc re se tr rs : Int) : Th := ⟨1, ki, v, 0, pc, re, se, tr, false, rs, 0⟩
abbrev tD (ki v rs : Int) : Th := ⟨0, ki, v, 0, 0, 0, 0, 0, false, rs, 0⟩
theorem tS_ok {ki v : Int} (h : 1 ≤ ki ∧ ki ≤ 3) : thB (tS ki v 0 0 0 0 0) = true := by
  rw [thB_iff]; have : bI false = 0 := rfl; omega
theorem tS_tell {ki v pc re se tr rs r p : Int} (h : opSide ki = 1) : pcT (tellT (tS ki v pc re se tr rs) ki r 0) p = tS ki v p re se tr r := by
  have h9 : ki ≠ 9 := by have := side_is ki; omega
  unfold tellT; rw [if_neg h9]; rfl
section
variable {s : St} {k : Nat} {hd tl : Int} {sl : List Slo} {fl : List Int} {ee : Int} {ki v re se tr rs : Int} {lg : List En} (hk : k < s.th.length) (h16 : k < 16) (hki : opSide ki = 1)
include hk hki
/-- From where it was told to the end. -/
theorem end_go (h16 : k < 16) : Goes k (mkS s k hd tl sl [(k : Int)] fl ee (tS ki v 9 re se tr rs) lg) 1 (mkS s k hd tl sl [] fl ee (tD ki v rs) lg) :=
  Goes.one hk rfl hki fun _ => by rw [n_9 hk rfl, lv_one h16]; rfl
/-- From where there is room, to the end. -/
theorem room_go (h16 : k < 16) (hel : s.el = []) (hs : acR hd tl s.md sl.length = 1) (hw : wrE sl tl = 0) :
    Goes k (mkS s k hd tl sl [(k : Int)] fl ee (tS ki v 2 re se tr rs) lg) 5 (mkS s k hd (tl + 1) (wrL sl tl v) [] fl (ntE ee []) (tD ki v 1) (lg ++ [⟨k, ki, v, 1, 0⟩])) := by
  have g2 : Goes k (mkS s k hd tl sl [(k : Int)] fl ee (tS ki v 2 re se tr rs) lg) 1 (mkS s k hd tl sl [(k : Int)] fl ee (tS ki v 3 tl se tr rs) lg) := Goes.one hk rfl hki fun _ => n_2 hk rfl hs
  have g3 : Goes k (mkS s k hd tl sl [(k : Int)] fl ee (tS ki v 3 tl se tr rs) lg) 1 (mkS s k hd tl (wrL sl tl v) [(k : Int)] fl ee (tS ki v 4 tl se tr rs) lg) := Goes.one hk rfl hki fun _ => n_3 hk rfl hw
  have g4 : Goes k (mkS s k hd tl (wrL sl tl v) [(k : Int)] fl ee (tS ki v 4 tl se tr rs) lg) 1 (mkS s k hd (tl + 1) (wrL sl tl v) [(k : Int)] fl ee (tS ki v 6 tl se tr 1) (lg ++ [⟨k, ki, v, 1, 0⟩])) :=
    Goes.one hk rfl hki fun hB => by
      rw [n_4 hk hB rfl (by rw [wr_len]; exact hs)]
      show mkS s k hd (tl + 1) (wrL sl tl v) [(k : Int)] fl ee (pcT (tellT (tS ki v 4 tl se tr rs) ki 1 0) 6) _ = _
      rw [tS_tell hki]
  have g6 : Goes k (mkS s k hd (tl + 1) (wrL sl tl v) [(k : Int)] fl ee (tS ki v 6 tl se tr 1) (lg ++ [⟨k, ki, v, 1, 0⟩])) 1 (mkS s k hd (tl + 1) (wrL sl tl v) [(k : Int)] fl (ntE ee []) (tS ki v 9 tl se tr 1) (lg ++ [⟨k, ki, v, 1, 0⟩])) := Goes.one hk rfl hki fun _ => n_6 hk rfl hel
  exact (((g2.trans g3).trans g4).trans g6).trans (end_go hk hki h16)
/-- From the beginning to where it looks. -/
theorem head_go (h16 : k < 16) : Goes k (mkS s k hd tl sl [] fl ee (tS ki v 0 re se tr rs) lg) 2 (mkS s k hd tl sl [(k : Int)] fl ee (tS ki v 2 re se tr rs) lg) := by
  have g0 : Goes k (mkS s k hd tl sl [] fl ee (tS ki v 0 re se tr rs) lg) 1 (mkS s k hd tl sl [(k : Int)] fl ee (tS ki v 1 re se tr rs) lg) := Goes.one hk rfl hki fun _ => by rw [n_0 hk rfl, ent_one h16]; rfl
  exact g0.trans (Goes.one hk rfl hki fun _ => n_1 hk rfl (pl_one h16))
end
/-- Who has ended makes no more steps. -/
theorem Goes.ends {a u : St} {k n : Nat} (h : Goes k a n u) (ha : stB a = true) (hu : ∀ m, sendK u k m = (u, 0)) {m : Nat} (hm : n ≤ m) : sendK a k m = (u, n) := by
  obtain ⟨-, e⟩ := h ha
  have := e (m - n)
  rw [show m - n + n = m by omega, hu] at this
  rw [this]; simp
end Go.Proofs.YtjbcfjfnobklkaaGreat
