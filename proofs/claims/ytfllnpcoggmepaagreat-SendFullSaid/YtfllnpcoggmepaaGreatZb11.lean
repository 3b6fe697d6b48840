/- Texts merged: AcLQ, AcMQ, AcNQ, AcOQ, AcTQ, AcPQ, AcQQ, AcRQ, SdPQ, SdKQ, EqLQ, AcSQ, SdQQ, FifoRQ. -/
import Derived.Test.YtfllnpcoggmepaaGreatZb10
import Derived.Test.YtfllnpcoggmepaaGreatZb5
import Derived.Test.YtfllnpcoggmepaaGreatZb7
import Derived.Test.YtfllnpcoggmepaaGreatZb9
import Derived.Test.YtfllnpcoggmepaaGreatZb6
import Derived.Test.YtfllnpcoggmepaaGreatZb8
import Derived.Test.YtfllnpcoggmepaaGreatZb3
import Derived.Laws.StructEq
import Derived.LoopTactic
import Derived.Lib.Hide
/- The document's Step, case by case, told by plain states. -/
namespace Go.Proofs.YtfllnpcoggmepaaGreat
set_option linter.unusedVariables false
set_option linter.unusedSimpArgs false
open Go.RowKit
/-- What is true of a state in which thread n, at step c, sends. -/
structure Dn (s : St) (n : Nat) (c : Int) : Prop where
  ck : stB s = true
  ok : s.ok
  few : s.few
  hn : n < s.th.length
  st : (gth s.th n).st = 1
  sd : opSide (gth s.th n).ki = 1
  pc : (gth s.th n).pc = c
section
variable {s : St} {n : Nat} {c : Int}
theorem Dn.ht (h : Dn s n c) : gth s.th n = pcT (gth s.th n) c := by rw [← h.pc]; rfl
theorem Dn.ix (h : Dn s n c) : IxP ((s.th.map thT).toArray) (n : Int) (thT (pcT (gth s.th n) c)) := by
  have := ixT h.hn
  rw [h.ht] at this
  exact this
theorem Dn.has (h : Dn s n c) : hasB s n = true := has_of h.ck h.hn
theorem Dn.ru (h : Dn s n c) : runsB s n 1 = true := runs_iff.2 ⟨h.has, by simpa using h.st, by simpa using h.sd⟩
theorem Dn.rs (h : Dn s n c) : thRuns (gth s.th n).st = 0 := by rw [h.st]; rfl
theorem Dn.i15 (h : Dn s n c) : (0 : Int) ≤ n ∧ (n : Int) ≤ 15 := (ok_th h.ck h.hn).2
theorem Dn.ful (h : Dn s n c) : okE s.fe s.fl = true := (full_lines h.ck).2.2.2.2.1
theorem Dn.sl (h : Dn s n c) : okSl s.sl = true := (word_ok h.ck).2.1
theorem Dn.bd (h : Dn s n c) : 0 ≤ (gth s.th n).re ∧ (gth s.th n).re ≤ 1099511627776 ∧ 0 ≤ (gth s.th n).tr ∧ (gth s.th n).tr ≤ 1099511627776 := by
  have h1 := gth_ok h.ck h.hn
  generalize gth s.th n = t at h1
  obtain ⟨st, ki, va, un, pc, re, se, tr, la, rs, go⟩ := t
  rw [thB_iff] at h1
  simp only
  omega
theorem Dn.rei (h : Dn s n c) : In64 (gth s.th n).re := by have := h.bd; constructor <;> omega
theorem Dn.len (h : Dn s n c) : In64 (s.sl.length : Int) := by have := h.few.sl; constructor <;> omega
theorem Dn.see {r : Int} (h : Dn s n c) (hs : seesS s = r) : AC Tryz.prog 98 [wdT s.hd s.tl s.md, .int .i64 s.sl.length] (.tuple #[wdT s.hd (acT s.hd s.tl s.md s.sl.length) s.md, .int .i64 (acP s.hd s.tl s.md s.sl.length), .int .i64 r]) := hs ▸ ac_raccept s.hd s.tl s.md s.sl.length h.ok.hd h.ok.tl h.ok.md h.len
theorem Dn.nx {v : Int} (_h : Dn s n c) (hn : waySt s (gth s.th n).tr = v) : AC Tryz.prog 167 [cfT s.cf, .int .i64 (gth s.th n).tr] (.int .i64 v) := by subst hn; exact ac_rnext s.cf (gth s.th n).tr
theorem Dn.evi {b : Bool} (h : Dn s n c) (hb : evwB s.hd s.tl s.md s.sl.length (gth s.th n).re = b) : AC Tryz.prog 106 [wdT s.hd s.tl s.md, .int .i64 s.sl.length, .int .i64 (gth s.th n).re] (.tuple #[wdT (evH s.hd s.tl s.md s.sl.length (gth s.th n).re) s.tl s.md, .bool b]) := ac_revict hb h.ok.hd h.ok.tl h.ok.md h.len h.rei
theorem Dn.con (h : Dn s n c) (hb : cmB s.fe s.fl (gth s.th n).se n = false) : AC Tryz.prog 102 [evT s.fe s.fl, .int .i64 (gth s.th n).se, .int .i64 n] (.tuple #[evT s.fe s.fl, .bool false, .int .i64 (entE s.fl n)]) := by
  have := ac_rcommit hb h.ful h.i15
  rw [show cmL s.fe s.fl (gth s.th n).se n = s.fl by unfold cmL; rw [hb]; rfl] at this
  exact this
end
end Go.Proofs.YtfllnpcoggmepaaGreat

/- The document's Step is the step of plain states; Steps as many as there are. -/
namespace Go.Proofs.YtfllnpcoggmepaaGreat
set_option linter.unusedVariables false
set_option linter.unusedSimpArgs false
open Go.RowKit
section
variable {s : St} {n : Nat} {c : Int}
theorem Dn.sp (h : Dn s n c) (hl : s.lg.length ≤ 999999) : Sp s n 1 0 := ⟨by decide, h.ck, h.ok, h.hn, h.st, h.sd, hl, by constructor <;> omega⟩
end
end Go.Proofs.YtfllnpcoggmepaaGreat

/- The document's Steps: as many steps as there are, told by plain states. -/
namespace Go.Proofs.YtfllnpcoggmepaaGreat
set_option linter.unusedVariables false
set_option linter.unusedSimpArgs false
open Go.RowKit
theorem few_of {s : St} (h : stB s = true) (hl : s.lg.length ≤ 1000) : s.few := by
  obtain ⟨a, b, c, d, -, -⟩ := full_lines h
  have h1 := th_len h
  have h2 := ok_len (stn_iff.1 a).1
  have h3 := ok_len (stn_iff.1 b).1
  have h4 := ok_len (stn_iff.1 c).1
  have h5 := ok_len (stn_iff.1 d).1
  have h6 := (ok_iff.1 (word_ok h).2.1).1
  exact ⟨by omega, by omega, by omega, by omega, by omega, by omega, hl⟩
section
variable {s : St} {i m o : Int} {b : Bool}
end
end Go.Proofs.YtfllnpcoggmepaaGreat

/- Contracts told by abstract values: whether two states are one. -/
namespace Go.Proofs.YtfllnpcoggmepaaGreat
set_option linter.unusedVariables false
set_option linter.unusedSimpArgs false
open Go.RowKit
theorem ac_rints (l : List Int) (hm : l.length ≤ 1000000) : AC Tryz.prog 28 [rowI l, rowI l] (.bool true) := by
  intro O W vs hl hat ; obtain ⟨ys, rfl, _, _, rfl, h0, _, _, rfl, h1, rfl⟩ := args_of hat
  obtain ⟨p, k, rfl, hs⟩ := rp_rowI.1 h0
  obtain ⟨q, k', rfl, ht⟩ := rp_rowI.1 h1
  refine (rints_any l l p q k k' W hs.s ht.s (by omega)).mono ?_
  rintro e W' ⟨rfl, hk⟩
  exact ⟨_, rfl, rp_bool.2 (by simp), hk⟩
theorem ac_rssame (l : List Slo) (hm : l.length ≤ 1000) : AC Tryz.prog 34 [rowS l, rowS l] (.bool true) := by
  intro O W vs hl hat ; obtain ⟨ys, rfl, _, _, rfl, h0, _, _, rfl, h1, rfl⟩ := args_of hat
  obtain ⟨p, k, rfl, hs⟩ := rp_rowS.1 h0
  obtain ⟨q, k', rfl, ht⟩ := rp_rowS.1 h1
  refine (rssame_any l l p q k k' W hs.s ht.s hm).mono ?_
  rintro e W' ⟨rfl, hk⟩
  exact ⟨_, rfl, rp_bool.2 (by simp), hk⟩
theorem ask_th (t : Th) (x y : Operand) : AskP Tryz.prog (.binOp .neq 44 x y 44) [thT t, thT t] (.bool false) :=
  ask_bin (fun x y W => (guard_agg (by kernel_rfl) x y _ _ W).1) (fun W => by simpa using th_neq t t W) x y
theorem ask_en (t : En) (x y : Operand) : AskP Tryz.prog (.binOp .neq 60 x y 60) [enT t, enT t] (.bool false) :=
  ask_bin (fun x y W => (guard_agg (by kernel_rfl) x y _ _ W).1) (fun W => by simpa using en_neq t t W) x y
theorem ask_cf (c : Cf) (x y : Operand) : AskP Tryz.prog (.binOp .eql 23 x y 23) [cfT c, cfT c] (.bool true) :=
  ask_bin (fun x y W => (guard_agg (by kernel_rfl) x y _ _ W).2) (fun W => by simpa using cf_eql c c W) x y
theorem ask_wd (h t m : Int) (x y : Operand) : AskP Tryz.prog (.binOp .eql 25 x y 25) [wdT h t m, wdT h t m] (.bool true) :=
  ask_bin (fun x y W => (guard_agg (by kernel_rfl) x y _ _ W).2) (fun W => by simpa using wo_eql ⟨h, t, m⟩ ⟨h, t, m⟩ W) x y
def hdTh (l : List Th) (i : Int) : Sg := ⟨mkT 26 [(0, rowT l), (1, rowT l), (5, .int .i64 i)], []⟩
def hdEn (l : List En) (i : Int) : Sg := ⟨mkT 26 [(0, rowE l), (1, rowE l), (5, .int .i64 i)], []⟩
def gle (l : List En) (i : Nat) : En := l.getD i ⟨0, 0, 0, 0, 0⟩
theorem ixEn {l : List En} {i : Nat} (h : i < l.length) : IxP ((l.map enT).toArray) (i : Int) (enT (gle l i)) := ⟨by omega, by simp [gle, h]⟩
set_option maxRecDepth 100000 in
theorem th_lp (l : List Th) (hm : l.length ≤ 1000000) : ∀ (k i : Nat), l.length - i = k → i ≤ l.length → LoopP Tryz.prog (loopOf Tryz.prog 36 0) (hdTh l i) (.exit 0) (hdTh l l.length)
  | 0, i, hk, hi => by
    have : i = l.length := by omega
    subst this
    exact loop_end mixed (fuel := 9) (n := 3) (im := []) (keep := [0, 1, 5]) (ext := []) (orc := [.bool false]) (an (show decide ((l.length : Int) < l.length) = false by simp) trivial) (by intro e; cases e) (by kernel_rfl)
  | k + 1, i, hk, hi => by
    have ih := th_lp l hm k (i + 1) (by omega) (by omega)
    rw [show ((i + 1 : Nat) : Int) = (i : Int) + 1 by omega] at ih
    exact loop_more mixed (fuel := 9) (n := 3) (im := []) (keep := [0, 1, 5]) (ext := []) (orc := [.bool true, thT (gth l i), thT (gth l i), .bool false, .bool false])
      (an (show decide ((i : Int) < l.length) = true by simp; omega) <| an (ixT (l := l) (n := i) (by omega)) <| an (ixT (l := l) (n := i) (by omega)) <| an (ask_th (gth l i) (.tmp 20) (.tmp 24)) <| an (rfl : false = false) <| an (show In64 ((i : Int) + 1) by constructor <;> omega) trivial) (by kernel_rfl) ih
set_option maxRecDepth 100000 in
theorem en_lp (l : List En) (hm : l.length ≤ 1000000) : ∀ (k i : Nat), l.length - i = k → i ≤ l.length → LoopP Tryz.prog (loopOf Tryz.prog 20 0) (hdEn l i) (.exit 0) (hdEn l l.length)
  | 0, i, hk, hi => by
    have : i = l.length := by omega
    subst this
    exact loop_end mixed (fuel := 9) (n := 3) (im := []) (keep := [0, 1, 5]) (ext := []) (orc := [.bool false]) (an (show decide ((l.length : Int) < l.length) = false by simp) trivial) (by intro e; cases e) (by kernel_rfl)
  | k + 1, i, hk, hi => by
    have ih := en_lp l hm k (i + 1) (by omega) (by omega)
    rw [show ((i + 1 : Nat) : Int) = (i : Int) + 1 by omega] at ih
    exact loop_more mixed (fuel := 9) (n := 3) (im := []) (keep := [0, 1, 5]) (ext := []) (orc := [.bool true, enT (gle l i), enT (gle l i), .bool false, .bool false])
      (an (show decide ((i : Int) < l.length) = true by simp; omega) <| an (ixEn (l := l) (i := i) (by omega)) <| an (ixEn (l := l) (i := i) (by omega)) <| an (ask_en (gle l i) (.tmp 20) (.tmp 24)) <| an (rfl : false = false) <| an (show In64 ((i : Int) + 1) by constructor <;> omega) trivial) (by kernel_rfl) ih
set_option maxRecDepth 100000 in
theorem ac_rthreads (l : List Th) (hm : l.length ≤ 1000000) : AC Tryz.prog 36 [rowT l, rowT l] (.bool true) :=
  ac_path mixed (ext := []) (fuel := 9) (n := 3) (orc := [.bool false, oL [] [0, 1, 5] 0 [(0, rowT l), (1, rowT l), (5, .int .i64 l.length)] []])
    (an (show ((l.length : Int) != l.length) = false by simp) <| an (th_lp l hm l.length 0 rfl (by omega)) trivial) (by kernel_rfl)
set_option maxRecDepth 100000 in
theorem ac_rlogs (l : List En) (hm : l.length ≤ 1000000) : AC Tryz.prog 20 [rowE l, rowE l] (.bool true) :=
  ac_path mixed (ext := []) (fuel := 9) (n := 3) (orc := [.bool false, oL [] [0, 1, 5] 0 [(0, rowE l), (1, rowE l), (5, .int .i64 l.length)] []])
    (an (show ((l.length : Int) != l.length) = false by simp) <| an (en_lp l hm l.length 0 rfl (by omega)) trivial) (by kernel_rfl)
set_option maxRecDepth 100000 in
theorem ac_resame (ep : Int) (l : List Int) (hm : l.length ≤ 1000000) : AC Tryz.prog 35 [evT ep l, evT ep l] (.bool true) := by
  rw [show (true : Bool) = (ep == ep) by simp]
  exact ac_path mixed (ext := [28]) (fuel := 9) (n := 3) (orc := [vD true]) (an (ac_rints l hm) trivial) (by kernel_rfl)
set_option maxRecDepth 100000 in
/-- A state is the same as itself. -/
theorem ac_rsame {s : St} (hw : s.few) (hl : s.lg.length ≤ 1000000) : AC Tryz.prog 14 [stT s, stT s] (.bool true) :=
  ac_path mixed (ext := [34, 28, 35, 36, 20]) (fuel := 9) (n := 3)
    (orc := [.bool true, .nilFunc, .bool true, .nilFunc, vD true, vD true, vD true, vD true, vD true, vD true, vD true, .bool true])
    (an (ask_cf s.cf (.tmp 10) (.tmp 12)) <| an (ask_wd s.hd s.tl s.md (.tmp 16) (.tmp 18)) <| an (ac_rssame s.sl hw.sl) <| an (ac_rints s.sn (by have := hw.sn; omega)) <| an (ac_rints s.rc (by have := hw.rc; omega)) <| an (ac_resame s.fe s.fl (by have := hw.fl; omega)) <| an (ac_resame s.ee s.el (by have := hw.el; omega)) <|
      an (ac_rthreads s.th (by have := hw.th; omega)) <| an (ac_rlogs s.lg hl) <| an (show (s.nw == s.nw) = true by simp) trivial) (by kernel_rfl)
end Go.Proofs.YtfllnpcoggmepaaGreat

/- Contracts told by abstract values: the program's New, Invoke, Queue, by the engine. -/
namespace Go.Proofs.YtfllnpcoggmepaaGreat
set_option linter.unusedVariables false
set_option linter.unusedSimpArgs false
open Go.RowKit
def quT (q : Qu) : Value := .agg #[rowI q.vals, .int .i64 q.cap, .int .i64 q.pol, .int .i64 q.mode]
theorem ac_ccheck {c : Cf} {r : Int} (h : (if cfB c = true then 0 else 20) = r) : AC Tryz.prog 54 [cfT c] (.int .i64 r) := by
  intro O W vs hl hat ; obtain ⟨ys, rfl, _, _, rfl, h0, rfl⟩ := args_of hat
  rw [rp_cfT] at h0
  subst h0
  refine (ccheck_val (b := cfB c) (Lib.hid rfl) W).mono ?_
  rintro e W' ⟨rfl, hk⟩
  exact ⟨_, rfl, rp_int.2 (by rw [h]), hk⟩
theorem ac_croom (c : Cf) : AC Tryz.prog 60 [cfT c] (.int .i64 (cfR c)) := by
  intro O W vs hl hat ; obtain ⟨ys, rfl, _, _, rfl, h0, rfl⟩ := args_of hat
  rw [rp_cfT] at h0
  subst h0
  refine (croom_any c.lg c.th c.po c.wt c.sp c.yi c.si W).mono ?_
  rintro e W' ⟨rfl, hk⟩
  exact ⟨_, rfl, rp_int.2 rfl, hk⟩
theorem ac_snew (r : Int) (hr : In64 r) : AC Tryz.prog 59 [.int .i64 r] (rowS (newL r)) := by
  intro O W vs hl hat ; obtain ⟨ys, rfl, _, _, rfl, h0, rfl⟩ := args_of hat
  rw [rp_int] at h0
  subst h0
  refine (snew_any r hr W).mono ?_
  rintro e W' ⟨p, k, rfl, ho, hk⟩
  exact ⟨_, rfl, rowS_own hl ho, hk⟩
theorem ac_omay {c : Cf} {i k r : Int} (h : opMay c.th c.si i k = r) : AC Tryz.prog 62 [cfT c, .int .i64 i, .int .i64 k] (.int .i64 r) := by
  intro O W vs hl hat ; obtain ⟨ys, rfl, _, _, rfl, h0, _, _, rfl, h1, _, _, rfl, h2, rfl⟩ := args_of hat
  rw [rp_cfT] at h0
  rw [rp_int] at h1 h2
  subst h0 h1 h2
  refine (omay_any c.lg c.th c.po c.wt c.sp c.yi c.si i k W).mono ?_
  rintro e W' ⟨rfl, hk⟩
  exact ⟨_, rfl, rp_int.2 (by rw [h]), hk⟩
theorem ac_tbeg {t r : Th} {k v u E : Int} (h : thBeg t k v u E r) : AC Tryz.prog 63 [thT t, .int .i64 k, .int .i64 v, .int .i64 u] (.tuple #[thT r, .int .i64 E]) := by
  intro O W vs hl hat ; obtain ⟨ys, rfl, _, _, rfl, h0, _, _, rfl, h1, _, _, rfl, h2, _, _, rfl, h3, rfl⟩ := args_of hat
  rw [rp_thT] at h0
  rw [rp_int] at h1 h2 h3
  subst h0 h1 h2 h3
  refine (tbeg_val h W).mono ?_
  rintro e W' ⟨rfl, hk⟩
  exact ⟨_, rfl, tup2 (rp_thT.2 rfl) (rp_int.2 rfl), hk⟩
theorem ac_place {p r : Int} (hp : In64 p) (hr : In64 r) : AC Tryz.prog 130 [.int .i64 p, .int .i64 r] (.int .i64 (placeI p r)) := by
  intro O W vs hl hat ; obtain ⟨ys, rfl, _, _, rfl, h0, _, _, rfl, h1, rfl⟩ := args_of hat
  rw [rp_int] at h0 h1
  subst h0 h1
  refine (place_any p r hp hr W).mono ?_
  rintro e W' ⟨rfl, hk⟩
  exact ⟨_, rfl, rp_int.2 rfl, hk⟩
theorem make_th {n : Int} (h0 : 0 ≤ n) (h1 : n ≤ 1000) : MakeP n n (List.replicate n.toNat th0).length ((List.replicate n.toNat th0).map thT) (thT th0) := ⟨by simp; omega, by omega, by omega, by simp⟩
set_option maxRecDepth 100000 in
theorem ac_pnew {c : Cf} (hc : cfB c = true) : AC Tryz.prog 22 [cfT c] (.tuple #[stT (newSt c), .int .i64 0]) :=
  ac_path mixed (ext := [54, 60, 59]) (fuel := 9) (n := 4) (orc := [.int .i64 0, .nilFunc, .int .i64 (cfR c), rowS (newL (cfR c)), rowT (List.replicate c.th.toNat th0)])
    (an (ac_ccheck (c := c) (r := 0) (by simp [hc])) <| an (ac_croom c) <| an (ac_snew (cfR c) (room_in c)) <| an (make_th (n := c.th) (by have := cf_th hc; omega) (by have := cf_th hc; omega)) <| an (len_map (f := thT) (List.replicate c.th.toNat th0)) trivial) (by kernel_rfl)
set_option maxRecDepth 100000 in
theorem ac_pnew_no {c : Cf} (hc : cfB c = false) : AC Tryz.prog 22 [cfT c] (.tuple #[stT st0, .int .i64 20]) :=
  ac_path mixed (ext := [54, 60, 59]) (fuel := 9) (n := 4) (orc := [.int .i64 20, .nilFunc])
    (an (ac_ccheck (c := c) (r := 20) (by simp [hc])) trivial) (by kernel_rfl)
set_option maxRecDepth 100000 in
theorem ac_pinv_1 {s : St} {i k v u : Int} (hA : stB s = false) (ho : s.ok) (hf : s.fit) : AC Tryz.prog 23 [stT s, .int .i64 i, .int .i64 k, .int .i64 v, .int .i64 u] (.tuple #[stT s, .int .i64 20]) :=
  ac_path mixed (ext := [21, 122, 121, 124, 123]) (fuel := 9) (n := 5) (orc := [vD false, rowS s.sl, rowI s.sn, rowI s.rc, rowI s.fl, rowI s.el, rowT s.th, rowE s.lg])
    (an (ac_pcheck hA ho) <| an (ac_copS s.sl hf.sl) <| an (ac_copI s.sn hf.sn) <| an (ac_copI s.rc hf.rc) <| an (ac_copI s.fl hf.fl) <| an (ac_copI s.el hf.el) <| an (ac_copT s.th hf.th) <| an (ac_copE s.lg hf.lg) trivial) (by kernel_rfl)
set_option maxRecDepth 100000 in
theorem ac_pinv_2 {s : St} {i k v u E : Int} (hA : stB s = true) (hE : opMay s.cf.th s.cf.si i k = E) (hE0 : E ≠ 0) (ho : s.ok) (hf : s.fit) : AC Tryz.prog 23 [stT s, .int .i64 i, .int .i64 k, .int .i64 v, .int .i64 u] (.tuple #[stT s, .int .i64 E]) :=
  ac_path mixed (ext := [21, 122, 121, 124, 123, 62]) (fuel := 9) (n := 5) (orc := [vD true, .int .i64 E, .bool true, rowS s.sl, rowI s.sn, rowI s.rc, rowI s.fl, rowI s.el, rowT s.th, rowE s.lg])
    (an (ac_pcheck hA ho) <| an (ac_omay hE) <| an (show (E != 0) = true by simpa using hE0) <| an (ac_copS s.sl hf.sl) <| an (ac_copI s.sn hf.sn) <| an (ac_copI s.rc hf.rc) <| an (ac_copI s.fl hf.fl) <| an (ac_copI s.el hf.el) <| an (ac_copT s.th hf.th) <| an (ac_copE s.lg hf.lg) trivial) (by kernel_rfl)
set_option maxRecDepth 100000 in
theorem ac_pinv_3 {s : St} {n : Nat} {k v u E : Int} {t : Th} (hA : stB s = true) (hM : opMay s.cf.th s.cf.si n k = 0) (hT : thBeg (gth s.th n) k v u E t) (hn : n < s.th.length) (ho : s.ok) (hf : s.fit) :
    AC Tryz.prog 23 [stT s, .int .i64 n, .int .i64 k, .int .i64 v, .int .i64 u] (.tuple #[stT (s.setTh n t), .int .i64 E]) :=
  ac_path mixed (ext := [21, 122, 121, 124, 62, 63]) (fuel := 9) (n := 5)
    (orc := [vD true, .int .i64 0, .nilFunc, thT (gth s.th n), .tuple #[thT t, .int .i64 E], rowS s.sl, rowI s.sn, rowI s.rc, rowI s.fl, rowI s.el, rowT s.th, rowE s.lg, thT (gth s.th n), rowT (s.th.set n t)])
    (an (ac_pcheck hA ho) <| an (ac_omay hM) <| an (ixT hn) <| an (ac_tbeg hT) <| an (ac_copS s.sl hf.sl) <| an (ac_copI s.sn hf.sn) <| an (ac_copI s.rc hf.rc) <| an (ac_copI s.fl hf.fl) <| an (ac_copI s.el hf.el) <| an (allK_T s.th) <| an (app_nil (f := thT) (lt_ne hn) hf.th) <|
      an (ac_copE s.lg hf.lg) <| an (idT hn) <| an (elT hn) <| an (setT s.th n t) <| an (show LenP s.th.length (s.th.set n t).length ((s.th.set n t).map thT) from ⟨by simp, by simp⟩) trivial) (by kernel_rfl)
theorem ac_pinvoke {s : St} {i k v u E : Int} {r : St} (h : stBeg s i k v u E r) (ho : s.ok) (hf : s.fit) : AC Tryz.prog 23 [stT s, .int .i64 i, .int .i64 k, .int .i64 v, .int .i64 u] (.tuple #[stT r, .int .i64 E]) := by
  rcases h with ⟨hA, rfl, rfl⟩ | ⟨hA, h0, rfl, rfl⟩ | ⟨hA, h0, n, t, rfl, hn, hT, rfl⟩
  · exact ac_pinv_1 hA ho hf
  · exact ac_pinv_2 hA rfl h0 ho hf
  · exact ac_pinv_3 hA h0 hT hn ho hf

/-! ### What is there -/
def qZ : Value := .agg #[.slice none 0 0, .int .i64 0, .int .i64 0, .int .i64 0]
def qN (v : Value) (c p m : Int) : Value := .agg #[v, .int .i64 c, .int .i64 p, .int .i64 m]
def hdQ0 (s : St) (r n i : Int) : Sg := ⟨mkT 39 [(1, pt 0), (2, pt 1), (3, pt 2), (21, .int .i64 n), (22, .int .i64 i)], [some ⟨true, false, 20, 1, [stT s]⟩, some ⟨true, false, 4, 1, [qZ]⟩, some ⟨true, false, 4, 1, [qN (.slice none 0 0) r s.cf.po s.md]⟩]⟩
def hdQ (s : St) (r n i : Int) (l : List Int) : Sg := ⟨mkT 39 [(1, pt 0), (2, pt 1), (3, pt 2), (21, .int .i64 n), (22, .int .i64 i)], [some ⟨true, false, 20, 1, [stT s]⟩, some ⟨true, false, 4, 1, [qZ]⟩, some ⟨true, false, 4, 1, [qN (.slice (some ⟨3, 0, some 0⟩) l.length 0) r s.cf.po s.md]⟩, some ⟨true, true, 1, l.length, l.map (.int .i64 ·)⟩]⟩
def atL (s : St) (i : Nat) : List Int := (List.range i).map fun (n : Nat) => atV s (s.hd + n)
theorem atL_s (s : St) (i : Nat) : atL s (i + 1) = atL s i ++ [atV s (s.hd + i)] := by simp [atL, List.range_succ]
theorem lenI' (l : List Int) : l.length = (l.map (Value.int .i64 ·)).length := by simp
theorem at_ix {s : St} (h : stB s = true) {p : Int} (hp : 0 ≤ p) : IxP ((s.sl.map slT).toArray) (placeI p s.sl.length) (slT (gs s.sl (plc s.sl p))) := by
  have hl : liesS s.sl p = true := lies_iff.2 ⟨hp, (word_ok h).2.1⟩
  obtain ⟨h1, h2⟩ := plc_lt hl
  rw [h2]
  exact ⟨by omega, by simp [gs_eq h1, h1]⟩
section
variable {s : St} {r : Int} {n : Nat}
set_option maxRecDepth 100000 in
theorem q_0 (h : stB s = true) (hn : s.tl - s.hd = n) (h0 : 0 < n) (hL : LoopP Tryz.prog (loopOf Tryz.prog 24 0) (hdQ s r n 1 (atL s 1)) (.exit 0) (hdQ s r n n (atL s n))) : LoopP Tryz.prog (loopOf Tryz.prog 24 0) (hdQ0 s r n 0) (.exit 0) (hdQ s r n n (atL s n)) := by
  have hc := check_len (word_ok h).1
  have hs := word_ok h
  have hr := cf_room (st_iff.1 h).1
  refine loop_more mixed (ext := [130]) (fuel := 9) (n := 3) (im := [0, 1, 2, 4]) (keep := [1, 2, 3, 21, 22]) (orc := [.bool true, .int .i64 (placeI (s.hd + 0) s.sl.length), slT (gs s.sl (plc s.sl (s.hd + 0))), rowI (atL s 1)])
    (an (show decide ((0 : Int) < n) = true by simp; omega) <| an (show In64 (s.hd + 0) by constructor <;> omega) <| an (ac_place (p := s.hd + 0) (r := s.sl.length) (by constructor <;> omega) (by constructor <;> omega)) <| an (at_ix h (p := s.hd + 0) (by omega)) <| an (rfl : (1 : Nat) = 1) <| an (allK_I [atV s (s.hd + 0)]) <|
      an (show 0 < 1 ∧ AppP (atL s 1).length ((atL s 1).map (Value.int .i64 ·)) 0 [] 1 [.int .i64 (atV s (s.hd + 0))] from ⟨by omega, by simp [atL], by simp [atL], by omega⟩) <| an (show In64 ((0 : Int) + 1) by constructor <;> omega) trivial) (by kernel_rfl) hL
set_option maxRecDepth 100000 in
theorem q_1 (h : stB s = true) (hn : s.tl - s.hd = n) : ∀ (k i : Nat), n - i = k → i ≤ n → LoopP Tryz.prog (loopOf Tryz.prog 24 0) (hdQ s r n i (atL s i)) (.exit 0) (hdQ s r n n (atL s n))
  | 0, i, hk, hi => by
    have : i = n := by omega
    subst this
    exact loop_end mixed (ext := [130]) (fuel := 9) (n := 3) (im := [0, 1, 2, 3]) (keep := [1, 2, 3, 21, 22]) (orc := [.bool false]) (an (show decide ((i : Int) < i) = false by simp) trivial) (by intro e; cases e) (by kernel_rfl)
  | k + 1, i, hk, hi => by
    have hc := check_len (word_ok h).1
    have hs := word_ok h
    have hr := cf_room (st_iff.1 h).1
    have ih := q_1 h hn k (i + 1) (by omega) (by omega)
    rw [show ((i + 1 : Nat) : Int) = (i : Int) + 1 by omega] at ih
    have hl : (atL s i).length = i := by simp [atL]
    have hl1 : (atL s (i + 1)).length = i + 1 := by simp [atL]
    exact loop_more mixed (ext := [130]) (fuel := 9) (n := 3) (im := [0, 1, 2, 5]) (keep := [1, 2, 3, 21, 22]) (orc := [.bool true, .int .i64 (placeI (s.hd + i) s.sl.length), slT (gs s.sl (plc s.sl (s.hd + i))), rowI (atL s (i + 1))])
      (an (show decide ((i : Int) < n) = true by simp; omega) <| an (show In64 (s.hd + i) by constructor <;> omega) <| an (ac_place (p := s.hd + i) (r := s.sl.length) (by constructor <;> omega) (by constructor <;> omega)) <| an (at_ix h (p := s.hd + i) (by omega)) <| an (rfl : (1 : Nat) = 1) <| an (allK_I [atV s (s.hd + i)]) <|
        an (lenI' (atL s i)) <| an (show AppP (atL s (i + 1)).length ((atL s (i + 1)).map (Value.int .i64 ·)) (atL s i).length ((atL s i).map (Value.int .i64 ·)) 1 [.int .i64 (atV s (s.hd + i))] from ⟨by omega, by rw [atL_s]; simp, by omega⟩) <| an (show In64 ((i : Int) + 1) by constructor <;> omega) trivial) (by kernel_rfl) ih
set_option maxRecDepth 100000 in
theorem ac_pqueue {q : Qu} (hq : quV s = q) (ho : s.ok) : AC Tryz.prog 24 [stT s] (quT q) := by
  subst hq
  cases hB : stB s
  · rw [show quV s = ⟨[], 0, 0, 0⟩ by unfold quV; rw [hB]; rfl]
    exact ac_path mixed (ext := [21, 60, 66]) (fuel := 9) (n := 4) (orc := [vD false]) (an (ac_pcheck hB ho) trivial) (by kernel_rfl)
  · have hc := check_len (word_ok hB).1
    obtain ⟨n, hn⟩ : ∃ n : Nat, s.tl - s.hd = n := ⟨(s.tl - s.hd).toNat, by omega⟩
    rw [show quV s = ⟨atL s n, cfR s.cf, s.cf.po, s.md⟩ by unfold quV; rw [if_pos hB, hn]; rfl]
    have hL : AC Tryz.prog 66 [wdT s.hd s.tl s.md] (.int .i64 n) := by
      have := ac_poslen (h := s.hd) (t := s.tl) (m := s.md) (by constructor <;> omega) (by constructor <;> omega)
      rwa [hc.2.2.2.2.2.1, hn] at this
    by_cases h0 : n = 0
    · subst h0
      exact ac_path mixed (ext := [21, 60, 66]) (fuel := 9) (n := 4) (orc := [vD true, .int .i64 (cfR s.cf), .int .i64 (0 : Nat), .nilFunc]) (an (ac_pcheck hB ho) <| an (ac_croom s.cf) <| an hL trivial) (by kernel_rfl)
    · have h1 := q_1 (r := cfR s.cf) hB hn (n - 1) 1 rfl (by omega)
      exact ac_path mixed (ext := [21, 60, 66]) (fuel := 9) (n := 4) (orc := [vD true, .int .i64 (cfR s.cf), .int .i64 n, oL [0, 1, 2] [1, 2, 3, 21, 22] 0 [(1, pt 0), (2, pt 1), (3, pt 2), (21, .int .i64 n), (22, .int .i64 n)] (hdQ s (cfR s.cf) n n (atL s n)).H])
        (an (ac_pcheck hB ho) <| an (ac_croom s.cf) <| an hL <| an (q_0 hB hn (by omega) h1) <| an (len_map (f := (Value.int .i64 ·)) (atL s n)) trivial) (by kernel_rfl)
end
end Go.Proofs.YtfllnpcoggmepaaGreat

/- The head of the laws of layer 14 (awake), by contracts told by abstract values. -/
namespace Go.Proofs.YtfllnpcoggmepaaGreat
set_option linter.unusedVariables false
set_option linter.unusedSimpArgs false
open Go.RowKit
def cW : Cf := ⟨1, 2, 0, 0, 0, 0, false⟩
def sW : St := newSt cW
def uW : St := sW.setTh 0 ⟨1, 1, 7, 0, 0, 0, 0, 0, false, 0, 0⟩
def eW : En := ⟨0, 1, 7, 1, 0⟩
def aW : St := ⟨cW, 0, 1, 0, [⟨0, 7⟩, ⟨1, 0⟩], [], [], 0, [], 1, [], 0, [⟨0, 1, 7, 0, 0, 0, 0, 0, false, 1, 0⟩, th0], [eW]⟩
def bW : St := ⟨cW, 0, 1, 0, [⟨0, 7⟩, ⟨1, 0⟩], [0], [], 0, [], 0, [], 0, [⟨1, 1, 7, 0, 6, 0, 0, 0, false, 1, 0⟩, th0], [eW]⟩
theorem w_a : sendK uW 0 100 = (aW, 7) := by rfl
theorem w_b : sendK uW 0 5 = (bW, 5) := by rfl
theorem w_c : sendK uW 1 100 = (uW, 0) := by rfl
theorem w_q : quV aW = ⟨[7], 2, 0, 0⟩ := by rfl
theorem cW_b : cfB cW = true := by decide
theorem sW_b : stB sW = true := new_stB cW_b
theorem uW_b : stB uW = true := by decide
theorem aW_b : stB aW = true := by decide
theorem cW_in : cW.ok := by simp [cW, Cf.ok, In64]
theorem sW_in : sW.ok := ok_of sW_b ⟨cW_in, fun x hx => by
  have hx' : x = ⟨0, 0⟩ ∨ x = ⟨1, 0⟩ := by
    have : sW.sl = [⟨0, 0⟩, ⟨1, 0⟩] := rfl
    rw [this] at hx; simpa using hx
  rcases hx' with rfl | rfl <;> (constructor <;> decide), fun t ht => by
  have ht' : t = th0 := by
    have : sW.th = [th0, th0] := rfl
    rw [this] at ht; simpa using ht
  subst ht'
  constructor <;> (constructor <;> decide)⟩ (by decide)
theorem uW_in : uW.ok := ok_of uW_b ⟨sW_in.cf, fun x hx => (sW_in.sl.1 x hx).2, fun t ht => by
  rcases List.mem_or_eq_of_mem_set ht with h | rfl
  · have := sW_in.th.1 t h; exact ⟨this.2.2.1, this.2.2.2.2.2.2.2.2.2⟩
  · constructor <;> (constructor <;> decide)⟩ (by decide)
theorem aW_in : aW.ok := by
  refine ok_of aW_b ⟨sW_in.cf, fun x hx => ?_, fun t ht => ?_⟩ (by decide)
  · have hx' : x = ⟨0, 7⟩ ∨ x = ⟨1, 0⟩ := by simpa [aW] using hx
    rcases hx' with rfl | rfl <;> (constructor <;> decide)
  · have ht' : t = ⟨0, 1, 7, 0, 0, 0, 0, 0, false, 1, 0⟩ ∨ t = th0 := by simpa [aW] using ht
    rcases ht' with rfl | rfl <;> (constructor <;> (constructor <;> decide))
theorem w_inv : stBeg sW 0 1 7 0 0 uW := .inr (.inr ⟨sW_b, by decide, 0, ⟨1, 1, 7, 0, 0, 0, 0, 0, false, 0, 0⟩, rfl, by decide, beg_ok_u (t := gth sW.th 0) (v := 7) (u := 0) (by decide) (by decide) (by decide), rfl⟩)
theorem st_W {i m : Int} {k : Nat} {r : St} {c : Nat} (hk : (min m 1000).toNat = k) (h : sendK uW i k = (r, c)) : AC Tryz.prog 12 [stT uW, .int .i64 i, .int .i64 m] (.tuple #[stT r, .int .i64 c]) := by
  have := ac_psteps (i := i) (m := m) uW_in (fit_of uW_b (by decide)) (by decide) (by decide)
  rw [hk, h] at this
  exact this
set_option maxRecDepth 100000 in
theorem ac_awake : AC Tryz.prog 10 [] (.bool true) :=
  ac_path mixed (ext := [22, 23, 12, 24, 28]) (fuel := 9) (n := 6)
    (orc := [.tuple #[stT sW, .int .i64 0], .tuple #[stT uW, .int .i64 0], .tuple #[stT aW, .int .i64 7], .tuple #[stT bW, .int .i64 5], .tuple #[stT uW, .int .i64 0], .nilFunc, .nilFunc, .nilFunc, quT ⟨[7], 2, 0, 0⟩, .nilFunc, vD true, thT ⟨0, 1, 7, 0, 0, 0, 0, 0, false, 1, 0⟩, .nilFunc, thT ⟨0, 1, 7, 0, 0, 0, 0, 0, false, 1, 0⟩, .nilFunc, .nilFunc, enT eW, .bool true, .nilFunc, .nilFunc, thT ⟨1, 1, 7, 0, 6, 0, 0, 0, false, 1, 0⟩, .nilFunc, .nilFunc, .nilFunc, .nilFunc, .nilFunc, .nilFunc, .nilFunc, .nilFunc, .nilFunc, .nilFunc, .nilFunc, .nilFunc, .nilFunc, .nilFunc, .nilFunc, .nilFunc])
    (an (ac_pnew cW_b) <| an (ac_pinvoke w_inv sW_in (fit_of sW_b (by decide))) <| an (st_W (i := 0) (m := 100) (by decide) w_a) <| an (st_W (i := 0) (m := 5) (by decide) w_b) <| an (st_W (i := 1) (m := 100) (by decide) w_c) <| an (ac_pqueue w_q aW_in) <| an (len_map (f := (Value.int .i64 ·)) [7]) <| an (ac_rints [7] (by decide)) <|
      an (ixT (l := aW.th) (n := 0) (by decide)) <| an (ixT (l := aW.th) (n := 0) (by decide)) <| an (ixEn (l := aW.lg) (i := 0) (by decide)) <| an (ask_bin (fun x y W => (guard_agg (by kernel_rfl) x y _ _ W).2) (fun W => by simpa using en_eql eW eW W) (.tmp 87) (.tmp 88)) <| an (ixT (l := bW.th) (n := 0) (by decide)) trivial) (by kernel_rfl)
end Go.Proofs.YtfllnpcoggmepaaGreat

/- What the laws of layer 14 call: Few, the program's Step, Steps of any state. -/
namespace Go.Proofs.YtfllnpcoggmepaaGreat
set_option linter.unusedVariables false
set_option linter.unusedSimpArgs false
open Go.RowKit
theorem nil_no {s : St} (h : s.th = []) : stB s = false := by
  cases hB : stB s
  · rfl
  · have := (th_len hB).2.1; rw [h] at this; simp at this
theorem sendK_no {s : St} {i : Int} (h : stB s = false) (k : Nat) : sendK s i k = (s, 0) := by
  cases k with
  | zero => rfl
  | succ k => simp [sendK, runsB, hasB, h]
set_option maxRecDepth 100000 in
theorem ac_psteps_nil {s : St} {i m : Int} (h : s.th = []) (ho : s.ok) (hf : s.fit) : AC Tryz.prog 12 [stT s, .int .i64 i, .int .i64 m] (.tuple #[stT s, .int .i64 0]) := by
  cases hm : decide ((0 : Int) < min m 1000)
  · exact ac_path mixed (ext := [71, 21]) (fuel := 9) (n := 5) (orc := [stT s, .bool false]) (an (ac_keep (neg_no s) ho hf) <| an hm trivial) (by kernel_rfl)
  · exact ac_path mixed (ext := [71, 21]) (fuel := 9) (n := 5) (orc := [stT s, .bool true, vD false]) (an (ac_keep (neg_no s) ho hf) <| an hm <| an (ac_pcheck (nil_no h) ho) trivial) (by kernel_rfl)
/-- Some steps of the program, of any state. -/
theorem ac_pst {s : St} {i m : Int} (ho : s.ok) (hf : s.fit) (hl : s.lg.length ≤ 800000) : AC Tryz.prog 12 [stT s, .int .i64 i, .int .i64 m] (.tuple #[stT (sendK s i (min m 1000).toNat).1, .int .i64 (sendK s i (min m 1000).toNat).2]) := by
  by_cases h : s.th = []
  · rw [sendK_no (nil_no h)]; exact ac_psteps_nil h ho hf
  · exact ac_psteps ho hf h hl
theorem sendK_1 (s : St) (i : Int) : (sendK s i 1).1 = sendS s i := by
  cases h : runsB s i 1 <;> simp [sendK, h, sendS]
set_option maxRecDepth 100000 in
theorem ac_pstep {s : St} {i : Int} (ho : s.ok) (hf : s.fit) (hl : s.lg.length ≤ 800000) : AC Tryz.prog 15 [stT s, .int .i64 i] (stT (sendS s i)) := by
  rw [← sendK_1]
  exact ac_path mixed (ext := [12]) (fuel := 9) (n := 3) (orc := [.tuple #[stT (sendK s i 1).1, .int .i64 (sendK s i 1).2]]) (an (ac_pst (i := i) (m := 1) ho hf hl) trivial) (by kernel_rfl)
def fewB (s : St) : Bool := decide ((s.sl.length : Int) ≤ 100) && (decide ((s.th.length : Int) ≤ 100) && (decide ((s.sn.length : Int) ≤ 100) && (decide ((s.rc.length : Int) ≤ 100) && (decide ((s.fl.length : Int) ≤ 100) && (decide ((s.el.length : Int) ≤ 100) && decide ((s.lg.length : Int) ≤ 200))))))
set_option maxRecDepth 100000 in
theorem ac_rfew (s : St) : AC Tryz.prog 11 [stT s] (.bool (fewB s)) := by
  unfold fewB
  cases h1 : decide ((s.sl.length : Int) ≤ 100)
  · exact ac_path mixed (ext := []) (fuel := 9) (n := 3) (orc := [.bool false]) (an h1 trivial) (by kernel_rfl)
  cases h2 : decide ((s.th.length : Int) ≤ 100)
  · exact ac_path mixed (ext := []) (fuel := 9) (n := 3) (orc := [.bool true, .bool false]) (an h1 <| an h2 trivial) (by kernel_rfl)
  cases h3 : decide ((s.sn.length : Int) ≤ 100)
  · exact ac_path mixed (ext := []) (fuel := 9) (n := 3) (orc := [.bool true, .bool true, .bool false]) (an h1 <| an h2 <| an h3 trivial) (by kernel_rfl)
  cases h4 : decide ((s.rc.length : Int) ≤ 100)
  · exact ac_path mixed (ext := []) (fuel := 9) (n := 3) (orc := [.bool true, .bool true, .bool true, .bool false]) (an h1 <| an h2 <| an h3 <| an h4 trivial) (by kernel_rfl)
  cases h5 : decide ((s.fl.length : Int) ≤ 100)
  · exact ac_path mixed (ext := []) (fuel := 9) (n := 3) (orc := [.bool true, .bool true, .bool true, .bool true, .bool false]) (an h1 <| an h2 <| an h3 <| an h4 <| an h5 trivial) (by kernel_rfl)
  cases h6 : decide ((s.el.length : Int) ≤ 100)
  · exact ac_path mixed (ext := []) (fuel := 9) (n := 3) (orc := [.bool true, .bool true, .bool true, .bool true, .bool true, .bool false]) (an h1 <| an h2 <| an h3 <| an h4 <| an h5 <| an h6 trivial) (by kernel_rfl)
  exact ac_path mixed (ext := []) (fuel := 9) (n := 3) (orc := [.bool true, .bool true, .bool true, .bool true, .bool true, .bool true]) (an h1 <| an h2 <| an h3 <| an h4 <| an h5 <| an h6 trivial) (by kernel_rfl)
theorem few_is {s : St} (h : fewB s = true) : s.few ∧ s.fit ∧ s.lg.length ≤ 200 := by
  simp only [fewB, Bool.and_eq_true, decide_eq_true_eq] at h
  obtain ⟨h1, h2, h3, h4, h5, h6, h7⟩ := h
  exact ⟨⟨by omega, by omega, by omega, by omega, by omega, by omega, by omega⟩, ⟨by omega, by omega, by omega, by omega, by omega, by omega, by omega⟩, by omega⟩
theorem sendK_few {i : Int} (k : Nat) : ∀ {s : St}, stB s = true → s.lg.length + k ≤ 1000 → (sendK s i k).1.few ∧ (sendK s i k).1.lg.length ≤ 1000000 := by
  induction k with
  | zero => intro s hB hl; exact ⟨few_of (s := s) hB (by omega), by show s.lg.length ≤ 1000000; omega⟩
  | succ k ih =>
    intro s hB hl
    cases hr : runsB s i 1
    · have : sendK s i (k + 1) = (s, 0) := by simp [sendK, hr]
      rw [this]; exact ⟨few_of (s := s) hB (by omega), by show s.lg.length ≤ 1000000; omega⟩
    · obtain ⟨h1, h2, h3⟩ := runs_iff.1 hr
      obtain ⟨-, hi0, hi1⟩ := has_iff.1 h1
      obtain ⟨n, rfl⟩ : ∃ n : Nat, i = n := ⟨i.toNat, by omega⟩
      have hn : n < s.th.length := by omega
      rw [Int.toNat_natCast] at h2
      have hs1 : (gth s.th n).st ≠ 0 := by omega
      have e : sendK s n (k + 1) = ((sendK (sendN s n) n k).1, (sendK (sendN s n) n k).2 + 1) := by simp only [sendK, hr, if_true, sendS_is hr]
      rw [e]
      have hl' := sendN_lg hB hn
      exact ih (sendN_stB hB hn hs1) (by omega)
/-- A contract, as a law's walk is asked. -/
theorem law_of {g : FuncId} {args : List Value} {vs : Array Value} {W : World} (h : AC Tryz.prog g args (.bool true)) (hv : AtAll (Rp nowhere (fun _ => False) W) args.toArray vs) : Calls Tryz.prog g vs W fun e W' => e = .returned (.bool true) ∧ Kept W W' := by
  refine (h (fun _ => False) W vs (fun g hg => hg.elim) hv).mono ?_
  rintro e W' ⟨c, rfl, hr, hk⟩
  rw [rp_bool] at hr
  exact ⟨by rw [hr], hk⟩
theorem st_free {W : World} {s : St} {z : Pz} (h : StAt W s z) : Rp nowhere (fun _ => False) W (stT s) (.agg #[.int .i64 s.cf.lg, .int .i64 s.cf.th, .int .i64 s.cf.po, .int .i64 s.cf.wt, .int .i64 s.cf.sp, .int .i64 s.cf.yi, .bool s.cf.si, .int .i64 s.hd, .int .i64 s.tl, .int .i64 s.md, .slice z.p1 s.sl.length z.k1, .slice z.p2 s.sn.length z.k2, .slice z.p3 s.rc.length z.k3, .int .i64 s.fe, .slice z.p4 s.fl.length z.k4, .int .i64 s.ee, .slice z.p5 s.el.length z.k5, .int .i64 s.nw, .slice z.p6 s.th.length z.k6, .slice z.p7 s.lg.length z.k7]) := rp_stT.2 ⟨z, rfl, h.loc.mono fun _ _ h => h⟩
end Go.Proofs.YtfllnpcoggmepaaGreat

/- Layer 14's first law (SendTells): its walk, by contracts told by abstract values. -/
namespace Go.Proofs.YtfllnpcoggmepaaGreat
set_option linter.unusedVariables false
set_option linter.unusedSimpArgs false
open Go.RowKit
theorem ask_bb {a b : Bool} (h : a = b) (x y : Operand) : AskP Tryz.prog (.binOp .eql 4 x y 4) [.bool a, .bool b] (.bool true) := by
  intro W o f ho hm
  obtain ⟨h1, h2⟩ := two_is hm
  subst h
  have hu : Tryz.prog.underlying 4 = some .bool := by kernel_rfl
  have : (binOp .eql 4 (.bool a) (.bool a)).run Tryz.prog W = .ok (.bool true) W := by
    have h := run_equalIn_bool' (P := Tryz.prog) W 9999 4 a a hu
    have h' : (Op.equal 4 (.bool a) (.bool a)).run Tryz.prog W = .ok true W := by
      unfold Op.equal Op.maxDepth
      rw [h]; simp
    simp [binOp, h']
  simp [execOp, ho, h1, h2, eqGuard, this]
section
variable {s u v : St} {i m pc : Int} {k : Nat}
end
end Go.Proofs.YtfllnpcoggmepaaGreat

/- Layer 14, plain: what some steps of who sends are, and what they change. -/
namespace Go.Proofs.YtfllnpcoggmepaaGreat
set_option linter.unusedVariables false
set_option linter.unusedSimpArgs false
theorem sendK_off {s : St} {i : Int} (h : runsB s i 1 = false) (k : Nat) : sendK s i k = (s, 0) := by
  cases k with
  | zero => rfl
  | succ k => simp [sendK, h]
theorem sendK_on {s : St} {i : Int} (h : runsB s i 1 = true) (k : Nat) : sendK s i (k + 1) = ((sendK (sendS s i) i k).1, (sendK (sendS s i) i k).2 + 1) := by simp [sendK, h]
/-- Some steps are those of the first part, and then of the other one. -/
theorem sendK_add (i : Int) (b : Nat) : ∀ (a : Nat) (s : St), sendK s i (a + b) = ((sendK (sendK s i a).1 i b).1, (sendK s i a).2 + (sendK (sendK s i a).1 i b).2)
  | 0, s => by simp [sendK]
  | a + 1, s => by
    cases h : runsB s i 1
    · rw [sendK_off h, sendK_off h (a + 1)]; simp [sendK_off h]
    · rw [show a + 1 + b = (a + b) + 1 by omega, sendK_on h, sendK_on h, sendK_add i b a (sendS s i)]
      simp only [Prod.mk.injEq, true_and]; omega
theorem sendK_le (i : Int) : ∀ (k : Nat) (s : St), (sendK s i k).2 ≤ k
  | 0, s => by simp [sendK]
  | k + 1, s => by
    cases h : runsB s i 1
    · simp [sendK_off h]
    · rw [sendK_on h]; have := sendK_le i k (sendS s i); show _ + 1 ≤ _; omega
theorem sendK_none {s : St} {i : Int} {k : Nat} (h : (sendK s i k).2 = 0) : (sendK s i k).1 = s := by
  cases k with
  | zero => rfl
  | succ k =>
    cases hr : runsB s i 1
    · rw [sendK_off hr]
    · rw [sendK_on hr] at h; simp at h
theorem sendK_stB (i : Int) : ∀ (k : Nat) (s : St), stB (sendK s i k).1 = stB s
  | 0, s => rfl
  | k + 1, s => by
    cases h : runsB s i 1
    · rw [sendK_off h]
    · rw [sendK_on h]; show stB (sendK (sendS s i) i k).1 = _; rw [sendK_stB i k, sendS_stB]
theorem sendS_no {s : St} (h : stB s = false) (i : Int) : sendS s i = s := by simp [sendS, runsB, hasB, h]

/-! ### What threads share -/
/-- The word, the slots, Sends, Recvs, Full, Empty. -/
def shr (s : St) : (Int × Int × Int) × List Slo × List Int × List Int × (Int × List Int) × (Int × List Int) := ((s.hd, s.tl, s.md), s.sl, s.sn, s.rc, (s.fe, s.fl), (s.ee, s.el))
/-- In how many places two lists differ. -/
def diffL : List Slo → List Slo → Nat
  | a :: l, b :: m => (if a = b then 0 else 1) + diffL l m
  | _, _ => 0
def oneI (p : Prop) [Decidable p] : Nat := if p then 0 else 1
/-- In how many things two states differ. -/
def thingsN (a b : St) : Nat :=
  oneI ((a.hd, a.tl, a.md) = (b.hd, b.tl, b.md)) + diffL a.sl b.sl + oneI (a.sn = b.sn) + oneI (a.rc = b.rc) + oneI (a.fe = b.fe ∧ a.fl = b.fl) + oneI (a.ee = b.ee ∧ a.el = b.el)
theorem diffL_self : ∀ l : List Slo, diffL l l = 0
  | [] => rfl
  | a :: l => by simp [diffL, diffL_self l]
theorem diffL_set (x : Slo) : ∀ (l : List Slo) (i : Nat), diffL l (l.set i x) ≤ 1
  | [], i => by simp [diffL]
  | a :: l, 0 => by simp only [List.set_cons_zero, diffL, diffL_self]; split <;> omega
  | a :: l, i + 1 => by have := diffL_set x l i; simp only [List.set_cons_succ, diffL, if_true]; omega
theorem oneI_le (p : Prop) [Decidable p] : oneI p ≤ 1 := by unfold oneI; split <;> omega
theorem oneI_t [Decidable True] : oneI True = 0 := if_pos trivial
theorem things_shr {a b c : St} (h : shr b = shr c) : thingsN a b = thingsN a c := by
  simp only [shr, Prod.mk.injEq] at h
  obtain ⟨⟨h1, h2, h3⟩, h4, h5, h6, ⟨h7, h8⟩, h9, h10⟩ := h
  simp only [thingsN, h1, h2, h3, h4, h5, h6, h7, h8, h9, h10]
theorem things_self (s : St) : thingsN s s = 0 := by simp [thingsN, diffL_self, oneI]
theorem things_none {a b : St} (h : shr b = shr a) : thingsN a b ≤ 1 := by rw [things_shr h, things_self]; omega
theorem things_word (s : St) (x y z : Int) : thingsN s (s.toWord x y z) ≤ 1 := by
  simp only [thingsN, St.toWord, diffL_self, and_self, oneI_t, Nat.add_zero, Nat.zero_add]; exact oneI_le _
theorem things_sl (s : St) (l : List Slo) (h : diffL s.sl l ≤ 1) : thingsN s (s.toSl l) ≤ 1 := by
  simp only [thingsN, St.toSl, diffL_self, and_self, oneI_t]; omega
theorem things_sn (s : St) (l : List Int) : thingsN s (s.toSn l) ≤ 1 := by
  simp only [thingsN, St.toSn, diffL_self, and_self, oneI_t, Nat.add_zero, Nat.zero_add]; exact oneI_le _
theorem things_full (s : St) (e : Int) (l : List Int) : thingsN s (s.toFull e l) ≤ 1 := by
  simp only [thingsN, St.toFull, diffL_self, and_self, oneI_t, Nat.add_zero, Nat.zero_add]; exact oneI_le _
theorem things_empty (s : St) (e : Int) (l : List Int) : thingsN s (s.toEmpty e l) ≤ 1 := by
  simp only [thingsN, St.toEmpty, diffL_self, and_self, oneI_t, Nat.add_zero, Nat.zero_add]; exact oneI_le _
theorem shr_on (s : St) (n : Nat) (f : Th → Th) : shr (s.onTh n f) = shr s := rfl
theorem shr_tell (s : St) (i k r g : Int) : shr (tellS s i k r g) = shr s := by unfold tellS; split <;> rfl
theorem shr_told (s : St) (n : Nat) (k r g p : Int) : shr (toldS s n k r g p) = shr s := by unfold toldS; rw [shr_on, shr_tell]
theorem shr_wake (s : St) (i : Int) : shr (wakeS s i) = shr s := by unfold wakeS; split <;> rfl
theorem sendN_ind {P : St → Prop} {s : St} {n : Nat} (h0 : P ((s.toSn (entL s.sn n)).onTh n (pcT · 1))) (h1 : P (firstS s n)) (h2 : P (lookS s n)) (h3 : P (if wrE s.sl (gth s.th n).re = 0 then (s.toSl (wrL s.sl (gth s.th n).re (gth s.th n).va)).onTh n (pcT · 4) else s)) (h4 : P (acceptS s n)) (h5 : P (s.onTh n (seenT · s.fe 7))) (h6 : P (notifyS s n)) (h7 : P (if seesS s = 2 ∧ (gth s.th n).la = false then s.onTh n (pcT · 8) else s.onTh n (pcT · 2))) (h8 : P (commitS s n)) (h9 : P ((s.toSn (lvL s.sn n)).onTh n doneT)) (h10 : P (evictS s n)) (h11 : P ((s.toSl (rlL s.sl (gth s.th n).re)).onTh n (pcT · 2))) : P (sendN s n) := by
  unfold sendN
  by_cases c0 : (gth s.th n).pc = 0
  · rw [if_pos c0]; exact h0
  rw [if_neg c0]
  by_cases c1 : (gth s.th n).pc = 1
  · rw [if_pos c1]; exact h1
  rw [if_neg c1]
  by_cases c2 : (gth s.th n).pc = 2
  · rw [if_pos c2]; exact h2
  rw [if_neg c2]
  by_cases c3 : (gth s.th n).pc = 3
  · rw [if_pos c3]; exact h3
  rw [if_neg c3]
  by_cases c4 : (gth s.th n).pc = 4
  · rw [if_pos c4]; exact h4
  rw [if_neg c4]
  by_cases c5 : (gth s.th n).pc = 5
  · rw [if_pos c5]; exact h5
  rw [if_neg c5]
  by_cases c6 : (gth s.th n).pc = 6
  · rw [if_pos c6]; exact h6
  rw [if_neg c6]
  by_cases c7 : (gth s.th n).pc = 7
  · rw [if_pos c7]; exact h7
  rw [if_neg c7]
  by_cases c8 : (gth s.th n).pc = 8
  · rw [if_pos c8]; exact h8
  rw [if_neg c8]
  by_cases c9 : (gth s.th n).pc = 9
  · rw [if_pos c9]; exact h9
  rw [if_neg c9]
  by_cases c10 : (gth s.th n).pc = 10
  · rw [if_pos c10]; exact h10
  rw [if_neg c10]
  exact h11
/-- No step changes more than one thing. -/
theorem sendN_things {s : St} {n : Nat} : thingsN s (sendN s n) ≤ 1 := by
  refine sendN_ind (P := fun u => thingsN s u ≤ 1) ?_ ?_ ?_ ?_ ?_ ?_ ?_ ?_ ?_ ?_ ?_ ?_
  · rw [things_shr (shr_on _ _ _)]; exact things_sn _ _
  · unfold firstS; refine things_none ?_; (repeat' split) <;> first | exact shr_told _ _ _ _ _ _ | rfl
  · unfold lookS fullS; refine things_none ?_; (repeat' split) <;> first | exact shr_told _ _ _ _ _ _ | rfl
  · split
    · rw [things_shr (shr_on _ _ _)]
      refine things_sl _ _ ?_
      unfold wrL; split
      · exact diffL_set _ _ _
      · rw [diffL_self]; omega
    · rw [things_self]; omega
  · unfold acceptS; split
    · rw [things_shr (shr_told _ _ _ _ _ _)]; exact things_word _ _ _ _
    · refine things_none ?_; (repeat' split) <;> first | exact shr_told _ _ _ _ _ _ | rfl
  · exact things_none rfl
  · unfold notifyS; split
    · rw [things_shr (shr_wake _ _), things_shr (shr_on _ _ _)]; exact things_empty _ _ _
    · rw [things_shr (shr_on _ _ _)]; exact things_empty _ _ _
  · refine things_none ?_; split <;> rfl
  · unfold commitS; split
    · exact things_none rfl
    · split
      · rw [things_shr (shr_on _ _ _)]; exact things_full _ _ _
      · exact things_none rfl
  · rw [things_shr (shr_on _ _ _)]; exact things_sn _ _
  · unfold evictS; split
    · rw [things_shr (shr_told _ _ _ _ _ _)]; exact things_word _ _ _ _
    · exact things_none rfl
  · rw [things_shr (shr_on _ _ _)]
    refine things_sl _ _ ?_
    unfold rlL; split
    · exact diffL_set _ _ _
    · rw [diffL_self]; omega
theorem sendS_things (s : St) (i : Int) : thingsN s (sendS s i) ≤ 1 := by
  unfold sendS; split
  · exact sendN_things
  · rw [things_self]; omega

/-! ### What becomes of the other threads -/
/-- Of two lists of threads, all but one are as they were, but for one who is woken. -/
structure Oth (l m : List Th) (i : Int) : Prop where
  len : m.length = l.length
  one : ∃ w : Nat, ∀ j : Nat, j < l.length → (j : Int) ≠ i → gth m j = gth l j ∨ (j = w ∧ (gth l j).st = 2 ∧ gth m j = wakeT (gth l j))
theorem Oth.refl (l : List Th) (i : Int) : Oth l l i := ⟨rfl, 0, fun _ _ _ => .inl rfl⟩
theorem Oth.set {l : List Th} {n : Nat} (t : Th) : Oth l (l.set n t) n := ⟨by simp, 0, fun j hj hne => .inl (by
  by_cases hn : n < l.length
  · rw [gth_set hn, if_neg (by omega)]
  · rw [List.set_eq_of_length_le (by omega)])⟩
theorem Oth.wake {l : List Th} {n w : Nat} (t : Th) (hw : w < l.length) : Oth l ((l.set n t).set w (wakeT (gth (l.set n t) w))) n := ⟨by simp, w, fun j hj hne => by
  have e1 : gth (l.set n t) j = gth l j := by
    by_cases hn : n < l.length
    · rw [gth_set hn, if_neg (by omega)]
    · rw [List.set_eq_of_length_le (by omega)]
  rw [gth_set (by simpa using hw)]
  split
  · next e =>
    subst e
    rw [e1]
    by_cases h2 : (gth l w).st = 2
    · exact .inr ⟨rfl, h2, rfl⟩
    · left; unfold wakeT; rw [if_neg h2]
  · exact .inl e1⟩
theorem th_tell (s : St) (n : Nat) (k r g : Int) : ∃ t, (tellS s n k r g).th = s.th.set n t := by
  unfold tellS; split
  · exact ⟨_, by simp [St.setTh, St.addLg]; rfl⟩
  · exact ⟨gth s.th n, gth_set_self.symm⟩
theorem th_told (s : St) (n : Nat) (k r g p : Int) : ∃ t, (toldS s n k r g p).th = s.th.set n t := by
  obtain ⟨t, ht⟩ := th_tell s n k r g
  exact ⟨pcT (gth (tellS s n k r g).th n) p, by show (tellS s n k r g).th.set n _ = _; rw [ht, List.set_set]⟩
theorem sendN_oth {s : St} {n : Nat} : Oth s.th (sendN s n).th n := by
  have tl : ∀ (u : St) (k r g p : Int), u.th = s.th → Oth s.th (toldS u n k r g p).th n := fun u k r g p hu => by
    obtain ⟨t, ht⟩ := th_told u n k r g p
    rw [ht, hu]; exact Oth.set t
  have on : ∀ (u : St) (f : Th → Th), u.th = s.th → Oth s.th (u.onTh n f).th n := fun u f hu => by
    show Oth s.th (u.th.set n _) n
    rw [hu]; exact Oth.set _
  refine sendN_ind (P := fun u => Oth s.th u.th n) ?_ ?_ ?_ ?_ ?_ ?_ ?_ ?_ ?_ ?_ ?_ ?_
  · exact on _ _ rfl
  · unfold firstS; (repeat' split) <;> first | exact tl _ _ _ _ _ rfl | exact on _ _ rfl
  · unfold lookS fullS; (repeat' split) <;> first | exact tl _ _ _ _ _ rfl | exact on _ _ rfl
  · split
    · exact on _ _ rfl
    · exact Oth.refl _ _
  · unfold acceptS; (repeat' split) <;> first | exact tl _ _ _ _ _ rfl | exact on _ _ rfl
  · exact on _ _ rfl
  · unfold notifyS wakeS
    repeat' split
    · next hh =>
      have hi := has_iff.1 hh
      refine Oth.wake _ ?_
      have h2 := hi.2.2
      simp only [St.onTh, St.setTh, List.length_set] at h2
      have e : (s.toEmpty (ntE s.ee s.el) (ntL 1 s.ee s.el)).th = s.th := rfl
      rw [e] at h2; omega
    · exact on _ _ rfl
    · exact on _ _ rfl
  · split <;> exact on _ _ rfl
  · unfold commitS; (repeat' split) <;> exact on _ _ rfl
  · exact on _ _ rfl
  · unfold evictS; (repeat' split) <;> first | exact tl _ _ _ _ _ rfl | exact on _ _ rfl
  · exact on _ _ rfl
theorem sendS_oth {s : St} {i : Int} : Oth s.th (sendS s i).th i := by
  unfold sendS; split
  · next h =>
    have := (has_iff.1 (runs_iff.1 h).1).2.1
    have h2 := sendN_oth (s := s) (n := i.toNat)
    rwa [Int.toNat_of_nonneg this] at h2
  · exact Oth.refl _ _

/-! ### What is told, and what stays -/
/-- What is told is told behind all that was, at most once. -/
def LgOk (a b : List En) : Prop := b = a ∨ ∃ x, b = a ++ [x]
theorem lg_tell (s : St) (i k r g : Int) : LgOk s.lg (tellS s i k r g).lg := by
  unfold tellS; split
  · exact .inr ⟨_, rfl⟩
  · exact .inl rfl
theorem lg_told (s : St) (n : Nat) (k r g p : Int) : LgOk s.lg (toldS s n k r g p).lg := lg_tell s n k r g
theorem cf_tell (s : St) (i k r g : Int) : (tellS s i k r g).cf = s.cf ∧ (tellS s i k r g).nw = s.nw := by unfold tellS; split <;> exact ⟨rfl, rfl⟩
theorem sendN_lgOk {s : St} {n : Nat} : LgOk s.lg (sendN s n).lg ∧ (sendN s n).cf = s.cf ∧ (sendN s n).nw = s.nw := by
  have tl : ∀ (u : St) (k r g p : Int), u.lg = s.lg → u.cf = s.cf → u.nw = s.nw → LgOk s.lg (toldS u n k r g p).lg ∧ (toldS u n k r g p).cf = s.cf ∧ (toldS u n k r g p).nw = s.nw := fun u k r g p h1 h2 h3 =>
    ⟨h1 ▸ lg_told u n k r g p, (cf_tell u n k r g).1.trans h2, (cf_tell u n k r g).2.trans h3⟩
  have no : ∀ (u : St), u.lg = s.lg → u.cf = s.cf → u.nw = s.nw → LgOk s.lg u.lg ∧ u.cf = s.cf ∧ u.nw = s.nw := fun u h1 h2 h3 => ⟨.inl h1, h2, h3⟩
  refine sendN_ind (P := fun u => LgOk s.lg u.lg ∧ u.cf = s.cf ∧ u.nw = s.nw) ?_ ?_ ?_ ?_ ?_ ?_ ?_ ?_ ?_ ?_ ?_ ?_
  all_goals (try unfold firstS); (try unfold lookS); (try unfold fullS); (try unfold acceptS); (try unfold notifyS); (try unfold wakeS); (try unfold commitS); (try unfold evictS)
  all_goals (repeat' split) <;> first | exact tl _ _ _ _ _ rfl rfl rfl | exact no _ rfl rfl rfl
theorem sendS_lgOk (s : St) (i : Int) : LgOk s.lg (sendS s i).lg ∧ (sendS s i).cf = s.cf ∧ (sendS s i).nw = s.nw := by
  unfold sendS; split
  · exact sendN_lgOk
  · exact ⟨.inl rfl, rfl, rfl⟩
end Go.Proofs.YtfllnpcoggmepaaGreat

/- What the laws of layer 14 share: values stay in their bounds, whatever steps there are. -/
namespace Go.Proofs.YtfllnpcoggmepaaGreat
set_option linter.unusedVariables false
set_option linter.unusedSimpArgs false
open Go.ChangeShapes Go.WideShapes Go.ChangeAt Go.RowKit
theorem ask_u8 (v : Int) (h0 : 0 ≤ v) (h1 : v ≤ 255) (x : Operand) : AskP Tryz.prog (.convert 5 3 x) [.int .u8 v] (.int .i64 v) := by
  intro W o f ho hm
  have h : f x = .int .u8 v := by simpa [ho, Op.operands] using hm
  have hu := Tryz.underlying3
  have hw : IntKind.i64.wrap v = v := wrap_in ⟨by omega, by omega⟩
  have hv := Tryz.underlying5
  simp [execOp, ho, h, convert, run_underlying hu, run_underlying hv, Conv.intToInt, hw]
theorem sendS_all {s : St} (hB : stB s = true) (ho : s.ok) (hl : s.lg.length ≤ 900000) (i : Int) : (sendS s i).ok ∧ (sendS s i).lg.length ≤ s.lg.length + 1 := by
  cases hr : runsB s i 1
  · have : sendS s i = s := by simp [sendS, hr]
    rw [this]; exact ⟨ho, by omega⟩
  · obtain ⟨h1, h2, h3⟩ := runs_iff.1 hr
    obtain ⟨-, hi0, hi1⟩ := has_iff.1 h1
    obtain ⟨n, rfl⟩ : ∃ n : Nat, i = n := ⟨i.toNat, by omega⟩
    have hn : n < s.th.length := by omega
    rw [Int.toNat_natCast] at h2
    rw [sendS_is hr]
    have hg := sendN_lg hB hn
    exact ⟨ok_of (sendN_stB hB hn (by omega)) (sendN_vk (.of ho) hB hn (by omega)) (by omega), hg⟩
theorem sendK_all {i : Int} (k : Nat) : ∀ {s : St}, stB s = true → s.ok → s.lg.length + k ≤ 800000 → (sendK s i k).1.ok ∧ (sendK s i k).1.fit ∧ (sendK s i k).1.lg.length ≤ s.lg.length + k := by
  induction k with
  | zero => intro s hB ho hl; exact ⟨ho, fit_of (s := s) hB (by omega), by show s.lg.length ≤ _; omega⟩
  | succ k ih =>
    intro s hB ho hl
    cases hr : runsB s i 1
    · rw [sendK_off hr]; exact ⟨ho, fit_of (s := s) hB (by omega), by show s.lg.length ≤ _; omega⟩
    · rw [sendK_on hr]
      obtain ⟨h1, h2⟩ := sendS_all hB ho (by omega) i
      obtain ⟨h3, h4, h5⟩ := ih (s := sendS s i) (by rw [sendS_stB]; exact hB) h1 (by omega)
      exact ⟨h3, h4, by show (sendK (sendS s i) i k).1.lg.length ≤ _; omega⟩
theorem min_nat {a : Int} (h : 0 ≤ a) (h1 : a ≤ 1000) : (min a 1000).toNat = a.toNat := by omega
end Go.Proofs.YtfllnpcoggmepaaGreat

/- '==' on slots, field by field. -/
namespace Go.Proofs.YtfllnpcoggmepaaGreat
set_option linter.unusedVariables false
set_option linter.unusedSimpArgs false
open Go.ChangeShapes Go.WideShapes Go.ChangeAt Go.RowKit
set_option maxHeartbeats 1000000 in
theorem sl_equal (a b : Slo) (w : World) : (Op.equal 92 (.agg #[.int .i64 a.st, .int .i64 a.vl]) (.agg #[.int .i64 b.st, .int .i64 b.vl])).run Tryz.prog w = .ok (decide (a = b)) w := by
  have hu := Tryz.underlying92
  have h3 := Tryz.underlying3
  have h4 := Tryz.underlying4
  have hp : Tryz.prog.stoodInHeld 92 = false := by kernel_rfl
  have hc : Tryz.prog.info? 3 = _ := rfl
  have hd : Tryz.prog.info? 4 = _ := rfl
  have e : decide (a = b) = (a.st == b.st && (a.vl == b.vl)) := by
    rw [Bool.eq_iff_iff]; cases a; cases b; simp [and_assoc]
  rw [e]
  unfold Op.equal Op.maxDepth
  rw [run_equalIn_struct w 9999 _ _ _ (by unfold Program.fieldsOf; rw [hu]) hp]
  unfold Program.fieldsOf
  rw [hu]
  cases c0 : (a.st == b.st)
  · simp [Op.eqFields, part, isAgg, run_underlying h3, run_underlying h4, run_equalIn_int _ _ _ _ _ _ _ h3, run_equalIn_bool _ _ _ _ _ h4, c0]
  cases c1 : (a.vl == b.vl)
  · simp [Op.eqFields, part, isAgg, run_underlying h3, run_underlying h4, run_equalIn_int _ _ _ _ _ _ _ h3, run_equalIn_bool _ _ _ _ _ h4, c0, c1]
  simp [Op.eqFields, part, isAgg, run_underlying h3, run_underlying h4, run_equalIn_int _ _ _ _ _ _ _ h3, run_equalIn_bool _ _ _ _ _ h4, c0, c1]
theorem sl_neq (a b : Slo) (w : World) : (binOp .neq 92 (.agg #[.int .i64 a.st, .int .i64 a.vl]) (.agg #[.int .i64 b.st, .int .i64 b.vl])).run Tryz.prog w = .ok (.bool (!decide (a = b))) w := by
  have h := sl_equal a b w
  have hu := Tryz.underlying92
  simp [binOp, h, run_underlying hu, Result.andThen]
end Go.Proofs.YtfllnpcoggmepaaGreat

/- Contracts told by abstract values: in how many things two states differ. -/
namespace Go.Proofs.YtfllnpcoggmepaaGreat
set_option linter.unusedVariables false
set_option linter.unusedSimpArgs false
open Go.RowKit
def gI (l : List Int) (i : Nat) : Int := l.getD i 0
theorem gI_eq {l : List Int} {i : Nat} (h : i < l.length) : gI l i = l[i] := by simp [gI, h]
theorem ixI' {l : List Int} {i : Nat} (h : i < l.length) : IxP ((l.map (Value.int .i64 ·)).toArray) (i : Int) (.int .i64 (gI l i)) := ⟨by omega, by simp [gI_eq h, h]⟩
theorem ixS {l : List Slo} {i : Nat} (h : i < l.length) : IxP ((l.map slT).toArray) (i : Int) (slT (gs l i)) := ⟨by omega, by simp [gs_eq h, h]⟩
/-! ### Two lists of numbers -/
def hdI2 (a b : List Int) (i : Int) : Sg := ⟨mkT 26 [(0, rowI a), (1, rowI b), (5, .int .i64 i)], []⟩
def hdN2 : Sg := ⟨mkT 26 [(4, vD false)], []⟩
section
variable {a b : List Int}
set_option maxRecDepth 100000 in
theorem in_yes (hl : a.length = b.length) (hm : a.length ≤ 1000000) : ∀ (k i : Nat), a.length - i = k → i ≤ a.length → a.drop i = b.drop i → LoopP Tryz.prog (loopOf Tryz.prog 53 0) (hdI2 a b i) (.exit 0) (hdI2 a b a.length)
  | 0, i, hk, hi, _ => by
    have : i = a.length := by omega
    subst this
    exact loop_end mixed (fuel := 9) (n := 3) (im := []) (keep := [0, 1, 5]) (ext := []) (orc := [.bool false]) (an (show decide ((a.length : Int) < a.length) = false by simp) trivial) (by intro e; cases e) (by kernel_rfl)
  | k + 1, i, hk, hi, he => by
    have ha : i < a.length := by omega
    have hb : i < b.length := by omega
    rw [List.drop_eq_getElem_cons ha, List.drop_eq_getElem_cons hb] at he
    have h1 : gI a i = gI b i := by rw [gI_eq ha, gI_eq hb]; exact (List.cons.inj he).1
    have ih := in_yes hl hm k (i + 1) (by omega) (by omega) (List.cons.inj he).2
    rw [show ((i + 1 : Nat) : Int) = (i : Int) + 1 by omega] at ih
    exact loop_more mixed (fuel := 9) (n := 3) (im := []) (keep := [0, 1, 5]) (ext := []) (orc := [.bool true, .int .i64 (gI a i), .int .i64 (gI b i), .bool false])
      (an (show decide ((i : Int) < a.length) = true by simp; omega) <| an (ixI' ha) <| an (ixI' hb) <| an (show (gI a i != gI b i) = false by simp [h1]) <| an (show In64 ((i : Int) + 1) by constructor <;> omega) trivial) (by kernel_rfl) ih
set_option maxRecDepth 100000 in
theorem in_no (hl : a.length = b.length) (hm : a.length ≤ 1000000) : ∀ (k i : Nat), a.length - i = k → i ≤ a.length → a.drop i ≠ b.drop i → LoopP Tryz.prog (loopOf Tryz.prog 53 0) (hdI2 a b i) .ret hdN2
  | 0, i, hk, hi, he => absurd (by rw [List.drop_eq_nil_of_le (by omega), List.drop_eq_nil_of_le (by omega)]) he
  | k + 1, i, hk, hi, he => by
    have ha : i < a.length := by omega
    have hb : i < b.length := by omega
    by_cases h1 : gI a i = gI b i
    · have ih := in_no hl hm k (i + 1) (by omega) (by omega) (fun e => he (by rw [List.drop_eq_getElem_cons ha, List.drop_eq_getElem_cons hb, e, ← gI_eq ha, ← gI_eq hb, h1]))
      rw [show ((i + 1 : Nat) : Int) = (i : Int) + 1 by omega] at ih
      exact loop_more mixed (fuel := 9) (n := 3) (im := []) (keep := [0, 1, 5]) (ext := []) (orc := [.bool true, .int .i64 (gI a i), .int .i64 (gI b i), .bool false])
        (an (show decide ((i : Int) < a.length) = true by simp; omega) <| an (ixI' ha) <| an (ixI' hb) <| an (show (gI a i != gI b i) = false by simp [h1]) <| an (show In64 ((i : Int) + 1) by constructor <;> omega) trivial) (by kernel_rfl) ih
    · exact loop_end mixed (fuel := 9) (n := 3) (im := []) (keep := [4]) (ext := []) (orc := [.bool true, .int .i64 (gI a i), .int .i64 (gI b i), .bool true])
        (an (show decide ((i : Int) < a.length) = true by simp; omega) <| an (ixI' ha) <| an (ixI' hb) <| an (show (gI a i != gI b i) = true by simpa using h1) trivial) (by intro e; cases e) (by kernel_rfl)
set_option maxRecDepth 100000 in
theorem ac_ints {r : Bool} (hr : decide (a = b) = r) (hm : a.length ≤ 1000000) : AC Tryz.prog 53 [rowI a, rowI b] (.bool r) := by
  subst hr
  by_cases hl : a.length = b.length
  · by_cases h : a = b
    · rw [show decide (a = b) = true by simp [h]]
      exact ac_path mixed (ext := []) (fuel := 9) (n := 3) (orc := [.bool false, oL [] [0, 1, 5] 0 [(0, rowI a), (1, rowI b), (5, .int .i64 a.length)] []])
        (an (show ((a.length : Int) != b.length) = false by simp [hl]) <| an (in_yes hl hm a.length 0 rfl (by omega) (by simpa using h)) trivial) (by kernel_rfl)
    · rw [show decide (a = b) = false by simp [h]]
      exact ac_path mixed (ext := []) (fuel := 9) (n := 3) (orc := [.bool false, oL [] [0, 1, 5] (-1) [(4, vD false)] []])
        (an (show ((a.length : Int) != b.length) = false by simp [hl]) <| an (in_no hl hm a.length 0 rfl (by omega) (by simpa using h)) trivial) (by kernel_rfl)
  · rw [show decide (a = b) = false by simp; intro e; exact hl (by rw [e])]
    exact ac_path mixed (ext := []) (fuel := 9) (n := 3) (orc := [.bool true]) (an (show ((a.length : Int) != b.length) = true by simp; omega) trivial) (by kernel_rfl)
end
/-! ### Things -/
theorem ask_sl (s t : Slo) {r : Bool} (h : (!decide (s = t)) = r) (x y : Operand) : AskP Tryz.prog (.binOp .neq 92 x y 92) [slT s, slT t] (.bool r) :=
  ask_bin (fun x y W => (guard_agg (by kernel_rfl) x y _ _ W).1) (fun W => by rw [← h]; exact sl_neq s t W) x y
def hdTg (a b : St) (n i : Int) : Sg := ⟨mkT 96 [(2, pt 0), (3, pt 1), (5, .int .i64 n), (6, .int .i64 i)], [some ⟨true, false, 20, 1, [stT a]⟩, some ⟨true, false, 20, 1, [stT b]⟩]⟩
theorem diffL_drop {l m : List Slo} {i : Nat} (h1 : i < l.length) (h2 : i < m.length) : diffL (l.drop i) (m.drop i) = (if gs l i = gs m i then 0 else 1) + diffL (l.drop (i + 1)) (m.drop (i + 1)) := by
  rw [List.drop_eq_getElem_cons h1, List.drop_eq_getElem_cons h2, gs_eq h1, gs_eq h2]; rfl
set_option maxRecDepth 100000 in
theorem tg_lp {a b : St} (hl : a.sl.length = b.sl.length) (hm : a.sl.length ≤ 1000) : ∀ (k i n : Nat), a.sl.length - i = k → i ≤ a.sl.length → n ≤ 1000 + i → LoopP Tryz.prog (loopOf Tryz.prog 19 0) (hdTg a b n i) (.exit 0) (hdTg a b (n + diffL (a.sl.drop i) (b.sl.drop i) : Nat) a.sl.length)
  | 0, i, n, hk, hi, _ => by
    have : i = a.sl.length := by omega
    subst this
    rw [List.drop_length, show diffL [] (b.sl.drop a.sl.length) = 0 from by simp [diffL], Nat.add_zero]
    exact loop_end mixed (fuel := 9) (n := 3) (im := [0, 1]) (keep := [2, 3, 5, 6]) (ext := []) (orc := [.bool false]) (an (show decide ((a.sl.length : Int) < a.sl.length) = false by simp) trivial) (by intro e; cases e) (by kernel_rfl)
  | k + 1, i, n, hk, hi, hn => by
    have h1 : i < a.sl.length := by omega
    have h2 : i < b.sl.length := by omega
    rw [diffL_drop h1 h2]
    by_cases hs : gs a.sl i = gs b.sl i
    · have ih := tg_lp hl hm k (i + 1) n (by omega) (by omega) (by omega)
      rw [if_pos hs, Nat.zero_add]
      rw [show ((i + 1 : Nat) : Int) = (i : Int) + 1 by omega] at ih
      exact loop_more mixed (fuel := 9) (n := 3) (im := [0, 1]) (keep := [2, 3, 5, 6]) (ext := []) (orc := [.bool true, .bool true, slT (gs a.sl i), slT (gs b.sl i), .bool false, .bool false])
        (an (show decide ((i : Int) < a.sl.length) = true by simp; omega) <| an (show decide ((i : Int) < b.sl.length) = true by simp; omega) <| an (ixS h1) <| an (ixS h2) <| an (ask_sl (gs a.sl i) (gs b.sl i) (r := false) (by simp [hs]) (.tmp 32) (.tmp 37)) <| an (rfl : false = false) <| an (show In64 ((i : Int) + 1) by constructor <;> omega) trivial) (by kernel_rfl) ih
    · have ih := tg_lp hl hm k (i + 1) (n + 1) (by omega) (by omega) (by omega)
      rw [if_neg hs, ← Nat.add_assoc]
      rw [show ((i + 1 : Nat) : Int) = (i : Int) + 1 by omega, show ((n + 1 : Nat) : Int) = (n : Int) + 1 by omega] at ih
      exact loop_more mixed (fuel := 9) (n := 3) (im := [0, 1]) (keep := [2, 3, 5, 6]) (ext := []) (orc := [.bool true, .bool true, slT (gs a.sl i), slT (gs b.sl i), .bool true, .bool true])
        (an (show decide ((i : Int) < a.sl.length) = true by simp; omega) <| an (show decide ((i : Int) < b.sl.length) = true by simp; omega) <| an (ixS h1) <| an (ixS h2) <| an (ask_sl (gs a.sl i) (gs b.sl i) (r := true) (by simp [hs]) (.tmp 32) (.tmp 37)) <| an (rfl : true = true) <| an (show In64 ((n : Int) + 1) by constructor <;> omega) <| an (show In64 ((i : Int) + 1) by constructor <;> omega) trivial) (by kernel_rfl) ih
section
variable {a b : St} (hl : a.sl.length = b.sl.length) (hm : a.sl.length ≤ 1000) (hx : a.sn.length ≤ 1000000 ∧ a.rc.length ≤ 1000000 ∧ a.fl.length ≤ 1000000 ∧ a.el.length ≤ 1000000)
include hl hm hx
set_option maxRecDepth 100000 in
theorem tg_0 (hw : (!decide ((⟨a.hd, a.tl, a.md⟩ : Wo3) = ⟨b.hd, b.tl, b.md⟩)) = false) (hsn : decide (a.sn = b.sn) = true) (hrc : decide (a.rc = b.rc) = true) (hfe : (a.fe != b.fe) = false) (hfl : decide (a.fl = b.fl) = true) (hee : (a.ee != b.ee) = false) (hel : decide (a.el = b.el) = true) : AC Tryz.prog 19 [stT a, stT b] (.int .i64 (((0 + diffL a.sl b.sl : Nat) : Int))) :=
  ac_path mixed (ext := [53]) (fuel := 9) (n := 3) (orc := [.bool false, .nilFunc, oL [0, 1] [2, 3, 5, 6] 0 [(2, pt 0), (3, pt 1), (5, .int .i64 ((0 + diffL a.sl b.sl : Nat) : Int)), (6, .int .i64 a.sl.length)] (hdTg a b 0 0).H, vD true, vD true, .bool false, vD true, .bool false, vD true])
    (an (ask_wn (q := false) hw (.tmp 8) (.tmp 10)) <| an (tg_lp hl hm a.sl.length 0 0 rfl (by omega) (by omega)) <| an (ac_ints (r := true) hsn (by omega)) <| an (ac_ints (r := true) hrc (by omega)) <| an (show (a.fe != b.fe) = false from hfe) <| an (ac_ints (r := true) hfl (by omega)) <| an (show (a.ee != b.ee) = false from hee) <| an (ac_ints (r := true) hel (by omega)) trivial) (by kernel_rfl)
set_option maxRecDepth 100000 in
theorem tg_w (hw : (!decide ((⟨a.hd, a.tl, a.md⟩ : Wo3) = ⟨b.hd, b.tl, b.md⟩)) = true) (hsn : decide (a.sn = b.sn) = true) (hrc : decide (a.rc = b.rc) = true) (hfe : (a.fe != b.fe) = false) (hfl : decide (a.fl = b.fl) = true) (hee : (a.ee != b.ee) = false) (hel : decide (a.el = b.el) = true) : AC Tryz.prog 19 [stT a, stT b] (.int .i64 (((1 + diffL a.sl b.sl : Nat) : Int))) :=
  ac_path mixed (ext := [53]) (fuel := 9) (n := 3) (orc := [.bool true, .nilFunc, oL [0, 1] [2, 3, 5, 6] 0 [(2, pt 0), (3, pt 1), (5, .int .i64 ((1 + diffL a.sl b.sl : Nat) : Int)), (6, .int .i64 a.sl.length)] (hdTg a b 0 0).H, vD true, vD true, .bool false, vD true, .bool false, vD true])
    (an (ask_wn (q := true) hw (.tmp 8) (.tmp 10)) <| an (show In64 ((0 : Int) + 1) by decide) <| an (tg_lp hl hm a.sl.length 0 1 rfl (by omega) (by omega)) <| an (ac_ints (r := true) hsn (by omega)) <| an (ac_ints (r := true) hrc (by omega)) <| an (show (a.fe != b.fe) = false from hfe) <| an (ac_ints (r := true) hfl (by omega)) <| an (show (a.ee != b.ee) = false from hee) <| an (ac_ints (r := true) hel (by omega)) trivial) (by kernel_rfl)
set_option maxRecDepth 100000 in
theorem tg_sn (hd : diffL a.sl b.sl ≤ 1000) (hw : (!decide ((⟨a.hd, a.tl, a.md⟩ : Wo3) = ⟨b.hd, b.tl, b.md⟩)) = false) (hsn : decide (a.sn = b.sn) = false) (hrc : decide (a.rc = b.rc) = true) (hfe : (a.fe != b.fe) = false) (hfl : decide (a.fl = b.fl) = true) (hee : (a.ee != b.ee) = false) (hel : decide (a.el = b.el) = true) : AC Tryz.prog 19 [stT a, stT b] (.int .i64 (((0 + diffL a.sl b.sl : Nat) : Int) + 1)) :=
  ac_path mixed (ext := [53]) (fuel := 9) (n := 3) (orc := [.bool false, .nilFunc, oL [0, 1] [2, 3, 5, 6] 0 [(2, pt 0), (3, pt 1), (5, .int .i64 ((0 + diffL a.sl b.sl : Nat) : Int)), (6, .int .i64 a.sl.length)] (hdTg a b 0 0).H, vD false, vD true, .bool false, vD true, .bool false, vD true])
    (an (ask_wn (q := false) hw (.tmp 8) (.tmp 10)) <| an (tg_lp hl hm a.sl.length 0 0 rfl (by omega) (by omega)) <| an (ac_ints (r := false) hsn (by omega)) <| an (show In64 (((0 + diffL a.sl b.sl : Nat) : Int) + 1) by constructor <;> omega) <| an (ac_ints (r := true) hrc (by omega)) <| an (show (a.fe != b.fe) = false from hfe) <| an (ac_ints (r := true) hfl (by omega)) <| an (show (a.ee != b.ee) = false from hee) <| an (ac_ints (r := true) hel (by omega)) trivial) (by kernel_rfl)
set_option maxRecDepth 100000 in
theorem tg_rc (hd : diffL a.sl b.sl ≤ 1000) (hw : (!decide ((⟨a.hd, a.tl, a.md⟩ : Wo3) = ⟨b.hd, b.tl, b.md⟩)) = false) (hsn : decide (a.sn = b.sn) = true) (hrc : decide (a.rc = b.rc) = false) (hfe : (a.fe != b.fe) = false) (hfl : decide (a.fl = b.fl) = true) (hee : (a.ee != b.ee) = false) (hel : decide (a.el = b.el) = true) : AC Tryz.prog 19 [stT a, stT b] (.int .i64 (((0 + diffL a.sl b.sl : Nat) : Int) + 1)) :=
  ac_path mixed (ext := [53]) (fuel := 9) (n := 3) (orc := [.bool false, .nilFunc, oL [0, 1] [2, 3, 5, 6] 0 [(2, pt 0), (3, pt 1), (5, .int .i64 ((0 + diffL a.sl b.sl : Nat) : Int)), (6, .int .i64 a.sl.length)] (hdTg a b 0 0).H, vD true, vD false, .bool false, vD true, .bool false, vD true])
    (an (ask_wn (q := false) hw (.tmp 8) (.tmp 10)) <| an (tg_lp hl hm a.sl.length 0 0 rfl (by omega) (by omega)) <| an (ac_ints (r := true) hsn (by omega)) <| an (ac_ints (r := false) hrc (by omega)) <| an (show In64 (((0 + diffL a.sl b.sl : Nat) : Int) + 1) by constructor <;> omega) <| an (show (a.fe != b.fe) = false from hfe) <| an (ac_ints (r := true) hfl (by omega)) <| an (show (a.ee != b.ee) = false from hee) <| an (ac_ints (r := true) hel (by omega)) trivial) (by kernel_rfl)
set_option maxRecDepth 100000 in
theorem tg_fe (hd : diffL a.sl b.sl ≤ 1000) (hw : (!decide ((⟨a.hd, a.tl, a.md⟩ : Wo3) = ⟨b.hd, b.tl, b.md⟩)) = false) (hsn : decide (a.sn = b.sn) = true) (hrc : decide (a.rc = b.rc) = true) (hfe : (a.fe != b.fe) = true) (hee : (a.ee != b.ee) = false) (hel : decide (a.el = b.el) = true) : AC Tryz.prog 19 [stT a, stT b] (.int .i64 (((0 + diffL a.sl b.sl : Nat) : Int) + 1)) :=
  ac_path mixed (ext := [53]) (fuel := 9) (n := 3) (orc := [.bool false, .nilFunc, oL [0, 1] [2, 3, 5, 6] 0 [(2, pt 0), (3, pt 1), (5, .int .i64 ((0 + diffL a.sl b.sl : Nat) : Int)), (6, .int .i64 a.sl.length)] (hdTg a b 0 0).H, vD true, vD true, .bool true, .bool false, vD true])
    (an (ask_wn (q := false) hw (.tmp 8) (.tmp 10)) <| an (tg_lp hl hm a.sl.length 0 0 rfl (by omega) (by omega)) <| an (ac_ints (r := true) hsn (by omega)) <| an (ac_ints (r := true) hrc (by omega)) <| an (show (a.fe != b.fe) = true from hfe) <| an (show In64 (((0 + diffL a.sl b.sl : Nat) : Int) + 1) by constructor <;> omega) <| an (show (a.ee != b.ee) = false from hee) <| an (ac_ints (r := true) hel (by omega)) trivial) (by kernel_rfl)
set_option maxRecDepth 100000 in
theorem tg_fl (hd : diffL a.sl b.sl ≤ 1000) (hw : (!decide ((⟨a.hd, a.tl, a.md⟩ : Wo3) = ⟨b.hd, b.tl, b.md⟩)) = false) (hsn : decide (a.sn = b.sn) = true) (hrc : decide (a.rc = b.rc) = true) (hfe : (a.fe != b.fe) = false) (hfl : decide (a.fl = b.fl) = false) (hee : (a.ee != b.ee) = false) (hel : decide (a.el = b.el) = true) : AC Tryz.prog 19 [stT a, stT b] (.int .i64 (((0 + diffL a.sl b.sl : Nat) : Int) + 1)) :=
  ac_path mixed (ext := [53]) (fuel := 9) (n := 3) (orc := [.bool false, .nilFunc, oL [0, 1] [2, 3, 5, 6] 0 [(2, pt 0), (3, pt 1), (5, .int .i64 ((0 + diffL a.sl b.sl : Nat) : Int)), (6, .int .i64 a.sl.length)] (hdTg a b 0 0).H, vD true, vD true, .bool false, vD false, .bool false, vD true])
    (an (ask_wn (q := false) hw (.tmp 8) (.tmp 10)) <| an (tg_lp hl hm a.sl.length 0 0 rfl (by omega) (by omega)) <| an (ac_ints (r := true) hsn (by omega)) <| an (ac_ints (r := true) hrc (by omega)) <| an (show (a.fe != b.fe) = false from hfe) <| an (ac_ints (r := false) hfl (by omega)) <| an (show In64 (((0 + diffL a.sl b.sl : Nat) : Int) + 1) by constructor <;> omega) <| an (show (a.ee != b.ee) = false from hee) <| an (ac_ints (r := true) hel (by omega)) trivial) (by kernel_rfl)
set_option maxRecDepth 100000 in
theorem tg_ee (hd : diffL a.sl b.sl ≤ 1000) (hw : (!decide ((⟨a.hd, a.tl, a.md⟩ : Wo3) = ⟨b.hd, b.tl, b.md⟩)) = false) (hsn : decide (a.sn = b.sn) = true) (hrc : decide (a.rc = b.rc) = true) (hfe : (a.fe != b.fe) = false) (hfl : decide (a.fl = b.fl) = true) (hee : (a.ee != b.ee) = true) : AC Tryz.prog 19 [stT a, stT b] (.int .i64 (((0 + diffL a.sl b.sl : Nat) : Int) + 1)) :=
  ac_path mixed (ext := [53]) (fuel := 9) (n := 3) (orc := [.bool false, .nilFunc, oL [0, 1] [2, 3, 5, 6] 0 [(2, pt 0), (3, pt 1), (5, .int .i64 ((0 + diffL a.sl b.sl : Nat) : Int)), (6, .int .i64 a.sl.length)] (hdTg a b 0 0).H, vD true, vD true, .bool false, vD true, .bool true])
    (an (ask_wn (q := false) hw (.tmp 8) (.tmp 10)) <| an (tg_lp hl hm a.sl.length 0 0 rfl (by omega) (by omega)) <| an (ac_ints (r := true) hsn (by omega)) <| an (ac_ints (r := true) hrc (by omega)) <| an (show (a.fe != b.fe) = false from hfe) <| an (ac_ints (r := true) hfl (by omega)) <| an (show (a.ee != b.ee) = true from hee) <| an (show In64 (((0 + diffL a.sl b.sl : Nat) : Int) + 1) by constructor <;> omega) trivial) (by kernel_rfl)
set_option maxRecDepth 100000 in
theorem tg_el (hd : diffL a.sl b.sl ≤ 1000) (hw : (!decide ((⟨a.hd, a.tl, a.md⟩ : Wo3) = ⟨b.hd, b.tl, b.md⟩)) = false) (hsn : decide (a.sn = b.sn) = true) (hrc : decide (a.rc = b.rc) = true) (hfe : (a.fe != b.fe) = false) (hfl : decide (a.fl = b.fl) = true) (hee : (a.ee != b.ee) = false) (hel : decide (a.el = b.el) = false) : AC Tryz.prog 19 [stT a, stT b] (.int .i64 (((0 + diffL a.sl b.sl : Nat) : Int) + 1)) :=
  ac_path mixed (ext := [53]) (fuel := 9) (n := 3) (orc := [.bool false, .nilFunc, oL [0, 1] [2, 3, 5, 6] 0 [(2, pt 0), (3, pt 1), (5, .int .i64 ((0 + diffL a.sl b.sl : Nat) : Int)), (6, .int .i64 a.sl.length)] (hdTg a b 0 0).H, vD true, vD true, .bool false, vD true, .bool false, vD false])
    (an (ask_wn (q := false) hw (.tmp 8) (.tmp 10)) <| an (tg_lp hl hm a.sl.length 0 0 rfl (by omega) (by omega)) <| an (ac_ints (r := true) hsn (by omega)) <| an (ac_ints (r := true) hrc (by omega)) <| an (show (a.fe != b.fe) = false from hfe) <| an (ac_ints (r := true) hfl (by omega)) <| an (show (a.ee != b.ee) = false from hee) <| an (ac_ints (r := false) hel (by omega)) <| an (show In64 (((0 + diffL a.sl b.sl : Nat) : Int) + 1) by constructor <;> omega) trivial) (by kernel_rfl)
/-- Two states that differ in no more than one thing. -/
theorem ac_things (h : thingsN a b ≤ 1) : ∃ v : Int, v ≤ 1 ∧ AC Tryz.prog 19 [stT a, stT b] (.int .i64 v) := by
  unfold thingsN oneI at h
  have hd : diffL a.sl b.sl ≤ 1000 := by omega
  have cast : (((0 + diffL a.sl b.sl : Nat) : Int)) = (diffL a.sl b.sl : Int) := by omega
  by_cases cw : (a.hd, a.tl, a.md) = (b.hd, b.tl, b.md)
  · have hw : (!decide ((⟨a.hd, a.tl, a.md⟩ : Wo3) = ⟨b.hd, b.tl, b.md⟩)) = false := by simp only [Prod.mk.injEq] at cw; simp [cw.1, cw.2.1, cw.2.2]
    by_cases csn : a.sn = b.sn
    · by_cases crc : a.rc = b.rc
      · by_cases cfe : a.fe = b.fe
        · by_cases cfl : a.fl = b.fl
          · by_cases cee : a.ee = b.ee
            · by_cases cel : a.el = b.el
              · refine ⟨_, ?_, tg_0 hl hm hx hw (by simp [csn]) (by simp [crc]) (by simp [cfe]) (by simp [cfl]) (by simp [cee]) (by simp [cel])⟩
                simp only [cw, csn, crc, cfe, cfl, cee, cel, and_self, if_true] at h; omega
              · refine ⟨_, ?_, tg_el hl hm hx hd hw (by simp [csn]) (by simp [crc]) (by simp [cfe]) (by simp [cfl]) (by simp [cee]) (by simp [cel])⟩
                simp only [cw, csn, crc, cfe, cfl, cee, cel, and_self, and_false, if_true, if_false] at h; omega
            · refine ⟨_, ?_, tg_ee hl hm hx hd hw (by simp [csn]) (by simp [crc]) (by simp [cfe]) (by simp [cfl]) (by simp [cee])⟩
              simp only [cw, csn, crc, cfe, cfl, cee, and_self, false_and, if_true, if_false] at h; omega
          · refine ⟨_, ?_, tg_fl hl hm hx hd hw (by simp [csn]) (by simp [crc]) (by simp [cfe]) (by simp [cfl]) ?_ ?_⟩
            · simp only [cw, csn, crc, cfe, cfl, and_false, if_true, if_false] at h; omega
            · by_cases cee : a.ee = b.ee
              · simp [cee]
              · simp only [cw, csn, crc, cfe, cfl, cee, and_false, false_and, if_true, if_false] at h; omega
            · by_cases cel : a.el = b.el
              · simp [cel]
              · simp only [cw, csn, crc, cfe, cfl, cel, and_false, if_true, if_false] at h; omega
        · refine ⟨_, ?_, tg_fe hl hm hx hd hw (by simp [csn]) (by simp [crc]) (by simp [cfe]) ?_ ?_⟩
          · simp only [cw, csn, crc, cfe, false_and, if_true, if_false] at h; omega
          · by_cases cee : a.ee = b.ee
            · simp [cee]
            · simp only [cw, csn, crc, cfe, cee, false_and, if_true, if_false] at h; omega
          · by_cases cel : a.el = b.el
            · simp [cel]
            · simp only [cw, csn, crc, cfe, cel, and_false, false_and, if_true, if_false] at h; omega
      · by_cases c1 : a.fe = b.fe ∧ a.fl = b.fl
        · by_cases c2 : a.ee = b.ee ∧ a.el = b.el
          · refine ⟨_, ?_, tg_rc hl hm hx hd hw (by simp [csn]) (by simp [crc]) (by simp [c1.1]) (by simp [c1.2]) (by simp [c2.1]) (by simp [c2.2])⟩
            simp only [cw, csn, crc, c1, c2, and_self, if_true, if_false] at h; omega
          · simp only [cw, csn, crc, c1, c2, and_self, if_true, if_false] at h; omega
        · simp only [cw, csn, crc, c1, if_true, if_false] at h; omega
    · by_cases crc : a.rc = b.rc
      · by_cases c1 : a.fe = b.fe ∧ a.fl = b.fl
        · by_cases c2 : a.ee = b.ee ∧ a.el = b.el
          · refine ⟨_, ?_, tg_sn hl hm hx hd hw (by simp [csn]) (by simp [crc]) (by simp [c1.1]) (by simp [c1.2]) (by simp [c2.1]) (by simp [c2.2])⟩
            simp only [cw, csn, crc, c1, c2, and_self, if_true, if_false] at h; omega
          · simp only [cw, csn, crc, c1, c2, and_self, if_true, if_false] at h; omega
        · simp only [cw, csn, crc, c1, if_true, if_false] at h; omega
      · simp only [cw, csn, crc, if_true, if_false] at h; omega
  · have hw : (!decide ((⟨a.hd, a.tl, a.md⟩ : Wo3) = ⟨b.hd, b.tl, b.md⟩)) = true := by simp only [Prod.mk.injEq] at cw; simp; omega
    by_cases csn : a.sn = b.sn
    · by_cases crc : a.rc = b.rc
      · by_cases c1 : a.fe = b.fe ∧ a.fl = b.fl
        · by_cases c2 : a.ee = b.ee ∧ a.el = b.el
          · refine ⟨_, ?_, tg_w hl hm hx hw (by simp [csn]) (by simp [crc]) (by simp [c1.1]) (by simp [c1.2]) (by simp [c2.1]) (by simp [c2.2])⟩
            simp only [cw, csn, crc, c1, c2, and_self, if_true, if_false] at h; omega
          · simp only [cw, csn, crc, c1, c2, and_self, if_true, if_false] at h; omega
        · simp only [cw, csn, crc, c1, if_true, if_false] at h; omega
      · simp only [cw, csn, crc, if_true, if_false] at h; omega
    · simp only [cw, csn, if_true, if_false] at h; omega
end
end Go.Proofs.YtfllnpcoggmepaaGreat

/- Layer 14, plain: what a step of who sends tells is what the queue may be told of. -/
namespace Go.Proofs.YtfllnpcoggmepaaGreat
set_option linter.unusedVariables false
set_option linter.unusedSimpArgs false
theorem quV_eq {a s : St} (h0 : stB a = stB s) (h1 : a.hd = s.hd) (h2 : a.tl = s.tl) (h3 : a.md = s.md) (h4 : a.sl = s.sl) (h5 : a.cf = s.cf) : quV a = quV s := by
  cases a; cases s; simp only at h1 h2 h3 h4 h5; subst h1 h2 h3 h4 h5; unfold quV; rw [h0]; rfl
theorem quV_yes {s : St} (h : stB s = true) : quV s = ⟨(List.range (s.tl - s.hd).toNat).map fun (n : Nat) => atV s (s.hd + n), cfR s.cf, s.cf.po, s.md⟩ := by unfold quV; rw [if_pos h]
theorem quV_len {s : St} (h : stB s = true) : ((quV s).vals.length : Int) = s.tl - s.hd := by
  have := check_len (word_ok h).1
  rw [quV_yes h]; simp only [List.length_map, List.length_range]; omega
theorem quV_cap {s : St} (h : stB s = true) : (quV s).cap = s.sl.length ∧ (quV s).pol = s.cf.po ∧ (quV s).mode = s.md := by
  rw [quV_yes h]; exact ⟨(word_ok h).2.2.symm, rfl, rfl⟩
/-- What one is told who looks. -/
theorem sees_or {s : St} (h : stB s = true) : (seesS s = 1 ∧ s.md = 0 ∧ s.tl - s.hd < s.sl.length ∧ s.tl < 1099511627776) ∨ (seesS s = 2 ∧ s.md = 0 ∧ (s.tl - s.hd = s.sl.length ∨ s.tl = 1099511627776)) ∨ (seesS s = 6 ∧ s.md = 1) ∨ (seesS s = 7 ∧ s.md = 2) := by
  have c := (word_ok h).1
  have hl := check_len c
  unfold seesS acR haltB
  rw [c, full_iff c]
  by_cases h2 : s.md = 2
  · simp [h2]
  · by_cases h1 : s.md = 1
    · simp [h1]
    · have h0 : s.md = 0 := by omega
      by_cases hf : s.tl - s.hd = s.sl.length
      · simp [h0, hf]
      · by_cases he : s.tl = 1099511627776
        · simp [h0, hf, he]
        · simp [h0, hf, he]; omega
theorem sendsB_of {k : Int} (h : opSide k = 1) : sendsB k = true := by have := side_is k; simp [sendsB]; omega
/-- A result told of the queue as it was. -/
theorem tell_send {s : St} (h : stB s = true) {n ki va r g : Int} (hk : opSide ki = 1) (hr : (r = 2 ∧ s.md = 0 ∧ s.tl - s.hd = s.sl.length ∧ s.cf.po = 0 ∧ ki = 2) ∨ (r = 3 ∧ s.md = 0 ∧ s.tl - s.hd = s.sl.length ∧ s.cf.po = 1) ∨ (r = 5 ∧ ki = 3) ∨ (r = 6 ∧ s.md = 1) ∨ (r = 7 ∧ s.md = 2)) :
    (quV s).tell ⟨n, ki, va, r, g⟩ = (quV s, true) := by
  obtain ⟨c1, c2, c3⟩ := quV_cap h
  have hl := quV_len h
  unfold Qu.tell
  rw [if_pos (sendsB_of hk)]
  unfold Qu.send Qu.full
  rcases hr with ⟨rfl, h1, h2, h3, h4⟩ | ⟨rfl, h1, h2, h3⟩ | ⟨rfl, h1⟩ | ⟨rfl, h1⟩ | ⟨rfl, h1⟩
  · simp [c1, c2, c3, h1, h3, h4]; omega
  · simp [c1, c2, c3, h1, h3]; omega
  · simp [h1]
  · simp [c3, h1]
  · simp [c3, h1]
/-- What a step does to the queue: nothing, or what it tells. -/
def QuOk (s a : St) (n : Nat) : Prop := (a.lg = s.lg ∧ quV a = quV s) ∨ ∃ x : En, a.lg = s.lg ++ [x] ∧ x.th = (n : Int) ∧ (quV s).tell x = (quV a, true)
theorem quOk_on {s : St} (h : stB s = true) {n : Nat} {f : Th → Th} (ht : thB (f (gth s.th n)) = true) : QuOk s (s.onTh n f) n :=
  .inl ⟨rfl, quV_eq (by rw [h]; exact onTh_stB h ht) rfl rfl rfl rfl rfl⟩
theorem lg_is {s : St} (h : stB s = true) {n : Nat} (hn : n < s.th.length) (k r g p : Int) : (toldS s n k r g p).lg = s.lg ++ [⟨n, k, (gth s.th n).va, r, g⟩] := by
  show (tellS s n k r g).lg = _; rw [tell_th h hn]; rfl
theorem qu_told {s : St} (h : stB s = true) {n : Nat} (hn : n < s.th.length) (h1 : (gth s.th n).st ≠ 0) {k r g p : Int} (hr : 0 ≤ r ∧ r ≤ 7) (hp : 0 ≤ p ∧ p ≤ 11) : quV (toldS s n k r g p) = quV s := by
  have hs := shr_told s n k r g p
  simp only [shr, Prod.mk.injEq] at hs
  exact quV_eq (by rw [h]; exact told_stB h hn h1 hr hp) hs.1.1 hs.1.2.1 hs.1.2.2 hs.2.1 (by show (tellS s n k r g).cf = s.cf; exact (cf_tell s n k r g).1)
theorem quOk_told {s : St} (h : stB s = true) {n : Nat} (hn : n < s.th.length) (h1 : (gth s.th n).st ≠ 0) {r p : Int} (hr : 0 ≤ r ∧ r ≤ 7) (hp : 0 ≤ p ∧ p ≤ 11) (hk : opSide (gth s.th n).ki = 1)
    (hc : (r = 2 ∧ s.md = 0 ∧ s.tl - s.hd = s.sl.length ∧ s.cf.po = 0 ∧ (gth s.th n).ki = 2) ∨ (r = 3 ∧ s.md = 0 ∧ s.tl - s.hd = s.sl.length ∧ s.cf.po = 1) ∨ (r = 5 ∧ (gth s.th n).ki = 3) ∨ (r = 6 ∧ s.md = 1) ∨ (r = 7 ∧ s.md = 2)) : QuOk s (toldS s n (gth s.th n).ki r 0 p) n :=
  .inr ⟨_, lg_is h hn _ _ _ _, rfl, by rw [qu_told h hn h1 hr hp]; exact tell_send h hk hc⟩
theorem late_3 {t : Th} (h : thB t = true) (hk : opSide t.ki = 1) (hl : t.la = true) : t.ki = 3 := by
  obtain ⟨st, ki, va, un, pc, re, se, tr, la, rs, go⟩ := t
  simp only at *
  subst hl
  rw [thB_iff] at h
  have := side_is ki
  have hb : bI true = 1 := rfl
  omega
theorem atV_place {s : St} (h : stB s = true) {p : Int} (hp : 0 ≤ p) : valV s p = atV s p := by unfold valV; rw [if_neg (by omega), if_pos h]
/-- One more is there. -/
theorem quV_in {s a : St} (h : stB s = true) (ha : stB a = true) (h1 : a.hd = s.hd) (h2 : a.tl = s.tl + 1) (h3 : a.md = s.md) (h4 : a.sl = s.sl) (h5 : a.cf = s.cf) : quV a = (quV s).with ((quV s).vals ++ [atV s s.tl]) := by
  have c := check_len (word_ok h).1
  rw [quV_yes h, quV_yes ha]
  unfold Qu.with
  have hat : ∀ p, atV a p = atV s p := fun p => by unfold atV; rw [h4]
  simp only [hat, h1, h2, h3, h5]
  rw [show (s.tl + 1 - s.hd).toNat = (s.tl - s.hd).toNat + 1 by omega, List.range_succ, List.map_append, List.map_singleton]
  rw [show s.hd + ((s.tl - s.hd).toNat : Int) = s.tl by omega]
/-- The first one is gone. -/
theorem quV_out {s a : St} (h : stB s = true) (ha : stB a = true) (h1 : a.hd = s.hd + 1) (h2 : a.tl = s.tl) (h3 : a.md = s.md) (h4 : a.sl = s.sl) (h5 : a.cf = s.cf) (hl : s.hd < s.tl) : (quV s).gone (atV s s.hd) = (quV a, true) := by
  have c := check_len (word_ok h).1
  have hat : ∀ p, atV a p = atV s p := fun p => by unfold atV; rw [h4]
  have e : (List.range (s.tl - s.hd).toNat).map (fun (n : Nat) => atV s (s.hd + n)) = atV s s.hd :: (List.range (a.tl - a.hd).toNat).map (fun (n : Nat) => atV a (a.hd + n)) := by
    rw [show (s.tl - s.hd).toNat = (a.tl - a.hd).toNat + 1 by rw [h1, h2]; omega, List.range_succ_eq_map, List.map_cons, List.map_map]
    congr 1
    · simp
    · refine List.map_congr_left fun k _ => ?_
      simp only [Function.comp, hat, h1]
      congr 1; omega
  unfold Qu.gone
  rw [quV_yes h, quV_yes ha]
  simp only [e]
  simp [Qu.with, h3, h5]
theorem fullS_qu {s : St} (h : stB s = true) {n : Nat} (hn : n < s.th.length) (h1 : (gth s.th n).st ≠ 0) (hk : opSide (gth s.th n).ki = 1) (ht : s.tl ≠ 1099511627776) (hs : seesS s = 2) : QuOk s (fullS s n) n := by
  have hg := gth_ok h hn
  have hp := cf_th (st_iff.1 h).1
  obtain ⟨hm, hf⟩ : s.md = 0 ∧ s.tl - s.hd = s.sl.length := by rcases sees_or h with ⟨h', -⟩ | ⟨-, h1, h2⟩ | ⟨h', -⟩ | ⟨h', -⟩ <;> omega
  have hc := check_iff.1 (word_ok h).1
  unfold fullS
  repeat' split
  · next c => exact quOk_told h hn h1 (by decide) (by decide) hk (.inr (.inl ⟨rfl, hm, hf, c⟩))
  · exact quOk_on h (regT_ok hg h1 (by omega) (by decide))
  · next c1 c2 c => exact quOk_told h hn h1 (by decide) (by decide) hk (.inl ⟨rfl, hm, hf, by omega, c⟩)
  · next c => exact quOk_told h hn h1 (by decide) (by decide) hk (.inr (.inr (.inl ⟨rfl, late_3 hg hk c⟩)))
  · exact quOk_on h (pcT_ok hg h1 (by decide))
  · exact quOk_on h (onT_ok hg h1)
theorem sendN_qu {s : St} (h : stB s = true) {n : Nat} (hn : n < s.th.length) (h1 : (gth s.th n).st ≠ 0) (hk : opSide (gth s.th n).ki = 1) :
    ((gth s.th n).pc = 3 ∨ (gth s.th n).pc = 11) ∧ (sendN s n).lg = s.lg ∨
    (sendN s n).lg ≠ s.lg ∧ ((gth s.th n).pc = 4 ∧ valV s s.tl ≠ (gth s.th n).va ∨ (gth s.th n).pc = 10 ∧ s.cf.po ≠ 2 ∨ s.tl = 1099511627776) ∨ QuOk s (sendN s n) n := by
  have hg := gth_ok h hn
  have hc := check_iff.1 (word_ok h).1
  obtain ⟨ln, -, -, -, le, -⟩ := full_lines h
  have he := okE_iff.1 le
  have hst := sendN_stB h hn h1
  have no : ∀ {a : St}, a.lg = s.lg → stB a = true → a.hd = s.hd → a.tl = s.tl → a.md = s.md → a.sl = s.sl → a.cf = s.cf → QuOk s a n := fun h0 h1 h2 h3 h4 h5 h6 => .inl ⟨h0, quV_eq (h1.trans h.symm) h2 h3 h4 h5 h6⟩
  have see : ∀ r, seesS s = r → r ≠ 1 → r ≠ 2 → (r = 6 ∧ s.md = 1) ∨ (r = 7 ∧ s.md = 2) := fun r hr n1 n2 => by rcases sees_or h with ⟨h', -⟩ | ⟨h', -⟩ | h' | h' <;> omega
  obtain p | p | p | p | p | p | p | p | p | p | p | p := pc_or hg
  · refine .inr (.inr (no ?_ hst ?_ ?_ ?_ ?_ ?_)) <;> rw [sendN_0 p] <;> rfl
  · rw [sendN_1 p] at hst ⊢
    refine .inr (.inr ?_)
    unfold firstS
    repeat' split
    · exact quOk_on h (pcT_ok hg h1 (by decide))
    · next c => exact quOk_told h hn h1 (by decide) (by decide) hk (.inr (.inr (.inl ⟨rfl, late_3 hg hk c⟩)))
    · exact quOk_on h (onT_ok hg h1)
  · rw [sendN_2 p]
    unfold lookS
    split
    · exact .inr (.inr (quOk_on h (regT_ok hg h1 (by omega) (by decide))))
    · split
      · next hs2 =>
        by_cases ht : s.tl = 1099511627776
        · by_cases hl : (fullS s n).lg = s.lg
          · have hb := fullS_stB h hn h1
            refine .inr (.inr (.inl ⟨hl, ?_⟩))
            have hsh : shr (fullS s n) = shr s ∧ (fullS s n).cf = s.cf := by
              unfold fullS; (repeat' split) <;> first | exact ⟨shr_told _ _ _ _ _ _, (cf_tell _ _ _ _ _).1⟩ | exact ⟨rfl, rfl⟩
            obtain ⟨hsh, hcf⟩ := hsh
            simp only [shr, Prod.mk.injEq] at hsh
            exact quV_eq (hb.trans h.symm) hsh.1.1 hsh.1.2.1 hsh.1.2.2 hsh.2.1 hcf
          · exact .inr (.inl ⟨hl, .inr (.inr ht)⟩)
        · exact .inr (.inr (fullS_qu h hn h1 hk ht hs2))
      · next n1 n2 => exact .inr (.inr (quOk_told h hn h1 (sees_bd s) (by decide) hk (.inr (.inr (.inr (see _ rfl n1 n2))))))
  · rw [sendN_3 p]
    refine .inl ⟨.inl p, ?_⟩
    split <;> rfl
  · rw [sendN_4 p] at hst ⊢
    unfold acceptS at hst ⊢
    split
    · next hs =>
      rw [if_pos hs] at hst
      obtain ⟨hm, hlt, htl⟩ : s.md = 0 ∧ s.tl - s.hd < s.sl.length ∧ s.tl < 1099511627776 := by rcases sees_or h with ⟨-, h'⟩ | ⟨h', -⟩ | ⟨h', -⟩ | ⟨h', -⟩ <;> first | exact h' | omega
      have hb : stB (s.toWord s.hd (s.tl + 1) s.md) = true := by
        have h2 := ac_check (word_ok h).1
        rw [(ac_y hs).1] at h2
        exact word_stB h h2
      have hlg := lg_is hb (n := n) hn (gth s.th n).ki 1 0 6
      by_cases hv : valV s s.tl = (gth s.th n).va
      · refine .inr (.inr (.inr ⟨_, hlg, rfl, ?_⟩))
        have hq : quV (toldS (s.toWord s.hd (s.tl + 1) s.md) n (gth s.th n).ki 1 0 6) = quV (s.toWord s.hd (s.tl + 1) s.md) := qu_told hb (n := n) hn h1 (by decide) (by decide)
        rw [hq, quV_in h hb rfl rfl rfl rfl rfl]
        unfold Qu.tell
        have hg' : gth (s.toWord s.hd (s.tl + 1) s.md).th n = gth s.th n := rfl
        rw [hg', if_pos (sendsB_of hk)]
        obtain ⟨c1, c2, c3⟩ := quV_cap h
        have hl := quV_len h
        unfold Qu.send Qu.full
        have hnf : decide ((quV s).cap ≤ ((quV s).vals.length : Int)) = false := by rw [c1, hl]; simp; omega
        simp only [if_true, hnf, c3, hm, ne_eq, not_true_eq_false, decide_false, Bool.or_self, Bool.false_eq_true, if_false]
        rw [← hv, atV_place h (by omega)]
      · exact .inr (.inl ⟨by rw [hlg]; simp [St.toWord], .inl ⟨p, hv⟩⟩)
    · next hs =>
      split
      · exact .inr (.inr (quOk_on h (pcT_ok hg h1 (by decide))))
      · next n2 => exact .inr (.inr (quOk_told h hn h1 (sees_bd s) (by decide) hk (.inr (.inr (.inr (see _ rfl hs n2))))))
  · rw [sendN_5 p]; exact .inr (.inr (quOk_on h (seenT_ok hg h1 (by omega) (by decide))))
  · refine .inr (.inr (no ?_ hst ?_ ?_ ?_ ?_ ?_)) <;> rw [sendN_6 p] <;> unfold notifyS wakeS <;> (repeat' split) <;> rfl
  · rw [sendN_7 p]
    refine .inr (.inr ?_)
    split
    · exact quOk_on h (pcT_ok hg h1 (by decide))
    · exact quOk_on h (pcT_ok hg h1 (by decide))
  · refine .inr (.inr (no ?_ hst ?_ ?_ ?_ ?_ ?_)) <;> rw [sendN_8 p] <;> unfold commitS <;> (repeat' split) <;> rfl
  · refine .inr (.inr (no ?_ hst ?_ ?_ ?_ ?_ ?_)) <;> rw [sendN_9 p] <;> rfl
  · rw [sendN_10 p] at hst ⊢
    unfold evictS at hst ⊢
    split
    · next hb =>
      rw [if_pos hb] at hst
      obtain ⟨e1, e2, e3, e4, e5⟩ := ev_iff.1 hb
      have hw : stB (s.toWord (s.hd + 1) s.tl s.md) = true := by
        have h2 := ev_check (x := (gth s.th n).re) (word_ok h).1
        rw [show evH s.hd s.tl s.md s.sl.length (gth s.th n).re = s.hd + 1 by unfold evH; rw [if_pos hb]] at h2
        exact word_stB h h2
      have hlg := lg_is hw (n := n) hn 9 1 (valV s (gth s.th n).re) 11
      by_cases hp : s.cf.po = 2
      · refine .inr (.inr (.inr ⟨_, hlg, rfl, ?_⟩))
        have hq : quV (toldS (s.toWord (s.hd + 1) s.tl s.md) n 9 1 (valV s (gth s.th n).re) 11) = quV (s.toWord (s.hd + 1) s.tl s.md) := qu_told hw (n := n) hn h1 (by decide) (by decide)
        rw [hq, ← quV_out h hw rfl rfl rfl rfl rfl e5]
        obtain ⟨c1, c2, c3⟩ := quV_cap h
        have hl := quV_len h
        unfold Qu.tell
        have k1 : sendsB 9 = false := by decide
        have k2 : recvsB 9 = false := by decide
        rw [if_neg (by rw [k1]; decide), if_neg (by rw [k2]; decide)]
        have hno : ¬ ((quV s).mode ≠ 0 ∨ (quV s).pol ≠ 2 ∨ ((quV s).vals.length : Int) < (quV s).cap) := by rw [c1, c2, c3, hl]; omega
        rw [if_neg (show ¬ (1 : Int) ≠ 1 by decide), if_neg (show ¬ (9 : Int) = 7 by decide), if_neg (show ¬ (9 : Int) = 8 by decide), if_pos rfl, if_neg hno, ← e3, atV_place h (by omega)]
      · exact .inr (.inl ⟨by rw [hlg]; simp [St.toWord], .inr (.inl ⟨p, hp⟩)⟩)
    · exact .inr (.inr (quOk_on h (pcT_ok hg h1 (by decide))))
  · rw [sendN_11 p]; exact .inl ⟨.inr p, rfl⟩
end Go.Proofs.YtfllnpcoggmepaaGreat

/- Contracts of the document's functions of layer 3: numbers' lists, and queues, held against each other. -/
namespace Go.Proofs.YtfllnpcoggmepaaGreat
set_option linter.unusedVariables false
set_option linter.unusedSimpArgs false
open Go.ChangeShapes Go.WideShapes Go.ChangeAt Go.RowKit

end Go.Proofs.YtfllnpcoggmepaaGreat
