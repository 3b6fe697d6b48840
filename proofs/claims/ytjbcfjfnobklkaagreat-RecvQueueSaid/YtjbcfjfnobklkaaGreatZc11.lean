/- Texts merged: AcNT, AcOT, AcTT, AcPT, AcQT, SdPT, SdQT, RecvFT, SdAT, RecvAT, RecvVT, AcRT, SdKT, SdBT. -/
import Derived.Test.YtjbcfjfnobklkaaGreatZc10
import Derived.Test.YtjbcfjfnobklkaaGreatZc5
import Derived.Test.YtjbcfjfnobklkaaGreatZc8
import Derived.Test.YtjbcfjfnobklkaaGreatZc9
import Derived.Test.YtjbcfjfnobklkaaGreatZc6
import Derived.Test.YtjbcfjfnobklkaaGreatZc7
/- The document's Steps: as many steps as there are, told by plain states. -/
namespace Go.Proofs.YtjbcfjfnobklkaaGreat
set_option linter.unusedVariables false
set_option linter.unusedSimpArgs false
open Go.RowKit
section
variable {s : St} {i m o : Int} {b : Bool}
end
end Go.Proofs.YtjbcfjfnobklkaaGreat

/- Contracts told by abstract values: whether two states are one. -/
namespace Go.Proofs.YtjbcfjfnobklkaaGreat
set_option linter.unusedVariables false
set_option linter.unusedSimpArgs false
open Go.RowKit
theorem ac_rints (l : List Int) (hm : l.length ≤ 1000000) : AC Tryz.prog 33 [rowI l, rowI l] (.bool true) := by
  intro O W vs hl hat ; obtain ⟨ys, rfl, _, _, rfl, h0, _, _, rfl, h1, rfl⟩ := args_of hat
  obtain ⟨p, k, rfl, hs⟩ := rp_rowI.1 h0
  obtain ⟨q, k', rfl, ht⟩ := rp_rowI.1 h1
  refine (rints_any l l p q k k' W hs.s ht.s (by omega)).mono ?_
  rintro e W' ⟨rfl, hk⟩
  exact ⟨_, rfl, rp_bool.2 (by simp), hk⟩
def gle (l : List En) (i : Nat) : En := l.getD i ⟨0, 0, 0, 0, 0⟩
theorem ixEn {l : List En} {i : Nat} (h : i < l.length) : IxP ((l.map enT).toArray) (i : Int) (enT (gle l i)) := ⟨by omega, by simp [gle, h]⟩
end Go.Proofs.YtjbcfjfnobklkaaGreat

/- Contracts told by abstract values: the program's New, Invoke, Queue, by the engine. -/
namespace Go.Proofs.YtjbcfjfnobklkaaGreat
set_option linter.unusedVariables false
set_option linter.unusedSimpArgs false
open Go.RowKit
def quT (q : Qu) : Value := .agg #[rowI q.vals, .int .i64 q.cap, .int .i64 q.pol, .int .i64 q.mode]
theorem ac_croom (c : Cf) : AC Tryz.prog 64 [cfT c] (.int .i64 (cfR c)) := by
  intro O W vs hl hat ; obtain ⟨ys, rfl, _, _, rfl, h0, rfl⟩ := args_of hat
  rw [rp_cfT] at h0
  subst h0
  refine (croom_any c.lg c.th c.po c.wt c.sp c.yi c.si W).mono ?_
  rintro e W' ⟨rfl, hk⟩
  exact ⟨_, rfl, rp_int.2 rfl, hk⟩
theorem ac_snew (r : Int) (hr : In64 r) : AC Tryz.prog 116 [.int .i64 r] (rowS (newL r)) := by
  intro O W vs hl hat ; obtain ⟨ys, rfl, _, _, rfl, h0, rfl⟩ := args_of hat
  rw [rp_int] at h0
  subst h0
  refine (snew_any r hr W).mono ?_
  rintro e W' ⟨p, k, rfl, ho, hk⟩
  exact ⟨_, rfl, rowS_own hl ho, hk⟩
theorem ac_omay {c : Cf} {i k r : Int} (h : opMay c.th c.si i k = r) : AC Tryz.prog 60 [cfT c, .int .i64 i, .int .i64 k] (.int .i64 r) := by
  intro O W vs hl hat ; obtain ⟨ys, rfl, _, _, rfl, h0, _, _, rfl, h1, _, _, rfl, h2, rfl⟩ := args_of hat
  rw [rp_cfT] at h0
  rw [rp_int] at h1 h2
  subst h0 h1 h2
  refine (omay_any c.lg c.th c.po c.wt c.sp c.yi c.si i k W).mono ?_
  rintro e W' ⟨rfl, hk⟩
  exact ⟨_, rfl, rp_int.2 (by rw [h]), hk⟩
theorem ac_place {p r : Int} (hp : In64 p) (hr : In64 r) : AC Tryz.prog 131 [.int .i64 p, .int .i64 r] (.int .i64 (placeI p r)) := by
  intro O W vs hl hat ; obtain ⟨ys, rfl, _, _, rfl, h0, _, _, rfl, h1, rfl⟩ := args_of hat
  rw [rp_int] at h0 h1
  subst h0 h1
  refine (place_any p r hp hr W).mono ?_
  rintro e W' ⟨rfl, hk⟩
  exact ⟨_, rfl, rp_int.2 rfl, hk⟩
theorem make_th {n : Int} (h0 : 0 ≤ n) (h1 : n ≤ 1000) : MakeP n n (List.replicate n.toNat th0).length ((List.replicate n.toNat th0).map thT) (thT th0) := ⟨by simp; omega, by omega, by omega, by simp⟩
set_option maxRecDepth 100000 in
theorem ac_pnew {c : Cf} (hc : cfB c = true) : AC Tryz.prog 57 [cfT c] (.tuple #[stT (newSt c), .int .i64 0]) :=
  ac_path mixed (ext := [52, 64, 116]) (fuel := 9) (n := 4) (orc := [.int .i64 0, .nilFunc, .int .i64 (cfR c), rowS (newL (cfR c)), rowT (List.replicate c.th.toNat th0)])
    (an (ac_ccheck (c := c) (r := 0) (by simp [hc])) <| an (ac_croom c) <| an (ac_snew (cfR c) (room_in c)) <| an (make_th (n := c.th) (by have := cf_th hc; omega) (by have := cf_th hc; omega)) <| an (len_map (f := thT) (List.replicate c.th.toNat th0)) trivial) (by kernel_rfl)
set_option maxRecDepth 100000 in
theorem ac_pinv_1 {s : St} {i k v u : Int} (hA : stB s = false) (ho : s.ok) (hf : s.fit) : AC Tryz.prog 23 [stT s, .int .i64 i, .int .i64 k, .int .i64 v, .int .i64 u] (.tuple #[stT s, .int .i64 20]) :=
  ac_path mixed (ext := [21, 122, 121, 124, 123]) (fuel := 9) (n := 5) (orc := [vD false, rowS s.sl, rowI s.sn, rowI s.rc, rowI s.fl, rowI s.el, rowT s.th, rowE s.lg])
    (an (ac_pcheck hA ho) <| an (ac_copS s.sl hf.sl) <| an (ac_copI s.sn hf.sn) <| an (ac_copI s.rc hf.rc) <| an (ac_copI s.fl hf.fl) <| an (ac_copI s.el hf.el) <| an (ac_copT s.th hf.th) <| an (ac_copE s.lg hf.lg) trivial) (by kernel_rfl)
set_option maxRecDepth 100000 in
theorem ac_pinv_2 {s : St} {i k v u E : Int} (hA : stB s = true) (hE : opMay s.cf.th s.cf.si i k = E) (hE0 : E ≠ 0) (ho : s.ok) (hf : s.fit) : AC Tryz.prog 23 [stT s, .int .i64 i, .int .i64 k, .int .i64 v, .int .i64 u] (.tuple #[stT s, .int .i64 E]) :=
  ac_path mixed (ext := [21, 122, 121, 124, 123, 60]) (fuel := 9) (n := 5) (orc := [vD true, .int .i64 E, .bool true, rowS s.sl, rowI s.sn, rowI s.rc, rowI s.fl, rowI s.el, rowT s.th, rowE s.lg])
    (an (ac_pcheck hA ho) <| an (ac_omay hE) <| an (show (E != 0) = true by simpa using hE0) <| an (ac_copS s.sl hf.sl) <| an (ac_copI s.sn hf.sn) <| an (ac_copI s.rc hf.rc) <| an (ac_copI s.fl hf.fl) <| an (ac_copI s.el hf.el) <| an (ac_copT s.th hf.th) <| an (ac_copE s.lg hf.lg) trivial) (by kernel_rfl)
set_option maxRecDepth 100000 in
theorem ac_pinv_3 {s : St} {n : Nat} {k v u E : Int} {t : Th} (hA : stB s = true) (hM : opMay s.cf.th s.cf.si n k = 0) (hT : thBeg (gth s.th n) k v u E t) (hn : n < s.th.length) (ho : s.ok) (hf : s.fit) :
    AC Tryz.prog 23 [stT s, .int .i64 n, .int .i64 k, .int .i64 v, .int .i64 u] (.tuple #[stT (s.setTh n t), .int .i64 E]) :=
  ac_path mixed (ext := [21, 122, 121, 124, 60, 61]) (fuel := 9) (n := 5)
    (orc := [vD true, .int .i64 0, .nilFunc, thT (gth s.th n), .tuple #[thT t, .int .i64 E], rowS s.sl, rowI s.sn, rowI s.rc, rowI s.fl, rowI s.el, rowT s.th, rowE s.lg, thT (gth s.th n), rowT (s.th.set n t)])
    (an (ac_pcheck hA ho) <| an (ac_omay hM) <| an (ixT hn) <| an (ac_tbeg hT) <| an (ac_copS s.sl hf.sl) <| an (ac_copI s.sn hf.sn) <| an (ac_copI s.rc hf.rc) <| an (ac_copI s.fl hf.fl) <| an (ac_copI s.el hf.el) <| an (allK_T s.th) <| an (app_nil (f := thT) (lt_ne hn) hf.th) <|
      an (ac_copE s.lg hf.lg) <| an (idT hn) <| an (elT hn) <| an (setT s.th n t) <| an (show LenP s.th.length (s.th.set n t).length ((s.th.set n t).map thT) from ⟨by simp, by simp⟩) trivial) (by kernel_rfl)
theorem ac_pinvoke {s : St} {i k v u E : Int} {r : St} (h : stBeg s i k v u E r) (ho : s.ok) (hf : s.fit) : AC Tryz.prog 23 [stT s, .int .i64 i, .int .i64 k, .int .i64 v, .int .i64 u] (.tuple #[stT r, .int .i64 E]) := by
  rcases h with ⟨hA, rfl, rfl⟩ | ⟨hA, h0, rfl, rfl⟩ | ⟨hA, h0, n, t, rfl, hn, hT, rfl⟩
  · exact ac_pinv_1 hA ho hf
  · exact ac_pinv_2 hA rfl h0 ho hf
  · exact ac_pinv_3 hA h0 hT hn ho hf

/-! ### What is there -/
def qZ : Value := .agg #[.slice none 0 0, .int .i64 0, .int .i64 0, .int .i64 0]
def qN (v : Value) (c p m : Int) : Value := .agg #[v, .int .i64 c, .int .i64 p, .int .i64 m]
def hdQ0 (s : St) (r n i : Int) : Sg := ⟨mkT 39 [(1, pt 0), (2, pt 1), (3, pt 2), (21, .int .i64 n), (22, .int .i64 i)], [some ⟨true, false, 20, 1, [stT s]⟩, some ⟨true, false, 4, 1, [qZ]⟩, some ⟨true, false, 4, 1, [qN (.slice none 0 0) r s.cf.po s.md]⟩]⟩
def hdQ (s : St) (r n i : Int) (l : List Int) : Sg := ⟨mkT 39 [(1, pt 0), (2, pt 1), (3, pt 2), (21, .int .i64 n), (22, .int .i64 i)], [some ⟨true, false, 20, 1, [stT s]⟩, some ⟨true, false, 4, 1, [qZ]⟩, some ⟨true, false, 4, 1, [qN (.slice (some ⟨3, 0, some 0⟩) l.length 0) r s.cf.po s.md]⟩, some ⟨true, true, 1, l.length, l.map (.int .i64 ·)⟩]⟩
def atL (s : St) (i : Nat) : List Int := (List.range i).map fun (n : Nat) => atV s (s.hd + n)
theorem atL_s (s : St) (i : Nat) : atL s (i + 1) = atL s i ++ [atV s (s.hd + i)] := by simp [atL, List.range_succ]
theorem lenI' (l : List Int) : l.length = (l.map (Value.int .i64 ·)).length := by simp
theorem at_ix {s : St} (h : stB s = true) {p : Int} (hp : 0 ≤ p) : IxP ((s.sl.map slT).toArray) (placeI p s.sl.length) (slT (gs s.sl (plc s.sl p))) := by
  have hl : liesS s.sl p = true := lies_iff.2 ⟨hp, (word_ok h).2.1⟩
  obtain ⟨h1, h2⟩ := plc_lt hl
  rw [h2]
  exact ⟨by omega, by simp [gs_eq h1, h1]⟩
section
variable {s : St} {r : Int} {n : Nat}
set_option maxRecDepth 100000 in
theorem q_0 (h : stB s = true) (hn : s.tl - s.hd = n) (h0 : 0 < n) (hL : LoopP Tryz.prog (loopOf Tryz.prog 25 0) (hdQ s r n 1 (atL s 1)) (.exit 0) (hdQ s r n n (atL s n))) : LoopP Tryz.prog (loopOf Tryz.prog 25 0) (hdQ0 s r n 0) (.exit 0) (hdQ s r n n (atL s n)) := by
  have hc := check_len (word_ok h).1
  have hs := word_ok h
  have hr := cf_room (st_iff.1 h).1
  refine loop_more mixed (ext := [131]) (fuel := 9) (n := 3) (im := [0, 1, 2, 4]) (keep := [1, 2, 3, 21, 22]) (orc := [.bool true, .int .i64 (placeI (s.hd + 0) s.sl.length), slT (gs s.sl (plc s.sl (s.hd + 0))), rowI (atL s 1)])
    (an (show decide ((0 : Int) < n) = true by simp; omega) <| an (show In64 (s.hd + 0) by constructor <;> omega) <| an (ac_place (p := s.hd + 0) (r := s.sl.length) (by constructor <;> omega) (by constructor <;> omega)) <| an (at_ix h (p := s.hd + 0) (by omega)) <| an (rfl : (1 : Nat) = 1) <| an (allK_I [atV s (s.hd + 0)]) <|
      an (show 0 < 1 ∧ AppP (atL s 1).length ((atL s 1).map (Value.int .i64 ·)) 0 [] 1 [.int .i64 (atV s (s.hd + 0))] from ⟨by omega, by simp [atL], by simp [atL], by omega⟩) <| an (show In64 ((0 : Int) + 1) by constructor <;> omega) trivial) (by kernel_rfl) hL
set_option maxRecDepth 100000 in
theorem q_1 (h : stB s = true) (hn : s.tl - s.hd = n) : ∀ (k i : Nat), n - i = k → i ≤ n → LoopP Tryz.prog (loopOf Tryz.prog 25 0) (hdQ s r n i (atL s i)) (.exit 0) (hdQ s r n n (atL s n))
  | 0, i, hk, hi => by
    have : i = n := by omega
    subst this
    exact loop_end mixed (ext := [131]) (fuel := 9) (n := 3) (im := [0, 1, 2, 3]) (keep := [1, 2, 3, 21, 22]) (orc := [.bool false]) (an (show decide ((i : Int) < i) = false by simp) trivial) (by intro e; cases e) (by kernel_rfl)
  | k + 1, i, hk, hi => by
    have hc := check_len (word_ok h).1
    have hs := word_ok h
    have hr := cf_room (st_iff.1 h).1
    have ih := q_1 h hn k (i + 1) (by omega) (by omega)
    rw [show ((i + 1 : Nat) : Int) = (i : Int) + 1 by omega] at ih
    have hl : (atL s i).length = i := by simp [atL]
    have hl1 : (atL s (i + 1)).length = i + 1 := by simp [atL]
    exact loop_more mixed (ext := [131]) (fuel := 9) (n := 3) (im := [0, 1, 2, 5]) (keep := [1, 2, 3, 21, 22]) (orc := [.bool true, .int .i64 (placeI (s.hd + i) s.sl.length), slT (gs s.sl (plc s.sl (s.hd + i))), rowI (atL s (i + 1))])
      (an (show decide ((i : Int) < n) = true by simp; omega) <| an (show In64 (s.hd + i) by constructor <;> omega) <| an (ac_place (p := s.hd + i) (r := s.sl.length) (by constructor <;> omega) (by constructor <;> omega)) <| an (at_ix h (p := s.hd + i) (by omega)) <| an (rfl : (1 : Nat) = 1) <| an (allK_I [atV s (s.hd + i)]) <|
        an (lenI' (atL s i)) <| an (show AppP (atL s (i + 1)).length ((atL s (i + 1)).map (Value.int .i64 ·)) (atL s i).length ((atL s i).map (Value.int .i64 ·)) 1 [.int .i64 (atV s (s.hd + i))] from ⟨by omega, by rw [atL_s]; simp, by omega⟩) <| an (show In64 ((i : Int) + 1) by constructor <;> omega) trivial) (by kernel_rfl) ih
set_option maxRecDepth 100000 in
theorem ac_pqueue {q : Qu} (hq : quV s = q) (ho : s.ok) : AC Tryz.prog 25 [stT s] (quT q) := by
  subst hq
  cases hB : stB s
  · rw [show quV s = ⟨[], 0, 0, 0⟩ by unfold quV; rw [hB]; rfl]
    exact ac_path mixed (ext := [21, 64, 65]) (fuel := 9) (n := 4) (orc := [vD false]) (an (ac_pcheck hB ho) trivial) (by kernel_rfl)
  · have hc := check_len (word_ok hB).1
    obtain ⟨n, hn⟩ : ∃ n : Nat, s.tl - s.hd = n := ⟨(s.tl - s.hd).toNat, by omega⟩
    rw [show quV s = ⟨atL s n, cfR s.cf, s.cf.po, s.md⟩ by unfold quV; rw [if_pos hB, hn]; rfl]
    have hL : AC Tryz.prog 65 [wdT s.hd s.tl s.md] (.int .i64 n) := by
      have := ac_poslen (h := s.hd) (t := s.tl) (m := s.md) (by constructor <;> omega) (by constructor <;> omega)
      rwa [hc.2.2.2.2.2.1, hn] at this
    by_cases h0 : n = 0
    · subst h0
      exact ac_path mixed (ext := [21, 64, 65]) (fuel := 9) (n := 4) (orc := [vD true, .int .i64 (cfR s.cf), .int .i64 (0 : Nat), .nilFunc]) (an (ac_pcheck hB ho) <| an (ac_croom s.cf) <| an hL trivial) (by kernel_rfl)
    · have h1 := q_1 (r := cfR s.cf) hB hn (n - 1) 1 rfl (by omega)
      exact ac_path mixed (ext := [21, 64, 65]) (fuel := 9) (n := 4) (orc := [vD true, .int .i64 (cfR s.cf), .int .i64 n, oL [0, 1, 2] [1, 2, 3, 21, 22] 0 [(1, pt 0), (2, pt 1), (3, pt 2), (21, .int .i64 n), (22, .int .i64 n)] (hdQ s (cfR s.cf) n n (atL s n)).H])
        (an (ac_pcheck hB ho) <| an (ac_croom s.cf) <| an hL <| an (q_0 hB hn (by omega) h1) <| an (len_map (f := (Value.int .i64 ·)) (atL s n)) trivial) (by kernel_rfl)
end
end Go.Proofs.YtjbcfjfnobklkaaGreat

/- The head of the laws of layer 14 (awake), by contracts told by abstract values. -/
namespace Go.Proofs.YtjbcfjfnobklkaaGreat
set_option linter.unusedVariables false
set_option linter.unusedSimpArgs false
open Go.RowKit
def cW : Cf := ⟨1, 2, 0, 0, 0, 0, false⟩
def sW : St := newSt cW
theorem cW_b : cfB cW = true := by decide
theorem sW_b : stB sW = true := new_stB cW_b
theorem cW_in : cW.ok := by simp [cW, Cf.ok, In64]
theorem sW_in : sW.ok := ok_of sW_b ⟨cW_in, fun x hx => by
  have hx' : x = ⟨0, 0⟩ ∨ x = ⟨1, 0⟩ := by
    have : sW.sl = [⟨0, 0⟩, ⟨1, 0⟩] := rfl
    rw [this] at hx; simpa using hx
  rcases hx' with rfl | rfl <;> (constructor <;> decide), fun t ht => by
  have ht' : t = th0 := by
    have : sW.th = [th0, th0] := rfl
    rw [this] at ht; simpa using ht
  subst ht'
  constructor <;> (constructor <;> decide)⟩ (by decide)
end Go.Proofs.YtjbcfjfnobklkaaGreat

/- What the laws of layer 14 call: Few, the program's Step, Steps of any state. -/
namespace Go.Proofs.YtjbcfjfnobklkaaGreat
set_option linter.unusedVariables false
set_option linter.unusedSimpArgs false
open Go.RowKit
theorem nil_no {s : St} (h : s.th = []) : stB s = false := by
  cases hB : stB s
  · rfl
  · have := (th_len hB).2.1; rw [h] at this; simp at this
theorem sendK_no {s : St} {i : Int} (h : stB s = false) (k : Nat) : sendK s i k = (s, 0) := by
  cases k with
  | zero => rfl
  | succ k => simp [sendK, runsB, hasB, h]
set_option maxRecDepth 100000 in
theorem ac_psteps_nil {s : St} {i m : Int} (h : s.th = []) (ho : s.ok) (hf : s.fit) : AC Tryz.prog 58 [stT s, .int .i64 i, .int .i64 m] (.tuple #[stT s, .int .i64 0]) := by
  cases hm : decide ((0 : Int) < min m 1000)
  · exact ac_path mixed (ext := [70, 21]) (fuel := 9) (n := 5) (orc := [stT s, .bool false]) (an (ac_keep (neg_no s) ho hf) <| an hm trivial) (by kernel_rfl)
  · exact ac_path mixed (ext := [70, 21]) (fuel := 9) (n := 5) (orc := [stT s, .bool true, vD false]) (an (ac_keep (neg_no s) ho hf) <| an hm <| an (ac_pcheck (nil_no h) ho) trivial) (by kernel_rfl)
/-- Some steps of the program, of any state. -/
theorem ac_pst {s : St} {i m : Int} (ho : s.ok) (hf : s.fit) (hl : s.lg.length ≤ 800000) : AC Tryz.prog 58 [stT s, .int .i64 i, .int .i64 m] (.tuple #[stT (sendK s i (min m 1000).toNat).1, .int .i64 (sendK s i (min m 1000).toNat).2]) := by
  by_cases h : s.th = []
  · rw [sendK_no (nil_no h)]; exact ac_psteps_nil h ho hf
  · exact ac_psteps ho hf h hl
def fewB (s : St) : Bool := decide ((s.sl.length : Int) ≤ 100) && (decide ((s.th.length : Int) ≤ 100) && (decide ((s.sn.length : Int) ≤ 100) && (decide ((s.rc.length : Int) ≤ 100) && (decide ((s.fl.length : Int) ≤ 100) && (decide ((s.el.length : Int) ≤ 100) && decide ((s.lg.length : Int) ≤ 200))))))
set_option maxRecDepth 100000 in
theorem ac_rfew (s : St) : AC Tryz.prog 11 [stT s] (.bool (fewB s)) := by
  unfold fewB
  cases h1 : decide ((s.sl.length : Int) ≤ 100)
  · exact ac_path mixed (ext := []) (fuel := 9) (n := 3) (orc := [.bool false]) (an h1 trivial) (by kernel_rfl)
  cases h2 : decide ((s.th.length : Int) ≤ 100)
  · exact ac_path mixed (ext := []) (fuel := 9) (n := 3) (orc := [.bool true, .bool false]) (an h1 <| an h2 trivial) (by kernel_rfl)
  cases h3 : decide ((s.sn.length : Int) ≤ 100)
  · exact ac_path mixed (ext := []) (fuel := 9) (n := 3) (orc := [.bool true, .bool true, .bool false]) (an h1 <| an h2 <| an h3 trivial) (by kernel_rfl)
  cases h4 : decide ((s.rc.length : Int) ≤ 100)
  · exact ac_path mixed (ext := []) (fuel := 9) (n := 3) (orc := [.bool true, .bool true, .bool true, .bool false]) (an h1 <| an h2 <| an h3 <| an h4 trivial) (by kernel_rfl)
  cases h5 : decide ((s.fl.length : Int) ≤ 100)
  · exact ac_path mixed (ext := []) (fuel := 9) (n := 3) (orc := [.bool true, .bool true, .bool true, .bool true, .bool false]) (an h1 <| an h2 <| an h3 <| an h4 <| an h5 trivial) (by kernel_rfl)
  cases h6 : decide ((s.el.length : Int) ≤ 100)
  · exact ac_path mixed (ext := []) (fuel := 9) (n := 3) (orc := [.bool true, .bool true, .bool true, .bool true, .bool true, .bool false]) (an h1 <| an h2 <| an h3 <| an h4 <| an h5 <| an h6 trivial) (by kernel_rfl)
  exact ac_path mixed (ext := []) (fuel := 9) (n := 3) (orc := [.bool true, .bool true, .bool true, .bool true, .bool true, .bool true]) (an h1 <| an h2 <| an h3 <| an h4 <| an h5 <| an h6 trivial) (by kernel_rfl)
theorem few_is {s : St} (h : fewB s = true) : s.few ∧ s.fit ∧ s.lg.length ≤ 200 := by
  simp only [fewB, Bool.and_eq_true, decide_eq_true_eq] at h
  obtain ⟨h1, h2, h3, h4, h5, h6, h7⟩ := h
  exact ⟨⟨by omega, by omega, by omega, by omega, by omega, by omega, by omega⟩, ⟨by omega, by omega, by omega, by omega, by omega, by omega, by omega⟩, by omega⟩
/-- A contract, as a law's walk is asked. -/
theorem law_of {g : FuncId} {args : List Value} {vs : Array Value} {W : World} (h : AC Tryz.prog g args (.bool true)) (hv : AtAll (Rp nowhere (fun _ => False) W) args.toArray vs) : Calls Tryz.prog g vs W fun e W' => e = .returned (.bool true) ∧ Kept W W' := by
  refine (h (fun _ => False) W vs (fun g hg => hg.elim) hv).mono ?_
  rintro e W' ⟨c, rfl, hr, hk⟩
  rw [rp_bool] at hr
  exact ⟨by rw [hr], hk⟩
theorem st_free {W : World} {s : St} {z : Pz} (h : StAt W s z) : Rp nowhere (fun _ => False) W (stT s) (.agg #[.int .i64 s.cf.lg, .int .i64 s.cf.th, .int .i64 s.cf.po, .int .i64 s.cf.wt, .int .i64 s.cf.sp, .int .i64 s.cf.yi, .bool s.cf.si, .int .i64 s.hd, .int .i64 s.tl, .int .i64 s.md, .slice z.p1 s.sl.length z.k1, .slice z.p2 s.sn.length z.k2, .slice z.p3 s.rc.length z.k3, .int .i64 s.fe, .slice z.p4 s.fl.length z.k4, .int .i64 s.ee, .slice z.p5 s.el.length z.k5, .int .i64 s.nw, .slice z.p6 s.th.length z.k6, .slice z.p7 s.lg.length z.k7]) := rp_stT.2 ⟨z, rfl, h.loc.mono fun _ _ h => h⟩
end Go.Proofs.YtjbcfjfnobklkaaGreat

/- Layer 14, plain: what some steps of who sends are, and what they change. -/
namespace Go.Proofs.YtjbcfjfnobklkaaGreat
set_option linter.unusedVariables false
set_option linter.unusedSimpArgs false
theorem sendK_off {s : St} {i : Int} (h : runsB s i 1 = false) (k : Nat) : sendK s i k = (s, 0) := by
  cases k with
  | zero => rfl
  | succ k => simp [sendK, h]
theorem sendK_on {s : St} {i : Int} (h : runsB s i 1 = true) (k : Nat) : sendK s i (k + 1) = ((sendK (sendS s i) i k).1, (sendK (sendS s i) i k).2 + 1) := by simp [sendK, h]
/-! ### What threads share -/
/-- The word, the slots, Sends, Recvs, Full, Empty. -/
def shr (s : St) : (Int × Int × Int) × List Slo × List Int × List Int × (Int × List Int) × (Int × List Int) := ((s.hd, s.tl, s.md), s.sl, s.sn, s.rc, (s.fe, s.fl), (s.ee, s.el))
theorem shr_on (s : St) (n : Nat) (f : Th → Th) : shr (s.onTh n f) = shr s := rfl
theorem shr_tell (s : St) (i k r g : Int) : shr (tellS s i k r g) = shr s := by unfold tellS; split <;> rfl
theorem shr_told (s : St) (n : Nat) (k r g p : Int) : shr (toldS s n k r g p) = shr s := by unfold toldS; rw [shr_on, shr_tell]
/-! ### What becomes of the other threads -/
/-- Of two lists of threads, all but one are as they were, but for one who is woken. -/
structure Oth (l m : List Th) (i : Int) : Prop where
  len : m.length = l.length
  one : ∃ w : Nat, ∀ j : Nat, j < l.length → (j : Int) ≠ i → gth m j = gth l j ∨ (j = w ∧ (gth l j).st = 2 ∧ gth m j = wakeT (gth l j))
theorem Oth.refl (l : List Th) (i : Int) : Oth l l i := ⟨rfl, 0, fun _ _ _ => .inl rfl⟩
theorem Oth.set {l : List Th} {n : Nat} (t : Th) : Oth l (l.set n t) n := ⟨by simp, 0, fun j hj hne => .inl (by
  by_cases hn : n < l.length
  · rw [gth_set hn, if_neg (by omega)]
  · rw [List.set_eq_of_length_le (by omega)])⟩
theorem Oth.wake {l : List Th} {n w : Nat} (t : Th) (hw : w < l.length) : Oth l ((l.set n t).set w (wakeT (gth (l.set n t) w))) n := ⟨by simp, w, fun j hj hne => by
  have e1 : gth (l.set n t) j = gth l j := by
    by_cases hn : n < l.length
    · rw [gth_set hn, if_neg (by omega)]
    · rw [List.set_eq_of_length_le (by omega)]
  rw [gth_set (by simpa using hw)]
  split
  · next e =>
    subst e
    rw [e1]
    by_cases h2 : (gth l w).st = 2
    · exact .inr ⟨rfl, h2, rfl⟩
    · left; unfold wakeT; rw [if_neg h2]
  · exact .inl e1⟩
/-! ### What is told, and what stays -/
/-- What is told is told behind all that was, at most once. -/
def LgOk (a b : List En) : Prop := b = a ∨ ∃ x, b = a ++ [x]
theorem lg_tell (s : St) (i k r g : Int) : LgOk s.lg (tellS s i k r g).lg := by
  unfold tellS; split
  · exact .inr ⟨_, rfl⟩
  · exact .inl rfl
theorem lg_told (s : St) (n : Nat) (k r g p : Int) : LgOk s.lg (toldS s n k r g p).lg := lg_tell s n k r g
theorem cf_tell (s : St) (i k r g : Int) : (tellS s i k r g).cf = s.cf ∧ (tellS s i k r g).nw = s.nw := by unfold tellS; split <;> exact ⟨rfl, rfl⟩
end Go.Proofs.YtjbcfjfnobklkaaGreat

/- Layer 14, plain: what a step of who sends tells is what the queue may be told of. -/
namespace Go.Proofs.YtjbcfjfnobklkaaGreat
set_option linter.unusedVariables false
set_option linter.unusedSimpArgs false
theorem quV_eq {a s : St} (h0 : stB a = stB s) (h1 : a.hd = s.hd) (h2 : a.tl = s.tl) (h3 : a.md = s.md) (h4 : a.sl = s.sl) (h5 : a.cf = s.cf) : quV a = quV s := by
  cases a; cases s; simp only at h1 h2 h3 h4 h5; subst h1 h2 h3 h4 h5; unfold quV; rw [h0]; rfl
theorem quV_yes {s : St} (h : stB s = true) : quV s = ⟨(List.range (s.tl - s.hd).toNat).map fun (n : Nat) => atV s (s.hd + n), cfR s.cf, s.cf.po, s.md⟩ := by unfold quV; rw [if_pos h]
theorem quV_len {s : St} (h : stB s = true) : ((quV s).vals.length : Int) = s.tl - s.hd := by
  have := check_len (word_ok h).1
  rw [quV_yes h]; simp only [List.length_map, List.length_range]; omega
theorem quV_cap {s : St} (h : stB s = true) : (quV s).cap = s.sl.length ∧ (quV s).pol = s.cf.po ∧ (quV s).mode = s.md := by
  rw [quV_yes h]; exact ⟨(word_ok h).2.2.symm, rfl, rfl⟩
/-- What a step does to the queue: nothing, or what it tells. -/
def QuOk (s a : St) (n : Nat) : Prop := (a.lg = s.lg ∧ quV a = quV s) ∨ ∃ x : En, a.lg = s.lg ++ [x] ∧ x.th = (n : Int) ∧ (quV s).tell x = (quV a, true)
theorem quOk_on {s : St} (h : stB s = true) {n : Nat} {f : Th → Th} (ht : thB (f (gth s.th n)) = true) : QuOk s (s.onTh n f) n :=
  .inl ⟨rfl, quV_eq (by rw [h]; exact onTh_stB h ht) rfl rfl rfl rfl rfl⟩
theorem lg_is {s : St} (h : stB s = true) {n : Nat} (hn : n < s.th.length) (k r g p : Int) : (toldS s n k r g p).lg = s.lg ++ [⟨n, k, (gth s.th n).va, r, g⟩] := by
  show (tellS s n k r g).lg = _; rw [tell_th h hn]; rfl
theorem qu_told {s : St} (h : stB s = true) {n : Nat} (hn : n < s.th.length) (h1 : (gth s.th n).st ≠ 0) {k r g p : Int} (hr : 0 ≤ r ∧ r ≤ 7) (hp : 0 ≤ p ∧ p ≤ 11) : quV (toldS s n k r g p) = quV s := by
  have hs := shr_told s n k r g p
  simp only [shr, Prod.mk.injEq] at hs
  exact quV_eq (by rw [h]; exact told_stB h hn h1 hr hp) hs.1.1 hs.1.2.1 hs.1.2.2 hs.2.1 (by show (tellS s n k r g).cf = s.cf; exact (cf_tell s n k r g).1)
theorem atV_place {s : St} (h : stB s = true) {p : Int} (hp : 0 ≤ p) : valV s p = atV s p := by unfold valV; rw [if_neg (by omega), if_pos h]
/-- The first one is gone. -/
theorem quV_out {s a : St} (h : stB s = true) (ha : stB a = true) (h1 : a.hd = s.hd + 1) (h2 : a.tl = s.tl) (h3 : a.md = s.md) (h4 : a.sl = s.sl) (h5 : a.cf = s.cf) (hl : s.hd < s.tl) : (quV s).gone (atV s s.hd) = (quV a, true) := by
  have c := check_len (word_ok h).1
  have hat : ∀ p, atV a p = atV s p := fun p => by unfold atV; rw [h4]
  have e : (List.range (s.tl - s.hd).toNat).map (fun (n : Nat) => atV s (s.hd + n)) = atV s s.hd :: (List.range (a.tl - a.hd).toNat).map (fun (n : Nat) => atV a (a.hd + n)) := by
    rw [show (s.tl - s.hd).toNat = (a.tl - a.hd).toNat + 1 by rw [h1, h2]; omega, List.range_succ_eq_map, List.map_cons, List.map_map]
    congr 1
    · simp
    · refine List.map_congr_left fun k _ => ?_
      simp only [Function.comp, hat, h1]
      congr 1; omega
  unfold Qu.gone
  rw [quV_yes h, quV_yes ha]
  simp only [e]
  simp [Qu.with, h3, h5]
end Go.Proofs.YtjbcfjfnobklkaaGreat

/- Layer 15: a step of who receives, as a plain function; what may be stays so; what it changes; what it tells. -/
namespace Go.Proofs.YtjbcfjfnobklkaaGreat
set_option linter.unusedVariables false
set_option linter.unusedSimpArgs false
def gotT (t : Th) (g p : Int) : Th := ⟨t.st, t.ki, t.va, t.un, p, t.re, t.se, t.tr, t.la, t.rs, g⟩
/-- What one is told who looks. -/
def seesR (s : St) : Int := tkR s.hd s.tl s.md s.sl.length
def firstR (s : St) (n : Nat) : St :=
  if plI s.rc n = 0 then s.onTh n (pcT · 2)
  else if (gth s.th n).la = true then toldS s n (gth s.th n).ki 5 0 9
  else s.onTh n onT
def lookR (s : St) (n : Nat) : St :=
  if seesR s = 1 then s.onTh n (pcT · 3)
  else if seesR s ≠ 4 then toldS s n (gth s.th n).ki (seesR s) 0 9
  else if (gth s.th n).ki = 5 then toldS s n (gth s.th n).ki 4 0 9
  else if (gth s.th n).la = true then toldS s n (gth s.th n).ki 5 0 9
  else if waySt s (gth s.th n).tr = 2 then s.onTh n (pcT · 5)
  else s.onTh n onT
def takeR (s : St) (n : Nat) : St :=
  if seesR s = 4 then s.onTh n (pcT · 2)
  else if seesR s ≠ 1 then toldS s n (gth s.th n).ki (seesR s) 0 9
  else toldS ((s.toWord (s.hd + 1) s.tl s.md).onTh n (regT · s.hd 4)) n (gth s.th n).ki 1 (valV s s.hd) 4
def readR (s : St) (n : Nat) : St := (s.toSl (rlL s.sl (gth s.th n).re)).onTh n (gotT · (rdV s.sl (gth s.th n).re) 6)
def notifyR (s : St) (n : Nat) : St :=
  if hdB (ntT 1 s.fe s.fl) = true then wakeS ((s.toFull (ntE s.fe s.fl) (ntL 1 s.fe s.fl)).onTh n (pcT · 9)) (hdI (ntT 1 s.fe s.fl))
  else (s.toFull (ntE s.fe s.fl) (ntL 1 s.fe s.fl)).onTh n (pcT · 9)
def commitR (s : St) (n : Nat) : St :=
  if (gth s.th n).la = true then s.onTh n (pcT · 2)
  else if cmB s.ee s.el (gth s.th n).se n = true then (s.toEmpty s.ee (s.el ++ [(n : Int)])).onTh n (parkT · 2)
  else s.onTh n (pcT · 2)
/-- A step of thread n, which receives. -/
def recvN (s : St) (n : Nat) : St :=
  if (gth s.th n).pc = 0 then (s.toRc (entL s.rc n)).onTh n (pcT · 1)
  else if (gth s.th n).pc = 1 then firstR s n
  else if (gth s.th n).pc = 2 then lookR s n
  else if (gth s.th n).pc = 3 then takeR s n
  else if (gth s.th n).pc = 4 then readR s n
  else if (gth s.th n).pc = 5 then s.onTh n (seenT · s.ee 7)
  else if (gth s.th n).pc = 6 then notifyR s n
  else if (gth s.th n).pc = 7 then (if seesR s = 4 ∧ (gth s.th n).la = false then s.onTh n (pcT · 8) else s.onTh n (pcT · 2))
  else if (gth s.th n).pc = 8 then commitR s n
  else (s.toRc (lvL s.rc n)).onTh n doneT
def recvS (s : St) (i : Int) : St := if runsB s i 2 = true then recvN s i.toNat else s
/-- Some steps of who receives, and how many there were. -/
def recvK (s : St) (i : Int) : Nat → St × Nat
  | 0 => (s, 0)
  | k + 1 => if runsB s i 2 = true then ((recvK (recvS s i) i k).1, (recvK (recvS s i) i k).2 + 1) else (s, 0)
theorem recvN_ind {P : St → Prop} {s : St} {n : Nat} (h0 : P ((s.toRc (entL s.rc n)).onTh n (pcT · 1))) (h1 : P (firstR s n)) (h2 : P (lookR s n)) (h3 : P (takeR s n)) (h4 : P (readR s n)) (h5 : P (s.onTh n (seenT · s.ee 7))) (h6 : P (notifyR s n)) (h7 : P (if seesR s = 4 ∧ (gth s.th n).la = false then s.onTh n (pcT · 8) else s.onTh n (pcT · 2))) (h8 : P (commitR s n)) (h9 : P ((s.toRc (lvL s.rc n)).onTh n doneT)) : P (recvN s n) := by
  unfold recvN
  by_cases c0 : (gth s.th n).pc = 0
  · rw [if_pos c0]; exact h0
  rw [if_neg c0]
  by_cases c1 : (gth s.th n).pc = 1
  · rw [if_pos c1]; exact h1
  rw [if_neg c1]
  by_cases c2 : (gth s.th n).pc = 2
  · rw [if_pos c2]; exact h2
  rw [if_neg c2]
  by_cases c3 : (gth s.th n).pc = 3
  · rw [if_pos c3]; exact h3
  rw [if_neg c3]
  by_cases c4 : (gth s.th n).pc = 4
  · rw [if_pos c4]; exact h4
  rw [if_neg c4]
  by_cases c5 : (gth s.th n).pc = 5
  · rw [if_pos c5]; exact h5
  rw [if_neg c5]
  by_cases c6 : (gth s.th n).pc = 6
  · rw [if_pos c6]; exact h6
  rw [if_neg c6]
  by_cases c7 : (gth s.th n).pc = 7
  · rw [if_pos c7]; exact h7
  rw [if_neg c7]
  by_cases c8 : (gth s.th n).pc = 8
  · rw [if_pos c8]; exact h8
  rw [if_neg c8]
  exact h9
theorem recvN_0 {s : St} {n : Nat} (h : (gth s.th n).pc = 0) : recvN s n = (s.toRc (entL s.rc n)).onTh n (pcT · 1) := by unfold recvN; rw [h]; rfl
theorem recvN_1 {s : St} {n : Nat} (h : (gth s.th n).pc = 1) : recvN s n = firstR s n := by unfold recvN; rw [h]; rfl
theorem recvN_2 {s : St} {n : Nat} (h : (gth s.th n).pc = 2) : recvN s n = lookR s n := by unfold recvN; rw [h]; rfl
theorem recvN_3 {s : St} {n : Nat} (h : (gth s.th n).pc = 3) : recvN s n = takeR s n := by unfold recvN; rw [h]; rfl
theorem recvN_4 {s : St} {n : Nat} (h : (gth s.th n).pc = 4) : recvN s n = readR s n := by unfold recvN; rw [h]; rfl
theorem recvN_5 {s : St} {n : Nat} (h : (gth s.th n).pc = 5) : recvN s n = s.onTh n (seenT · s.ee 7) := by unfold recvN; rw [h]; rfl
theorem recvN_6 {s : St} {n : Nat} (h : (gth s.th n).pc = 6) : recvN s n = notifyR s n := by unfold recvN; rw [h]; rfl
theorem recvN_7 {s : St} {n : Nat} (h : (gth s.th n).pc = 7) : recvN s n = (if seesR s = 4 ∧ (gth s.th n).la = false then s.onTh n (pcT · 8) else s.onTh n (pcT · 2)) := by unfold recvN; rw [h]; rfl
theorem recvN_8 {s : St} {n : Nat} (h : (gth s.th n).pc = 8) : recvN s n = commitR s n := by unfold recvN; rw [h]; rfl
theorem recvN_9 {s : St} {n : Nat} (h : (gth s.th n).pc = 9 ∨ (gth s.th n).pc = 10 ∨ (gth s.th n).pc = 11) : recvN s n = (s.toRc (lvL s.rc n)).onTh n doneT := by unfold recvN; rcases h with h | h | h <;> rw [h] <;> rfl
theorem pc_or' {t : Th} (h : thB t = true) : t.pc = 0 ∨ t.pc = 1 ∨ t.pc = 2 ∨ t.pc = 3 ∨ t.pc = 4 ∨ t.pc = 5 ∨ t.pc = 6 ∨ t.pc = 7 ∨ t.pc = 8 ∨ (t.pc = 9 ∨ t.pc = 10 ∨ t.pc = 11) := by
  rcases pc_or h with p | p | p | p | p | p | p | p | p | p | p | p <;> simp [p]

/-! ### What may be stays so -/
theorem gotT_ok {t : Th} (h : thB t = true) (h1 : t.st ≠ 0) {g p : Int} (hp : 0 ≤ p ∧ p ≤ 11) : thB (gotT t g p) = true := by
  obtain ⟨st, ki, va, un, pc, re, se, tr, la, rs, go⟩ := t
  simp only [gotT] at *; rw [thB_iff] at *; omega
theorem seesR_bd (s : St) : 0 ≤ seesR s ∧ seesR s ≤ 7 := by
  unfold seesR tkR; repeat' split
  all_goals omega
/-- What one is told who looks for something. -/
theorem seesR_or {s : St} (h : stB s = true) : (seesR s = 1 ∧ s.md ≠ 2 ∧ s.hd < s.tl) ∨ (seesR s = 4 ∧ s.md = 0 ∧ s.hd = s.tl) ∨ (seesR s = 6 ∧ s.md = 1 ∧ s.hd = s.tl) ∨ (seesR s = 7 ∧ s.md = 2) := by
  have c := (word_ok h).1
  have hl := check_len c
  unfold seesR tkR haltB
  rw [c, some_iff c]
  by_cases h2 : s.md = 2
  · simp [h2]
  · by_cases hs : s.hd < s.tl
    · simp [h2, hs]
    · by_cases h1 : s.md = 1
      · simp [h1, hs]; omega
      · simp [h1, h2, hs]; omega
theorem takeW_ok {s : St} (h : stB s = true) (hs : seesR s = 1) : stB (s.toWord (s.hd + 1) s.tl s.md) = true := by
  have hl := check_len (word_ok h).1
  refine word_stB h (check_iff.2 ?_)
  rcases seesR_or h with ⟨-, h2, h3⟩ | ⟨h1, -⟩ | ⟨h1, -⟩ | ⟨h1, -⟩ <;> omega
theorem firstR_stB {s : St} (h : stB s = true) {n : Nat} (hn : n < s.th.length) (h1 : (gth s.th n).st ≠ 0) : stB (firstR s n) = true := by
  unfold firstR
  repeat' split
  · exact onTh_stB h (pcT_ok (gth_ok h hn) h1 (by decide))
  · exact told_stB h hn h1 (by decide) (by decide)
  · exact onTh_stB h (onT_ok (gth_ok h hn) h1)
theorem lookR_stB {s : St} (h : stB s = true) {n : Nat} (hn : n < s.th.length) (h1 : (gth s.th n).st ≠ 0) : stB (lookR s n) = true := by
  unfold lookR
  repeat' split
  · exact onTh_stB h (pcT_ok (gth_ok h hn) h1 (by decide))
  · exact told_stB h hn h1 (seesR_bd s) (by decide)
  · exact told_stB h hn h1 (by decide) (by decide)
  · exact told_stB h hn h1 (by decide) (by decide)
  · exact onTh_stB h (pcT_ok (gth_ok h hn) h1 (by decide))
  · exact onTh_stB h (onT_ok (gth_ok h hn) h1)
theorem gth_on {s : St} {n : Nat} (hn : n < s.th.length) (f : Th → Th) : gth (s.onTh n f).th n = f (gth s.th n) := by show gth (s.th.set n _) n = _; rw [gth_set hn, if_pos rfl]
theorem takeB_ok {s : St} (h : stB s = true) {n : Nat} (hn : n < s.th.length) (h1 : (gth s.th n).st ≠ 0) (hs : seesR s = 1) : stB ((s.toWord (s.hd + 1) s.tl s.md).onTh n (regT · s.hd 4)) = true := by
  have hl := check_len (word_ok h).1
  exact onTh_stB (takeW_ok h hs) (regT_ok (gth_ok h hn) h1 (by omega) (by decide))
theorem takeR_stB {s : St} (h : stB s = true) {n : Nat} (hn : n < s.th.length) (h1 : (gth s.th n).st ≠ 0) : stB (takeR s n) = true := by
  unfold takeR
  repeat' split
  · exact onTh_stB h (pcT_ok (gth_ok h hn) h1 (by decide))
  · exact told_stB h hn h1 (seesR_bd s) (by decide)
  · next h2 h3 =>
    have hs : seesR s = 1 := Classical.not_not.1 h3
    refine told_stB (takeB_ok h hn h1 hs) (by show n < (s.th.set n _).length; simpa using hn) ?_ (by decide) (by decide)
    have := gth_on (s := s.toWord (s.hd + 1) s.tl s.md) (n := n) hn (regT · s.hd 4)
    rw [this]; exact h1
theorem readR_stB {s : St} (h : stB s = true) {n : Nat} (hn : n < s.th.length) (h1 : (gth s.th n).st ≠ 0) : stB (readR s n) = true :=
  onTh_stB (sl_stB h (rl_len _ _) (rlL_ok (word_ok h).2.1 _)) (gotT_ok (gth_ok h hn) h1 (by decide))
theorem notifyR_stB {s : St} (h : stB s = true) {n : Nat} (hn : n < s.th.length) (h1 : (gth s.th n).st ≠ 0) : stB (notifyR s n) = true := by
  obtain ⟨-, -, d, -, e, -⟩ := full_lines h
  have h2 : stB (s.toFull (ntE s.fe s.fl) (ntL 1 s.fe s.fl)) = true := by
    refine full_stB h ?_ ?_
    · simp only [ntE, ntL, e, if_true]; exact okE_nx e (ok_drop (okE_ln e) 1)
    · simp only [ntL, e, if_true]; exact stn_sub d (ok_drop (okE_ln e) 1) (fun x hx => List.mem_of_mem_drop hx)
  have h3 : stB ((s.toFull (ntE s.fe s.fl) (ntL 1 s.fe s.fl)).onTh n (pcT · 9)) = true := onTh_stB h2 (pcT_ok (gth_ok h hn) h1 (by decide))
  unfold notifyR
  split
  · exact wake_stB h3 _
  · exact h3
theorem commitR_stB {s : St} (h : stB s = true) {n : Nat} (hn : n < s.th.length) (h1 : (gth s.th n).st ≠ 0) : stB (commitR s n) = true := by
  obtain ⟨-, -, -, c, -, e⟩ := full_lines h
  unfold commitR
  repeat' split
  · exact onTh_stB h (pcT_ok (gth_ok h hn) h1 (by decide))
  · next hb =>
    have hE : entE s.el n = 0 := by simp only [cmB, Bool.and_eq_true, beq_iff_eq] at hb; exact hb.1.2
    have h2 := stn_ent c (ok_th h hn).1
    rw [ent_yes hE] at h2
    exact onTh_stB (s := s.toEmpty s.ee (s.el ++ [(n : Int)])) (empty_stB h (okE_with e (ok_snoc hE)) h2) (parkT_ok (gth_ok h hn) h1 (by decide))
  · exact onTh_stB h (pcT_ok (gth_ok h hn) h1 (by decide))
theorem recvN_stB {s : St} (h : stB s = true) {n : Nat} (hn : n < s.th.length) (h1 : (gth s.th n).st ≠ 0) : stB (recvN s n) = true := by
  obtain ⟨-, a, -, -, -, e⟩ := full_lines h
  have he := okE_iff.1 e
  have hg := gth_ok h hn
  refine recvN_ind (P := fun u => stB u = true) ?_ ?_ ?_ ?_ ?_ ?_ ?_ ?_ ?_ ?_
  · exact onTh_stB (rc_stB h (stn_ent a (ok_th h hn).1)) (pcT_ok hg h1 (by decide))
  · exact firstR_stB h hn h1
  · exact lookR_stB h hn h1
  · exact takeR_stB h hn h1
  · exact readR_stB h hn h1
  · exact onTh_stB h (seenT_ok hg h1 (by omega) (by decide))
  · exact notifyR_stB h hn h1
  · split
    · exact onTh_stB h (pcT_ok hg h1 (by decide))
    · exact onTh_stB h (pcT_ok hg h1 (by decide))
  · exact commitR_stB h hn h1
  · exact onTh_stB (rc_stB h (stn_lv a)) (doneT_ok hg h1)
/-- What may be stays so, and what may not be is left. -/
theorem recvS_stB (s : St) (i : Int) : stB (recvS s i) = stB s := by
  unfold recvS
  split
  · next hr =>
    obtain ⟨hh, h1, -⟩ := runs_iff.1 hr
    obtain ⟨h, h2, h3⟩ := has_iff.1 hh
    rw [h]
    exact recvN_stB h (by omega) (by omega)
  · rfl

/-! ### Some steps -/
theorem recvK_off {s : St} {i : Int} (h : runsB s i 2 = false) (k : Nat) : recvK s i k = (s, 0) := by
  cases k with
  | zero => rfl
  | succ k => simp [recvK, h]
theorem recvK_on {s : St} {i : Int} (h : runsB s i 2 = true) (k : Nat) : recvK s i (k + 1) = ((recvK (recvS s i) i k).1, (recvK (recvS s i) i k).2 + 1) := by simp [recvK, h]
/-! ### What changes -/
theorem recvN_lgOk {s : St} {n : Nat} : LgOk s.lg (recvN s n).lg ∧ (recvN s n).cf = s.cf ∧ (recvN s n).nw = s.nw := by
  have tl : ∀ (u : St) (k r g p : Int), u.lg = s.lg → u.cf = s.cf → u.nw = s.nw → LgOk s.lg (toldS u n k r g p).lg ∧ (toldS u n k r g p).cf = s.cf ∧ (toldS u n k r g p).nw = s.nw := fun u k r g p h1 h2 h3 =>
    ⟨h1 ▸ lg_told u n k r g p, (cf_tell u n k r g).1.trans h2, (cf_tell u n k r g).2.trans h3⟩
  have no : ∀ (u : St), u.lg = s.lg → u.cf = s.cf → u.nw = s.nw → LgOk s.lg u.lg ∧ u.cf = s.cf ∧ u.nw = s.nw := fun u h1 h2 h3 => ⟨.inl h1, h2, h3⟩
  refine recvN_ind (P := fun u => LgOk s.lg u.lg ∧ u.cf = s.cf ∧ u.nw = s.nw) ?_ ?_ ?_ ?_ ?_ ?_ ?_ ?_ ?_ ?_
  all_goals (try unfold firstR); (try unfold lookR); (try unfold takeR); (try unfold readR); (try unfold notifyR); (try unfold wakeS); (try unfold commitR)
  all_goals (repeat' split) <;> first | exact tl _ _ _ _ _ rfl rfl rfl | exact no _ rfl rfl rfl
theorem recvS_lgOk (s : St) (i : Int) : LgOk s.lg (recvS s i).lg ∧ (recvS s i).cf = s.cf ∧ (recvS s i).nw = s.nw := by
  unfold recvS; split
  · exact recvN_lgOk
  · exact ⟨.inl rfl, rfl, rfl⟩
/-! ### What is told -/
theorem recvsB_of {k : Int} (h : opSide k = 2) : sendsB k = false ∧ recvsB k = true := by have := side_is k; simp [sendsB, recvsB]; omega
/-- A result told of the queue as it was. -/
theorem tell_recv {s : St} (h : stB s = true) {n ki va r g : Int} (hk : opSide ki = 2) (hr : (r = 4 ∧ s.md = 0 ∧ s.hd = s.tl ∧ ki = 5) ∨ (r = 5 ∧ ki = 6) ∨ (r = 6 ∧ s.md = 1 ∧ s.hd = s.tl) ∨ (r = 7 ∧ s.md = 2)) :
    (quV s).tell ⟨n, ki, va, r, g⟩ = (quV s, true) := by
  obtain ⟨c1, c2, c3⟩ := quV_cap h
  have hl := quV_len h
  obtain ⟨k1, k2⟩ := recvsB_of hk
  unfold Qu.tell
  rw [if_neg (by rw [k1]; decide), if_pos k2]
  unfold Qu.recv
  rcases hr with ⟨rfl, h1, h2, h3⟩ | ⟨rfl, h1⟩ | ⟨rfl, h1, h2⟩ | ⟨rfl, h1⟩
  · have : (quV s).vals.length = 0 := by omega
    simp [c3, h1, h3, this]
  · simp [h1]
  · have : (quV s).vals.length = 0 := by omega
    simp [c3, h1, this]
  · simp [c3, h1]
theorem quOkR_told {s : St} (h : stB s = true) {n : Nat} (hn : n < s.th.length) (h1 : (gth s.th n).st ≠ 0) {r p : Int} (hr : 0 ≤ r ∧ r ≤ 7) (hp : 0 ≤ p ∧ p ≤ 11) (hk : opSide (gth s.th n).ki = 2)
    (hc : (r = 4 ∧ s.md = 0 ∧ s.hd = s.tl ∧ (gth s.th n).ki = 5) ∨ (r = 5 ∧ (gth s.th n).ki = 6) ∨ (r = 6 ∧ s.md = 1 ∧ s.hd = s.tl) ∨ (r = 7 ∧ s.md = 2)) : QuOk s (toldS s n (gth s.th n).ki r 0 p) n :=
  .inr ⟨_, lg_is h hn _ _ _ _, rfl, by rw [qu_told h hn h1 hr hp]; exact tell_recv h hk hc⟩
theorem late_6 {t : Th} (h : thB t = true) (hk : opSide t.ki = 2) (hl : t.la = true) : t.ki = 6 := by
  obtain ⟨st, ki, va, un, pc, re, se, tr, la, rs, go⟩ := t
  simp only at *
  subst hl
  rw [thB_iff] at h
  have := side_is ki
  have hb : bI true = 1 := rfl
  omega
/-- Slots that are released hold what they held. -/
theorem rl_vl (l : List Slo) (p : Int) (j : Nat) : (gs (rlL l p) j).vl = (gs l j).vl := by
  unfold rlL
  split
  · by_cases hn : plc l p < l.length
    · rw [gs_set hn]
      split
      · next e => subst e; rfl
      · rfl
    · rw [List.set_eq_of_length_le (by omega)]
  · rfl
theorem quV_rl {s : St} (h : stB s = true) {n : Nat} (hn : n < s.th.length) (h1 : (gth s.th n).st ≠ 0) : quV (readR s n) = quV s := by
  rw [quV_yes h, quV_yes (readR_stB h hn h1)]
  have hat : ∀ p, atV (readR s n) p = atV s p := fun p => by
    unfold atV
    have e : (readR s n).sl = rlL s.sl (gth s.th n).re := rfl
    rw [e, rl_vl]
    congr 2
    unfold plc; rw [rl_len]
  simp only [hat]
  rfl
theorem recvN_qu {s : St} (h : stB s = true) {n : Nat} (hn : n < s.th.length) (h1 : (gth s.th n).st ≠ 0) (hk : opSide (gth s.th n).ki = 2) : QuOk s (recvN s n) n := by
  have hg := gth_ok h hn
  obtain ⟨-, -, -, -, -, le⟩ := full_lines h
  have he := okE_iff.1 le
  have hst := recvN_stB h hn h1
  have no : ∀ {a : St}, a.lg = s.lg → stB a = true → a.hd = s.hd → a.tl = s.tl → a.md = s.md → a.sl = s.sl → a.cf = s.cf → QuOk s a n := fun h0 h1 h2 h3 h4 h5 h6 => .inl ⟨h0, quV_eq (h1.trans h.symm) h2 h3 h4 h5 h6⟩
  obtain p | p | p | p | p | p | p | p | p | p := pc_or' hg
  · refine no ?_ hst ?_ ?_ ?_ ?_ ?_ <;> rw [recvN_0 p] <;> rfl
  · rw [recvN_1 p]
    unfold firstR
    repeat' split
    · exact quOk_on h (pcT_ok hg h1 (by decide))
    · next c => exact quOkR_told h hn h1 (by decide) (by decide) hk (.inr (.inl ⟨rfl, late_6 hg hk c⟩))
    · exact quOk_on h (onT_ok hg h1)
  · rw [recvN_2 p]
    unfold lookR
    split
    · exact quOk_on h (pcT_ok hg h1 (by decide))
    · next n1 =>
      split
      · next n4 => exact quOkR_told h hn h1 (seesR_bd s) (by decide) hk (.inr (.inr (by rcases seesR_or h with ⟨h', -⟩ | ⟨h', -⟩ | h' | h' <;> omega)))
      · next n4 =>
        have h4 : seesR s = 4 := Classical.not_not.1 n4
        have hm : s.md = 0 ∧ s.hd = s.tl := by rcases seesR_or h with ⟨h', -⟩ | ⟨-, h'⟩ | ⟨h', -⟩ | ⟨h', -⟩ <;> omega
        repeat' split
        · next c => exact quOkR_told h hn h1 (by decide) (by decide) hk (.inl ⟨rfl, hm.1, hm.2, c⟩)
        · next c => exact quOkR_told h hn h1 (by decide) (by decide) hk (.inr (.inl ⟨rfl, late_6 hg hk c⟩))
        · exact quOk_on h (pcT_ok hg h1 (by decide))
        · exact quOk_on h (onT_ok hg h1)
  · rw [recvN_3 p]
    unfold takeR
    split
    · exact quOk_on h (pcT_ok hg h1 (by decide))
    · next n4 =>
      split
      · next n1 => exact quOkR_told h hn h1 (seesR_bd s) (by decide) hk (.inr (.inr (by rcases seesR_or h with ⟨h', -⟩ | ⟨h', -⟩ | h' | h' <;> omega)))
      · next n1 =>
        have hs : seesR s = 1 := Classical.not_not.1 n1
        have hlt : s.md ≠ 2 ∧ s.hd < s.tl := by rcases seesR_or h with ⟨-, h'⟩ | ⟨h', -⟩ | ⟨h', -⟩ | ⟨h', -⟩ <;> omega
        have hc := check_len (word_ok h).1
        have hb := takeB_ok h hn h1 hs
        have hn' : n < ((s.toWord (s.hd + 1) s.tl s.md).onTh n (regT · s.hd 4)).th.length := by show n < (s.th.set n _).length; simpa using hn
        have hg' := gth_on (s := s.toWord (s.hd + 1) s.tl s.md) (n := n) hn (regT · s.hd 4)
        have hlg := lg_is hb (n := n) hn' (gth s.th n).ki 1 (valV s s.hd) 4
        refine .inr ⟨_, hlg, rfl, ?_⟩
        have hq : quV (toldS ((s.toWord (s.hd + 1) s.tl s.md).onTh n (regT · s.hd 4)) n (gth s.th n).ki 1 (valV s s.hd) 4) = quV ((s.toWord (s.hd + 1) s.tl s.md).onTh n (regT · s.hd 4)) := qu_told hb hn' (by rw [hg']; exact h1) (by decide) (by decide)
        rw [hq, ← quV_out h hb rfl rfl rfl rfl rfl hlt.2]
        obtain ⟨k1, k2⟩ := recvsB_of hk
        obtain ⟨c1, c2, c3⟩ := quV_cap h
        unfold Qu.tell
        rw [if_neg (by rw [k1]; decide), if_pos k2]
        unfold Qu.recv
        rw [if_pos rfl, if_neg (by rw [c3]; exact hlt.1), atV_place h (by omega)]
  · rw [recvN_4 p]
    exact .inl ⟨rfl, quV_rl h hn h1⟩
  · rw [recvN_5 p]; exact quOk_on h (seenT_ok hg h1 (by omega) (by decide))
  · refine no ?_ hst ?_ ?_ ?_ ?_ ?_ <;> rw [recvN_6 p] <;> unfold notifyR wakeS <;> (repeat' split) <;> rfl
  · rw [recvN_7 p]
    split
    · exact quOk_on h (pcT_ok hg h1 (by decide))
    · exact quOk_on h (pcT_ok hg h1 (by decide))
  · refine no ?_ hst ?_ ?_ ?_ ?_ ?_ <;> rw [recvN_8 p] <;> unfold commitR <;> (repeat' split) <;> rfl
  · refine no ?_ hst ?_ ?_ ?_ ?_ ?_ <;> rw [recvN_9 p] <;> rfl
end Go.Proofs.YtjbcfjfnobklkaaGreat

/- Layer 14, plain: who sends alone. -/
namespace Go.Proofs.YtjbcfjfnobklkaaGreat
set_option linter.unusedVariables false
set_option linter.unusedSimpArgs false
/-- A state of which one thread, the places, and the lines that it may change, are told. -/
def mkS (s : St) (k : Nat) (hd tl : Int) (sl : List Slo) (sn fl : List Int) (ee : Int) (t : Th) (lg : List En) : St := ⟨s.cf, hd, tl, s.md, sl, sn, s.rc, s.fe, fl, ee, s.el, s.nw, s.th.set k t, lg⟩
section
variable {s : St} {k : Nat} {hd tl : Int} {sl : List Slo} {sn fl : List Int} {ee : Int} {t : Th} {lg : List En}
theorem gth_mk (hk : k < s.th.length) : gth (mkS s k hd tl sl sn fl ee t lg).th k = t := by show gth (s.th.set k t) k = t; rw [gth_set hk, if_pos rfl]
theorem on_mk (hk : k < s.th.length) (f : Th → Th) : (mkS s k hd tl sl sn fl ee t lg).onTh k f = mkS s k hd tl sl sn fl ee (f t) lg := by
  unfold St.onTh; rw [gth_mk hk]; unfold St.setTh mkS; simp only [List.set_set]
theorem len_mk : (mkS s k hd tl sl sn fl ee t lg).th.length = s.th.length := by simp [mkS]
theorem runs_mk (hk : k < s.th.length) (hB : stB (mkS s k hd tl sl sn fl ee t lg) = true) (h1 : t.st = 1) (h2 : opSide t.ki = 1) : runsB (mkS s k hd tl sl sn fl ee t lg) k 1 = true := by
  refine runs_iff.2 ⟨has_of hB (by rw [len_mk]; exact hk), ?_, ?_⟩ <;> rw [Int.toNat_natCast, gth_mk hk] <;> assumption
theorem off_mk (hk : k < s.th.length) (h1 : t.st ≠ 1) : runsB (mkS s k hd tl sl sn fl ee t lg) k 1 = false := by
  cases h : runsB (mkS s k hd tl sl sn fl ee t lg) k 1
  · rfl
  · have := (runs_iff.1 h).2.1; rw [Int.toNat_natCast, gth_mk hk] at this; exact absurd this h1
theorem told_mk (hk : k < s.th.length) (hB : stB (mkS s k hd tl sl sn fl ee t lg) = true) (ki r g p : Int) : toldS (mkS s k hd tl sl sn fl ee t lg) k ki r g p = mkS s k hd tl sl sn fl ee (pcT (tellT t ki r g) p) (lg ++ [⟨k, ki, t.va, r, g⟩]) := by
  unfold toldS
  rw [tell_th hB (by rw [len_mk]; exact hk), gth_mk hk]
  have e : ((mkS s k hd tl sl sn fl ee t lg).setTh k (tellT t ki r g)).addLg ⟨k, ki, t.va, r, g⟩ = mkS s k hd tl sl sn fl ee (tellT t ki r g) (lg ++ [⟨k, ki, t.va, r, g⟩]) := by
    unfold St.setTh St.addLg mkS; simp only [List.set_set]
  rw [e, on_mk hk]
theorem is_mk (hk : k < s.th.length) (hB : stB (mkS s k hd tl sl sn fl ee t lg) = true) (h1 : t.st = 1) (h2 : opSide t.ki = 1) : sendS (mkS s k hd tl sl sn fl ee t lg) k = sendN (mkS s k hd tl sl sn fl ee t lg) k := by
  have := runs_mk hk hB h1 h2
  unfold sendS; rw [if_pos this, Int.toNat_natCast]
theorem n_0 (hk : k < s.th.length) (p : t.pc = 0) : sendN (mkS s k hd tl sl sn fl ee t lg) k = mkS s k hd tl sl (entL sn k) fl ee (pcT t 1) lg := by
  rw [sendN_0 (by rw [gth_mk hk]; exact p)]
  show (mkS s k hd tl sl (entL sn k) fl ee t lg).onTh k _ = _
  rw [on_mk hk]
theorem n_1 (hk : k < s.th.length) (p : t.pc = 1) (h : plI sn k = 0) : sendN (mkS s k hd tl sl sn fl ee t lg) k = mkS s k hd tl sl sn fl ee (pcT t 2) lg := by
  rw [sendN_1 (by rw [gth_mk hk]; exact p)]
  unfold firstS
  rw [if_pos (show plI (mkS s k hd tl sl sn fl ee t lg).sn k = 0 from h), on_mk hk]
theorem n_2 (hk : k < s.th.length) (p : t.pc = 2) (h : acR hd tl s.md sl.length = 1) : sendN (mkS s k hd tl sl sn fl ee t lg) k = mkS s k hd tl sl sn fl ee (regT t tl 3) lg := by
  rw [sendN_2 (by rw [gth_mk hk]; exact p)]
  unfold lookS
  rw [if_pos (show seesS (mkS s k hd tl sl sn fl ee t lg) = 1 from h), on_mk hk]
  rfl
theorem n_3 (hk : k < s.th.length) (p : t.pc = 3) (h : wrE sl t.re = 0) : sendN (mkS s k hd tl sl sn fl ee t lg) k = mkS s k hd tl (wrL sl t.re t.va) sn fl ee (pcT t 4) lg := by
  rw [sendN_3 (by rw [gth_mk hk]; exact p), gth_mk hk]
  rw [if_pos (show wrE (mkS s k hd tl sl sn fl ee t lg).sl t.re = 0 from h)]
  show (mkS s k hd tl (wrL sl t.re t.va) sn fl ee t lg).onTh k _ = _
  rw [on_mk hk]
theorem n_4 (hk : k < s.th.length) (hB : stB (mkS s k hd tl sl sn fl ee t lg) = true) (p : t.pc = 4) (h : acR hd tl s.md sl.length = 1) : sendN (mkS s k hd tl sl sn fl ee t lg) k = mkS s k hd (tl + 1) sl sn fl ee (pcT (tellT t t.ki 1 0) 6) (lg ++ [⟨k, t.ki, t.va, 1, 0⟩]) := by
  rw [sendN_4 (by rw [gth_mk hk]; exact p)]
  unfold acceptS
  rw [if_pos (show seesS (mkS s k hd tl sl sn fl ee t lg) = 1 from h), gth_mk hk]
  have hw : stB ((mkS s k hd tl sl sn fl ee t lg).toWord (mkS s k hd tl sl sn fl ee t lg).hd ((mkS s k hd tl sl sn fl ee t lg).tl + 1) (mkS s k hd tl sl sn fl ee t lg).md) = true := by
    have h2 := ac_check (word_ok hB).1
    rw [(ac_y (show acR (mkS s k hd tl sl sn fl ee t lg).hd (mkS s k hd tl sl sn fl ee t lg).tl (mkS s k hd tl sl sn fl ee t lg).md (mkS s k hd tl sl sn fl ee t lg).sl.length = 1 from h)).1] at h2
    exact word_stB hB h2
  show toldS (mkS s k hd (tl + 1) sl sn fl ee t lg) k _ _ _ _ = _
  exact told_mk hk hw _ _ _ _
theorem n_6 (hk : k < s.th.length) (p : t.pc = 6) (h : s.el = []) : sendN (mkS s k hd tl sl sn fl ee t lg) k = mkS s k hd tl sl sn fl (ntE ee []) (pcT t 9) lg := by
  rw [sendN_6 (by rw [gth_mk hk]; exact p)]
  unfold notifyS
  have e1 : (mkS s k hd tl sl sn fl ee t lg).el = [] := h
  have e2 : hdB (ntT 1 (mkS s k hd tl sl sn fl ee t lg).ee []) = false := by unfold ntT; split <;> rfl
  have e3 : ntL 1 (mkS s k hd tl sl sn fl ee t lg).ee [] = [] := by unfold ntL; split <;> rfl
  rw [e1, e2, e3, if_neg (by decide)]
  have e4 : (mkS s k hd tl sl sn fl ee t lg).toEmpty (ntE (mkS s k hd tl sl sn fl ee t lg).ee []) [] = mkS s k hd tl sl sn fl (ntE ee []) t lg := by unfold St.toEmpty mkS; rw [h]
  rw [e4, on_mk hk]
theorem n_9 (hk : k < s.th.length) (p : t.pc = 9) : sendN (mkS s k hd tl sl sn fl ee t lg) k = mkS s k hd tl sl (lvL sn k) fl ee (doneT t) lg := by
  rw [sendN_9 (by rw [gth_mk hk]; exact p)]
  show (mkS s k hd tl sl (lvL sn k) fl ee t lg).onTh k _ = _
  rw [on_mk hk]
/-! What there is no room for. -/
end
theorem mk_self (s : St) (k : Nat) (t : Th) : s.setTh k t = mkS s k s.hd s.tl s.sl s.sn s.fl s.ee t s.lg := rfl
theorem ent_one {k : Nat} (hk : k < 16) : entL [] (k : Int) = [(k : Int)] := by
  have : entE [] (k : Int) = 0 := by
    have h1 : noneB 16 (k : Int) = false := by unfold noneB; simp; omega
    simp [entE, h1, okLn]
  rw [ent_yes this]; rfl
theorem pl_one {k : Nat} (hk : k < 16) : plI [(k : Int)] k = 0 := by
  have h1 : noneB 16 (k : Int) = false := by unfold noneB; simp; omega
  have : okLn [(k : Int)] = true := by simp [okLn, h1]
  simp [plI, this, ixI]
theorem lv_one {k : Nat} (hk : k < 16) : lvL [(k : Int)] k = [] := by
  unfold lvL; rw [pl_one hk]; rfl
/-- Some steps lead from one state to another one. -/
def Goes (k : Nat) (a : St) (n : Nat) (u : St) : Prop := stB a = true → stB u = true ∧ ∀ m, sendK a k (m + n) = ((sendK u k m).1, (sendK u k m).2 + n)
theorem Goes.trans {k n n' : Nat} {a b c : St} (h : Goes k a n b) (h' : Goes k b n' c) : Goes k a (n + n') c := fun ha => by
  obtain ⟨hb, e⟩ := h ha
  obtain ⟨hc, e'⟩ := h' hb
  refine ⟨hc, fun m => ?_⟩
  rw [show m + (n + n') = m + n' + n by omega, e, e']
  simp only [Prod.mk.injEq, true_and]; omega
section
variable {s u : St} {k : Nat} {hd tl : Int} {sl : List Slo} {sn fl : List Int} {ee : Int} {t : Th} {lg : List En}
theorem Goes.one (hk : k < s.th.length) (h1 : t.st = 1) (h2 : opSide t.ki = 1) (hu : stB (mkS s k hd tl sl sn fl ee t lg) = true → sendN (mkS s k hd tl sl sn fl ee t lg) k = u) : Goes k (mkS s k hd tl sl sn fl ee t lg) 1 u := fun hB => by
  have e := is_mk hk hB h1 h2
  rw [hu hB] at e
  refine ⟨by rw [← e, sendS_stB]; exact hB, fun m => ?_⟩
  rw [sendK_on (runs_mk hk hB h1 h2), e]
end
/-- One that sends: at which step; Reg, Seen, Tries, Result. -/
abbrev tS (ki v pc re se tr rs : Int) : Th := ⟨1, ki, v, 0, pc, re, se, tr, false, rs, 0⟩
abbrev tD (ki v rs : Int) : Th := ⟨0, ki, v, 0, 0, 0, 0, 0, false, rs, 0⟩
theorem tS_ok {ki v : Int} (h : 1 ≤ ki ∧ ki ≤ 3) : thB (tS ki v 0 0 0 0 0) = true := by
  rw [thB_iff]; have : bI false = 0 := rfl; omega
theorem tS_tell {ki v pc re se tr rs r p : Int} (h : opSide ki = 1) : pcT (tellT (tS ki v pc re se tr rs) ki r 0) p = tS ki v p re se tr r := by
  have h9 : ki ≠ 9 := by have := side_is ki; omega
  unfold tellT; rw [if_neg h9]; rfl
section
variable {s : St} {k : Nat} {hd tl : Int} {sl : List Slo} {fl : List Int} {ee : Int} {ki v re se tr rs : Int} {lg : List En} (hk : k < s.th.length) (h16 : k < 16) (hki : opSide ki = 1)
include hk hki
/-- From where it was told to the end. -/
theorem end_go (h16 : k < 16) : Goes k (mkS s k hd tl sl [(k : Int)] fl ee (tS ki v 9 re se tr rs) lg) 1 (mkS s k hd tl sl [] fl ee (tD ki v rs) lg) :=
  Goes.one hk rfl hki fun _ => by rw [n_9 hk rfl, lv_one h16]; rfl
/-- From where there is room, to the end. -/
theorem room_go (h16 : k < 16) (hel : s.el = []) (hs : acR hd tl s.md sl.length = 1) (hw : wrE sl tl = 0) :
    Goes k (mkS s k hd tl sl [(k : Int)] fl ee (tS ki v 2 re se tr rs) lg) 5 (mkS s k hd (tl + 1) (wrL sl tl v) [] fl (ntE ee []) (tD ki v 1) (lg ++ [⟨k, ki, v, 1, 0⟩])) := by
  have g2 : Goes k (mkS s k hd tl sl [(k : Int)] fl ee (tS ki v 2 re se tr rs) lg) 1 (mkS s k hd tl sl [(k : Int)] fl ee (tS ki v 3 tl se tr rs) lg) := Goes.one hk rfl hki fun _ => n_2 hk rfl hs
  have g3 : Goes k (mkS s k hd tl sl [(k : Int)] fl ee (tS ki v 3 tl se tr rs) lg) 1 (mkS s k hd tl (wrL sl tl v) [(k : Int)] fl ee (tS ki v 4 tl se tr rs) lg) := Goes.one hk rfl hki fun _ => n_3 hk rfl hw
  have g4 : Goes k (mkS s k hd tl (wrL sl tl v) [(k : Int)] fl ee (tS ki v 4 tl se tr rs) lg) 1 (mkS s k hd (tl + 1) (wrL sl tl v) [(k : Int)] fl ee (tS ki v 6 tl se tr 1) (lg ++ [⟨k, ki, v, 1, 0⟩])) :=
    Goes.one hk rfl hki fun hB => by
      rw [n_4 hk hB rfl (by rw [wr_len]; exact hs)]
      show mkS s k hd (tl + 1) (wrL sl tl v) [(k : Int)] fl ee (pcT (tellT (tS ki v 4 tl se tr rs) ki 1 0) 6) _ = _
      rw [tS_tell hki]
  have g6 : Goes k (mkS s k hd (tl + 1) (wrL sl tl v) [(k : Int)] fl ee (tS ki v 6 tl se tr 1) (lg ++ [⟨k, ki, v, 1, 0⟩])) 1 (mkS s k hd (tl + 1) (wrL sl tl v) [(k : Int)] fl (ntE ee []) (tS ki v 9 tl se tr 1) (lg ++ [⟨k, ki, v, 1, 0⟩])) := Goes.one hk rfl hki fun _ => n_6 hk rfl hel
  exact (((g2.trans g3).trans g4).trans g6).trans (end_go hk hki h16)
/-- From the beginning to where it looks. -/
theorem head_go (h16 : k < 16) : Goes k (mkS s k hd tl sl [] fl ee (tS ki v 0 re se tr rs) lg) 2 (mkS s k hd tl sl [(k : Int)] fl ee (tS ki v 2 re se tr rs) lg) := by
  have g0 : Goes k (mkS s k hd tl sl [] fl ee (tS ki v 0 re se tr rs) lg) 1 (mkS s k hd tl sl [(k : Int)] fl ee (tS ki v 1 re se tr rs) lg) := Goes.one hk rfl hki fun _ => by rw [n_0 hk rfl, ent_one h16]; rfl
  exact g0.trans (Goes.one hk rfl hki fun _ => n_1 hk rfl (pl_one h16))
end
/-- Who has ended makes no more steps. -/
theorem Goes.ends {a u : St} {k n : Nat} (h : Goes k a n u) (ha : stB a = true) (hu : ∀ m, sendK u k m = (u, 0)) {m : Nat} (hm : n ≤ m) : sendK a k m = (u, n) := by
  obtain ⟨-, e⟩ := h ha
  have := e (m - n)
  rw [show m - n + n = m by omega, hu] at this
  rw [this]; simp
end Go.Proofs.YtjbcfjfnobklkaaGreat

/- Layer 15, plain: who receives alone. -/
namespace Go.Proofs.YtjbcfjfnobklkaaGreat
set_option linter.unusedVariables false
set_option linter.unusedSimpArgs false
/-- A state of which one thread, the head, the slots, and the lines that it may change, are told. -/
def mkR (s : St) (k : Nat) (hd : Int) (sl : List Slo) (rc : List Int) (fe : Int) (el : List Int) (t : Th) (lg : List En) : St := ⟨s.cf, hd, s.tl, s.md, sl, s.sn, rc, fe, s.fl, s.ee, el, s.nw, s.th.set k t, lg⟩
section
variable {s : St} {k : Nat} {hd : Int} {sl : List Slo} {rc el : List Int} {fe : Int} {t : Th} {lg : List En}
theorem gth_mr (hk : k < s.th.length) : gth (mkR s k hd sl rc fe el t lg).th k = t := by show gth (s.th.set k t) k = t; rw [gth_set hk, if_pos rfl]
theorem on_mr (hk : k < s.th.length) (f : Th → Th) : (mkR s k hd sl rc fe el t lg).onTh k f = mkR s k hd sl rc fe el (f t) lg := by
  unfold St.onTh; rw [gth_mr hk]; unfold St.setTh mkR; simp only [List.set_set]
theorem len_mr : (mkR s k hd sl rc fe el t lg).th.length = s.th.length := by simp [mkR]
theorem runs_mr (hk : k < s.th.length) (hB : stB (mkR s k hd sl rc fe el t lg) = true) (h1 : t.st = 1) (h2 : opSide t.ki = 2) : runsB (mkR s k hd sl rc fe el t lg) k 2 = true := by
  refine runs_iff.2 ⟨has_of hB (by rw [len_mr]; exact hk), ?_, ?_⟩ <;> rw [Int.toNat_natCast, gth_mr hk] <;> assumption
theorem off_mr (hk : k < s.th.length) (h1 : t.st ≠ 1) : runsB (mkR s k hd sl rc fe el t lg) k 2 = false := by
  cases h : runsB (mkR s k hd sl rc fe el t lg) k 2
  · rfl
  · have := (runs_iff.1 h).2.1; rw [Int.toNat_natCast, gth_mr hk] at this; exact absurd this h1
theorem told_mr (hk : k < s.th.length) (hB : stB (mkR s k hd sl rc fe el t lg) = true) (ki r g p : Int) : toldS (mkR s k hd sl rc fe el t lg) k ki r g p = mkR s k hd sl rc fe el (pcT (tellT t ki r g) p) (lg ++ [⟨k, ki, t.va, r, g⟩]) := by
  unfold toldS
  rw [tell_th hB (by rw [len_mr]; exact hk), gth_mr hk]
  have e : ((mkR s k hd sl rc fe el t lg).setTh k (tellT t ki r g)).addLg ⟨k, ki, t.va, r, g⟩ = mkR s k hd sl rc fe el (tellT t ki r g) (lg ++ [⟨k, ki, t.va, r, g⟩]) := by
    unfold St.setTh St.addLg mkR; simp only [List.set_set]
  rw [e, on_mr hk]
theorem is_mr (hk : k < s.th.length) (hB : stB (mkR s k hd sl rc fe el t lg) = true) (h1 : t.st = 1) (h2 : opSide t.ki = 2) : recvS (mkR s k hd sl rc fe el t lg) k = recvN (mkR s k hd sl rc fe el t lg) k := by
  have := runs_mr hk hB h1 h2
  unfold recvS; rw [if_pos this, Int.toNat_natCast]
theorem r_0 (hk : k < s.th.length) (p : t.pc = 0) : recvN (mkR s k hd sl rc fe el t lg) k = mkR s k hd sl (entL rc k) fe el (pcT t 1) lg := by
  rw [recvN_0 (by rw [gth_mr hk]; exact p)]
  show (mkR s k hd sl (entL rc k) fe el t lg).onTh k _ = _
  rw [on_mr hk]
theorem r_1 (hk : k < s.th.length) (p : t.pc = 1) (h : plI rc k = 0) : recvN (mkR s k hd sl rc fe el t lg) k = mkR s k hd sl rc fe el (pcT t 2) lg := by
  rw [recvN_1 (by rw [gth_mr hk]; exact p)]
  unfold firstR
  rw [if_pos (show plI (mkR s k hd sl rc fe el t lg).rc k = 0 from h), on_mr hk]
theorem r_2 (hk : k < s.th.length) (p : t.pc = 2) (h : tkR hd s.tl s.md sl.length = 1) : recvN (mkR s k hd sl rc fe el t lg) k = mkR s k hd sl rc fe el (pcT t 3) lg := by
  rw [recvN_2 (by rw [gth_mr hk]; exact p)]
  unfold lookR
  rw [if_pos (show seesR (mkR s k hd sl rc fe el t lg) = 1 from h), on_mr hk]
theorem r_2e (hk : k < s.th.length) (p : t.pc = 2) (hB : stB (mkR s k hd sl rc fe el t lg) = true) (h : tkR hd s.tl s.md sl.length = 4) (h5 : t.ki = 5) : recvN (mkR s k hd sl rc fe el t lg) k = mkR s k hd sl rc fe el (pcT (tellT t t.ki 4 0) 9) (lg ++ [⟨k, t.ki, t.va, 4, 0⟩]) := by
  rw [recvN_2 (by rw [gth_mr hk]; exact p)]
  have hs : seesR (mkR s k hd sl rc fe el t lg) = 4 := h
  unfold lookR
  rw [hs, if_neg (by decide), if_neg (by decide), gth_mr hk, if_pos h5]
  exact told_mr hk hB _ _ _ _
theorem r_2o (hk : k < s.th.length) (p : t.pc = 2) (h : tkR hd s.tl s.md sl.length = 4) (h5 : t.ki ≠ 5) (hl : t.la = false) (hw : waySt s t.tr ≠ 2) : recvN (mkR s k hd sl rc fe el t lg) k = mkR s k hd sl rc fe el (onT t) lg := by
  rw [recvN_2 (by rw [gth_mr hk]; exact p)]
  have hs : seesR (mkR s k hd sl rc fe el t lg) = 4 := h
  unfold lookR
  rw [hs, if_neg (by decide), if_neg (by decide), gth_mr hk, if_neg h5, if_neg (by rw [hl]; decide), if_neg (show ¬ waySt (mkR s k hd sl rc fe el t lg) t.tr = 2 from hw), on_mr hk]
theorem r_3 (hk : k < s.th.length) (hB : stB (mkR s k hd sl rc fe el t lg) = true) (h1 : t.st ≠ 0) (p : t.pc = 3) (h : tkR hd s.tl s.md sl.length = 1) :
    recvN (mkR s k hd sl rc fe el t lg) k = mkR s k (hd + 1) sl rc fe el (pcT (tellT (regT t hd 4) t.ki 1 (valV (mkR s k hd sl rc fe el t lg) hd)) 4) (lg ++ [⟨k, t.ki, t.va, 1, valV (mkR s k hd sl rc fe el t lg) hd⟩]) := by
  rw [recvN_3 (by rw [gth_mr hk]; exact p)]
  have hs : seesR (mkR s k hd sl rc fe el t lg) = 1 := h
  unfold takeR
  rw [hs, if_neg (by decide), if_neg (by decide), gth_mr hk]
  have hw := takeB_ok hB (n := k) (by rw [len_mr]; exact hk) (by rw [gth_mr hk]; exact h1) hs
  have e : ((mkR s k hd sl rc fe el t lg).toWord ((mkR s k hd sl rc fe el t lg).hd + 1) (mkR s k hd sl rc fe el t lg).tl (mkR s k hd sl rc fe el t lg).md).onTh k (regT · (mkR s k hd sl rc fe el t lg).hd 4) = mkR s k (hd + 1) sl rc fe el (regT t hd 4) lg := by
    show (mkR s k (hd + 1) sl rc fe el t lg).onTh k (regT · hd 4) = _
    rw [on_mr hk]
  rw [e] at hw ⊢
  exact told_mr hk hw _ _ _ _
theorem r_4 (hk : k < s.th.length) (p : t.pc = 4) : recvN (mkR s k hd sl rc fe el t lg) k = mkR s k hd (rlL sl t.re) rc fe el (gotT t (rdV sl t.re) 6) lg := by
  rw [recvN_4 (by rw [gth_mr hk]; exact p)]
  unfold readR
  rw [gth_mr hk]
  show (mkR s k hd (rlL sl t.re) rc fe el t lg).onTh k _ = _
  rw [on_mr hk]
  rfl
theorem r_6 (hk : k < s.th.length) (p : t.pc = 6) (h : s.fl = []) : recvN (mkR s k hd sl rc fe el t lg) k = mkR s k hd sl rc (ntE fe []) el (pcT t 9) lg := by
  rw [recvN_6 (by rw [gth_mr hk]; exact p)]
  unfold notifyR
  have e1 : (mkR s k hd sl rc fe el t lg).fl = [] := h
  have e2 : hdB (ntT 1 (mkR s k hd sl rc fe el t lg).fe []) = false := by unfold ntT; split <;> rfl
  have e3 : ntL 1 (mkR s k hd sl rc fe el t lg).fe [] = [] := by unfold ntL; split <;> rfl
  rw [e1, e2, e3, if_neg (by decide)]
  have e4 : (mkR s k hd sl rc fe el t lg).toFull (ntE (mkR s k hd sl rc fe el t lg).fe []) [] = mkR s k hd sl rc (ntE fe []) el t lg := by unfold St.toFull mkR; rw [h]
  rw [e4, on_mr hk]
theorem r_9 (hk : k < s.th.length) (p : t.pc = 9) : recvN (mkR s k hd sl rc fe el t lg) k = mkR s k hd sl (lvL rc k) fe el (doneT t) lg := by
  rw [recvN_9 (by rw [gth_mr hk]; exact .inl p)]
  show (mkR s k hd sl (lvL rc k) fe el t lg).onTh k _ = _
  rw [on_mr hk]
end
/-- Some steps lead from one state to another one. -/
def GoesR (k : Nat) (a : St) (n : Nat) (u : St) : Prop := stB a = true → stB u = true ∧ ∀ m, recvK a k (m + n) = ((recvK u k m).1, (recvK u k m).2 + n)
theorem GoesR.trans {k n n' : Nat} {a b c : St} (h : GoesR k a n b) (h' : GoesR k b n' c) : GoesR k a (n + n') c := fun ha => by
  obtain ⟨hb, e⟩ := h ha
  obtain ⟨hc, e'⟩ := h' hb
  refine ⟨hc, fun m => ?_⟩
  rw [show m + (n + n') = m + n' + n by omega, e, e']
  simp only [Prod.mk.injEq, true_and]; omega
/-- One that receives: at which step; Reg, Seen, Tries, Result, Got. -/
abbrev tQ (ki v pc re se tr rs go : Int) : Th := ⟨1, ki, v, 0, pc, re, se, tr, false, rs, go⟩
abbrev tE (ki v rs go : Int) : Th := ⟨0, ki, v, 0, 0, 0, 0, 0, false, rs, go⟩
theorem tQ_tell {ki v pc re se tr rs go r g p : Int} (h : opSide ki = 2) : pcT (tellT (tQ ki v pc re se tr rs go) ki r g) p = tQ ki v p re se tr r g := by
  have h9 : ki ≠ 9 := by have := side_is ki; omega
  unfold tellT; rw [if_neg h9]; rfl
section
variable {s u : St} {k : Nat} {hd : Int} {sl : List Slo} {rc el : List Int} {fe : Int} {t : Th} {lg : List En}
theorem GoesR.one (hk : k < s.th.length) (h1 : t.st = 1) (h2 : opSide t.ki = 2) (hu : stB (mkR s k hd sl rc fe el t lg) = true → recvN (mkR s k hd sl rc fe el t lg) k = u) : GoesR k (mkR s k hd sl rc fe el t lg) 1 u := fun hB => by
  have e := is_mr hk hB h1 h2
  rw [hu hB] at e
  refine ⟨by rw [← e, recvS_stB]; exact hB, fun m => ?_⟩
  rw [recvK_on (runs_mr hk hB h1 h2), e]
end
section
variable {s : St} {k : Nat} {hd : Int} {sl : List Slo} {el : List Int} {fe : Int} {ki v re se tr rs go : Int} {lg : List En} (hk : k < s.th.length) (hki : opSide ki = 2) (h16 : k < 16)
include hk hki h16
theorem endR_go : GoesR k (mkR s k hd sl [(k : Int)] fe el (tQ ki v 9 re se tr rs go) lg) 1 (mkR s k hd sl [] fe el (tE ki v rs go) lg) :=
  GoesR.one hk rfl hki fun _ => by rw [r_9 hk rfl, lv_one h16]; rfl
/-- From the beginning to where it looks. -/
theorem headR_go : GoesR k (mkR s k hd sl [] fe el (tQ ki v 0 re se tr rs go) lg) 2 (mkR s k hd sl [(k : Int)] fe el (tQ ki v 2 re se tr rs go) lg) := by
  have g0 : GoesR k (mkR s k hd sl [] fe el (tQ ki v 0 re se tr rs go) lg) 1 (mkR s k hd sl [(k : Int)] fe el (tQ ki v 1 re se tr rs go) lg) := GoesR.one hk rfl hki fun _ => by rw [r_0 hk rfl, ent_one h16]; rfl
  exact g0.trans (GoesR.one hk rfl hki fun _ => r_1 hk rfl (pl_one h16))
/-- From where there is something, to the end. -/
theorem takeR_go (hfl : s.fl = []) (hs : tkR hd s.tl s.md sl.length = 1) (hd0 : 0 ≤ hd) : GoesR k (mkR s k hd sl [(k : Int)] fe el (tQ ki v 2 re se tr rs go) lg) 5
    (mkR s k (hd + 1) (rlL sl hd) [] (ntE fe []) el (tE ki v 1 (rdV sl hd)) (lg ++ [⟨k, ki, v, 1, (gs sl (plc sl hd)).vl⟩])) := by
  have g2 : GoesR k (mkR s k hd sl [(k : Int)] fe el (tQ ki v 2 re se tr rs go) lg) 1 (mkR s k hd sl [(k : Int)] fe el (tQ ki v 3 re se tr rs go) lg) := GoesR.one hk rfl hki fun _ => r_2 hk rfl hs
  have g3 : GoesR k (mkR s k hd sl [(k : Int)] fe el (tQ ki v 3 re se tr rs go) lg) 1 (mkR s k (hd + 1) sl [(k : Int)] fe el (tQ ki v 4 hd se tr 1 (gs sl (plc sl hd)).vl) (lg ++ [⟨k, ki, v, 1, (gs sl (plc sl hd)).vl⟩])) :=
    GoesR.one hk rfl hki fun hB => by
      have hv : valV (mkR s k hd sl [(k : Int)] fe el (tQ ki v 3 re se tr rs go) lg) hd = (gs sl (plc sl hd)).vl := by rw [atV_place hB hd0]; rfl
      rw [r_3 hk hB (show (1 : Int) ≠ 0 by decide) rfl hs, hv]
      show mkR s k (hd + 1) sl [(k : Int)] fe el (pcT (tellT (tQ ki v 4 hd se tr rs go) ki 1 _) 4) _ = _
      rw [tQ_tell hki]
  have g4 : GoesR k (mkR s k (hd + 1) sl [(k : Int)] fe el (tQ ki v 4 hd se tr 1 (gs sl (plc sl hd)).vl) (lg ++ [⟨k, ki, v, 1, (gs sl (plc sl hd)).vl⟩])) 1 (mkR s k (hd + 1) (rlL sl hd) [(k : Int)] fe el (tQ ki v 6 hd se tr 1 (rdV sl hd)) (lg ++ [⟨k, ki, v, 1, (gs sl (plc sl hd)).vl⟩])) := GoesR.one hk rfl hki fun _ => r_4 hk rfl
  have g6 : GoesR k (mkR s k (hd + 1) (rlL sl hd) [(k : Int)] fe el (tQ ki v 6 hd se tr 1 (rdV sl hd)) (lg ++ [⟨k, ki, v, 1, (gs sl (plc sl hd)).vl⟩])) 1 (mkR s k (hd + 1) (rlL sl hd) [(k : Int)] (ntE fe []) el (tQ ki v 9 hd se tr 1 (rdV sl hd)) (lg ++ [⟨k, ki, v, 1, (gs sl (plc sl hd)).vl⟩])) := GoesR.one hk rfl hki fun _ => r_6 hk rfl hfl
  exact (((g2.trans g3).trans g4).trans g6).trans (endR_go hk hki h16)
/-- It is told that there is nothing. -/
theorem none_go (hs : tkR hd s.tl s.md sl.length = 4) (h5 : ki = 5) : GoesR k (mkR s k hd sl [(k : Int)] fe el (tQ ki v 2 re se tr rs go) lg) 2 (mkR s k hd sl [] fe el (tE ki v 4 0) (lg ++ [⟨k, ki, v, 4, 0⟩])) := by
  have g2 : GoesR k (mkR s k hd sl [(k : Int)] fe el (tQ ki v 2 re se tr rs go) lg) 1 (mkR s k hd sl [(k : Int)] fe el (tQ ki v 9 re se tr 4 0) (lg ++ [⟨k, ki, v, 4, 0⟩])) :=
    GoesR.one hk rfl hki fun hB => by
      rw [r_2e hk rfl hB hs h5]
      show mkR s k hd sl [(k : Int)] fe el (pcT (tellT (tQ ki v 2 re se tr rs go) ki 4 0) 9) _ = _
      rw [tQ_tell hki]
  exact g2.trans (endR_go hk hki h16)
omit h16 in
/-- It tries on. -/
theorem tryR_go (hs : tkR hd s.tl s.md sl.length = 4) (h5 : ki ≠ 5) : ∀ (j : Nat) (tr : Int), tr + j ≤ 1099511627776 → (∀ i : Nat, i < j → waySt s (tr + i) ≠ 2) →
    GoesR k (mkR s k hd sl [(k : Int)] fe el (tQ ki v 2 re se tr rs go) lg) j (mkR s k hd sl [(k : Int)] fe el (tQ ki v 2 re se (tr + j) rs go) lg)
  | 0, tr, _, _ => fun hB => ⟨by simpa using hB, fun m => by simp⟩
  | j + 1, tr, hm, hw => by
    have g : GoesR k (mkR s k hd sl [(k : Int)] fe el (tQ ki v 2 re se tr rs go) lg) 1 (mkR s k hd sl [(k : Int)] fe el (tQ ki v 2 re se (tr + 1) rs go) lg) := GoesR.one hk rfl hki fun _ => by
      rw [r_2o hk rfl hs h5 rfl (by simpa using hw 0 (by omega))]
      unfold onT; rw [if_pos (show tr < 1099511627776 by omega)]
    have ih := tryR_go hs h5 j (tr + 1) (by omega) (fun i hi => by have := hw (i + 1) (by omega); rwa [show tr + 1 + (i : Int) = tr + ((i + 1 : Nat) : Int) by omega])
    rw [show tr + 1 + (j : Int) = tr + ((j + 1 : Nat) : Int) by omega] at ih
    have := g.trans ih
    rwa [Nat.add_comm 1 j] at this
omit h16 in
end
/-- Who has ended makes no more steps. -/
theorem GoesR.ends {a u : St} {k n : Nat} (h : GoesR k a n u) (ha : stB a = true) (hu : ∀ m, recvK u k m = (u, 0)) {m : Nat} (hm : n ≤ m) : recvK a k m = (u, n) := by
  obtain ⟨-, e⟩ := h ha
  have := e (m - n)
  rw [show m - n + n = m by omega, hu] at this
  rw [this]; simp
end Go.Proofs.YtjbcfjfnobklkaaGreat

/- Layer 15, plain: what stays in its bounds, of who receives. -/
namespace Go.Proofs.YtjbcfjfnobklkaaGreat
set_option linter.unusedVariables false
set_option linter.unusedSimpArgs false
open Go.RowKit
/-! ### What stays in its bounds -/
theorem recvN_vk {s : St} {n : Nat} (h : Vk s) (hB : stB s = true) (hn : n < s.th.length) (h1 : (gth s.th n).st ≠ 0) : Vk (recvN s n) := by
  have same : ∀ {u : St}, u.cf = s.cf → u.sl = s.sl → u.th = s.th → Vk u := fun e1 e2 e3 => ⟨e1 ▸ h.cf, fun x hx => h.sl x (e2 ▸ hx), fun t ht => h.th t (e3 ▸ ht)⟩
  have h0 : (0 : Int) = 0 := rfl
  have z : In64 0 := by decide
  refine recvN_ind (P := fun u => Vk u) ?_ ?_ ?_ ?_ ?_ ?_ ?_ ?_ ?_ ?_
  · exact (same (u := s.toRc (entL s.rc n)) rfl rfl rfl).on hn fun _ => ⟨rfl, rfl⟩
  · unfold firstR; repeat' split
    · exact h.on hn fun _ => ⟨rfl, rfl⟩
    · exact h.told hB hn (.inr z)
    · exact h.on hn fun _ => ⟨rfl, rfl⟩
  · unfold lookR; repeat' split
    · exact h.on hn fun _ => ⟨rfl, rfl⟩
    · exact h.told hB hn (.inr z)
    · exact h.told hB hn (.inr z)
    · exact h.told hB hn (.inr z)
    · exact h.on hn fun _ => ⟨rfl, rfl⟩
    · exact h.on hn fun _ => ⟨rfl, rfl⟩
  · unfold takeR; repeat' split
    · exact h.on hn fun _ => ⟨rfl, rfl⟩
    · exact h.told hB hn (.inr z)
    · next h2 h3 =>
      have hs : seesR s = 1 := Classical.not_not.1 h3
      have hv : Vk ((s.toWord (s.hd + 1) s.tl s.md).onTh n (regT · s.hd 4)) := (same (u := s.toWord (s.hd + 1) s.tl s.md) rfl rfl rfl).on hn fun _ => ⟨rfl, rfl⟩
      refine hv.told (takeB_ok hB hn h1 hs) (by show n < (s.th.set n _).length; simpa using hn) (.inr ?_)
      have hg : ∀ q, In64 (gs s.sl q).vl := fun q => by
        unfold gs
        rw [List.getD_eq_getElem?_getD]
        cases hx : s.sl[q]? with
        | none => exact z
        | some x => exact h.sl x (List.mem_of_getElem? hx)
      unfold valV
      repeat' split
      all_goals first | exact z | exact hg _
  · unfold readR
    have hsl : ∀ x ∈ rlL s.sl (gth s.th n).re, In64 x.vl := fun x hx => by
      unfold rlL at hx
      split at hx
      · rcases List.mem_or_eq_of_mem_set hx with h2 | rfl
        · exact h.sl x h2
        · show In64 (gs s.sl _).vl
          unfold gs
          rw [List.getD_eq_getElem?_getD]
          cases hx : s.sl[plc s.sl (gth s.th n).re]? with
          | none => exact z
          | some x => exact h.sl x (List.mem_of_getElem? hx)
      · exact h.sl x hx
    have hv : Vk (s.toSl (rlL s.sl (gth s.th n).re)) := ⟨h.cf, hsl, h.th⟩
    refine hv.set ⟨(h.th _ (gth_mem hn)).1, ?_⟩
    show In64 (rdV s.sl (gth s.th n).re)
    unfold rdV
    split
    · unfold gs
      rw [List.getD_eq_getElem?_getD]
      cases hx : s.sl[plc s.sl (gth s.th n).re]? with
      | none => exact z
      | some x => exact h.sl x (List.mem_of_getElem? hx)
    · exact z
  · exact h.on hn fun _ => ⟨rfl, rfl⟩
  · have hv : Vk ((s.toFull (ntE s.fe s.fl) (ntL 1 s.fe s.fl)).onTh n (pcT · 9)) := (same (u := s.toFull (ntE s.fe s.fl) (ntL 1 s.fe s.fl)) rfl rfl rfl).on hn fun _ => ⟨rfl, rfl⟩
    unfold notifyR; split
    · exact hv.wake _
    · exact hv
  · split <;> exact h.on hn fun _ => ⟨rfl, rfl⟩
  · unfold commitR; repeat' split
    · exact h.on hn fun _ => ⟨rfl, rfl⟩
    · exact (same (u := s.toEmpty s.ee (s.el ++ [(n : Int)])) rfl rfl rfl).on hn fun _ => ⟨rfl, rfl⟩
    · exact h.on hn fun _ => ⟨rfl, rfl⟩
  · exact (same (u := s.toRc (lvL s.rc n)) rfl rfl rfl).on hn fun _ => ⟨rfl, rfl⟩
theorem recvS_is {s : St} {n : Nat} (h : runsB s n 2 = true) : recvS s n = recvN s n := by unfold recvS; rw [if_pos h, Int.toNat_natCast]
theorem recvS_all {s : St} (hB : stB s = true) (ho : s.ok) (hl : s.lg.length ≤ 900000) (i : Int) : (recvS s i).ok ∧ (recvS s i).lg.length ≤ s.lg.length + 1 := by
  have hlg : (recvS s i).lg.length ≤ s.lg.length + 1 := by
    rcases (recvS_lgOk s i).1 with h | ⟨x, h⟩ <;> rw [h] <;> simp
  refine ⟨?_, hlg⟩
  cases hr : runsB s i 2
  · have : recvS s i = s := by simp [recvS, hr]
    rw [this]; exact ho
  · obtain ⟨h1, h2, h3⟩ := runs_iff.1 hr
    obtain ⟨-, hi0, hi1⟩ := has_iff.1 h1
    obtain ⟨n, rfl⟩ : ∃ n : Nat, i = n := ⟨i.toNat, by omega⟩
    have hn : n < s.th.length := by omega
    rw [Int.toNat_natCast] at h2
    rw [recvS_is hr] at hlg ⊢
    exact ok_of (recvN_stB hB hn (by omega)) (recvN_vk (.of ho) hB hn (by omega)) (by omega)
theorem recvK_all {i : Int} (k : Nat) : ∀ {s : St}, stB s = true → s.ok → s.lg.length + k ≤ 800000 → (recvK s i k).1.ok ∧ (recvK s i k).1.fit ∧ (recvK s i k).1.lg.length ≤ s.lg.length + k := by
  induction k with
  | zero => intro s hB ho hl; exact ⟨ho, fit_of (s := s) hB (by omega), by show s.lg.length ≤ _; omega⟩
  | succ k ih =>
    intro s hB ho hl
    cases hr : runsB s i 2
    · rw [recvK_off hr]; exact ⟨ho, fit_of (s := s) hB (by omega), by show s.lg.length ≤ _; omega⟩
    · rw [recvK_on hr]
      obtain ⟨h1, h2⟩ := recvS_all hB ho (by omega) i
      obtain ⟨h3, h4, h5⟩ := ih (s := recvS s i) (by rw [recvS_stB]; exact hB) h1 (by omega)
      exact ⟨h3, h4, by show (recvK (recvS s i) i k).1.lg.length ≤ _; omega⟩
end Go.Proofs.YtjbcfjfnobklkaaGreat

/- Layer 14's first law (SendTells): its walk, by contracts told by abstract values. -/
namespace Go.Proofs.YtjbcfjfnobklkaaGreat
set_option linter.unusedVariables false
set_option linter.unusedSimpArgs false
open Go.RowKit
section
variable {s u v : St} {i m pc : Int} {k : Nat}
end
end Go.Proofs.YtjbcfjfnobklkaaGreat

/- What the laws of layer 14 share: values stay in their bounds, whatever steps there are. -/
namespace Go.Proofs.YtjbcfjfnobklkaaGreat
set_option linter.unusedVariables false
set_option linter.unusedSimpArgs false
open Go.ChangeShapes Go.WideShapes Go.ChangeAt Go.RowKit
theorem sendS_all {s : St} (hB : stB s = true) (ho : s.ok) (hl : s.lg.length ≤ 900000) (i : Int) : (sendS s i).ok ∧ (sendS s i).lg.length ≤ s.lg.length + 1 := by
  cases hr : runsB s i 1
  · have : sendS s i = s := by simp [sendS, hr]
    rw [this]; exact ⟨ho, by omega⟩
  · obtain ⟨h1, h2, h3⟩ := runs_iff.1 hr
    obtain ⟨-, hi0, hi1⟩ := has_iff.1 h1
    obtain ⟨n, rfl⟩ : ∃ n : Nat, i = n := ⟨i.toNat, by omega⟩
    have hn : n < s.th.length := by omega
    rw [Int.toNat_natCast] at h2
    rw [sendS_is hr]
    have hg := sendN_lg hB hn
    exact ⟨ok_of (sendN_stB hB hn (by omega)) (sendN_vk (.of ho) hB hn (by omega)) (by omega), hg⟩
theorem sendK_all {i : Int} (k : Nat) : ∀ {s : St}, stB s = true → s.ok → s.lg.length + k ≤ 800000 → (sendK s i k).1.ok ∧ (sendK s i k).1.fit ∧ (sendK s i k).1.lg.length ≤ s.lg.length + k := by
  induction k with
  | zero => intro s hB ho hl; exact ⟨ho, fit_of (s := s) hB (by omega), by show s.lg.length ≤ _; omega⟩
  | succ k ih =>
    intro s hB ho hl
    cases hr : runsB s i 1
    · rw [sendK_off hr]; exact ⟨ho, fit_of (s := s) hB (by omega), by show s.lg.length ≤ _; omega⟩
    · rw [sendK_on hr]
      obtain ⟨h1, h2⟩ := sendS_all hB ho (by omega) i
      obtain ⟨h3, h4, h5⟩ := ih (s := sendS s i) (by rw [sendS_stB]; exact hB) h1 (by omega)
      exact ⟨h3, h4, by show (sendK (sendS s i) i k).1.lg.length ≤ _; omega⟩
end Go.Proofs.YtjbcfjfnobklkaaGreat

/- Layer 14, plain: a fabric of which one thread sent some numbers, one by one, alone. -/
namespace Go.Proofs.YtjbcfjfnobklkaaGreat
set_option linter.unusedVariables false
set_option linter.unusedSimpArgs false
theorem plc_id {l : List Slo} {j : Nat} (h : j < l.length) : plc l j = j := by
  have : placeI (j : Int) l.length = j := by unfold placeI; rw [if_pos (lies_of (by omega) (by omega))]; exact Int.emod_eq_of_lt (by omega) (by omega)
  unfold plc; rw [this]; simp
/-- Thread 0 sent 0, 1, .., i - 1; all are idle. -/
structure AlI (c : Cf) (s : St) (i : Nat) : Prop where
  b : stB s = true
  ok : s.ok
  cf : s.cf = c
  hd : s.hd = 0
  tl : s.tl = i
  md : s.md = 0
  sn : s.sn = []
  el : s.el = []
  fl : s.fl = []
  sl : ∀ j, j < s.sl.length → gs s.sl j = ⟨j, if j < i then j else 0⟩
  id : ∀ j, j < s.th.length → (gth s.th j).st = 0
  lg : s.lg.length = i
section
variable {c : Cf} {s : St} {i : Nat}
theorem AlI.len (h : AlI c s i) : (s.sl.length : Int) = cfR c ∧ (s.th.length : Int) = c.th ∧ 1 ≤ s.th.length ∧ s.th.length ≤ 16 ∧ 2 ≤ s.sl.length ∧ s.sl.length ≤ 64 ∧ i ≤ s.sl.length := by
  have h1 := (word_ok h.b).2.2
  have h2 := th_len h.b
  have h3 := cf_room (st_iff.1 h.b).1
  have h4 := check_len (word_ok h.b).1
  rw [h.hd, h.tl] at h4
  rw [h.cf] at h1 h2 h3
  omega
theorem al_new (hc : cfB c = true) (ho : (newSt c).ok) : AlI c (newSt c) 0 := by
  refine ⟨new_stB hc, ho, rfl, rfl, rfl, rfl, rfl, rfl, rfl, fun j hj => ?_, fun j hj => ?_, rfl⟩
  · have hr := cf_room hc
    have hb : ringB (cfR c) = true := ring_iff.2 (by omega)
    have hs : (newSt c).sl = (List.range (cfR c).toNat).map fun (i : Nat) => (⟨(i : Int), 0⟩ : Slo) := by show newL (cfR c) = _; unfold newL; rw [if_pos hb]
    rw [hs] at hj ⊢
    rw [gs_eq hj]
    simp
  · have : (newSt c).th = List.replicate c.th.toNat th0 := rfl
    rw [this] at hj ⊢
    rw [gth_eq hj]; simp [th0]
theorem AlI.ac (h : AlI c s i) (hi : i < s.sl.length) : acR 0 (i : Int) s.md s.sl.length = 1 := by
  have hc := (word_ok h.b).1
  rw [h.hd, h.tl] at hc
  have := h.len
  exact ac1_iff.2 ⟨hc, h.md, by omega, by omega⟩
theorem AlI.full (h : AlI c s i) (hi : i = s.sl.length) : acR 0 (i : Int) s.md s.sl.length = 2 := by
  have hc := (word_ok h.b).1
  rw [h.hd, h.tl] at hc
  unfold acR haltB
  rw [hc, full_iff hc, h.md]
  simp [hi]
theorem AlI.wr (h : AlI c s i) (hi : i < s.sl.length) : wrE s.sl i = 0 ∧ rdyB s.sl i = true := by
  have hl : liesS s.sl i = true := lies_iff.2 ⟨by omega, (word_ok h.b).2.1⟩
  have hr : rdyB s.sl i = true := by unfold rdyB; rw [hl, plc_id hi, h.sl i hi]; simp
  exact ⟨by unfold wrE; rw [hl, hr]; rfl, hr⟩
theorem wr_gs {l : List Slo} {i j : Nat} {v : Int} (hi : i < l.length) (hr : rdyB l i = true) : gs (wrL l i v) j = if j = i then ⟨i, v⟩ else gs l j := by
  unfold wrL
  rw [if_pos hr, plc_id hi, gs_set hi]
  by_cases e : i = j
  · rw [if_pos e, if_pos e.symm]
  · rw [if_neg e, if_neg (fun h => e h.symm)]
/-- Of which it lets one more in. -/
def al1 (s : St) (k i : Nat) (ki v : Int) : St := mkS s k 0 ((i : Int) + 1) (wrL s.sl i v) [] [] (ntE s.ee []) (tD ki v 1) (s.lg ++ [⟨k, ki, v, 1, 0⟩])
theorem AlI.beg (h : AlI c s i) {k : Nat} (hk : k < s.th.length) {ki v : Int} (hki : 1 ≤ ki ∧ ki ≤ 3) : stBeg s k ki v 0 0 (s.setTh k (tS ki v 0 0 0 0 0)) := by
  have hl := h.len
  refine .inr (.inr ⟨h.b, ?_, k, tS ki v 0 0 0 0 0, rfl, hk, ?_, rfl⟩)
  · unfold opMay
    have hs := side_is ki
    rw [if_neg (by rw [h.cf]; omega), if_neg (by rw [opB_iff.2 (by omega)]; decide), if_neg (by omega)]
  · have h0 := h.id k hk
    by_cases h3 : ki = 3
    · exact .inr (.inr (.inr (.inr ⟨h0, opB_iff.2 (by omega), by simp [opTimed, h3], by omega, rfl, rfl⟩)))
    · exact .inr (.inr (.inl ⟨h0, opB_iff.2 (by omega), by simp [opTimed]; omega, rfl, rfl⟩))
theorem AlI.begB (h : AlI c s i) {k : Nat} {ki v : Int} (hki : 1 ≤ ki ∧ ki ≤ 3) : stB (s.setTh k (tS ki v 0 0 0 0 0)) = true := th_stB h.b (tS_ok hki)
theorem AlI.begO (h : AlI c s i) {k : Nat} {ki v : Int} (hki : 1 ≤ ki ∧ ki ≤ 3) (hv : In64 v) : (s.setTh k (tS ki v 0 0 0 0 0)).ok :=
  ok_of (h.begB hki) ((Vk.of h.ok).set ⟨hv, (by decide : In64 0)⟩) (by have := h.lg; have := h.len; show s.lg.length ≤ 1000000; omega)
theorem AlI.st0 (h : AlI c s i) (k : Nat) (t : Th) : s.setTh k t = mkS s k 0 i s.sl [] [] s.ee t s.lg := by
  rw [mk_self, h.hd, h.tl, h.sn, h.fl]
theorem AlI.run (h : AlI c s i) (hi : i < s.sl.length) {k : Nat} (hk : k < s.th.length) {ki v : Int} (hki : 1 ≤ ki ∧ ki ≤ 3) : sendK (s.setTh k (tS ki v 0 0 0 0 0)) k 100 = (al1 s k i ki v, 7) ∧ stB (al1 s k i ki v) = true := by
  have hl := h.len
  have hs : opSide ki = 1 := by have := side_is ki; omega
  have hB := h.begB (k := k) (v := v) hki
  rw [h.st0] at hB ⊢
  have g := (head_go (s := s) (hd := 0) (tl := i) (sl := s.sl) (fl := []) (ee := s.ee) (v := v) (re := 0) (se := 0) (tr := 0) (rs := 0) (lg := s.lg) hk hs (by omega)).trans (room_go hk hs (by omega) h.el (h.ac hi) (h.wr hi).1)
  exact ⟨g.ends hB (fun m => sendK_off (off_mk hk (show (0 : Int) ≠ 1 by decide)) m) (by omega), (g hB).1⟩
theorem AlI.runO (h : AlI c s i) (hi : i < s.sl.length) {k : Nat} (hk : k < s.th.length) {ki v : Int} (hki : 1 ≤ ki ∧ ki ≤ 3) (hv : In64 v) : (al1 s k i ki v).ok := by
  have hl := h.len
  have := (sendK_all (i := k) 100 (h.begB (k := k) (v := v) hki) (h.begO hki hv) (by have := h.lg; show s.lg.length + 100 ≤ 800000; omega)).1
  rw [(h.run hi hk hki).1] at this
  exact this
/-- One more. -/
theorem AlI.next (h : AlI c s i) (hi : i < s.sl.length) : AlI c (al1 s 0 i 1 i) (i + 1) := by
  have hl := h.len
  have hk : 0 < s.th.length := by omega
  refine ⟨(h.run hi hk (ki := 1) (by decide)).2, h.runO hi hk (by decide) ⟨by omega, by omega⟩, h.cf, rfl, by show (i : Int) + 1 = ((i + 1 : Nat) : Int); omega, h.md, rfl, h.el, rfl, fun j hj => ?_, fun j hj => ?_, by show (s.lg ++ _).length = _; simp [h.lg]⟩
  · have hj' : j < s.sl.length := by have : (al1 s 0 i 1 i).sl.length = s.sl.length := wr_len _ _ _; omega
    show gs (wrL s.sl i i) j = _
    rw [wr_gs hi (h.wr hi).2]
    by_cases e : j = i
    · subst e; rw [if_pos rfl, if_pos (by omega)]
    · rw [if_neg e, h.sl j hj']
      by_cases e2 : j < i
      · rw [if_pos e2, if_pos (by omega)]
      · rw [if_neg e2, if_neg (by omega)]
  · have hj' : j < s.th.length := by have : (al1 s 0 i 1 i).th.length = s.th.length := by simp [al1, mkS]
                                     omega
    show (gth (s.th.set 0 (tD 1 i 1)) j).st = 0
    rw [gth_set hk]
    split
    · rfl
    · exact h.id j hj'
end
end Go.Proofs.YtjbcfjfnobklkaaGreat
