/- Who sends into a full fabric, alone, is told so at once, if it tries once, or is dropped, lets the oldest one go, or waits, as the policy says: true of every configuration, value and kind. -/
import Derived.Test.YtfllnpcoggmepaaGreatZb13
import Derived.Test.YtfllnpcoggmepaaGreatSd6QZb
namespace Go.Proofs.YtfllnpcoggmepaaGreat
set_option linter.unusedVariables false
set_option linter.unusedSimpArgs false
open Go.ChangeShapes Go.WideShapes Go.ChangeAt Go.RowKit
def tF (v m r i : Int) : List (Nat × Value) := [(1, .int .i64 v), (2, .int .u8 m), (3, pt 0), (7, vD true), (8, pt 1), (10, .int .i64 r), (11, .int .i64 i)]
def hdF (c : Cf) (s : St) (v m r i : Int) : Sg := ⟨mkT 216 (tF v m r i), [bCa c, bSa s]⟩
section
variable {c : Cf} {v m : Int}
set_option maxRecDepth 100000 in
theorem fl_lp {n : Nat} (hn : (n : Int) ≤ cfR c) : ∀ (k i : Nat) {s : St}, n - i = k → i ≤ n → AlI c s i → ∃ s', AlI c s' n ∧ LoopP Tryz.prog (loopOf Tryz.prog 7 0) (hdF c s v m n i) (.exit 0) (hdF c s' v m n n)
  | 0, i, s, hk, hi, h => by
    have : i = n := by omega
    subst this
    exact ⟨s, h, loop_end mixed (ext := []) (fuel := 9) (n := 3) (im := [0, 1]) (keep := [1, 2, 3, 7, 8, 10, 11]) (orc := [.bool false]) (an (show decide ((i : Int) < i) = false by simp) trivial) (by intro e; cases e) (by kernel_rfl)⟩
  | k + 1, i, s, hk, hi, h => by
    have hl := h.len
    have hi' : i < s.sl.length := by omega
    have h0 : 0 < s.th.length := by omega
    obtain ⟨s', hs', ih⟩ := fl_lp hn k (i + 1) (by omega) (by omega) (h.next hi')
    rw [show ((i + 1 : Nat) : Int) = (i : Int) + 1 by omega] at ih
    have hI := h.inv h0 (ki := 1) (v := i) (by decide)
    have hS := h.steps (k := 0) (ki := 1) (v := i) (by decide) ⟨by omega, by omega⟩ (h.run hi' h0 (by decide)).1
    exact ⟨s', hs', loop_more mixed (ext := [23, 12]) (fuel := 9) (n := 3) (im := [0, 1]) (keep := [1, 2, 3, 7, 8, 10, 11]) (orc := [.bool true, .tuple #[stT (s.setTh 0 (tS 1 i 0 0 0 0 0)), .int .i64 0], .tuple #[stT (al1 s 0 i 1 i), .int .i64 7]])
      (an (show decide ((i : Int) < n) = true by simp; omega) <| an hI <| an hS <| an (show In64 ((i : Int) + 1) by constructor <;> omega) trivial) (by kernel_rfl) ih⟩
variable {s t u : St} {q : Qu} {ki e : Int} {n : Nat} (hm : 0 ≤ m ∧ m ≤ 255) (hc : cfB c = true) (h1 : LoopP Tryz.prog (loopOf Tryz.prog 7 0) (hdF c (newSt c) v m (newSt c).sl.length 0) (.exit 0) (hdF c s v m (newSt c).sl.length (newSt c).sl.length))
  (h2 : AC Tryz.prog 23 [stT s, .int .i64 0, .int .i64 (1 + m % 3), .int .i64 v, .int .i64 0] (.tuple #[stT t, .int .i64 0])) (h4 : AC Tryz.prog 24 [stT u] (quT q)) (h5 : decide ((u.th.length : Int) < 1) = false) (h6 : ((q.vals.length : Int) != (newSt c).sl.length) = false)
include hm hc h1 h2 h4 h5 h6
set_option maxRecDepth 100000 in
theorem fl_1 (h3 : AC Tryz.prog 12 [stT t, .int .i64 0, .int .i64 100] (.tuple #[stT u, .int .i64 4])) (hx : IxP ((u.th.map thT).toArray) 0 (thT (tD ki v 3))) (hp1 : (c.po == 1) = true) (hz : IxP ((q.vals.map (Value.int .i64 ·)).toArray) 0 (.int .i64 0)) : AC Tryz.prog 7 [cfT c, .int .i64 v, .int .u8 m] (.bool true) :=
  ac_path mixed (ext := [10, 22, 23, 12, 24]) (fuel := 9) (n := 4) (orc := [vD true, .tuple #[stT (newSt c), .int .i64 0], .nilFunc, oL [0, 1] [1, 2, 3, 7, 8, 10, 11] 0 (tF v m (newSt c).sl.length (newSt c).sl.length) (hdF c s 0 0 0 0).H, .int .i64 (m % 3), .tuple #[stT t, .int .i64 0], .tuple #[stT u, .int .i64 4], quT q, .bool false, .bool false, thT (tD ki v 3), .bool true, .nilFunc, .nilFunc, .int .i64 0, .nilFunc]) (an ac_awake <| an (ac_pnew hc) <| an h1 <| an (show 0 ≤ m ∧ (0 : Int) < 3 from ⟨hm.1, by omega⟩) <| an (ask_u8 (m % 3) (by omega) (by omega) (.tmp 54)) <| an (show In64 (1 + m % 3) by constructor <;> omega) <| an h2 <| an h3 <| an h4 <| an h5 <| an h6 <| an hx <| an hp1 <| an hz trivial) (by kernel_rfl)
set_option maxRecDepth 100000 in
theorem fl_2 (h3 : AC Tryz.prog 12 [stT t, .int .i64 0, .int .i64 100] (.tuple #[stT u, .int .i64 10])) (hx : IxP ((u.th.map thT).toArray) 0 (thT (tD ki v 1))) (hp1 : (c.po == 1) = false) (hp2 : (c.po == 2) = true) (hr : (newSt c).sl.length ≤ 1000) (hz : IxP ((q.vals.map (Value.int .i64 ·)).toArray) (((newSt c).sl.length : Int) - 1) (.int .i64 v)) : AC Tryz.prog 7 [cfT c, .int .i64 v, .int .u8 m] (.bool ((u.lg.length : Int) == (newSt c).sl.length + 2)) :=
  ac_path mixed (ext := [10, 22, 23, 12, 24]) (fuel := 9) (n := 4) (orc := [vD true, .tuple #[stT (newSt c), .int .i64 0], .nilFunc, oL [0, 1] [1, 2, 3, 7, 8, 10, 11] 0 (tF v m (newSt c).sl.length (newSt c).sl.length) (hdF c s 0 0 0 0).H, .int .i64 (m % 3), .tuple #[stT t, .int .i64 0], .tuple #[stT u, .int .i64 10], quT q, .bool false, .bool false, thT (tD ki v 1), .bool false, .bool true, .nilFunc, .nilFunc, .int .i64 v, .bool true, .nilFunc]) (an ac_awake <| an (ac_pnew hc) <| an h1 <| an (show 0 ≤ m ∧ (0 : Int) < 3 from ⟨hm.1, by omega⟩) <| an (ask_u8 (m % 3) (by omega) (by omega) (.tmp 54)) <| an (show In64 (1 + m % 3) by constructor <;> omega) <| an h2 <| an h3 <| an h4 <| an h5 <| an h6 <| an hx <| an hp1 <| an hp2 <| an (show In64 (((newSt c).sl.length : Int) - 1) by constructor <;> omega) <| an hz <| an (show (v == v) = true by simp) <| an (show In64 (((newSt c).sl.length : Int) + 2) by constructor <;> omega) trivial) (by kernel_rfl)
set_option maxRecDepth 100000 in
theorem fl_3 (h3 : AC Tryz.prog 12 [stT t, .int .i64 0, .int .i64 100] (.tuple #[stT u, .int .i64 4])) (hx : IxP ((u.th.map thT).toArray) 0 (thT (tD ki v 2))) (hp1 : (c.po == 1) = false) (hp2 : (c.po == 2) = false) (hk : (1 + m % 3 == 2) = true) : AC Tryz.prog 7 [cfT c, .int .i64 v, .int .u8 m] (.bool true) :=
  ac_path mixed (ext := [10, 22, 23, 12, 24]) (fuel := 9) (n := 4) (orc := [vD true, .tuple #[stT (newSt c), .int .i64 0], .nilFunc, oL [0, 1] [1, 2, 3, 7, 8, 10, 11] 0 (tF v m (newSt c).sl.length (newSt c).sl.length) (hdF c s 0 0 0 0).H, .int .i64 (m % 3), .tuple #[stT t, .int .i64 0], .tuple #[stT u, .int .i64 4], quT q, .bool false, .bool false, thT (tD ki v 2), .bool false, .bool false, .bool true, .nilFunc, .nilFunc]) (an ac_awake <| an (ac_pnew hc) <| an h1 <| an (show 0 ≤ m ∧ (0 : Int) < 3 from ⟨hm.1, by omega⟩) <| an (ask_u8 (m % 3) (by omega) (by omega) (.tmp 54)) <| an (show In64 (1 + m % 3) by constructor <;> omega) <| an h2 <| an h3 <| an h4 <| an h5 <| an h6 <| an hx <| an hp1 <| an hp2 <| an hk trivial) (by kernel_rfl)
set_option maxRecDepth 100000 in
theorem fl_4 (h3 : AC Tryz.prog 12 [stT t, .int .i64 0, .int .i64 100] (.tuple #[stT u, .int .i64 n])) (hx : IxP ((u.th.map thT).toArray) 0 (thT (⟨2, ki, v, 0, 2, 0, e, 0, false, 0, 0⟩))) (hp1 : (c.po == 1) = false) (hp2 : (c.po == 2) = false) (hk : (1 + m % 3 == 2) = false) (hw3 : (c.wt == 3) = true) (hf : ((u.fl.length : Int) == 1) = true) (hz : IxP ((q.vals.map (Value.int .i64 ·)).toArray) 0 (.int .i64 0)) : AC Tryz.prog 7 [cfT c, .int .i64 v, .int .u8 m] (.bool true) :=
  ac_path mixed (ext := [10, 22, 23, 12, 24]) (fuel := 9) (n := 4) (orc := [vD true, .tuple #[stT (newSt c), .int .i64 0], .nilFunc, oL [0, 1] [1, 2, 3, 7, 8, 10, 11] 0 (tF v m (newSt c).sl.length (newSt c).sl.length) (hdF c s 0 0 0 0).H, .int .i64 (m % 3), .tuple #[stT t, .int .i64 0], .tuple #[stT u, .int .i64 n], quT q, .bool false, .bool false, thT (⟨2, ki, v, 0, 2, 0, e, 0, false, 0, 0⟩), .bool false, .bool false, .bool false, .bool true, .nilFunc, .nilFunc, .bool true, .int .i64 0]) (an ac_awake <| an (ac_pnew hc) <| an h1 <| an (show 0 ≤ m ∧ (0 : Int) < 3 from ⟨hm.1, by omega⟩) <| an (ask_u8 (m % 3) (by omega) (by omega) (.tmp 54)) <| an (show In64 (1 + m % 3) by constructor <;> omega) <| an h2 <| an h3 <| an h4 <| an h5 <| an h6 <| an hx <| an hp1 <| an hp2 <| an hk <| an hw3 <| an hf <| an hz trivial) (by kernel_rfl)
set_option maxRecDepth 100000 in
theorem fl_5 (h3 : AC Tryz.prog 12 [stT t, .int .i64 0, .int .i64 100] (.tuple #[stT u, .int .i64 n])) (hx : IxP ((u.th.map thT).toArray) 0 (thT (⟨2, ki, v, 0, 2, 0, e, 0, false, 0, 0⟩))) (hp1 : (c.po == 1) = false) (hp2 : (c.po == 2) = false) (hk : (1 + m % 3 == 2) = false) (hw3 : (c.wt == 3) = false) (hw2 : (c.wt == 2) = true) (hf : ((u.fl.length : Int) == 1) = true) (hz : IxP ((q.vals.map (Value.int .i64 ·)).toArray) 0 (.int .i64 0)) : AC Tryz.prog 7 [cfT c, .int .i64 v, .int .u8 m] (.bool true) :=
  ac_path mixed (ext := [10, 22, 23, 12, 24]) (fuel := 9) (n := 4) (orc := [vD true, .tuple #[stT (newSt c), .int .i64 0], .nilFunc, oL [0, 1] [1, 2, 3, 7, 8, 10, 11] 0 (tF v m (newSt c).sl.length (newSt c).sl.length) (hdF c s 0 0 0 0).H, .int .i64 (m % 3), .tuple #[stT t, .int .i64 0], .tuple #[stT u, .int .i64 n], quT q, .bool false, .bool false, thT (⟨2, ki, v, 0, 2, 0, e, 0, false, 0, 0⟩), .bool false, .bool false, .bool false, .bool false, .nilFunc, .bool true, .nilFunc, .bool true, .int .i64 0]) (an ac_awake <| an (ac_pnew hc) <| an h1 <| an (show 0 ≤ m ∧ (0 : Int) < 3 from ⟨hm.1, by omega⟩) <| an (ask_u8 (m % 3) (by omega) (by omega) (.tmp 54)) <| an (show In64 (1 + m % 3) by constructor <;> omega) <| an h2 <| an h3 <| an h4 <| an h5 <| an h6 <| an hx <| an hp1 <| an hp2 <| an hk <| an hw3 <| an hw2 <| an hf <| an hz trivial) (by kernel_rfl)
set_option maxRecDepth 100000 in
theorem fl_6 (h3 : AC Tryz.prog 12 [stT t, .int .i64 0, .int .i64 100] (.tuple #[stT u, .int .i64 100])) (hx : IxP ((u.th.map thT).toArray) 0 (thT (tS ki v 2 0 0 98 0))) (hp1 : (c.po == 1) = false) (hp2 : (c.po == 2) = false) (hk : (1 + m % 3 == 2) = false) (hw3 : (c.wt == 3) = false) (hw2 : (c.wt == 2) = false) (hz : IxP ((q.vals.map (Value.int .i64 ·)).toArray) 0 (.int .i64 0)) : AC Tryz.prog 7 [cfT c, .int .i64 v, .int .u8 m] (.bool true) :=
  ac_path mixed (ext := [10, 22, 23, 12, 24]) (fuel := 9) (n := 4) (orc := [vD true, .tuple #[stT (newSt c), .int .i64 0], .nilFunc, oL [0, 1] [1, 2, 3, 7, 8, 10, 11] 0 (tF v m (newSt c).sl.length (newSt c).sl.length) (hdF c s 0 0 0 0).H, .int .i64 (m % 3), .tuple #[stT t, .int .i64 0], .tuple #[stT u, .int .i64 100], quT q, .bool false, .bool false, thT (tS ki v 2 0 0 98 0), .bool false, .bool false, .bool false, .bool false, .nilFunc, .bool false, .bool true, .nilFunc, .nilFunc, .int .i64 0]) (an ac_awake <| an (ac_pnew hc) <| an h1 <| an (show 0 ≤ m ∧ (0 : Int) < 3 from ⟨hm.1, by omega⟩) <| an (ask_u8 (m % 3) (by omega) (by omega) (.tmp 54)) <| an (show In64 (1 + m % 3) by constructor <;> omega) <| an h2 <| an h3 <| an h4 <| an h5 <| an h6 <| an hx <| an hp1 <| an hp2 <| an hk <| an hw3 <| an hw2 <| an (show (!(c.wt == 2)) = true by rw [hw2]; rfl) <| an hz trivial) (by kernel_rfl)
end
theorem mk_th {s : St} {hd tl : Int} {sl : List Slo} {sn fl : List Int} {ee : Int} {t : Th} {lg : List En} (h : 0 < s.th.length) : IxP (((mkS s 0 hd tl sl sn fl ee t lg).th.map thT).toArray) 0 (thT t) := by
  have := ixT (l := (mkS s 0 hd tl sl sn fl ee t lg).th) (n := 0) (by rw [len_mk]; exact h)
  rwa [gth_mk h] at this
theorem ixZ {l : List Int} {i : Nat} {x : Int} (h : i < l.length) (hx : gI' l i = x) : IxP ((l.map (Value.int .i64 ·)).toArray) (i : Int) (.int .i64 x) := by
  have := ixI' (l := l) (i := i) h
  rwa [show gI l i = x from hx] at this
theorem ac_full {c : Cf} {v m : Int} (hm : 0 ≤ m ∧ m ≤ 255) (ho : c.ok) (hv : In64 v) : AC Tryz.prog 7 [cfT c, .int .i64 v, .int .u8 m] (.bool true) := by
  cases hc : cfB c
  · exact ac_path mixed (ext := [10, 22, 23, 12, 24]) (fuel := 9) (n := 4) (orc := [vD true, .tuple #[stT st0, .int .i64 20], .nilFunc]) (an ac_awake <| an (ac_pnew_no hc) trivial) (by kernel_rfl)
  · have h := al_new hc (newO hc ho)
    obtain ⟨L, hL⟩ : ∃ L : Nat, (newSt c).sl.length = L := ⟨_, rfl⟩
    have hl := h.len
    rw [hL] at hl
    obtain ⟨s, hs, h1⟩ := fl_lp (c := c) (v := v) (m := m) (n := L) (by omega) L 0 rfl (by omega) h
    have hsl := hs.len
    have hfull : L = s.sl.length := by omega
    obtain ⟨ki, hki⟩ : ∃ ki, 1 + m % 3 = ki := ⟨_, rfl⟩
    have hk13 : 1 ≤ ki ∧ ki ≤ 3 := by omega
    have h0 : 0 < s.th.length := by omega
    have h2 : AC Tryz.prog 23 [stT s, .int .i64 0, .int .i64 (1 + m % 3), .int .i64 v, .int .i64 0] (.tuple #[stT (s.setTh 0 (tS ki v 0 0 0 0 0)), .int .i64 0]) := by
      rw [hki]; exact hs.inv h0 (ki := ki) (v := v) hk13
    rw [← hL] at h1
    have hp := h.cf_is
    have ix0 : ∀ {q : Qu}, q.vals.length = L → gI' q.vals 0 = 0 → IxP ((q.vals.map (Value.int .i64 ·)).toArray) 0 (.int .i64 0) := fun h3 h4 => ixZ (i := 0) (by omega) h4
    have lens : ∀ {q : Qu}, q.vals.length = L → ((q.vals.length : Int) != (newSt c).sl.length) = false := fun h3 => by rw [h3, hL]; simp
    have thl : ∀ {u : St}, u.th.length = s.th.length → decide ((u.th.length : Int) < 1) = false := fun h3 => by rw [h3]; simp; omega
    have oks : ∀ {u : St} {n : Nat}, sendK (s.setTh 0 (tS ki v 0 0 0 0 0)) ((0 : Nat) : Int) 100 = (u, n) → u.ok := fun h3 => by
      have := (sendK_all (i := ((0 : Nat) : Int)) 100 (hs.begB (k := 0) (v := v) hk13) (hs.begO hk13 hv) (by have := hs.lg; show s.lg.length + 100 ≤ 800000; omega)).1
      rw [h3] at this; exact this
    by_cases po1 : c.po = 1
    · obtain ⟨e1, e2⟩ := hs.told (v := v) hfull hk13 (r := 3) (.inl ⟨po1, rfl⟩)
      have hq := mk_qu hs e2
      exact fl_1 hm hc h1 h2 (ac_pqueue rfl (oks e1)) (thl len_mk) (lens hq.1) (hs.steps hk13 hv e1) (mk_th h0) (by simp [po1]) (ix0 hq.1 (hq.2 (by omega)))
    · by_cases po2 : c.po = 2
      · obtain ⟨g, e1, e2⟩ := hs.evict (v := v) hfull hk13 po2
        have hq := mk_qv hs hfull e2
        have hlg : (((s.lg ++ [(⟨((0 : Nat) : Int), 9, v, 1, g⟩ : En)] ++ [(⟨((0 : Nat) : Int), ki, v, 1, 0⟩ : En)]).length : Int) == (newSt c).sl.length + 2) = true := by simp [hs.lg, hL, Int.add_assoc]
        have hz := ixZ (l := (quV (mkS s 0 (0 + 1) ((L : Int) + 1) (wrL (rlL s.sl 0) L v) [] [] (ntE s.ee []) (tD ki v 1) (s.lg ++ [⟨((0 : Nat) : Int), 9, v, 1, g⟩] ++ [⟨((0 : Nat) : Int), ki, v, 1, 0⟩]))).vals) (i := L - 1) (by omega) hq.2
        rw [show ((L - 1 : Nat) : Int) = ((newSt c).sl.length : Int) - 1 by rw [hL]; omega] at hz
        have := fl_2 hm hc h1 h2 (ac_pqueue rfl (oks e1)) (thl len_mk) (lens hq.1) (hs.steps hk13 hv e1) (mk_th h0) (by simp [po1]) (by simp [po2]) (by omega) hz
        have e : ((((mkS s 0 (0 + 1) ((L : Int) + 1) (wrL (rlL s.sl 0) L v) [] [] (ntE s.ee []) (tD ki v 1) (s.lg ++ [⟨((0 : Nat) : Int), 9, v, 1, g⟩] ++ [⟨((0 : Nat) : Int), ki, v, 1, 0⟩])).lg.length : Int)) == (newSt c).sl.length + 2) = true := hlg
        rw [e] at this
        exact this
      · have po0 : c.po = 0 := by omega
        have n1 : (c.po == 1) = false := by simp [po1]
        have n2 : (c.po == 2) = false := by simp [po2]
        by_cases k2 : ki = 2
        · obtain ⟨e1, e2⟩ := hs.told (v := v) hfull hk13 (r := 2) (.inr ⟨po0, k2, rfl⟩)
          have hq := mk_qu hs e2
          exact fl_3 hm hc h1 h2 (ac_pqueue rfl (oks e1)) (thl len_mk) (lens hq.1) (hs.steps hk13 hv e1) (mk_th h0) n1 n2 (by rw [hki]; simp [k2])
        · have nk : (1 + m % 3 == 2) = false := by rw [hki]; simpa using k2
          by_cases w3 : c.wt = 3
          · obtain ⟨n, e1, -, e2⟩ := hs.parks (v := v) hfull hk13 k2 po0 (.inr w3)
            have hq := mk_qu hs e2
            exact fl_4 hm hc h1 h2 (ac_pqueue rfl (oks e1)) (thl len_mk) (lens hq.1) (hs.steps hk13 hv e1) (mk_th h0) n1 n2 nk (by simp [w3]) rfl (ix0 hq.1 (hq.2 (by omega)))
          · have m3 : (c.wt == 3) = false := by simpa using w3
            by_cases w2 : c.wt = 2
            · obtain ⟨n, e1, -, e2⟩ := hs.parks (v := v) hfull hk13 k2 po0 (.inl w2)
              have hq := mk_qu hs e2
              exact fl_5 hm hc h1 h2 (ac_pqueue rfl (oks e1)) (thl len_mk) (lens hq.1) (hs.steps hk13 hv e1) (mk_th h0) n1 n2 nk m3 (by simp [w2]) rfl (ix0 hq.1 (hq.2 (by omega)))
            · obtain ⟨e1, e2⟩ := hs.busy (v := v) hfull hk13 k2 po0 ⟨w2, w3⟩
              have hq := mk_qu hs e2
              exact fl_6 hm hc h1 h2 (ac_pqueue rfl (oks e1)) (thl len_mk) (lens hq.1) (hs.steps hk13 hv e1) (mk_th h0) n1 n2 nk m3 (by simpa using w2) (ix0 hq.1 (hq.2 (by omega)))
theorem sendFull_walk (c : Cf) (hc : c.ok) (val : Int) (hval : In64 val) (kind : Int) (hkind : 0 ≤ kind ∧ kind ≤ 255) (w : World) :
    Calls Tryz.prog 7 #[.agg c.cells.toArray, .int .i64 val, .int .u8 kind] w fun e w' => e = .returned (.bool true) ∧ Kept w w' := by
  refine law_of (ac_full (c := c) (v := val) (m := kind) hkind hc hval) (cells_at.2 ?_)
  exact ⟨_, _, rfl, rp_cfT.2 rfl, _, _, rfl, rp_int.2 rfl, _, _, rfl, rp_int.2 rfl, rfl⟩
set_option maxRecDepth 100000 in
theorem sendFull_lifted (os : Os) (started : os.Started) (H : Type) (enc : TypeId × Value → H) :
    ReturnsInHanded {} Tryz.checked os 7 .any (Rows.sendFullSpec.pre6 enc Tryz.prog Tryz.f7 Rows.sendFullRow.domain false) (Rows.sendFullSpec.post enc Tryz.prog Tryz.f7 false true false false) := by
  refine returnsInHanded_of_change (C := Tryz.checked) own started (by kernel_rfl) Tryz.func7
    (ChangeSpec.witness6 (enc := enc) (C := Tryz.checked) false ⟨#[], #[.agg Cf.zero.toArray, .int .i64 0, .int .u8 0], []⟩ 8 (by kernel_rfl) (by kernel_rfl) (by kernel_rfl) (by kernel_rfl)) ?_
  intro W base args ds gs before hval0 hW hcnd _
  have hval : ∀ (j : Nat) t v, Tryz.f7.params[j]? = some t → args[j]? = some v → Value.okWide Tryz.prog W .any base t v := hval0
  have hW' := hW
  obtain ⟨p, q, hA0, hV, rfl, hfz, hnd⟩ := hW
  have hA : DataW.TrodAll enc Tryz.prog W 0 (fun _ => true) true Tryz.f7.params.toList args.toList ds p := hA0
  rw [Tryz.params7] at hA hval
  obtain ⟨v0, vs0, d0, ds0, p0, q0, hargs, rfl, rfl, h0, r0⟩ := trodAll_cons hA
  obtain ⟨v1, vs1, d1, ds1, p1, q1, rfl, rfl, rfl, h1, r1⟩ := trodAll_cons r0
  obtain ⟨v2, vs2, d2, ds2, p2, q2, rfl, rfl, rfl, h2, r2⟩ := trodAll_cons r1
  obtain ⟨rfl, rfl, rfl⟩ := trodAll_nil r2
  obtain rfl : args = #[v0, v1, v2] := by cases args; simp_all
  obtain ⟨rfl, rfl⟩ := trodVars_none hV
  obtain ⟨ccs, rfl, crd⟩ := open_struct (g := 9) (l := Cf.shape) Tryz.underlying23 (by kernel_rfl) (hval 0 23 v0 rfl rfl) h0
  obtain ⟨c, rfl, cok⟩ := Cf.of_read crd
  obtain ⟨val, rfl, rfl, rfl, wf1⟩ := open_int Tryz.underlying3 (hval 1 3 v1 rfl rfl) h1
  obtain ⟨kind, rfl, rfl, rfl, wf2⟩ := open_int Tryz.underlying5 (hval 2 5 v2 rfl rfl) h2
  clear hA0 hval0
  refine (sendFull_walk c cok val (in64_of_wf wf1) kind (bounds_u8 wf2) W).mono fun e W' ⟨he, hg⟩ => ?_
  subst he
  exact ⟨_, rfl, law_post laid hW' rfl (by kernel_rfl) rfl Tryz.underlying4 rfl hg⟩

/-- The statement, whole. -/
theorem sendFull_holds : Rows.SendFullSaid :=
  OpenClaim.holds_of_wide 7 Tryz.f7 rfl rfl rfl rfl rfl rfl rfl ⟨rfl, rfl, rfl, rfl, rfl⟩ rfl rfl rfl rfl rfl (by kernel_rfl) Tryz.func7 (by kernel_rfl)
    (of_decide_eq_true (by kernel_rfl)) (by unfold Func.isWrapper; rw [if_neg (of_decide_eq_false (by kernel_rfl))]; exact ⟨rfl, rfl⟩)
    (fun os started H enc _ => sendFull_lifted os started H enc)
end Go.Proofs.YtfllnpcoggmepaaGreat
