/- All that was sent into a new fabric is received in that order, alone, each with seven steps, and then there is nothing: who tries once is told so, and who waits does so: true of every configuration, however many there are, of whatever kind. -/
import Derived.Test.YtjbcfjfnobklkaaGreatZb11
import Derived.Test.YtjbcfjfnobklkaaGreatZb13
namespace Go.Proofs.YtjbcfjfnobklkaaGreat
set_option linter.unusedVariables false
set_option linter.unusedSimpArgs false
open Go.ChangeShapes Go.WideShapes Go.ChangeAt Go.RowKit
def tAl (m N i : Int) : List (Nat × Value) := [(2, .int .u8 m), (3, pt 0), (7, vD true), (10, .int .i64 N), (11, pt 1), (13, .int .i64 i)]
def bCv (c : Cf) : Option Blk := some ⟨true, false, 7, 1, [cfT c]⟩
def hdAl (c : Cf) (s : St) (m N i : Int) : Sg := ⟨mkT 168 (tAl m N i), [bCv c, bSq s]⟩
theorem newOR {c : Cf} (hc : cfB c = true) (ho : c.ok) : (newSt c).ok := by
  refine ok_of (new_stB hc) ⟨ho, fun x hx => ?_, fun t ht => ?_⟩ (by show (0 : Nat) ≤ _; omega)
  · have hx' : x ∈ newL (cfR c) := hx
    unfold newL at hx'
    split at hx'
    · obtain ⟨i, -, rfl⟩ := List.mem_map.1 hx'; exact (by decide : In64 0)
    · cases hx'
  · have ht' : t ∈ List.replicate c.th.toNat th0 := ht
    rw [List.eq_of_mem_replicate ht']; exact ⟨(by decide : In64 0), (by decide : In64 0)⟩
theorem FlI.inv' {c : Cf} {v0 : Int} {s : St} {n i : Nat} (h : FlI c v0 s n i) {m : Int} (hm : 0 ≤ m) : AC Tryz.prog 23 [stT s, .int .i64 0, .int .i64 (4 + m % 3), .int .i64 0, .int .i64 0] (.tuple #[stT (s.setTh 0 (tQ (4 + m % 3) 0 0 0 0 0 0 0)), .int .i64 0]) := h.inv (by omega)
theorem FlI.rst {c : Cf} {v0 : Int} {s u : St} {n i k : Nat} (h : FlI c v0 s n i) {ki : Int} (hki : 1 ≤ ki ∧ ki ≤ 6) (hr : recvK (s.setTh 0 (tQ ki 0 0 0 0 0 0 0)) ((0 : Nat) : Int) 100 = (u, k)) : AC Tryz.prog 12 [stT (s.setTh 0 (tQ ki 0 0 0 0 0 0 0)), .int .i64 0, .int .i64 100] (.tuple #[stT u, .int .i64 k]) := by
  have hl := h.len
  have hn := h.nl
  have hle := h.le
  have hg : (s.setTh 0 (tQ ki 0 0 0 0 0 0 0)).lg.length = n + i := h.lg
  have := ac_vst (i := ((0 : Nat) : Int)) (m := 100) (h.begO hki (by decide : In64 0)) (fit_of (h.begB (ki := ki) (v := 0) hki) (by omega)) (by omega)
  rw [min100', hr] at this
  exact this
theorem mr_th {s : St} {hd : Int} {sl : List Slo} {rc el : List Int} {fe : Int} {t : Th} {lg : List En} (h : 0 < s.th.length) : IxP (((mkR s 0 hd sl rc fe el t lg).th.map thT).toArray) 0 (thT t) := by
  have := ixT (l := (mkR s 0 hd sl rc fe el t lg).th) (n := 0) (by rw [len_mr]; exact h)
  rwa [gth_mr h] at this
section
variable {c : Cf} {a m : Int}
set_option maxRecDepth 100000 in
theorem ra_lp (hm : 0 ≤ m ∧ m ≤ 255) {N : Int} {n : Nat} (hN : N = n) : ∀ (k i : Nat) {s : St}, n - i = k → i ≤ n → FlI c 10 s n i → ∃ s', FlI c 10 s' n n ∧ LoopP Tryz.prog (loopOf Tryz.prog 6 0) (hdAl c s m N i) (.exit 0) (hdAl c s' m N n)
  | 0, i, s, hk, hi, h => by
    have : i = n := by omega
    subst this
    exact ⟨s, h, loop_end mixed (ext := []) (fuel := 9) (n := 3) (im := [0, 1]) (keep := [2, 3, 7, 10, 11, 13]) (orc := [.bool false]) (an (show decide ((i : Int) < N) = false by simp [hN]) trivial) (by intro e; cases e) (by kernel_rfl)⟩
  | k + 1, i, s, hk, hi, h => by
    have hl := h.len
    have hn := h.nl
    have h0 : 0 < s.th.length := by omega
    have hki : 4 ≤ 4 + m % 3 ∧ 4 + m % 3 ≤ 6 := by omega
    obtain ⟨e1, e2⟩ := h.recv (by omega) hki
    obtain ⟨s', hs', ih⟩ := ra_lp hm hN k (i + 1) (by omega) (by omega) e2
    rw [show ((i + 1 : Nat) : Int) = (i : Int) + 1 by omega] at ih
    have hS := h.rst (by omega) e1
    have hx : IxP (((flR s 10 i (4 + m % 3)).th.map thT).toArray) 0 (thT (tE (4 + m % 3) 0 1 (10 + i))) := mr_th h0
    exact ⟨s', hs', loop_more mixed (ext := [23, 12]) (fuel := 9) (n := 3) (im := [0, 1]) (keep := [2, 3, 7, 10, 11, 13])
      (orc := [.bool true, .int .i64 (m % 3), .tuple #[stT (s.setTh 0 (tQ (4 + m % 3) 0 0 0 0 0 0 0)), .int .i64 0], .tuple #[stT (flR s 10 i (4 + m % 3)), .int .i64 7], .nilFunc, .nilFunc, .bool false, thT (tE (4 + m % 3) 0 1 (10 + i)), .nilFunc, thT (tE (4 + m % 3) 0 1 (10 + i)), .bool false])
      (an (show decide ((i : Int) < N) = true by simp [hN]; omega) <| an (show 0 ≤ m ∧ (0 : Int) < 3 from ⟨hm.1, by omega⟩) <| an (ask_u8 (m % 3) (by omega) (by omega) (.tmp 54)) <| an (show In64 (4 + m % 3) by constructor <;> omega) <| an (h.inv' hm.1) <| an hS <|
        an (show decide (((flR s 10 i (4 + m % 3)).th.length : Int) < 1) = false by rw [show (flR s 10 i (4 + m % 3)).th.length = s.th.length from len_mr]; simp; omega) <| an hx <| an hx <| an (show In64 (10 + (i : Int)) by constructor <;> omega) <| an (show ((10 + (i : Int)) != 10 + (i : Int)) = false by simp) <| an (show In64 ((i : Int) + 1) by constructor <;> omega) trivial) (by kernel_rfl) ih⟩
variable {s u : St} {ki e : Int} {n k : Nat} {N : Int} (hm : 0 ≤ m ∧ m ≤ 255) (ha : 0 ≤ a ∧ a ≤ 255) (hf : AC Tryz.prog 22 [cfT c, .int .i64 0] (.tuple #[stT (newSt c), .bool true])) (hr : (newSt c).sl.length ≤ 64) (hfn : AC Tryz.prog 22 [cfT c, .int .i64 (a % ((newSt c).sl.length + 1))] (.tuple #[stT (flN c n), .bool true]))
  (hL : LoopP Tryz.prog (loopOf Tryz.prog 6 0) (hdAl c (flN c n) m (a % ((newSt c).sl.length + 1)) 0) (.exit 0) (hdAl c s m N n)) (hI : AC Tryz.prog 23 [stT s, .int .i64 0, .int .i64 (4 + m % 3), .int .i64 0, .int .i64 0] (.tuple #[stT (s.setTh 0 (tQ (4 + m % 3) 0 0 0 0 0 0 0)), .int .i64 0])) (hu : decide ((u.th.length : Int) < 1) = false)
include hm ha hf hr hfn hL hI hu
set_option maxRecDepth 100000 in
theorem ra_1 (h3 : AC Tryz.prog 12 [stT (s.setTh 0 (tQ (4 + m % 3) 0 0 0 0 0 0 0)), .int .i64 0, .int .i64 100] (.tuple #[stT u, .int .i64 4])) (hx : IxP ((u.th.map thT).toArray) 0 (thT (tE 5 0 4 0))) (w3 : (c.wt == 3) = true) (hk : (m % 3 == 1) = true) : AC Tryz.prog 6 [cfT c, .int .u8 a, .int .u8 m] (.bool true) :=
  ac_path mixed (ext := [10, 22, 23, 12]) (fuel := 9) (n := 4) (orc := [vD true, .tuple #[stT (newSt c), vD true], .int .i64 a, .tuple #[stT (flN c n), vD true], oL [0, 2] [2, 3, 7, 10, 11, 13] 0 (tAl m N n) (hdAl c s 0 0 0).H, .int .i64 (m % 3), .tuple #[stT (s.setTh 0 (tQ (4 + m % 3) 0 0 0 0 0 0 0)), .int .i64 0], .tuple #[stT u, .int .i64 4], .bool false, thT (tE 5 0 4 0), .bool true, .bool true, .nilFunc]) (an ac_awakeR <| an hf <| an (ask_u8 a ha.1 ha.2 (.tmp 33)) <| an (show In64 (((newSt c).sl.length : Int) + 1) by constructor <;> omega) <| an (show 0 ≤ a ∧ (0 : Int) < (newSt c).sl.length + 1 from ⟨ha.1, by omega⟩) <| an hfn <| an hL <| an (show 0 ≤ m ∧ (0 : Int) < 3 from ⟨hm.1, by omega⟩) <| an (ask_u8 (m % 3) (by omega) (by omega) (.tmp 99)) <| an (show In64 (4 + m % 3) by constructor <;> omega) <| an hI <| an h3 <| an hu <| an hx <| an w3 <| an (show 0 ≤ m ∧ (0 : Int) < 3 from ⟨hm.1, by omega⟩) <| an hk trivial) (by kernel_rfl)
set_option maxRecDepth 100000 in
theorem ra_2 (h3 : AC Tryz.prog 12 [stT (s.setTh 0 (tQ (4 + m % 3) 0 0 0 0 0 0 0)), .int .i64 0, .int .i64 100] (.tuple #[stT u, .int .i64 4])) (hx : IxP ((u.th.map thT).toArray) 0 (thT (tE 5 0 4 0))) (w3 : (c.wt == 3) = false) (hk : (m % 3 == 1) = true) : AC Tryz.prog 6 [cfT c, .int .u8 a, .int .u8 m] (.bool true) :=
  ac_path mixed (ext := [10, 22, 23, 12]) (fuel := 9) (n := 4) (orc := [vD true, .tuple #[stT (newSt c), vD true], .int .i64 a, .tuple #[stT (flN c n), vD true], oL [0, 2] [2, 3, 7, 10, 11, 13] 0 (tAl m N n) (hdAl c s 0 0 0).H, .int .i64 (m % 3), .tuple #[stT (s.setTh 0 (tQ (4 + m % 3) 0 0 0 0 0 0 0)), .int .i64 0], .tuple #[stT u, .int .i64 4], .bool false, thT (tE 5 0 4 0), .bool false, .bool true, .nilFunc]) (an ac_awakeR <| an hf <| an (ask_u8 a ha.1 ha.2 (.tmp 33)) <| an (show In64 (((newSt c).sl.length : Int) + 1) by constructor <;> omega) <| an (show 0 ≤ a ∧ (0 : Int) < (newSt c).sl.length + 1 from ⟨ha.1, by omega⟩) <| an hfn <| an hL <| an (show 0 ≤ m ∧ (0 : Int) < 3 from ⟨hm.1, by omega⟩) <| an (ask_u8 (m % 3) (by omega) (by omega) (.tmp 99)) <| an (show In64 (4 + m % 3) by constructor <;> omega) <| an hI <| an h3 <| an hu <| an hx <| an w3 <| an (show 0 ≤ m ∧ (0 : Int) < 3 from ⟨hm.1, by omega⟩) <| an hk trivial) (by kernel_rfl)
set_option maxRecDepth 100000 in
theorem ra_3 (h3 : AC Tryz.prog 12 [stT (s.setTh 0 (tQ (4 + m % 3) 0 0 0 0 0 0 0)), .int .i64 0, .int .i64 100] (.tuple #[stT u, .int .i64 k])) (hx : IxP ((u.th.map thT).toArray) 0 (thT ⟨2, ki, 0, 0, 2, 0, e, 0, false, 0, 0⟩)) (w3 : (c.wt == 3) = true) (hk : (m % 3 == 1) = false) (he : ((u.el.length : Int) == 1) = true) : AC Tryz.prog 6 [cfT c, .int .u8 a, .int .u8 m] (.bool true) :=
  ac_path mixed (ext := [10, 22, 23, 12]) (fuel := 9) (n := 4) (orc := [vD true, .tuple #[stT (newSt c), vD true], .int .i64 a, .tuple #[stT (flN c n), vD true], oL [0, 2] [2, 3, 7, 10, 11, 13] 0 (tAl m N n) (hdAl c s 0 0 0).H, .int .i64 (m % 3), .tuple #[stT (s.setTh 0 (tQ (4 + m % 3) 0 0 0 0 0 0 0)), .int .i64 0], .tuple #[stT u, .int .i64 k], .bool false, thT (⟨2, ki, 0, 0, 2, 0, e, 0, false, 0, 0⟩), .bool true, .bool false, .nilFunc, .nilFunc, .bool true]) (an ac_awakeR <| an hf <| an (ask_u8 a ha.1 ha.2 (.tmp 33)) <| an (show In64 (((newSt c).sl.length : Int) + 1) by constructor <;> omega) <| an (show 0 ≤ a ∧ (0 : Int) < (newSt c).sl.length + 1 from ⟨ha.1, by omega⟩) <| an hfn <| an hL <| an (show 0 ≤ m ∧ (0 : Int) < 3 from ⟨hm.1, by omega⟩) <| an (ask_u8 (m % 3) (by omega) (by omega) (.tmp 99)) <| an (show In64 (4 + m % 3) by constructor <;> omega) <| an hI <| an h3 <| an hu <| an hx <| an w3 <| an (show 0 ≤ m ∧ (0 : Int) < 3 from ⟨hm.1, by omega⟩) <| an hk <| an he trivial) (by kernel_rfl)
set_option maxRecDepth 100000 in
theorem ra_4 (h3 : AC Tryz.prog 12 [stT (s.setTh 0 (tQ (4 + m % 3) 0 0 0 0 0 0 0)), .int .i64 0, .int .i64 100] (.tuple #[stT u, .int .i64 k])) (hx : IxP ((u.th.map thT).toArray) 0 (thT ⟨2, ki, 0, 0, 2, 0, e, 0, false, 0, 0⟩)) (w3 : (c.wt == 3) = false) (hk : (m % 3 == 1) = false) (w2 : (c.wt == 2) = true) (he : ((u.el.length : Int) == 1) = true) : AC Tryz.prog 6 [cfT c, .int .u8 a, .int .u8 m] (.bool true) :=
  ac_path mixed (ext := [10, 22, 23, 12]) (fuel := 9) (n := 4) (orc := [vD true, .tuple #[stT (newSt c), vD true], .int .i64 a, .tuple #[stT (flN c n), vD true], oL [0, 2] [2, 3, 7, 10, 11, 13] 0 (tAl m N n) (hdAl c s 0 0 0).H, .int .i64 (m % 3), .tuple #[stT (s.setTh 0 (tQ (4 + m % 3) 0 0 0 0 0 0 0)), .int .i64 0], .tuple #[stT u, .int .i64 k], .bool false, thT (⟨2, ki, 0, 0, 2, 0, e, 0, false, 0, 0⟩), .bool false, .bool false, .nilFunc, .bool true, .nilFunc, .bool true]) (an ac_awakeR <| an hf <| an (ask_u8 a ha.1 ha.2 (.tmp 33)) <| an (show In64 (((newSt c).sl.length : Int) + 1) by constructor <;> omega) <| an (show 0 ≤ a ∧ (0 : Int) < (newSt c).sl.length + 1 from ⟨ha.1, by omega⟩) <| an hfn <| an hL <| an (show 0 ≤ m ∧ (0 : Int) < 3 from ⟨hm.1, by omega⟩) <| an (ask_u8 (m % 3) (by omega) (by omega) (.tmp 99)) <| an (show In64 (4 + m % 3) by constructor <;> omega) <| an hI <| an h3 <| an hu <| an hx <| an w3 <| an (show 0 ≤ m ∧ (0 : Int) < 3 from ⟨hm.1, by omega⟩) <| an hk <| an w2 <| an he trivial) (by kernel_rfl)
set_option maxRecDepth 100000 in
theorem ra_5 (h3 : AC Tryz.prog 12 [stT (s.setTh 0 (tQ (4 + m % 3) 0 0 0 0 0 0 0)), .int .i64 0, .int .i64 100] (.tuple #[stT u, .int .i64 100])) (hx : IxP ((u.th.map thT).toArray) 0 (thT (tQ ki 0 2 0 0 98 0 0))) (w3 : (c.wt == 3) = false) (hk : (m % 3 == 1) = false) (w2 : (c.wt == 2) = false) : AC Tryz.prog 6 [cfT c, .int .u8 a, .int .u8 m] (.bool true) :=
  ac_path mixed (ext := [10, 22, 23, 12]) (fuel := 9) (n := 4) (orc := [vD true, .tuple #[stT (newSt c), vD true], .int .i64 a, .tuple #[stT (flN c n), vD true], oL [0, 2] [2, 3, 7, 10, 11, 13] 0 (tAl m N n) (hdAl c s 0 0 0).H, .int .i64 (m % 3), .tuple #[stT (s.setTh 0 (tQ (4 + m % 3) 0 0 0 0 0 0 0)), .int .i64 0], .tuple #[stT u, .int .i64 100], .bool false, thT (tQ ki 0 2 0 0 98 0 0), .bool false, .bool false, .nilFunc, .bool false, .bool true]) (an ac_awakeR <| an hf <| an (ask_u8 a ha.1 ha.2 (.tmp 33)) <| an (show In64 (((newSt c).sl.length : Int) + 1) by constructor <;> omega) <| an (show 0 ≤ a ∧ (0 : Int) < (newSt c).sl.length + 1 from ⟨ha.1, by omega⟩) <| an hfn <| an hL <| an (show 0 ≤ m ∧ (0 : Int) < 3 from ⟨hm.1, by omega⟩) <| an (ask_u8 (m % 3) (by omega) (by omega) (.tmp 99)) <| an (show In64 (4 + m % 3) by constructor <;> omega) <| an hI <| an h3 <| an hu <| an hx <| an w3 <| an (show 0 ≤ m ∧ (0 : Int) < 3 from ⟨hm.1, by omega⟩) <| an hk <| an w2 <| an (show (!(c.wt == 2)) = true by rw [w2]; rfl) trivial) (by kernel_rfl)
end
set_option maxRecDepth 100000 in
theorem ac_recvAll {c : Cf} {a m : Int} (ha : 0 ≤ a ∧ a ≤ 255) (hm : 0 ≤ m ∧ m ≤ 255) (ho : c.ok) : AC Tryz.prog 6 [cfT c, .int .u8 a, .int .u8 m] (.bool true) := by
  cases hc : cfB c
  · exact ac_path mixed (ext := [10, 22, 23, 12]) (fuel := 9) (n := 4) (orc := [vD true, .tuple #[stT st0, vD false]]) (an ac_awakeR <| an (ac_filled_no hc 0) trivial) (by kernel_rfl)
  · have hno := newOR hc ho
    have hnew := fl_new hc hno 10
    have hl := hnew.len
    obtain ⟨L, hL⟩ : ∃ L : Nat, (newSt c).sl.length = L := ⟨_, rfl⟩
    rw [hL] at hl
    have hr : (newSt c).sl.length ≤ 64 := by omega
    have hf : AC Tryz.prog 22 [cfT c, .int .i64 0] (.tuple #[stT (newSt c), .bool true]) := ac_filled (n := 0) hc hno (by omega)
    have hmod : 0 ≤ a % ((L : Int) + 1) ∧ a % ((L : Int) + 1) < (L : Int) + 1 := ⟨Int.emod_nonneg _ (by omega), Int.emod_lt_of_pos _ (by omega)⟩
    obtain ⟨n, hn⟩ : ∃ n : Nat, a % (((newSt c).sl.length : Int) + 1) = n := ⟨(a % (((newSt c).sl.length : Int) + 1)).toNat, by rw [hL]; omega⟩
    have hnL : n ≤ L := by rw [hL] at hn; omega
    have hfn : AC Tryz.prog 22 [cfT c, .int .i64 (a % (((newSt c).sl.length : Int) + 1))] (.tuple #[stT (flN c n), .bool true]) := by
      rw [hn]; exact ac_filled hc hno (by omega)
    obtain ⟨s, hs, hlp⟩ := ra_lp (c := c) hm (N := a % (((newSt c).sl.length : Int) + 1)) hn n 0 rfl (by omega) (flN_is hc hno n (by omega))
    have hsl := hs.len
    have h0 : 0 < s.th.length := by omega
    have hI := hs.inv' (m := m) hm.1
    have thl : ∀ {u : St}, u.th.length = s.th.length → decide ((u.th.length : Int) < 1) = false := fun h3 => by rw [h3]; simp; omega
    obtain ⟨ki, hki⟩ : ∃ ki, 4 + m % 3 = ki := ⟨_, rfl⟩
    by_cases k1 : m % 3 = 1
    · have h5 : ki = 5 := by omega
      have hS : AC Tryz.prog 12 [stT (s.setTh 0 (tQ (4 + m % 3) 0 0 0 0 0 0 0)), .int .i64 0, .int .i64 100] (.tuple #[stT (mkR s 0 n s.sl [] s.fe [] (tE 5 0 4 0) (s.lg ++ [⟨((0 : Nat) : Int), 5, 0, 4, 0⟩])), .int .i64 4]) := by
        rw [hki, h5]; exact hs.rst (ki := 5) (by decide) hs.none
      by_cases w3 : c.wt = 3
      · exact ra_1 hm ha hf hr hfn hlp hI (thl len_mr) hS (mr_th h0) (by simp [w3]) (by simp [k1])
      · exact ra_2 hm ha hf hr hfn hlp hI (thl len_mr) hS (mr_th h0) (by simp [w3]) (by simp [k1])
    · have hk : ki = 4 ∨ ki = 6 := by omega
      have n1 : (m % 3 == 1) = false := by simpa using k1
      by_cases w3 : c.wt = 3
      · obtain ⟨k, -, e1⟩ := hs.parks hk (.inr w3)
        have hS := hs.rst (ki := ki) (by omega) e1
        rw [← hki] at hS
        exact ra_3 hm ha hf hr hfn hlp hI (thl len_mr) hS (mr_th h0) (by simp [w3]) n1 rfl
      · have m3 : (c.wt == 3) = false := by simpa using w3
        by_cases w2 : c.wt = 2
        · obtain ⟨k, -, e1⟩ := hs.parks hk (.inl w2)
          have hS := hs.rst (ki := ki) (by omega) e1
          rw [← hki] at hS
          exact ra_4 hm ha hf hr hfn hlp hI (thl len_mr) hS (mr_th h0) m3 n1 (by simp [w2]) rfl
        · have hS := hs.rst (ki := ki) (by omega) (hs.busy hk ⟨w2, w3⟩)
          rw [← hki] at hS
          exact ra_5 hm ha hf hr hfn hlp hI (thl len_mr) hS (mr_th h0) m3 n1 (by simpa using w2)
theorem recvAll_walk (c : Cf) (hc : c.ok) (many : Int) (hmany : 0 ≤ many ∧ many ≤ 255) (kind : Int) (hkind : 0 ≤ kind ∧ kind ≤ 255) (w : World) :
    Calls Tryz.prog 6 #[.agg c.cells.toArray, .int .u8 many, .int .u8 kind] w fun e w' => e = .returned (.bool true) ∧ Kept w w' := by
  refine law_of (ac_recvAll (c := c) (a := many) (m := kind) hmany hkind hc) (cells_at.2 ?_)
  exact ⟨_, _, rfl, rp_cfT.2 rfl, _, _, rfl, rp_int.2 rfl, _, _, rfl, rp_int.2 rfl, rfl⟩
set_option maxRecDepth 100000 in
theorem recvAll_lifted (os : Os) (started : os.Started) (H : Type) (enc : TypeId × Value → H) :
    ReturnsInHanded {} Tryz.checked os 6 .any (Rows.recvAllSpec.pre6 enc Tryz.prog Tryz.f6 Rows.recvAllRow.domain false) (Rows.recvAllSpec.post enc Tryz.prog Tryz.f6 false true false false) := by
  refine returnsInHanded_of_change (C := Tryz.checked) own started (by kernel_rfl) Tryz.func6
    (ChangeSpec.witness6 (enc := enc) (C := Tryz.checked) false ⟨#[], #[.agg Cf.zero.toArray, .int .u8 0, .int .u8 0], []⟩ 8 (by kernel_rfl) (by kernel_rfl) (by kernel_rfl) (by kernel_rfl)) ?_
  intro W base args ds gs before hval0 hW hcnd _
  have hval : ∀ (j : Nat) t v, Tryz.f6.params[j]? = some t → args[j]? = some v → Value.okWide Tryz.prog W .any base t v := hval0
  have hW' := hW
  obtain ⟨p, q, hA0, hV, rfl, hfz, hnd⟩ := hW
  have hA : DataW.TrodAll enc Tryz.prog W 0 (fun _ => true) true Tryz.f6.params.toList args.toList ds p := hA0
  rw [Tryz.params6] at hA hval
  obtain ⟨v0, vs0, d0, ds0, p0, q0, hargs, rfl, rfl, h0, r0⟩ := trodAll_cons hA
  obtain ⟨v1, vs1, d1, ds1, p1, q1, rfl, rfl, rfl, h1, r1⟩ := trodAll_cons r0
  obtain ⟨v2, vs2, d2, ds2, p2, q2, rfl, rfl, rfl, h2, r2⟩ := trodAll_cons r1
  obtain ⟨rfl, rfl, rfl⟩ := trodAll_nil r2
  obtain rfl : args = #[v0, v1, v2] := by cases args; simp_all
  obtain ⟨rfl, rfl⟩ := trodVars_none hV
  obtain ⟨ccs, rfl, crd⟩ := open_struct (g := 9) (l := Cf.shape) Tryz.underlying23 (by kernel_rfl) (hval 0 23 v0 rfl rfl) h0
  obtain ⟨c, rfl, cok⟩ := Cf.of_read crd
  obtain ⟨many, rfl, rfl, rfl, wf1⟩ := open_int Tryz.underlying5 (hval 1 5 v1 rfl rfl) h1
  obtain ⟨kind, rfl, rfl, rfl, wf2⟩ := open_int Tryz.underlying5 (hval 2 5 v2 rfl rfl) h2
  clear hA0 hval0
  refine (recvAll_walk c cok many (bounds_u8 wf1) kind (bounds_u8 wf2) W).mono fun e W' ⟨he, hg⟩ => ?_
  subst he
  exact ⟨_, rfl, law_post laid hW' rfl (by kernel_rfl) rfl Tryz.underlying4 rfl hg⟩

/-- The statement, whole. -/
theorem recvAll_holds : Rows.RecvAllSaid :=
  OpenClaim.holds_of_wide 6 Tryz.f6 rfl rfl rfl rfl rfl rfl rfl ⟨rfl, rfl, rfl, rfl, rfl⟩ rfl rfl rfl rfl rfl (by kernel_rfl) Tryz.func6 (by kernel_rfl)
    (of_decide_eq_true (by kernel_rfl)) (by unfold Func.isWrapper; rw [if_neg (of_decide_eq_false (by kernel_rfl))]; exact ⟨rfl, rfl⟩)
    (fun os started H enc _ => recvAll_lifted os started H enc)
end Go.Proofs.YtjbcfjfnobklkaaGreat
