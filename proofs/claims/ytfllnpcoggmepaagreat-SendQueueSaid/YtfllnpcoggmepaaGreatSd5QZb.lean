/- Each step of who sends that tells something tells what a queue may be told of, and leaves the queue as that says: true of every state and thread. -/
import Derived.Test.YtfllnpcoggmepaaGreatZb11
import Derived.Test.YtfllnpcoggmepaaGreatZb12
namespace Go.Proofs.YtfllnpcoggmepaaGreat
set_option linter.unusedVariables false
set_option linter.unusedSimpArgs false
open Go.ChangeShapes Go.WideShapes Go.ChangeAt Go.RowKit
theorem ac_fdo {q r : Qu} {e : En} {b : Bool} (h : q.tell e = (r, b)) (hm : q.vals.length ≤ 1000) : AC Tryz.prog 27 [quT q, enT e] (.tuple #[quT r, .bool b]) := by
  intro O W vs hl hat
  obtain ⟨ys, rfl, _, _, rfl, h0, _, _, rfl, h1, rfl⟩ := args_of hat
  obtain ⟨us, rfl, hu⟩ := rp_aggL.1 h0
  obtain ⟨_, _, rfl, g0, _, _, rfl, g1, _, _, rfl, g2, _, _, rfl, g3, rfl⟩ := hu
  obtain ⟨p, k, rfl, hs⟩ := rp_rowI.1 g0
  rw [rp_int] at g1 g2 g3
  rw [rp_enT] at h1
  subst g1 g2 g3 h1
  refine (pdo_any q e p k W hs.s hm).mono ?_
  rintro e' W' ⟨p', k', rfl, hS, hk, hb⟩
  rw [h] at hS hb ⊢
  refine ⟨_, rfl, tup2 (rp_aggL.2 ⟨_, rfl, _, _, rfl, rp_rowI.2 ⟨p', k', rfl, ⟨hS, fun hne x hx => ?_⟩⟩, _, _, rfl, rp_int.2 rfl, _, _, rfl, rp_int.2 rfl, _, _, rfl, rp_int.2 rfl, rfl⟩) (rp_bool.2 rfl), hk⟩
  rcases hb hne x hx with ⟨h2, y, hy, hxy⟩ | h2
  · rw [hxy]
    have := hs.i h2 y hy
    exact this
  · exact own_low hl _ h2
set_option maxRecDepth 100000 in
theorem ac_rqsame {q : Qu} (hm : q.vals.length ≤ 1000000) : AC Tryz.prog 25 [quT q, quT q] (.bool true) := by
  rw [show (true : Bool) = (q.mode == q.mode) by simp]
  exact ac_path mixed (ext := [28]) (fuel := 9) (n := 3) (orc := [vD true, .bool true, .bool true]) (an (ac_rints q.vals hm) <| an (show (q.cap == q.cap) = true by simp) <| an (show (q.pol == q.pol) = true by simp) trivial) (by kernel_rfl)
section
variable {s a : St} {n : Nat} (hF : fewB s = true) (hC : AC Tryz.prog 21 [stT s] (.bool true)) (hn : n < s.th.length) (hS : AC Tryz.prog 15 [stT s, .int .i64 n] (stT a))
include hF hC hn hS
set_option maxRecDepth 100000 in
theorem sq_3 (hl : decide ((a.lg.length : Int) ≤ s.lg.length) = true) (h : ((gth s.th n).pc == 3) = true) : AC Tryz.prog 8 [stT s, .int .i64 n] (.bool true) :=
  ac_path mixed (ext := [10, 11, 15, 21, 24, 25, 26, 27]) (fuel := 9) (n := 4) (orc := [vD true, vD true, vD true, .bool false, .bool false, thT (gth s.th n), stT a, .bool true, .bool true]) (an ac_awake <| an (hF ▸ ac_rfew s) <| an hC <| an (show decide ((n : Int) < 0) = false by simp) <| an (show decide ((s.th.length : Int) ≤ n) = false by simp; omega) <| an (ixT hn) <| an hS <| an hl <| an h trivial) (by kernel_rfl)
set_option maxRecDepth 100000 in
theorem sq_11 (hl : decide ((a.lg.length : Int) ≤ s.lg.length) = true) (h : ((gth s.th n).pc == 3) = false) (h2 : ((gth s.th n).pc == 11) = true) : AC Tryz.prog 8 [stT s, .int .i64 n] (.bool true) :=
  ac_path mixed (ext := [10, 11, 15, 21, 24, 25, 26, 27]) (fuel := 9) (n := 4) (orc := [vD true, vD true, vD true, .bool false, .bool false, thT (gth s.th n), stT a, .bool true, .bool false, .bool true]) (an ac_awake <| an (hF ▸ ac_rfew s) <| an hC <| an (show decide ((n : Int) < 0) = false by simp) <| an (show decide ((s.th.length : Int) ≤ n) = false by simp; omega) <| an (ixT hn) <| an hS <| an hl <| an h <| an h2 trivial) (by kernel_rfl)
set_option maxRecDepth 100000 in
theorem sq_no {q : Qu} (hl : decide ((a.lg.length : Int) ≤ s.lg.length) = true) (h : ((gth s.th n).pc == 3) = false) (h2 : ((gth s.th n).pc == 11) = false) (hQa : AC Tryz.prog 24 [stT a] (quT q)) (hQs : AC Tryz.prog 24 [stT s] (quT q)) (hq : q.vals.length ≤ 1000) : AC Tryz.prog 8 [stT s, .int .i64 n] (.bool true) :=
  ac_path mixed (ext := [10, 11, 15, 21, 24, 25, 26, 27]) (fuel := 9) (n := 4) (orc := [vD true, vD true, vD true, .bool false, .bool false, thT (gth s.th n), stT a, .bool true, .bool false, .bool false, quT q, quT q, vD true]) (an ac_awake <| an (hF ▸ ac_rfew s) <| an hC <| an (show decide ((n : Int) < 0) = false by simp) <| an (show decide ((s.th.length : Int) ≤ n) = false by simp; omega) <| an (ixT hn) <| an hS <| an hl <| an h <| an h2 <| an hQa <| an hQs <| an (ac_rqsame (q := q) (by omega)) trivial) (by kernel_rfl)
variable {x : En} (hl : decide ((a.lg.length : Int) ≤ s.lg.length) = false) (hx : IxP ((a.lg.map enT).toArray) (s.lg.length : Int) (enT x)) (hV : AC Tryz.prog 26 [stT s, .int .i64 s.tl] (.int .i64 (valV s s.tl)))
include hl hx hV
set_option maxRecDepth 100000 in
theorem sq_a (h4 : ((gth s.th n).pc == 4) = true) (hv : (valV s s.tl != (gth s.th n).va) = true) : AC Tryz.prog 8 [stT s, .int .i64 n] (.bool true) :=
  ac_path mixed (ext := [10, 11, 15, 21, 24, 25, 26, 27]) (fuel := 9) (n := 4) (orc := [vD true, vD true, vD true, .bool false, .bool false, thT (gth s.th n), stT a, .bool false, enT x, .bool true, .int .i64 (valV s s.tl), .bool true]) (an ac_awake <| an (hF ▸ ac_rfew s) <| an hC <| an (show decide ((n : Int) < 0) = false by simp) <| an (show decide ((s.th.length : Int) ≤ n) = false by simp; omega) <| an (ixT hn) <| an hS <| an hl <| an hx <| an h4 <| an hV <| an hv trivial) (by kernel_rfl)
set_option maxRecDepth 100000 in
theorem sq_b (h4 : ((gth s.th n).pc == 4) = true) (hv : (valV s s.tl != (gth s.th n).va) = false) (h10 : ((gth s.th n).pc == 10) = false) (ht : (s.tl == 1099511627776) = true) : AC Tryz.prog 8 [stT s, .int .i64 n] (.bool true) :=
  ac_path mixed (ext := [10, 11, 15, 21, 24, 25, 26, 27]) (fuel := 9) (n := 4) (orc := [vD true, vD true, vD true, .bool false, .bool false, thT (gth s.th n), stT a, .bool false, enT x, .bool true, .int .i64 (valV s s.tl), .bool false, .bool false, .bool true]) (an ac_awake <| an (hF ▸ ac_rfew s) <| an hC <| an (show decide ((n : Int) < 0) = false by simp) <| an (show decide ((s.th.length : Int) ≤ n) = false by simp; omega) <| an (ixT hn) <| an hS <| an hl <| an hx <| an h4 <| an hV <| an hv <| an h10 <| an ht trivial) (by kernel_rfl)
omit hV in
set_option maxRecDepth 100000 in
theorem sq_c (h4 : ((gth s.th n).pc == 4) = false) (h10 : ((gth s.th n).pc == 10) = true) (hp : (s.cf.po != 2) = true) : AC Tryz.prog 8 [stT s, .int .i64 n] (.bool true) :=
  ac_path mixed (ext := [10, 11, 15, 21, 24, 25, 26, 27]) (fuel := 9) (n := 4) (orc := [vD true, vD true, vD true, .bool false, .bool false, thT (gth s.th n), stT a, .bool false, enT x, .bool false, .bool true, .bool true]) (an ac_awake <| an (hF ▸ ac_rfew s) <| an hC <| an (show decide ((n : Int) < 0) = false by simp) <| an (show decide ((s.th.length : Int) ≤ n) = false by simp; omega) <| an (ixT hn) <| an hS <| an hl <| an hx <| an h4 <| an h10 <| an hp trivial) (by kernel_rfl)
omit hV in
set_option maxRecDepth 100000 in
theorem sq_d (h4 : ((gth s.th n).pc == 4) = false) (h10 : ((gth s.th n).pc == 10) = true) (hp : (s.cf.po != 2) = false) (ht : (s.tl == 1099511627776) = true) : AC Tryz.prog 8 [stT s, .int .i64 n] (.bool true) :=
  ac_path mixed (ext := [10, 11, 15, 21, 24, 25, 26, 27]) (fuel := 9) (n := 4) (orc := [vD true, vD true, vD true, .bool false, .bool false, thT (gth s.th n), stT a, .bool false, enT x, .bool false, .bool true, .bool false, .bool true]) (an ac_awake <| an (hF ▸ ac_rfew s) <| an hC <| an (show decide ((n : Int) < 0) = false by simp) <| an (show decide ((s.th.length : Int) ≤ n) = false by simp; omega) <| an (ixT hn) <| an hS <| an hl <| an hx <| an h4 <| an h10 <| an hp <| an ht trivial) (by kernel_rfl)
omit hV in
set_option maxRecDepth 100000 in
theorem sq_e (h4 : ((gth s.th n).pc == 4) = false) (h10 : ((gth s.th n).pc == 10) = false) (ht : (s.tl == 1099511627776) = true) : AC Tryz.prog 8 [stT s, .int .i64 n] (.bool true) :=
  ac_path mixed (ext := [10, 11, 15, 21, 24, 25, 26, 27]) (fuel := 9) (n := 4) (orc := [vD true, vD true, vD true, .bool false, .bool false, thT (gth s.th n), stT a, .bool false, enT x, .bool false, .bool false, .bool true]) (an ac_awake <| an (hF ▸ ac_rfew s) <| an hC <| an (show decide ((n : Int) < 0) = false by simp) <| an (show decide ((s.th.length : Int) ≤ n) = false by simp; omega) <| an (ixT hn) <| an hS <| an hl <| an hx <| an h4 <| an h10 <| an ht trivial) (by kernel_rfl)
set_option maxRecDepth 100000 in
theorem sq_f (h4 : ((gth s.th n).pc == 4) = true) (hv : (valV s s.tl != (gth s.th n).va) = false) (h10 : ((gth s.th n).pc == 10) = false) (ht : (s.tl == 1099511627776) = false) {q r : Qu} (hQs : AC Tryz.prog 24 [stT s] (quT q)) (hD : AC Tryz.prog 27 [quT q, enT x] (.tuple #[quT r, .bool true])) (hQa : AC Tryz.prog 24 [stT a] (quT r)) (hr : r.vals.length ≤ 1000) : AC Tryz.prog 8 [stT s, .int .i64 n] (.bool (x.th == n)) :=
  ac_path mixed (ext := [10, 11, 15, 21, 24, 25, 26, 27]) (fuel := 9) (n := 4) (orc := [vD true, vD true, vD true, .bool false, .bool false, thT (gth s.th n), stT a, .bool false, enT x, .bool true, .int .i64 (valV s s.tl), .bool false, .bool false, .bool false, quT q, .tuple #[quT r, vD true], quT r, vD true]) (an ac_awake <| an (hF ▸ ac_rfew s) <| an hC <| an (show decide ((n : Int) < 0) = false by simp) <| an (show decide ((s.th.length : Int) ≤ n) = false by simp; omega) <| an (ixT hn) <| an hS <| an hl <| an hx <| an h4 <| an hV <| an hv <| an h10 <| an ht <| an hQs <| an hD <| an hQa <| an (ac_rqsame (q := r) (by omega)) trivial) (by kernel_rfl)
omit hV in
set_option maxRecDepth 100000 in
theorem sq_g (h4 : ((gth s.th n).pc == 4) = false) (h10 : ((gth s.th n).pc == 10) = true) (hp : (s.cf.po != 2) = false) (ht : (s.tl == 1099511627776) = false) {q r : Qu} (hQs : AC Tryz.prog 24 [stT s] (quT q)) (hD : AC Tryz.prog 27 [quT q, enT x] (.tuple #[quT r, .bool true])) (hQa : AC Tryz.prog 24 [stT a] (quT r)) (hr : r.vals.length ≤ 1000) : AC Tryz.prog 8 [stT s, .int .i64 n] (.bool (x.th == n)) :=
  ac_path mixed (ext := [10, 11, 15, 21, 24, 25, 26, 27]) (fuel := 9) (n := 4) (orc := [vD true, vD true, vD true, .bool false, .bool false, thT (gth s.th n), stT a, .bool false, enT x, .bool false, .bool true, .bool false, .bool false, quT q, .tuple #[quT r, vD true], quT r, vD true]) (an ac_awake <| an (hF ▸ ac_rfew s) <| an hC <| an (show decide ((n : Int) < 0) = false by simp) <| an (show decide ((s.th.length : Int) ≤ n) = false by simp; omega) <| an (ixT hn) <| an hS <| an hl <| an hx <| an h4 <| an h10 <| an hp <| an ht <| an hQs <| an hD <| an hQa <| an (ac_rqsame (q := r) (by omega)) trivial) (by kernel_rfl)
omit hV in
set_option maxRecDepth 100000 in
theorem sq_h (h4 : ((gth s.th n).pc == 4) = false) (h10 : ((gth s.th n).pc == 10) = false) (ht : (s.tl == 1099511627776) = false) {q r : Qu} (hQs : AC Tryz.prog 24 [stT s] (quT q)) (hD : AC Tryz.prog 27 [quT q, enT x] (.tuple #[quT r, .bool true])) (hQa : AC Tryz.prog 24 [stT a] (quT r)) (hr : r.vals.length ≤ 1000) : AC Tryz.prog 8 [stT s, .int .i64 n] (.bool (x.th == n)) :=
  ac_path mixed (ext := [10, 11, 15, 21, 24, 25, 26, 27]) (fuel := 9) (n := 4) (orc := [vD true, vD true, vD true, .bool false, .bool false, thT (gth s.th n), stT a, .bool false, enT x, .bool false, .bool false, .bool false, quT q, .tuple #[quT r, vD true], quT r, vD true]) (an ac_awake <| an (hF ▸ ac_rfew s) <| an hC <| an (show decide ((n : Int) < 0) = false by simp) <| an (show decide ((s.th.length : Int) ≤ n) = false by simp; omega) <| an (ixT hn) <| an hS <| an hl <| an hx <| an h4 <| an h10 <| an ht <| an hQs <| an hD <| an hQa <| an (ac_rqsame (q := r) (by omega)) trivial) (by kernel_rfl)
end
section
variable {s : St} {i : Int} (hF : fewB s = true)
set_option maxRecDepth 100000 in
theorem sqn_1 (hF : fewB s = false) : AC Tryz.prog 8 [stT s, .int .i64 i] (.bool true) :=
  ac_path mixed (ext := [10, 11, 15, 21, 24, 25, 26, 27]) (fuel := 9) (n := 4) (orc := [vD true, vD false]) (an ac_awake <| an (hF ▸ ac_rfew s) trivial) (by kernel_rfl)
include hF
set_option maxRecDepth 100000 in
theorem sqn_2 (hC : AC Tryz.prog 21 [stT s] (.bool false)) : AC Tryz.prog 8 [stT s, .int .i64 i] (.bool true) :=
  ac_path mixed (ext := [10, 11, 15, 21, 24, 25, 26, 27]) (fuel := 9) (n := 4) (orc := [vD true, vD true, vD false]) (an ac_awake <| an (hF ▸ ac_rfew s) <| an hC trivial) (by kernel_rfl)
set_option maxRecDepth 100000 in
theorem sqn_3 (hC : AC Tryz.prog 21 [stT s] (.bool true)) (h0 : decide (i < 0) = true) : AC Tryz.prog 8 [stT s, .int .i64 i] (.bool true) :=
  ac_path mixed (ext := [10, 11, 15, 21, 24, 25, 26, 27]) (fuel := 9) (n := 4) (orc := [vD true, vD true, vD true, .bool true]) (an ac_awake <| an (hF ▸ ac_rfew s) <| an hC <| an h0 trivial) (by kernel_rfl)
set_option maxRecDepth 100000 in
theorem sqn_4 (hC : AC Tryz.prog 21 [stT s] (.bool true)) (h0 : decide (i < 0) = false) (h1 : decide ((s.th.length : Int) ≤ i) = true) : AC Tryz.prog 8 [stT s, .int .i64 i] (.bool true) :=
  ac_path mixed (ext := [10, 11, 15, 21, 24, 25, 26, 27]) (fuel := 9) (n := 4) (orc := [vD true, vD true, vD true, .bool false, .bool true]) (an ac_awake <| an (hF ▸ ac_rfew s) <| an hC <| an h0 <| an h1 trivial) (by kernel_rfl)
end
theorem ac_sendQueue {s : St} {i : Int} (ho : s.ok) : AC Tryz.prog 8 [stT s, .int .i64 i] (.bool true) := by
  cases hF : fewB s
  · exact sqn_1 hF
  · obtain ⟨f1, f2, f3⟩ := few_is hF
    cases hB : stB s
    · exact sqn_2 hF (ac_pcheck hB ho)
    · have hC := ac_pcheck hB ho
      by_cases h0 : i < 0
      · exact sqn_3 hF hC (by simpa using h0)
      · by_cases h1 : (s.th.length : Int) ≤ i
        · exact sqn_4 hF hC (by simpa using h0) (by simpa using h1)
        · obtain ⟨n, rfl⟩ : ∃ n : Nat, i = n := ⟨i.toNat, by omega⟩
          have hn : n < s.th.length := by omega
          have hS := ac_pstep (i := n) ho f2 (by omega)
          obtain ⟨oa, la⟩ := sendS_all hB ho (by omega) n
          have hBa : stB (sendS s n) = true := (sendS_stB s n).trans hB
          have hsl := (word_ok hB).2.2
          have hrm := cf_room (st_iff.1 hB).1
          have hck := check_len (word_ok hB).1
          have hcka := check_len (word_ok hBa).1
          have hqs := ac_pqueue (s := s) rfl ho
          have hqa := ac_pqueue (s := sendS s n) rfl oa
          have hls := quV_len hB
          have hla := quV_len hBa
          have hrma := cf_room (st_iff.1 hBa).1
          have hsla := (word_ok hBa).2.2
          have hV := ac_pvalue s s.tl ho ⟨by omega, by omega⟩
          have key : ((gth s.th n).pc = 3 ∨ (gth s.th n).pc = 11) ∧ (sendS s n).lg = s.lg ∨ (sendS s n).lg ≠ s.lg ∧ ((gth s.th n).pc = 4 ∧ valV s s.tl ≠ (gth s.th n).va ∨ (gth s.th n).pc = 10 ∧ s.cf.po ≠ 2 ∨ s.tl = 1099511627776) ∨ QuOk s (sendS s n) n := by
            cases hr : runsB s n 1
            · have e : sendS s n = s := by simp [sendS, hr]
              rw [e]; exact .inr (.inr (.inl ⟨rfl, rfl⟩))
            · obtain ⟨-, h2, h3⟩ := runs_iff.1 hr
              rw [Int.toNat_natCast] at h2 h3
              rw [sendS_is hr]
              exact sendN_qu hB hn (by omega) h3
          by_cases hlg : (sendS s n).lg = s.lg
          · have hl : decide (((sendS s n).lg.length : Int) ≤ s.lg.length) = true := by rw [hlg]; simp
            by_cases h3 : (gth s.th n).pc = 3
            · exact sq_3 hF hC hn hS hl (by simp [h3])
            · by_cases h11 : (gth s.th n).pc = 11
              · exact sq_11 hF hC hn hS hl (by simp [h11]) (by simp [h11])
              · have hq : quV (sendS s n) = quV s := by
                  rcases key with ⟨h, -⟩ | ⟨h, -⟩ | ⟨-, h⟩ | ⟨x, h, -⟩
                  · omega
                  · exact absurd hlg h
                  · exact h
                  · rw [hlg] at h; simp at h
                rw [hq] at hqa
                exact sq_no hF hC hn hS hl (by simpa using h3) (by simpa using h11) hqa hqs (by omega)
          · obtain ⟨x, hx⟩ := (sendS_lgOk s n).1.resolve_left hlg
            have hl : decide (((sendS s n).lg.length : Int) ≤ s.lg.length) = false := by rw [hx]; simp; omega
            have hix : IxP (((sendS s n).lg.map enT).toArray) (s.lg.length : Int) (enT x) := ⟨by omega, by rw [hx]; simp⟩
            have good : ¬ ((gth s.th n).pc = 4 ∧ valV s s.tl ≠ (gth s.th n).va ∨ (gth s.th n).pc = 10 ∧ s.cf.po ≠ 2 ∨ s.tl = 1099511627776) → x.th = n ∧ (quV s).tell x = (quV (sendS s n), true) := fun hne => by
              rcases key with ⟨-, h⟩ | ⟨-, h⟩ | ⟨h, -⟩ | ⟨y, h, h4, h5⟩
              · exact absurd h hlg
              · exact absurd h hne
              · exact absurd h hlg
              · rw [hx] at h
                have e : x = y := by simpa using h
                subst e; exact ⟨h4, h5⟩
            by_cases h4 : (gth s.th n).pc = 4
            · have d10 : ((gth s.th n).pc == 10) = false := by simp [h4]
              by_cases hv : valV s s.tl = (gth s.th n).va
              · by_cases ht : s.tl = 1099511627776
                · exact sq_b hF hC hn hS hl hix hV (by simp [h4]) (by simp [hv]) d10 (by simp [ht])
                · obtain ⟨g1, g2⟩ := good (by omega)
                  have := sq_f hF hC hn hS hl hix hV (by simp [h4]) (by simp [hv]) d10 (by simpa using ht) hqs (ac_fdo g2 (by omega)) hqa (by omega)
                  rwa [show (x.th == (n : Int)) = true by simp [g1]] at this
              · exact sq_a hF hC hn hS hl hix hV (by simp [h4]) (by simpa using hv)
            · have d4 : ((gth s.th n).pc == 4) = false := by simpa using h4
              by_cases h10 : (gth s.th n).pc = 10
              · by_cases hp : s.cf.po = 2
                · by_cases ht : s.tl = 1099511627776
                  · exact sq_d hF hC hn hS hl hix d4 (by simp [h10]) (by simp [hp]) (by simp [ht])
                  · obtain ⟨g1, g2⟩ := good (by omega)
                    have := sq_g hF hC hn hS hl hix d4 (by simp [h10]) (by simp [hp]) (by simpa using ht) hqs (ac_fdo g2 (by omega)) hqa (by omega)
                    rwa [show (x.th == (n : Int)) = true by simp [g1]] at this
                · exact sq_c hF hC hn hS hl hix d4 (by simp [h10]) (by simpa using hp)
              · have d10 : ((gth s.th n).pc == 10) = false := by simpa using h10
                by_cases ht : s.tl = 1099511627776
                · exact sq_e hF hC hn hS hl hix d4 d10 (by simp [ht])
                · obtain ⟨g1, g2⟩ := good (by omega)
                  have := sq_h hF hC hn hS hl hix d4 d10 (by simpa using ht) hqs (ac_fdo g2 (by omega)) hqa (by omega)
                  rwa [show (x.th == (n : Int)) = true by simp [g1]] at this
theorem sendQueue_walk (s : St) (sz : Pz) (hs : s.ok) (id : Int) (hid : In64 id) (w : World) (hss : StAt w s sz) :
    Calls Tryz.prog 8 #[.agg (s.cells sz).toArray, .int .i64 id] w fun e w' => e = .returned (.bool true) ∧ Kept w w' := by
  refine law_of (ac_sendQueue (s := s) (i := id) hs) (cells_at.2 ?_)
  exact ⟨_, _, rfl, st_free hss, _, _, rfl, rp_int.2 rfl, rfl⟩
set_option maxRecDepth 100000 in
theorem sendQueue_lifted (os : Os) (started : os.Started) (H : Type) (enc : TypeId × Value → H) :
    ReturnsInHanded {} Tryz.checked os 8 .any (Rows.sendQueueSpec.pre6 enc Tryz.prog Tryz.f8 Rows.sendQueueRow.domain false) (Rows.sendQueueSpec.post enc Tryz.prog Tryz.f8 false true false false) := by
  refine returnsInHanded_of_change (C := Tryz.checked) own started (by kernel_rfl) Tryz.func8
    (ChangeSpec.witness6 (enc := enc) (C := Tryz.checked) false ⟨#[], #[.agg St.zero.toArray, .int .i64 0], []⟩ 8 (by kernel_rfl) (by kernel_rfl) (by kernel_rfl) (by kernel_rfl)) ?_
  intro W base args ds gs before hval0 hW hcnd _
  have hval : ∀ (j : Nat) t v, Tryz.f8.params[j]? = some t → args[j]? = some v → Value.okWide Tryz.prog W .any base t v := hval0
  have hW' := hW
  obtain ⟨p, q, hA0, hV, rfl, hfz, hnd⟩ := hW
  have hA : DataW.TrodAll enc Tryz.prog W 0 (fun _ => true) true Tryz.f8.params.toList args.toList ds p := hA0
  rw [Tryz.params8] at hA hval
  obtain ⟨v0, vs0, d0, ds0, p0, q0, hargs, rfl, rfl, h0, r0⟩ := trodAll_cons hA
  obtain ⟨v1, vs1, d1, ds1, p1, q1, rfl, rfl, rfl, h1, r1⟩ := trodAll_cons r0
  obtain ⟨rfl, rfl, rfl⟩ := trodAll_nil r1
  obtain rfl : args = #[v0, v1] := by cases args; simp_all
  obtain ⟨rfl, rfl⟩ := trodVars_none hV
  obtain ⟨scs, rfl, srd⟩ := open_struct (g := 9) (l := St.shape) Tryz.underlying33 (by kernel_rfl) (hval 0 33 v0 rfl rfl) h0
  obtain ⟨s, sz, rfl, ssl, sok⟩ := St.of_read srd
  obtain ⟨id, rfl, rfl, rfl, wf1⟩ := open_int Tryz.underlying3 (hval 1 3 v1 rfl rfl) h1
  clear hA0 hval0
  refine (sendQueue_walk s sz sok id (in64_of_wf wf1) W ssl).mono fun e W' ⟨he, hg⟩ => ?_
  subst he
  exact ⟨_, rfl, law_post laid hW' rfl (by kernel_rfl) rfl Tryz.underlying4 rfl hg⟩

/-- The statement, whole. -/
theorem sendQueue_holds : Rows.SendQueueSaid :=
  OpenClaim.holds_of_wide 8 Tryz.f8 rfl rfl rfl rfl rfl rfl rfl ⟨rfl, rfl, rfl, rfl, rfl⟩ rfl rfl rfl rfl rfl (by kernel_rfl) Tryz.func8 (by kernel_rfl)
    (of_decide_eq_true (by kernel_rfl)) (by unfold Func.isWrapper; rw [if_neg (of_decide_eq_false (by kernel_rfl))]; exact ⟨rfl, rfl⟩)
    (fun os started H enc _ => sendQueue_lifted os started H enc)
end Go.Proofs.YtfllnpcoggmepaaGreat
