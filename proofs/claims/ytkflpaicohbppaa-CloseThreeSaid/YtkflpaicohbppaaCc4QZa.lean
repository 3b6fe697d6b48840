/- Who begins to close is done after three steps, whoever else there is, the mode is what it leads to then, or more, and nobody waits any more, nor is parked who did: true of every state and thread, whether it drains or halts. -/
import Derived.Test.YtkflpaicohbppaaZa11
namespace Go.Proofs.Ytkflpaicohbppaa
set_option linter.unusedVariables false
set_option linter.unusedSimpArgs false
open Go.ChangeShapes Go.WideShapes Go.ChangeAt Go.RowKit
def hd3T (n k j : Int) : List (Nat × Value) := [(1, .int .i64 n), (3, pt 0), (7, vD true), (8, .int .i64 k), (11, pt 1), (12, .int .i64 3), (13, .int .i64 j)]
def hd3 (s a : St) (n k j : Int) : Sg := ⟨mkT 159 (hd3T n k j), [bS s, bS a]⟩
def c3X : List FuncId := [7, 15, 12, 16, 8]
section
variable {s a : St} {n k : Int} (hl : s.fl.length ≤ 16 ∧ s.el.length ≤ 16) (hq : a.th.length = s.th.length) (hx : ∀ x : Int, x ∈ s.fl ∨ x ∈ s.el → 0 ≤ x ∧ x < s.th.length) (hw : ∀ j : Nat, j < s.th.length → (j : Int) ∈ s.fl ∨ (j : Int) ∈ s.el → (gth a.th j).st ≠ 2)
include hl hq hx hw
set_option maxRecDepth 100000 in
theorem c3_lp : ∀ (m j : Nat), s.fl.length + s.el.length - j = m → j ≤ s.fl.length + s.el.length → LoopP Try.prog (loopOf Try.prog 5 0) (hd3 s a n k j) (.exit 0) (hd3 s a n k (s.fl.length + s.el.length : Nat))
  | 0, j, hm, hj => by
    have : j = s.fl.length + s.el.length := by omega
    subst this
    exact loop_end mixed (fuel := 9) (n := 3) (im := [0, 1]) (keep := [1, 3, 7, 8, 11, 12, 13]) (ext := []) (orc := [.bool false]) (an (show In64 ((s.fl.length : Int) + s.el.length) by constructor <;> omega) <| an (show decide (((s.fl.length + s.el.length : Nat) : Int) < s.fl.length + s.el.length) = false by simp) trivial) (by intro e; cases e) (by kernel_rfl)
  | m + 1, j, hm, hj => by
    have ih := c3_lp m (j + 1) (by omega) (by omega)
    rw [show ((j + 1 : Nat) : Int) = (j : Int) + 1 by omega] at ih
    have i1 : In64 ((s.fl.length : Int) + s.el.length) := by constructor <;> omega
    have i2 : decide ((j : Int) < s.fl.length + s.el.length) = true := by simp; omega
    have i3 : In64 ((j : Int) + 1) := by constructor <;> omega
    have go : ∀ x : Int, x ∈ s.fl ∨ x ∈ s.el → decide (x < 0) = false ∧ decide ((a.th.length : Int) ≤ x) = false ∧ ∃ t : Th, IxP ((a.th.map thT).toArray) x (thT t) ∧ (t.st == 2) = false := fun x hm => by
      obtain ⟨h0, h1⟩ := hx x hm
      obtain ⟨q, rfl⟩ : ∃ q : Nat, x = q := ⟨x.toNat, by omega⟩
      exact ⟨by simp, by simp; omega, gth a.th q, ixT (by omega), by simpa using hw q (by omega) hm⟩
    by_cases h : j < s.fl.length
    · obtain ⟨g1, g2, t, g3, g4⟩ := go s.fl[j] (.inl (List.getElem_mem h))
      exact loop_more mixed (fuel := 9) (n := 3) (im := [0, 1]) (keep := [1, 3, 7, 8, 11, 12, 13]) (ext := []) (orc := [.bool true, .bool true, .int .i64 s.fl[j], .bool false, .bool false, thT t, .bool false])
        (an i1 <| an i2 <| an (show decide ((j : Int) < s.fl.length) = true by simp; omega) <| an (ixW h) <| an g1 <| an g2 <| an g3 <| an g4 <| an i3 trivial) (by kernel_rfl) ih
    · have he : j - s.fl.length < s.el.length := by omega
      obtain ⟨g1, g2, t, g3, g4⟩ := go s.el[j - s.fl.length] (.inr (List.getElem_mem he))
      have hi := ixW he
      rw [show ((j - s.fl.length : Nat) : Int) = (j : Int) - s.fl.length by omega] at hi
      exact loop_more mixed (fuel := 9) (n := 3) (im := [0, 1]) (keep := [1, 3, 7, 8, 11, 12, 13]) (ext := []) (orc := [.bool true, .bool false, .int .i64 s.el[j - s.fl.length], .bool false, .bool false, thT t, .bool false])
        (an i1 <| an i2 <| an (show decide ((j : Int) < s.fl.length) = false by simp; omega) <| an (show In64 ((j : Int) - s.fl.length) by constructor <;> omega) <| an hi <| an g1 <| an g2 <| an g3 <| an g4 <| an i3 trivial) (by kernel_rfl) ih
end
section
variable {s t a : St} {i E : Int} {b : Bool}
set_option maxRecDepth 100000 in
theorem c3_few8 (hF : fewB s = false) (hb : b = true) (hI : AC Try.prog 15 [stT s, .int .i64 i, .int .i64 8, .int .i64 0, .int .i64 0] (.tuple #[stT t, .int .i64 E])) : AC Try.prog 5 [stT s, .int .i64 i, .bool b] (.bool true) :=
  ac_path mixed (ext := c3X) (fuel := 9) (n := 6) (orc := [vD true, .bool true, .tuple #[stT t, .int .i64 E], vD false]) (an ac_awakeC <| an hb <| an hI <| an (hF ▸ ac_rfew s) trivial) (by kernel_rfl)
set_option maxRecDepth 100000 in
theorem c3_few7 (hF : fewB s = false) (hb : b = false) (hI : AC Try.prog 15 [stT s, .int .i64 i, .int .i64 7, .int .i64 0, .int .i64 0] (.tuple #[stT t, .int .i64 E])) : AC Try.prog 5 [stT s, .int .i64 i, .bool b] (.bool true) :=
  ac_path mixed (ext := c3X) (fuel := 9) (n := 6) (orc := [vD true, .bool false, .tuple #[stT t, .int .i64 E], vD false]) (an ac_awakeC <| an hb <| an hI <| an (hF ▸ ac_rfew s) trivial) (by kernel_rfl)
set_option maxRecDepth 100000 in
theorem c3_no8 (hF : fewB s = true) (hb : b = true) (hI : AC Try.prog 15 [stT s, .int .i64 i, .int .i64 8, .int .i64 0, .int .i64 0] (.tuple #[stT t, .int .i64 E])) (hE : (E != 0) = true) : AC Try.prog 5 [stT s, .int .i64 i, .bool b] (.bool true) :=
  ac_path mixed (ext := c3X) (fuel := 9) (n := 6) (orc := [vD true, .bool true, .tuple #[stT t, .int .i64 E], vD true, .bool true]) (an ac_awakeC <| an hb <| an hI <| an (hF ▸ ac_rfew s) <| an hE trivial) (by kernel_rfl)
set_option maxRecDepth 100000 in
theorem c3_no7 (hF : fewB s = true) (hb : b = false) (hI : AC Try.prog 15 [stT s, .int .i64 i, .int .i64 7, .int .i64 0, .int .i64 0] (.tuple #[stT t, .int .i64 E])) (hE : (E != 0) = true) : AC Try.prog 5 [stT s, .int .i64 i, .bool b] (.bool true) :=
  ac_path mixed (ext := c3X) (fuel := 9) (n := 6) (orc := [vD true, .bool false, .tuple #[stT t, .int .i64 E], vD true, .bool true]) (an ac_awakeC <| an hb <| an hI <| an (hF ▸ ac_rfew s) <| an hE trivial) (by kernel_rfl)
variable {th : Th} (hF : fewB s = true) (hS : AC Try.prog 12 [stT t, .int .i64 i, .int .i64 100] (.tuple #[stT a, .int .i64 3])) (h1 : ((a.th.length : Int) != s.th.length) = false) (h2 : decide (i < 0) = false) (h3 : decide ((s.th.length : Int) ≤ i) = false) (h5 : ((a.fl.length : Int) == 0) = true) (h6 : ((a.el.length : Int) == 0) = true) (hx : IxP ((a.th.map thT).toArray) i (thT th)) (h7 : (th.st == 0) = true) (h8 : (th.rs == 1) = true)
include hF hS h1 h2 h3 h5 h6 hx h7 h8
set_option maxRecDepth 100000 in
theorem c3_8 (hb : b = true) (hI : AC Try.prog 15 [stT s, .int .i64 i, .int .i64 8, .int .i64 0, .int .i64 0] (.tuple #[stT t, .int .i64 0])) (hL : LoopP Try.prog (loopOf Try.prog 5 0) (hd3 s a i 8 0) (.exit 0) (hd3 s a i 8 (s.fl.length + s.el.length : Nat))) (h4 : (a.md == max s.md 2) = true) : AC Try.prog 5 [stT s, .int .i64 i, .bool b] (.bool true) :=
  h8 ▸ ac_path mixed (ext := c3X) (fuel := 9) (n := 6) (orc := [vD true, .bool true, .tuple #[stT t, .int .i64 0], vD true, .nilFunc, .tuple #[stT a, .int .i64 3], .bool false, .bool false, .bool false, oL [0, 2] [1, 3, 7, 8, 11, 12, 13] 0 (hd3T i 8 (s.fl.length + s.el.length : Nat)) [bS s, bS a], .nilFunc, .int .i64 2, .bool true, .bool true, .bool true, thT th, .bool true, thT th]) (an ac_awakeC <| an hb <| an hI <| an (hF ▸ ac_rfew s) <| an hS <| an h1 <| an h2 <| an h3 <| an hL <| an (ac_pmode 8) <| an h4 <| an h5 <| an h6 <| an hx <| an h7 <| an hx trivial) (by kernel_rfl)
set_option maxRecDepth 100000 in
theorem c3_7 (hb : b = false) (hI : AC Try.prog 15 [stT s, .int .i64 i, .int .i64 7, .int .i64 0, .int .i64 0] (.tuple #[stT t, .int .i64 0])) (hL : LoopP Try.prog (loopOf Try.prog 5 0) (hd3 s a i 7 0) (.exit 0) (hd3 s a i 7 (s.fl.length + s.el.length : Nat))) (h4 : (a.md == max s.md 1) = true) : AC Try.prog 5 [stT s, .int .i64 i, .bool b] (.bool true) :=
  h8 ▸ ac_path mixed (ext := c3X) (fuel := 9) (n := 6) (orc := [vD true, .bool false, .tuple #[stT t, .int .i64 0], vD true, .nilFunc, .tuple #[stT a, .int .i64 3], .bool false, .bool false, .bool false, oL [0, 2] [1, 3, 7, 8, 11, 12, 13] 0 (hd3T i 7 (s.fl.length + s.el.length : Nat)) [bS s, bS a], .nilFunc, .int .i64 1, .bool true, .bool true, .bool true, thT th, .bool true, thT th]) (an ac_awakeC <| an hb <| an hI <| an (hF ▸ ac_rfew s) <| an hS <| an h1 <| an h2 <| an h3 <| an hL <| an (ac_pmode 7) <| an h4 <| an h5 <| an h6 <| an hx <| an h7 <| an hx trivial) (by kernel_rfl)
end
/-- Who begins to close, or is told why not. -/
theorem beg_or {s : St} {i k : Int} (hk : k = 7 ∨ k = 8) : (∃ E r, stBeg s i k 0 0 E r ∧ E ≠ 0) ∨ ∃ n : Nat, i = n ∧ stB s = true ∧ n < s.th.length ∧ (gth s.th n).st = 0 := by
  cases hB : stB s
  · exact .inl ⟨20, s, .inl ⟨hB, rfl, rfl⟩, by decide⟩
  · by_cases hM : opMay s.cf.th s.cf.si i k = 0
    · have hl := th_len hB
      have hi : 0 ≤ i ∧ i < s.cf.th := by
        unfold opMay at hM
        split at hM
        · cases hM
        · omega
      obtain ⟨n, rfl⟩ : ∃ n : Nat, i = n := ⟨i.toNat, by omega⟩
      have hn : n < s.th.length := by omega
      by_cases h0 : (gth s.th n).st = 0
      · exact .inr ⟨n, rfl, rfl, hn, h0⟩
      · exact .inl ⟨120, _, .inr (.inr ⟨hB, hM, n, gth s.th n, rfl, hn, .inl ⟨h0, rfl, rfl⟩, rfl⟩), by decide⟩
    · exact .inl ⟨_, s, .inr (.inl ⟨hB, hM, rfl, rfl⟩), hM⟩
theorem beg_any (s : St) (i k : Int) : ∃ E r, stBeg s i k 0 0 E r := beg_stB s i k 0 0
theorem mx_cl {m k : Int} (h : 0 ≤ m ∧ m ≤ 2) (hk : k = 7 ∨ k = 8) : clM m (modeI k) = max m (modeI k) := by
  obtain h | h | h : m = 0 ∨ m = 1 ∨ m = 2 := by omega
  all_goals (subst h; rcases hk with rfl | rfl <;> rfl)
theorem st_100 {s u : St} {N : Nat} {n : Nat} {k : Int} (h : Wk (s.setTh n (bgT k)) N) (hN : N ≤ 1000) (e : closeK (s.setTh n (bgT k)) n (97 + 3) = (u, 3)) : AC Try.prog 12 [stT (s.setTh n (bgT k)), .int .i64 n, .int .i64 100] (.tuple #[stT u, .int .i64 3]) := by
  have := ac_cst (i := n) (m := 100) (h.ok (by omega)) (h.fit (by omega)) (by have := h.l; omega)
  rw [show (100 : Int).toNat = 97 + 3 from rfl, e] at this
  exact this
theorem ac_closeThree {s : St} {i : Int} {b : Bool} (ho : s.ok) (hr : s.rch) : AC Try.prog 5 [stT s, .int .i64 i, .bool b] (.bool true) := by
  cases hF : fewB s
  · cases b
    · obtain ⟨E, r, h⟩ := beg_any s i 7; exact c3_few7 hF rfl (ac_binvoke ho hr h)
    · obtain ⟨E, r, h⟩ := beg_any s i 8; exact c3_few8 hF rfl (ac_binvoke ho hr h)
  · obtain ⟨f1, f2, f3⟩ := few_is hF
    have key : ∀ k : Int, k = 7 ∨ k = 8 → (∃ E r, AC Try.prog 15 [stT s, .int .i64 i, .int .i64 k, .int .i64 0, .int .i64 0] (.tuple #[stT r, .int .i64 E]) ∧ (E != 0) = true) ∨
        ∃ (n : Nat) (t a : St) (th : Th), i = n ∧ AC Try.prog 15 [stT s, .int .i64 i, .int .i64 k, .int .i64 0, .int .i64 0] (.tuple #[stT t, .int .i64 0]) ∧ AC Try.prog 12 [stT t, .int .i64 i, .int .i64 100] (.tuple #[stT a, .int .i64 3]) ∧ ((a.th.length : Int) != s.th.length) = false ∧ decide (i < 0) = false ∧ decide ((s.th.length : Int) ≤ i) = false ∧
          LoopP Try.prog (loopOf Try.prog 5 0) (hd3 s a i k 0) (.exit 0) (hd3 s a i k (s.fl.length + s.el.length : Nat)) ∧ (a.md == max s.md (modeI k)) = true ∧ ((a.fl.length : Int) == 0) = true ∧ ((a.el.length : Int) == 0) = true ∧ IxP ((a.th.map thT).toArray) i (thT th) ∧ (th.st == 0) = true ∧ (th.rs == 1) = true := fun k hk => by
      rcases beg_or (s := s) (i := i) hk with ⟨E, r, h, hE⟩ | ⟨n, rfl, hB, hn, h0⟩
      · exact .inl ⟨E, r, ac_binvoke ho hr h, by simpa using hE⟩
      · have w : Wk s 200 := ⟨hB, .of ho, f3⟩
        obtain ⟨u, e, w3, d1, -, d3, d4, -, -, -, d8, d9, d10⟩ := cl_done w hn hk 97
        have hb := cl_begW (n := n) (k := k) w hk
        have hc := check_iff.1 (word_ok hB).1
        have l1 := full_lines hB
        have hth := th_len hB
        have mem : ∀ x : Int, x ∈ s.fl ∨ x ∈ s.el → 0 ≤ x ∧ x < s.th.length := fun x hx => by
          rcases hx with hx | hx
          · have h3 := (stn_iff.1 l1.2.2.1).2 x hx
            have h4 := (okl_iff.1 (stn_iff.1 l1.2.2.1).1).1 x hx
            omega
          · have h3 := (stn_iff.1 l1.2.2.2.1).2 x hx
            have h4 := (okl_iff.1 (stn_iff.1 l1.2.2.2.1).1).1 x hx
            omega
        refine .inr ⟨n, _, u, _, rfl, ac_binvoke ho hr (cl_beg hB hn h0 hk), st_100 hb (by omega) e, by simp [d8], by simp, by simp; omega, c3_lp ⟨line_le l1.2.2.1, line_le l1.2.2.2.1⟩ d8 mem d10 _ 0 rfl (by omega), ?_, by simp [d3], by simp [d4], ixT (by omega), ?_, ?_⟩
        · rw [d1, mx_cl (by omega) hk]; simp
        · rw [d9]; rfl
        · rw [d9]; rfl
    cases b
    · rcases key 7 (.inl rfl) with ⟨E, r, h, hE⟩ | ⟨n, t, a, th, rfl, k1, k2, k3, k4, k5, k6, k7, k8, k9, k10, k11, k12⟩
      · exact c3_no7 hF rfl h hE
      · exact c3_7 hF k2 k3 k4 k5 k8 k9 k10 k11 k12 rfl k1 k6 k7
    · rcases key 8 (.inr rfl) with ⟨E, r, h, hE⟩ | ⟨n, t, a, th, rfl, k1, k2, k3, k4, k5, k6, k7, k8, k9, k10, k11, k12⟩
      · exact c3_no8 hF rfl h hE
      · exact c3_8 hF k2 k3 k4 k5 k8 k9 k10 k11 k12 rfl k1 k6 k7
theorem closeThree_walk (s : St) (sz : Pz) (hs : s.ok) (hsr : s.rch) (id : Int) (hid : In64 id) (halt : Bool) (w : World) (hss : StAt w s sz) :
    Calls Try.prog 5 #[.agg (s.cells sz).toArray, .int .i64 id, .bool halt] w fun e w' => e = .returned (.bool true) ∧ Kept w w' := by
  refine law_of (ac_closeThree (s := s) (i := id) (b := halt) hs hsr) (cells_at.2 ?_)
  exact ⟨_, _, rfl, st_free hss, _, _, rfl, rp_int.2 rfl, _, _, rfl, rp_bool.2 rfl, rfl⟩
set_option maxRecDepth 100000 in
theorem closeThree_lifted (os : Os) (started : os.Started) (H : Type) (enc : TypeId × Value → H) :
    ReturnsInHanded {} Try.checked os 5 .any (Rows.closeThreeSpec.pre6 enc Try.prog Try.f5 Rows.closeThreeRow.domain false) (Rows.closeThreeSpec.post enc Try.prog Try.f5 false true false false) := by
  refine returnsInHanded_of_change_sized (C := Try.checked) own started (by kernel_rfl) Try.func5
    (ChangeSpec.witness6 (enc := enc) (C := Try.checked) false ⟨#[], #[.agg St.zero.toArray, .int .i64 0, .bool false], []⟩ 8 (by kernel_rfl) (by kernel_rfl) (by kernel_rfl) (by kernel_rfl)) ?_
  intro W base args ds gs before hval0 hW hcnd hsz0 _
  have hval : ∀ (j : Nat) t v, Try.f5.params[j]? = some t → args[j]? = some v → Value.okWide Try.prog W .any base t v := hval0
  have hW' := hW
  obtain ⟨p, q, hA0, hV, rfl, hfz, hnd⟩ := hW
  have hA : DataW.TrodAll enc Try.prog W 0 (fun _ => true) true Try.f5.params.toList args.toList ds p := hA0
  rw [Try.params5] at hA hval
  obtain ⟨v0, vs0, d0, ds0, p0, q0, hargs, rfl, rfl, h0, r0⟩ := trodAll_cons hA
  obtain ⟨v1, vs1, d1, ds1, p1, q1, rfl, rfl, rfl, h1, r1⟩ := trodAll_cons r0
  obtain ⟨v2, vs2, d2, ds2, p2, q2, rfl, rfl, rfl, h2, r2⟩ := trodAll_cons r1
  obtain ⟨rfl, rfl, rfl⟩ := trodAll_nil r2
  obtain rfl : args = #[v0, v1, v2] := by cases args; simp_all
  obtain ⟨rfl, rfl⟩ := trodVars_none hV
  obtain ⟨scs, rfl, srd⟩ := open_struct (g := 9) (l := St.shape) Try.underlying33 (by kernel_rfl) (hval 0 33 v0 rfl rfl) h0
  obtain ⟨s, sz, rfl, ssl, sok⟩ := St.of_read srd
  have srr : s.rch := St.rch_of ssl (open_reach (g := 9) (l := rchSt) Try.underlying33 (by kernel_rfl) (hval 0 33 _ rfl rfl) h0 (fun n hn => of_decide_eq_true (List.all_eq_true.1 hsz0 n (DataW.weights_mem_each (j := 0) (t := 33) rfl rfl n hn))))
  obtain ⟨id, rfl, rfl, rfl, wf1⟩ := open_int Try.underlying3 (hval 1 3 v1 rfl rfl) h1
  obtain ⟨halt, rfl, rfl, rfl⟩ := open_bool Try.underlying4 (hval 2 4 v2 rfl rfl) h2
  clear hA0 hval0
  refine (closeThree_walk s sz sok srr id (in64_of_wf wf1) halt W ssl).mono fun e W' ⟨he, hg⟩ => ?_
  subst he
  exact ⟨_, rfl, law_post laid hW' rfl (by kernel_rfl) rfl Try.underlying4 rfl hg⟩

/-- The statement, whole. -/
theorem closeThree_holds : Rows.CloseThreeSaid :=
  OpenClaim.holds_of_wide 5 Try.f5 rfl rfl rfl rfl rfl rfl rfl ⟨rfl, rfl, rfl, rfl, rfl⟩ rfl rfl rfl rfl rfl (by kernel_rfl) Try.func5 (by kernel_rfl)
    (of_decide_eq_true (by kernel_rfl)) (by unfold Func.isWrapper; rw [if_neg (of_decide_eq_false (by kernel_rfl))]; exact ⟨rfl, rfl⟩)
    (fun os started H enc _ => closeThree_lifted os started H enc)
end Go.Proofs.Ytkflpaicohbppaa
