/- Who sends alone, of a new fabric with some steps ahead, into which there is room, is done after seven steps, with its value behind all others, and told so: true of every configuration, number and value. -/
import Derived.Test.YtfllnpcoggmepaaGreatZb12
import Derived.Test.YtfllnpcoggmepaaGreatZb11
namespace Go.Proofs.YtfllnpcoggmepaaGreat
set_option linter.unusedVariables false
set_option linter.unusedSimpArgs false
open Go.ChangeShapes Go.WideShapes Go.ChangeAt Go.RowKit
theorem newO {c : Cf} (hc : cfB c = true) (ho : c.ok) : (newSt c).ok := by
  refine ok_of (new_stB hc) ⟨ho, fun x hx => ?_, fun t ht => ?_⟩ (by show (0 : Nat) ≤ _; omega)
  · have hx' : x ∈ newL (cfR c) := hx
    unfold newL at hx'
    split at hx'
    · obtain ⟨i, -, rfl⟩ := List.mem_map.1 hx'; exact (by decide : In64 0)
    · cases hx'
  · have ht' : t ∈ List.replicate c.th.toNat th0 := ht
    rw [List.eq_of_mem_replicate ht']; exact ⟨(by decide : In64 0), (by decide : In64 0)⟩
def bCa (c : Cf) : Option Blk := some ⟨true, false, 7, 1, [cfT c]⟩
def bSa (s : St) : Option Blk := some ⟨true, false, 20, 1, [stT s]⟩
def bQa (q : Qu) : Option Blk := some ⟨true, false, 4, 1, [quT q]⟩
def tA (v r n i : Int) : List (Nat × Value) := [(2, .int .i64 v), (3, pt 0), (7, vD true), (8, pt 1), (10, .int .i64 r), (11, .int .i64 n), (12, .int .i64 i)]
def hdAl (c : Cf) (s : St) (v r n i : Int) : Sg := ⟨mkT 152 (tA v r n i), [bCa c, bSa s]⟩
def tB (v n i : Int) : List (Nat × Value) := [(2, .int .i64 v), (3, pt 0), (7, vD true), (11, .int .i64 n), (18, .int .i64 0), (19, pt 1), (20, .int .i64 7), (21, pt 2), (22, .int .i64 i)]
def hdAm (c : Cf) (u : St) (q : Qu) (v n i : Int) : Sg := ⟨mkT 152 (tB v n i), [bCa c, bSa u, bQa q]⟩
theorem min100 : (min (100 : Int) 1000).toNat = 100 := by decide
section
variable {c : Cf} {v r : Int} {n : Nat}
theorem AlI.inv {s : St} {i : Nat} (h : AlI c s i) {k : Nat} (hk : k < s.th.length) {ki v : Int} (hki : 1 ≤ ki ∧ ki ≤ 3) : AC Tryz.prog 23 [stT s, .int .i64 k, .int .i64 ki, .int .i64 v, .int .i64 0] (.tuple #[stT (s.setTh k (tS ki v 0 0 0 0 0)), .int .i64 0]) :=
  ac_pinvoke (h.beg hk hki) h.ok (fit_of h.b (by have := h.lg; have := h.len; omega))
theorem AlI.steps {s u : St} {i n : Nat} (h : AlI c s i) {k : Nat} {ki v : Int} (hki : 1 ≤ ki ∧ ki ≤ 3) (hv : In64 v) (hu : sendK (s.setTh k (tS ki v 0 0 0 0 0)) k 100 = (u, n)) : AC Tryz.prog 12 [stT (s.setTh k (tS ki v 0 0 0 0 0)), .int .i64 k, .int .i64 100] (.tuple #[stT u, .int .i64 n]) := by
  have hl := h.lg
  have hn := h.len
  have hl' : (s.setTh k (tS ki v 0 0 0 0 0)).lg.length = i := hl
  have := ac_pst (i := k) (m := 100) (h.begO hki hv) (fit_of (h.begB (k := k) (v := v) hki) (by omega)) (by omega)
  rw [min100, hu] at this
  exact this
set_option maxRecDepth 100000 in
theorem al_lp (hn : (n : Int) ≤ cfR c) : ∀ (k i : Nat) {s : St}, n - i = k → i ≤ n → AlI c s i → ∃ s', AlI c s' n ∧ LoopP Tryz.prog (loopOf Tryz.prog 6 0) (hdAl c s v r n i) (.exit 0) (hdAl c s' v r n n)
  | 0, i, s, hk, hi, h => by
    have : i = n := by omega
    subst this
    exact ⟨s, h, loop_end mixed (ext := []) (fuel := 9) (n := 3) (im := [0, 1]) (keep := [2, 3, 7, 8, 10, 11, 12]) (orc := [.bool false]) (an (show decide ((i : Int) < i) = false by simp) trivial) (by intro e; cases e) (by kernel_rfl)⟩
  | k + 1, i, s, hk, hi, h => by
    have hl := h.len
    have hi' : i < s.sl.length := by omega
    have h0 : 0 < s.th.length := by omega
    obtain ⟨s', hs', ih⟩ := al_lp hn k (i + 1) (by omega) (by omega) (h.next hi')
    rw [show ((i + 1 : Nat) : Int) = (i : Int) + 1 by omega] at ih
    have hI := h.inv h0 (ki := 1) (v := i) (by decide)
    have hS := h.steps (k := 0) (ki := 1) (v := i) (by decide) ⟨by omega, by omega⟩ (h.run hi' h0 (by decide)).1
    exact ⟨s', hs', loop_more mixed (ext := [23, 12]) (fuel := 9) (n := 3) (im := [0, 1]) (keep := [2, 3, 7, 8, 10, 11, 12]) (orc := [.bool true, .tuple #[stT (s.setTh 0 (tS 1 i 0 0 0 0 0)), .int .i64 0], .tuple #[stT (al1 s 0 i 1 i), .int .i64 7], .nilFunc, .nilFunc])
      (an (show decide ((i : Int) < n) = true by simp; omega) <| an hI <| an hS <| an (show In64 ((i : Int) + 1) by constructor <;> omega) trivial) (by kernel_rfl) ih⟩
set_option maxRecDepth 100000 in
theorem am_lp {u : St} {q : Qu} (hq : ∀ j, j < n → gI q.vals j = j) (hl : n < q.vals.length) (hm : n ≤ 1000) : ∀ (k i : Nat), n - i = k → i ≤ n → LoopP Tryz.prog (loopOf Tryz.prog 6 1) (hdAm c u q v n i) (.exit 2) (hdAm c u q v n n)
  | 0, i, hk, hi => by
    have : i = n := by omega
    subst this
    exact loop_end mixed (ext := []) (fuel := 9) (n := 3) (im := [0, 1, 2]) (keep := [2, 3, 7, 11, 18, 19, 20, 21, 22]) (orc := [.bool false]) (an (show decide ((i : Int) < i) = false by simp) trivial) (by intro e; cases e) (by kernel_rfl)
  | k + 1, i, hk, hi => by
    have ih := am_lp (u := u) hq hl hm k (i + 1) (by omega) (by omega)
    rw [show ((i + 1 : Nat) : Int) = (i : Int) + 1 by omega] at ih
    exact loop_more mixed (ext := []) (fuel := 9) (n := 3) (im := [0, 1, 2]) (keep := [2, 3, 7, 11, 18, 19, 20, 21, 22]) (orc := [.bool true, .int .i64 (gI q.vals i), .bool false])
      (an (show decide ((i : Int) < n) = true by simp; omega) <| an (ixI' (l := q.vals) (i := i) (by omega)) <| an (show (gI q.vals i != (i : Int)) = false by simp [hq i (by omega)]) <| an (show In64 ((i : Int) + 1) by constructor <;> omega) trivial) (by kernel_rfl) ih
set_option maxRecDepth 100000 in
theorem ac_alone {m : Int} (hm : 0 ≤ m ∧ m ≤ 255) (ho : c.ok) (hv : In64 v) : AC Tryz.prog 6 [cfT c, .int .u8 m, .int .i64 v] (.bool true) := by
  cases hc : cfB c
  · exact ac_path mixed (ext := [10, 22, 23, 12, 24]) (fuel := 9) (n := 4) (orc := [vD true, .tuple #[stT st0, .int .i64 20], .nilFunc]) (an ac_awake <| an (ac_pnew_no hc) trivial) (by kernel_rfl)
  · have h := al_new hc (newO hc ho)
    have hl := h.len
    obtain ⟨L, hL⟩ : ∃ L : Nat, (newSt c).sl.length = L := ⟨_, rfl⟩
    rw [hL] at hl
    obtain ⟨n, hn⟩ : ∃ n : Nat, m % (L : Int) = n := ⟨(m % (L : Int)).toNat, by have := Int.emod_nonneg m (show (L : Int) ≠ 0 by omega); omega⟩
    have hlt : (n : Int) < L := by rw [← hn]; exact Int.emod_lt_of_pos m (by omega)
    obtain ⟨s, hs, h1⟩ := al_lp (c := c) (v := v) (r := (newSt c).sl.length) (n := n) (by omega) n 0 rfl (by omega) h
    have hsl := hs.len
    have hi : n < s.sl.length := by omega
    obtain ⟨k, hk⟩ : ∃ k : Nat, c.th - 1 = k := ⟨(c.th - 1).toNat, by have := cf_th hc; omega⟩
    have hkt : k < s.th.length := by omega
    have h2 := hs.inv hkt (ki := 2) (v := v) (by decide)
    have h3 := hs.steps (k := k) (ki := 2) (v := v) (by decide) hv (hs.run hi hkt (by decide)).1
    have hB := (hs.run hi hkt (ki := 2) (v := v) (by decide)).2
    have hO := hs.runO hi hkt (ki := 2) (v := v) (by decide) hv
    have h4 := ac_pqueue (s := al1 s k n 2 v) rfl hO
    obtain ⟨q1, q2, q3⟩ := hs.qu hi hkt (ki := 2) (v := v) (by decide)
    rw [← hk] at h2 h3
    have h5 := am_lp (c := c) (v := v) (u := al1 s k n 2 v) (q := quV (al1 s k n 2 v)) (n := n) q2 (by omega) (by omega) n 0 rfl (by omega)
    have hth : (al1 s k n 2 v).th.length = s.th.length := by simp [al1, mkS]
    have hlg : (al1 s k n 2 v).lg.length = n + 1 := by show (s.lg ++ _).length = _; simp [hs.lg]
    have hu : gth (al1 s k n 2 v).th k = tD 2 v 1 := by show gth (s.th.set k _) k = _; rw [gth_set hkt, if_pos rfl]
    have e0 : m % ((newSt c).sl.length : Int) = n := by rw [hL]; exact hn
    have d0 : In64 (m % ((newSt c).sl.length : Int) + 1) := by rw [e0]; constructor <;> omega
    have d1 : In64 (c.th - 1) := by have := cf_th hc; constructor <;> omega
    have d2 : (((quV (al1 s k n 2 v)).vals.length : Int) != m % ((newSt c).sl.length : Int) + 1) = false := by rw [e0, q1]; simp
    have d3 : (((al1 s k n 2 v).th.length : Int) != c.th) = false := by rw [hth]; simp; omega
    have d4 : (((al1 s k n 2 v).lg.length : Int) != m % ((newSt c).sl.length : Int) + 1) = false := by rw [e0, hlg]; simp
    have x1 : IxP (((quV (al1 s k n 2 v)).vals.map (Value.int .i64 ·)).toArray) (m % ((newSt c).sl.length : Int)) (.int .i64 v) := by rw [e0]; have := ixI' (l := (quV (al1 s k n 2 v)).vals) (i := n) (by omega); rwa [show gI (quV (al1 s k n 2 v)).vals n = v from q3] at this
    have x2 : IxP (((al1 s k n 2 v).th.map thT).toArray) (c.th - 1) (thT (tD 2 v 1)) := by rw [hk, ← hu]; exact ixT (by omega)
    rw [← e0] at h1 h5
    exact ac_path mixed (ext := [10, 22, 23, 12, 24]) (fuel := 9) (n := 4) (orc := [vD true, .tuple #[stT (newSt c), .int .i64 0], .nilFunc, .bool false, .int .i64 m, oL [0, 1] [2, 3, 7, 8, 10, 11, 12] 0 (tA v (newSt c).sl.length (m % ((newSt c).sl.length : Int)) (m % ((newSt c).sl.length : Int))) (hdAl c s v 0 0 0).H,
        .tuple #[stT (s.setTh k (tS 2 v 0 0 0 0 0)), .int .i64 0], .tuple #[stT (al1 s k n 2 v), .int .i64 7], quT (quV (al1 s k n 2 v)), .bool false, .bool false, .bool false,
        oL [2, 5, 6] [2, 3, 7, 11, 18, 19, 20, 21, 22] 2 (tB v (m % ((newSt c).sl.length : Int)) (m % ((newSt c).sl.length : Int))) (hdAm c (al1 s k n 2 v) (quV (al1 s k n 2 v)) 0 0 0).H, .nilFunc, .nilFunc, .int .i64 v, .bool true, thT (tD 2 v 1), .nilFunc])
      (an ac_awake <| an (ac_pnew hc) <| an (show (((newSt c).sl.length : Int) == 0) = false by rw [hL]; simp; omega) <| an (ask_u8 m hm.1 hm.2 (.tmp 37)) <| an (show 0 ≤ m ∧ (0 : Int) < (newSt c).sl.length from ⟨hm.1, by omega⟩) <| an h1 <| an d1 <| an h2 <| an d1 <| an h3 <| an h4 <| an d0 <| an d2 <| an d3 <| an d0 <| an d4 <| an h5 <|
        an x1 <| an (show (v == v) = true by simp) <| an d1 <| an x2 trivial) (by kernel_rfl)
end
theorem sendAlone_walk (c : Cf) (hc : c.ok) (many : Int) (hmany : 0 ≤ many ∧ many ≤ 255) (val : Int) (hval : In64 val) (w : World) :
    Calls Tryz.prog 6 #[.agg c.cells.toArray, .int .u8 many, .int .i64 val] w fun e w' => e = .returned (.bool true) ∧ Kept w w' := by
  refine law_of (ac_alone (c := c) (v := val) (m := many) hmany hc hval) (cells_at.2 ?_)
  exact ⟨_, _, rfl, rp_cfT.2 rfl, _, _, rfl, rp_int.2 rfl, _, _, rfl, rp_int.2 rfl, rfl⟩
set_option maxRecDepth 100000 in
theorem sendAlone_lifted (os : Os) (started : os.Started) (H : Type) (enc : TypeId × Value → H) :
    ReturnsInHanded {} Tryz.checked os 6 .any (Rows.sendAloneSpec.pre6 enc Tryz.prog Tryz.f6 Rows.sendAloneRow.domain false) (Rows.sendAloneSpec.post enc Tryz.prog Tryz.f6 false true false false) := by
  refine returnsInHanded_of_change (C := Tryz.checked) own started (by kernel_rfl) Tryz.func6
    (ChangeSpec.witness6 (enc := enc) (C := Tryz.checked) false ⟨#[], #[.agg Cf.zero.toArray, .int .u8 0, .int .i64 0], []⟩ 8 (by kernel_rfl) (by kernel_rfl) (by kernel_rfl) (by kernel_rfl)) ?_
  intro W base args ds gs before hval0 hW hcnd _
  have hval : ∀ (j : Nat) t v, Tryz.f6.params[j]? = some t → args[j]? = some v → Value.okWide Tryz.prog W .any base t v := hval0
  have hW' := hW
  obtain ⟨p, q, hA0, hV, rfl, hfz, hnd⟩ := hW
  have hA : DataW.TrodAll enc Tryz.prog W 0 (fun _ => true) true Tryz.f6.params.toList args.toList ds p := hA0
  rw [Tryz.params6] at hA hval
  obtain ⟨v0, vs0, d0, ds0, p0, q0, hargs, rfl, rfl, h0, r0⟩ := trodAll_cons hA
  obtain ⟨v1, vs1, d1, ds1, p1, q1, rfl, rfl, rfl, h1, r1⟩ := trodAll_cons r0
  obtain ⟨v2, vs2, d2, ds2, p2, q2, rfl, rfl, rfl, h2, r2⟩ := trodAll_cons r1
  obtain ⟨rfl, rfl, rfl⟩ := trodAll_nil r2
  obtain rfl : args = #[v0, v1, v2] := by cases args; simp_all
  obtain ⟨rfl, rfl⟩ := trodVars_none hV
  obtain ⟨ccs, rfl, crd⟩ := open_struct (g := 9) (l := Cf.shape) Tryz.underlying23 (by kernel_rfl) (hval 0 23 v0 rfl rfl) h0
  obtain ⟨c, rfl, cok⟩ := Cf.of_read crd
  obtain ⟨many, rfl, rfl, rfl, wf1⟩ := open_int Tryz.underlying5 (hval 1 5 v1 rfl rfl) h1
  obtain ⟨val, rfl, rfl, rfl, wf2⟩ := open_int Tryz.underlying3 (hval 2 3 v2 rfl rfl) h2
  clear hA0 hval0
  refine (sendAlone_walk c cok many (bounds_u8 wf1) val (in64_of_wf wf2) W).mono fun e W' ⟨he, hg⟩ => ?_
  subst he
  exact ⟨_, rfl, law_post laid hW' rfl (by kernel_rfl) rfl Tryz.underlying4 rfl hg⟩

/-- The statement, whole. -/
theorem sendAlone_holds : Rows.SendAloneSaid :=
  OpenClaim.holds_of_wide 6 Tryz.f6 rfl rfl rfl rfl rfl rfl rfl ⟨rfl, rfl, rfl, rfl, rfl⟩ rfl rfl rfl rfl rfl (by kernel_rfl) Tryz.func6 (by kernel_rfl)
    (of_decide_eq_true (by kernel_rfl)) (by unfold Func.isWrapper; rw [if_neg (of_decide_eq_false (by kernel_rfl))]; exact ⟨rfl, rfl⟩)
    (fun os started H enc _ => sendAlone_lifted os started H enc)
end Go.Proofs.YtfllnpcoggmepaaGreat
