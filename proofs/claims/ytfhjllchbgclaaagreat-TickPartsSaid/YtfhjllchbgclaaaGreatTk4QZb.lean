/- Two ticks make late whom one of both at once does, in that order, and leave the same: true of every state and times. -/
import Derived.Test.YtfhjllchbgclaaaGreatZb14
namespace Go.Proofs.YtfhjllchbgclaaaGreat
set_option linter.unusedVariables false
set_option linter.unusedSimpArgs false
open Go.ChangeShapes Go.WideShapes Go.ChangeAt Go.RowKit
theorem ask_u32 (v : Int) (h0 : 0 ≤ v) (h1 : v ≤ 4294967295) (x : Operand) : AskP Tryz.prog (.convert 52 3 x) [.int .u32 v] (.int .i64 v) := by
  intro W o f ho hm
  have h : f x = .int .u32 v := by simpa [ho, Op.operands] using hm
  have hu := Tryz.underlying3
  have hw : IntKind.i64.wrap v = v := wrap_in ⟨by omega, by omega⟩
  have hv := Tryz.underlying52
  simp [execOp, ho, h, convert, run_underlying hu, run_underlying hv, Conv.intToInt, hw]
section
variable {s a b c : St} {n m e f g : Int} {k l r : List Int} (hF : fewB s = true) (hn : 0 ≤ n ∧ n ≤ 4294967295) (hm : 0 ≤ m ∧ m ≤ 4294967295) (h1 : AC Tryz.prog 11 [stT s, .int .i64 n] (.tuple #[stT a, rowI k, .int .i64 e])) (h2 : AC Tryz.prog 11 [stT a, .int .i64 m] (.tuple #[stT b, rowI l, .int .i64 f])) (h3 : AC Tryz.prog 11 [stT s, .int .i64 (n + m)] (.tuple #[stT c, rowI r, .int .i64 g]))
include hF hn hm h1 h2 h3
set_option maxRecDepth 100000 in
theorem tk4_e (he : (e != 0) = true) (hg : (g != 0) = true) : AC Tryz.prog 6 [stT s, .int .u32 n, .int .u32 m] (.bool true) := by
  have h := ac_path mixed (ext := lkX) (fuel := 9) (n := 6) (g := 6) (args := [stT s, .int .u32 n, .int .u32 m]) (r := .bool (g != 0)) (orc := [vD true, vD true, .int .i64 n, .tuple #[stT a, rowI k, .int .i64 e], .int .i64 m, .tuple #[stT b, rowI l, .int .i64 f], .int .i64 n, .int .i64 m, .tuple #[stT c, rowI r, .int .i64 g], .bool true]) (an ac_awakeK <| an (hF ▸ ac_rfew s) <| an (ask_u32 n hn.1 hn.2 (.tmp 24)) <| an h1 <| an (ask_u32 m hm.1 hm.2 (.tmp 32)) <| an h2 <| an (ask_u32 n hn.1 hn.2 (.tmp 40)) <| an (ask_u32 m hm.1 hm.2 (.tmp 42)) <| an (show In64 (n + m) by constructor <;> omega) <| an h3 <| an he trivial) (by kernel_rfl)
  rwa [hg] at h
set_option maxRecDepth 100000 in
theorem tk4_f (he : (e != 0) = false) (hf : (f != 0) = true) (hg : (g != 0) = true) : AC Tryz.prog 6 [stT s, .int .u32 n, .int .u32 m] (.bool true) := by
  have h := ac_path mixed (ext := lkX) (fuel := 9) (n := 6) (g := 6) (args := [stT s, .int .u32 n, .int .u32 m]) (r := .bool (g != 0)) (orc := [vD true, vD true, .int .i64 n, .tuple #[stT a, rowI k, .int .i64 e], .int .i64 m, .tuple #[stT b, rowI l, .int .i64 f], .int .i64 n, .int .i64 m, .tuple #[stT c, rowI r, .int .i64 g], .bool false, .bool true]) (an ac_awakeK <| an (hF ▸ ac_rfew s) <| an (ask_u32 n hn.1 hn.2 (.tmp 24)) <| an h1 <| an (ask_u32 m hm.1 hm.2 (.tmp 32)) <| an h2 <| an (ask_u32 n hn.1 hn.2 (.tmp 40)) <| an (ask_u32 m hm.1 hm.2 (.tmp 42)) <| an (show In64 (n + m) by constructor <;> omega) <| an h3 <| an he <| an hf trivial) (by kernel_rfl)
  rwa [hg] at h
end
set_option maxRecDepth 100000 in
theorem tk4_ok {s a b : St} {n m e f g : Int} {k l r : List Int} (hF : fewB s = true) (hn : 0 ≤ n ∧ n ≤ 4294967295) (hm : 0 ≤ m ∧ m ≤ 4294967295) (h1 : AC Tryz.prog 11 [stT s, .int .i64 n] (.tuple #[stT a, rowI k, .int .i64 e])) (h2 : AC Tryz.prog 11 [stT a, .int .i64 m] (.tuple #[stT b, rowI l, .int .i64 f])) (h3 : AC Tryz.prog 11 [stT s, .int .i64 (n + m)] (.tuple #[stT b, rowI r, .int .i64 g])) (he : (e != 0) = false) (hf : (f != 0) = false) (hg : (g == 0) = true) (h4 : AC Tryz.prog 17 [stT b, stT b] (.bool true)) (hr : r = k ++ l) (hl : k.length + l.length ≤ 1000) : AC Tryz.prog 6 [stT s, .int .u32 n, .int .u32 m] (.bool true) :=
  ac_path mixed (ext := lkX) (fuel := 9) (n := 6) (orc := [vD true, vD true, .int .i64 n, .tuple #[stT a, rowI k, .int .i64 e], .int .i64 m, .tuple #[stT b, rowI l, .int .i64 f], .int .i64 n, .int .i64 m, .tuple #[stT b, rowI r, .int .i64 g], .bool false, .bool false, .bool true, vD true, rowI k, rowI r, vD true])
    (an ac_awakeK <| an (hF ▸ ac_rfew s) <| an (ask_u32 n hn.1 hn.2 (.tmp 24)) <| an h1 <| an (ask_u32 m hm.1 hm.2 (.tmp 32)) <| an h2 <| an (ask_u32 n hn.1 hn.2 (.tmp 40)) <| an (ask_u32 m hm.1 hm.2 (.tmp 42)) <| an (show In64 (n + m) by constructor <;> omega) <| an h3 <| an he <| an hf <| an hg <| an h4 <| an (allK_I k) <| an (rfl : (0 : Nat) = 0) <| an (app_e (f := (Value.int .i64 ·)) (l := k) (by omega)) <| an (allK_I l) <| an (lenIs k) <| an (app_is (f := (Value.int .i64 ·)) (l := k) (m := l) (r := r) hr (by omega)) <| an (len_map (f := (Value.int .i64 ·)) r) <| an (ac_rints r (by rw [hr]; simp; omega)) trivial) (by kernel_rfl)
set_option maxRecDepth 100000 in
theorem ac_tickParts {s : St} {n m : Int} (ho : s.ok) (hn : 0 ≤ n ∧ n ≤ 4294967295) (hm : 0 ≤ m ∧ m ≤ 4294967295) : AC Tryz.prog 6 [stT s, .int .u32 n, .int .u32 m] (.bool true) := by
  cases hF : fewB s
  · exact ac_path mixed (ext := lkX) (fuel := 9) (n := 6) (orc := [vD true, vD false]) (an ac_awakeK <| an (hF ▸ ac_rfew s) trivial) (by kernel_rfl)
  · have h := lk_few hF ho
    have h1 := ac_ptick (n := n) h (by constructor <;> omega)
    have h2 := ac_ptick (n := m) (h.tick n) (by constructor <;> omega)
    have h3 := ac_ptick (n := n + m) h (by constructor <;> omega)
    by_cases he : tickE s n = 0
    · by_cases hf : tickE (tickS s n) m = 0
      · obtain ⟨g, e1, e2⟩ := tick_two hn.1 hm.1 he hf
        rw [e1] at h2
        have := tickI_len h n
        have := tickI_len (h.tick n) m
        exact tk4_ok hF hn hm h1 h2 h3 (by simp [he]) (by simp [hf]) (by simp [g]) (h.tick _).same e2.symm (by omega)
      · have g := tick_two_no hn.1 hm.1 (.inr hf)
        exact tk4_f hF hn hm h1 h2 h3 (by simp [he]) (by simp [hf]) (by simp [g])
    · have g := tick_two_no hn.1 hm.1 (.inl he)
      exact tk4_e hF hn hm h1 h2 h3 (by simp [he]) (by simp [g])
theorem tickParts_walk (s : St) (sz : Pz) (hs : s.ok) (n : Int) (hn : 0 ≤ n ∧ n ≤ 4294967295) (m : Int) (hm : 0 ≤ m ∧ m ≤ 4294967295) (w : World) (hss : StAt w s sz) :
    Calls Tryz.prog 6 #[.agg (s.cells sz).toArray, .int .u32 n, .int .u32 m] w fun e w' => e = .returned (.bool true) ∧ Kept w w' := by
  refine law_of (ac_tickParts (s := s) (n := n) (m := m) hs hn hm) (cells_at.2 ?_)
  exact ⟨_, _, rfl, st_free hss, _, _, rfl, rp_int.2 rfl, _, _, rfl, rp_int.2 rfl, rfl⟩
set_option maxRecDepth 100000 in
theorem tickParts_lifted (os : Os) (started : os.Started) (H : Type) (enc : TypeId × Value → H) :
    ReturnsInHanded {} Tryz.checked os 6 .any (Rows.tickPartsSpec.pre6 enc Tryz.prog Tryz.f6 Rows.tickPartsRow.domain false) (Rows.tickPartsSpec.post enc Tryz.prog Tryz.f6 false true false false) := by
  refine returnsInHanded_of_change (C := Tryz.checked) own started (by kernel_rfl) Tryz.func6
    (ChangeSpec.witness6 (enc := enc) (C := Tryz.checked) false ⟨#[], #[.agg St.zero.toArray, .int .u32 0, .int .u32 0], []⟩ 8 (by kernel_rfl) (by kernel_rfl) (by kernel_rfl) (by kernel_rfl)) ?_
  intro W base args ds gs before hval0 hW hcnd _
  have hval : ∀ (j : Nat) t v, Tryz.f6.params[j]? = some t → args[j]? = some v → Value.okWide Tryz.prog W .any base t v := hval0
  have hW' := hW
  obtain ⟨p, q, hA0, hV, rfl, hfz, hnd⟩ := hW
  have hA : DataW.TrodAll enc Tryz.prog W 0 (fun _ => true) true Tryz.f6.params.toList args.toList ds p := hA0
  rw [Tryz.params6] at hA hval
  obtain ⟨v0, vs0, d0, ds0, p0, q0, hargs, rfl, rfl, h0, r0⟩ := trodAll_cons hA
  obtain ⟨v1, vs1, d1, ds1, p1, q1, rfl, rfl, rfl, h1, r1⟩ := trodAll_cons r0
  obtain ⟨v2, vs2, d2, ds2, p2, q2, rfl, rfl, rfl, h2, r2⟩ := trodAll_cons r1
  obtain ⟨rfl, rfl, rfl⟩ := trodAll_nil r2
  obtain rfl : args = #[v0, v1, v2] := by cases args; simp_all
  obtain ⟨rfl, rfl⟩ := trodVars_none hV
  obtain ⟨scs, rfl, srd⟩ := open_struct (g := 9) (l := St.shape) Tryz.underlying33 (by kernel_rfl) (hval 0 33 v0 rfl rfl) h0
  obtain ⟨s, sz, rfl, ssl, sok⟩ := St.of_read srd
  obtain ⟨n, rfl, rfl, rfl, wf1⟩ := open_int Tryz.underlying52 (hval 1 52 v1 rfl rfl) h1
  obtain ⟨m, rfl, rfl, rfl, wf2⟩ := open_int Tryz.underlying52 (hval 2 52 v2 rfl rfl) h2
  clear hA0 hval0
  refine (tickParts_walk s sz sok n (bounds_u32 wf1) m (bounds_u32 wf2) W ssl).mono fun e W' ⟨he, hg⟩ => ?_
  subst he
  exact ⟨_, rfl, law_post laid hW' rfl (by kernel_rfl) rfl Tryz.underlying4 rfl hg⟩

/-- The statement, whole. -/
theorem tickParts_holds : Rows.TickPartsSaid :=
  OpenClaim.holds_of_wide 6 Tryz.f6 rfl rfl rfl rfl rfl rfl rfl ⟨rfl, rfl, rfl, rfl, rfl⟩ rfl rfl rfl rfl rfl (by kernel_rfl) Tryz.func6 (by kernel_rfl)
    (of_decide_eq_true (by kernel_rfl)) (by unfold Func.isWrapper; rw [if_neg (of_decide_eq_false (by kernel_rfl))]; exact ⟨rfl, rfl⟩)
    (fun os started H enc _ => tickParts_lifted os started H enc)
end Go.Proofs.YtfhjllchbgclaaaGreat
