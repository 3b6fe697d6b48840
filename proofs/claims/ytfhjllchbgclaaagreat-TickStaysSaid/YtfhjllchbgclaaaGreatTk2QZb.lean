/- What may be stays so, time goes by as long as was said, and nothing changes but who is late, and waits: true of every state and time. -/
import Derived.Test.YtfhjllchbgclaaaGreatZb14
namespace Go.Proofs.YtfhjllchbgclaaaGreat
set_option linter.unusedVariables false
set_option linter.unusedSimpArgs false
open Go.ChangeShapes Go.WideShapes Go.ChangeAt Go.RowKit
set_option maxRecDepth 100000 in
theorem tk2_cfg {s : St} {n : Int} (hF : fewB s = true) (h1 : AC Tryz.prog 11 [stT s, .int .i64 n] (.tuple #[stT s, rowI [], .int .i64 20])) (h2 : AC Tryz.prog 17 [stT s, stT s] (.bool true)) (h3 : AC Tryz.prog 22 [stT s] (.bool false)) : AC Tryz.prog 4 [stT s, .int .i64 n] (.bool true) :=
  ac_path mixed (ext := lkX) (fuel := 9) (n := 6) (orc := [vD true, vD true, .tuple #[stT s, rowI [], .int .i64 20], .nilFunc, vD true, .nilFunc, vD false, .bool true]) (an ac_awakeK <| an (hF ▸ ac_rfew s) <| an h1 <| an h2 <| an h3 <| an (ask_bb (a := true) (b := true) rfl (.tmp 37) (.tmp 40)) trivial) (by kernel_rfl)
set_option maxRecDepth 100000 in
theorem tk2_time {s : St} {n : Int} (hF : fewB s = true) (h1 : AC Tryz.prog 11 [stT s, .int .i64 n] (.tuple #[stT s, rowI [], .int .i64 50])) (h2 : AC Tryz.prog 17 [stT s, stT s] (.bool true)) (h3 : AC Tryz.prog 22 [stT s] (.bool true)) : AC Tryz.prog 4 [stT s, .int .i64 n] (.bool true) :=
  ac_path mixed (ext := lkX) (fuel := 9) (n := 6) (orc := [vD true, vD true, .tuple #[stT s, rowI [], .int .i64 50], .nilFunc, vD true, .nilFunc, vD true, .bool true]) (an ac_awakeK <| an (hF ▸ ac_rfew s) <| an h1 <| an h2 <| an h3 <| an (ask_bb (a := false) (b := false) rfl (.tmp 37) (.tmp 40)) trivial) (by kernel_rfl)
def bkS (a s : St) : St := ⟨a.cf, a.hd, a.tl, a.md, a.sl, a.sn, a.rc, s.fe, s.fl, s.ee, s.el, s.nw, s.th, a.lg⟩
set_option maxRecDepth 100000 in
theorem tk2_ok {s a : St} {n : Int} {l : List Int} (hF : fewB s = true) (h1 : AC Tryz.prog 11 [stT s, .int .i64 n] (.tuple #[stT a, rowI l, .int .i64 0])) (h2 : AC Tryz.prog 22 [stT a] (.bool true)) (h3 : In64 (s.nw + n)) (h4 : a.nw = s.nw + n) (h5 : AC Tryz.prog 17 [stT (bkS a s), stT s] (.bool true)) (h6 : a.th.length = s.th.length) : AC Tryz.prog 4 [stT s, .int .i64 n] (.bool true) := by
  have h := ac_path mixed (ext := lkX) (fuel := 9) (n := 6) (g := 4) (args := [stT s, .int .i64 n]) (r := .bool ((a.th.length : Int) == s.th.length)) (orc := [vD true, vD true, .tuple #[stT a, rowI l, .int .i64 0], .nilFunc, vD true, .bool true, vD true]) (an ac_awakeK <| an (hF ▸ ac_rfew s) <| an h1 <| an h2 <| an h3 <| an (show (a.nw == s.nw + n) = true by rw [h4]; exact beq_self_eq_true _) <| an h5 trivial) (by kernel_rfl)
  rwa [show ((a.th.length : Int) == s.th.length) = true by rw [h6]; exact beq_self_eq_true _] at h
theorem tickE_or (s : St) (n : Int) : (stB s = false ∧ tickE s n = 20) ∨ (stB s = true ∧ tickE s n = 50) ∨ tickE s n = 0 := by
  unfold tickE
  cases hB : stB s
  · exact .inl ⟨rfl, by simp⟩
  · by_cases h : n < 0 ∨ 1099511627776 - s.nw < n
    · exact .inr (.inl ⟨rfl, by rw [if_neg (by simp), if_pos h]⟩)
    · exact .inr (.inr (by rw [if_neg (by simp), if_neg h]))
set_option maxRecDepth 100000 in
theorem ac_tickStays {s : St} {n : Int} (ho : s.ok) (hn : In64 n) : AC Tryz.prog 4 [stT s, .int .i64 n] (.bool true) := by
  cases hF : fewB s
  · exact ac_path mixed (ext := lkX) (fuel := 9) (n := 6) (orc := [vD true, vD false]) (an ac_awakeK <| an (hF ▸ ac_rfew s) trivial) (by kernel_rfl)
  · have h := lk_few hF ho
    have h1 := ac_ptick h hn
    rcases tickE_or s n with ⟨hB, e⟩ | ⟨hB, e⟩ | e
    · obtain ⟨a, b⟩ := tick_no (s := s) (n := n) (by omega)
      rw [a, b, e] at h1
      exact tk2_cfg hF h1 h.same (ac_pcheck hB ho)
    · obtain ⟨a, b⟩ := tick_no (s := s) (n := n) (by omega)
      rw [a, b, e] at h1
      exact tk2_time hF h1 h.same (ac_pcheck hB ho)
    · obtain ⟨hB, c0, c1⟩ := tickE_ok e
      have hb := nw_bd hB
      have hk := h.tick n
      have hs := h.same
      rw [e] at h1
      refine tk2_ok hF h1 (ac_pcheck ((tick_stB s n).trans hB) hk.ok) (by constructor <;> omega) (tick_rest e).2.2.2.2.2.2.2.1 ?_ (tick_len s n)
      rw [show bkS (tickS s n) s = s from tick_back e]
      exact hs
theorem tickStays_walk (s : St) (sz : Pz) (hs : s.ok) (n : Int) (hn : In64 n) (w : World) (hss : StAt w s sz) :
    Calls Tryz.prog 4 #[.agg (s.cells sz).toArray, .int .i64 n] w fun e w' => e = .returned (.bool true) ∧ Kept w w' := by
  refine law_of (ac_tickStays (s := s) (n := n) hs hn) (cells_at.2 ?_)
  exact ⟨_, _, rfl, st_free hss, _, _, rfl, rp_int.2 rfl, rfl⟩
set_option maxRecDepth 100000 in
theorem tickStays_lifted (os : Os) (started : os.Started) (H : Type) (enc : TypeId × Value → H) :
    ReturnsInHanded {} Tryz.checked os 4 .any (Rows.tickStaysSpec.pre6 enc Tryz.prog Tryz.f4 Rows.tickStaysRow.domain false) (Rows.tickStaysSpec.post enc Tryz.prog Tryz.f4 false true false false) := by
  refine returnsInHanded_of_change (C := Tryz.checked) own started (by kernel_rfl) Tryz.func4
    (ChangeSpec.witness6 (enc := enc) (C := Tryz.checked) false ⟨#[], #[.agg St.zero.toArray, .int .i64 0], []⟩ 8 (by kernel_rfl) (by kernel_rfl) (by kernel_rfl) (by kernel_rfl)) ?_
  intro W base args ds gs before hval0 hW hcnd _
  have hval : ∀ (j : Nat) t v, Tryz.f4.params[j]? = some t → args[j]? = some v → Value.okWide Tryz.prog W .any base t v := hval0
  have hW' := hW
  obtain ⟨p, q, hA0, hV, rfl, hfz, hnd⟩ := hW
  have hA : DataW.TrodAll enc Tryz.prog W 0 (fun _ => true) true Tryz.f4.params.toList args.toList ds p := hA0
  rw [Tryz.params4] at hA hval
  obtain ⟨v0, vs0, d0, ds0, p0, q0, hargs, rfl, rfl, h0, r0⟩ := trodAll_cons hA
  obtain ⟨v1, vs1, d1, ds1, p1, q1, rfl, rfl, rfl, h1, r1⟩ := trodAll_cons r0
  obtain ⟨rfl, rfl, rfl⟩ := trodAll_nil r1
  obtain rfl : args = #[v0, v1] := by cases args; simp_all
  obtain ⟨rfl, rfl⟩ := trodVars_none hV
  obtain ⟨scs, rfl, srd⟩ := open_struct (g := 9) (l := St.shape) Tryz.underlying33 (by kernel_rfl) (hval 0 33 v0 rfl rfl) h0
  obtain ⟨s, sz, rfl, ssl, sok⟩ := St.of_read srd
  obtain ⟨n, rfl, rfl, rfl, wf1⟩ := open_int Tryz.underlying3 (hval 1 3 v1 rfl rfl) h1
  clear hA0 hval0
  refine (tickStays_walk s sz sok n (in64_of_wf wf1) W ssl).mono fun e W' ⟨he, hg⟩ => ?_
  subst he
  exact ⟨_, rfl, law_post laid hW' rfl (by kernel_rfl) rfl Tryz.underlying4 rfl hg⟩

/-- The statement, whole. -/
theorem tickStays_holds : Rows.TickStaysSaid :=
  OpenClaim.holds_of_wide 4 Tryz.f4 rfl rfl rfl rfl rfl rfl rfl ⟨rfl, rfl, rfl, rfl, rfl⟩ rfl rfl rfl rfl rfl (by kernel_rfl) Tryz.func4 (by kernel_rfl)
    (of_decide_eq_true (by kernel_rfl)) (by unfold Func.isWrapper; rw [if_neg (of_decide_eq_false (by kernel_rfl))]; exact ⟨rfl, rfl⟩)
    (fun os started H enc _ => tickStays_lifted os started H enc)
end Go.Proofs.YtfhjllchbgclaaaGreat
