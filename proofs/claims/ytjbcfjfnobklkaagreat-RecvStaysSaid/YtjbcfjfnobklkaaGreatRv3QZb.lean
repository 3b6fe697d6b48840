/- What may be stays so, whatever step of who receives there is, and some: true of every state, thread and number of steps. -/
import Derived.Test.YtjbcfjfnobklkaaGreatZb11
import Derived.Test.YtjbcfjfnobklkaaGreatZb13
namespace Go.Proofs.YtjbcfjfnobklkaaGreat
set_option linter.unusedVariables false
set_option linter.unusedSimpArgs false
open Go.ChangeShapes Go.WideShapes Go.ChangeAt Go.RowKit
section
variable {s u v : St} {i m : Int} {k : Nat} (hF : fewB s = true) (hm : decide (30 < m) = false) (h1 : AC Tryz.prog 15 [stT s, .int .i64 i] (stT u)) (h2 : AC Tryz.prog 12 [stT s, .int .i64 i, .int .i64 m] (.tuple #[stT v, .int .i64 k])) (hk : decide ((k : Int) ≤ max m 0) = true)
include hF hm h1 h2 hk
set_option maxRecDepth 100000 in
theorem stays_1 (h3 : AC Tryz.prog 21 [stT s] (.bool true)) (h4 : AC Tryz.prog 21 [stT u] (.bool true)) (h5 : AC Tryz.prog 21 [stT v] (.bool true)) (hp : decide (0 < (k : Int)) = true) : AC Tryz.prog 5 [stT s, .int .i64 i, .int .i64 m] (.bool true) :=
  ac_path mixed (ext := [10, 11, 12, 15, 21, 14]) (fuel := 9) (n := 4) (orc := [vD true, vD true, .bool false, stT u, .tuple #[stT v, .int .i64 k], vD true, vD true, .bool true, .nilFunc, vD true, .bool true, .nilFunc, .bool true, .bool true, .bool true]) (an ac_awakeR <| an (hF ▸ ac_rfew s) <| an hm <| an h1 <| an h2 <| an h3 <| an h4 <| an (ask_bb (a := true) (b := true) rfl (.tmp 36) (.tmp 37)) <| an h5 <| an (ask_bb (a := true) (b := true) rfl (.tmp 42) (.tmp 43)) <| an (show decide ((0 : Int) ≤ k) = true by simp) <| an hk <| an hp trivial) (by kernel_rfl)
set_option maxRecDepth 100000 in
theorem stays_2 (h3 : AC Tryz.prog 21 [stT s] (.bool true)) (h4 : AC Tryz.prog 21 [stT u] (.bool true)) (h5 : AC Tryz.prog 21 [stT v] (.bool true)) (hp : decide (0 < (k : Int)) = false) (h6 : AC Tryz.prog 14 [stT v, stT s] (.bool true)) : AC Tryz.prog 5 [stT s, .int .i64 i, .int .i64 m] (.bool true) :=
  ac_path mixed (ext := [10, 11, 12, 15, 21, 14]) (fuel := 9) (n := 4) (orc := [vD true, vD true, .bool false, stT u, .tuple #[stT v, .int .i64 k], vD true, vD true, .bool true, .nilFunc, vD true, .bool true, .nilFunc, .bool true, .bool true, .bool false, vD true]) (an ac_awakeR <| an (hF ▸ ac_rfew s) <| an hm <| an h1 <| an h2 <| an h3 <| an h4 <| an (ask_bb (a := true) (b := true) rfl (.tmp 36) (.tmp 37)) <| an h5 <| an (ask_bb (a := true) (b := true) rfl (.tmp 42) (.tmp 43)) <| an (show decide ((0 : Int) ≤ k) = true by simp) <| an hk <| an hp <| an h6 trivial) (by kernel_rfl)
set_option maxRecDepth 100000 in
theorem stays_3 (h3 : AC Tryz.prog 21 [stT s] (.bool false)) (h4 : AC Tryz.prog 21 [stT u] (.bool false)) (h5 : AC Tryz.prog 21 [stT v] (.bool false)) (hp : decide (0 < (k : Int)) = false) (h6 : AC Tryz.prog 14 [stT v, stT s] (.bool true)) (h7 : AC Tryz.prog 14 [stT u, stT s] (.bool true)) : AC Tryz.prog 5 [stT s, .int .i64 i, .int .i64 m] (.bool true) :=
  ac_path mixed (ext := [10, 11, 12, 15, 21, 14]) (fuel := 9) (n := 4) (orc := [vD true, vD true, .bool false, stT u, .tuple #[stT v, .int .i64 k], vD false, vD false, .bool true, .nilFunc, vD false, .bool true, .nilFunc, .bool true, .bool true, .bool false, vD true, vD true]) (an ac_awakeR <| an (hF ▸ ac_rfew s) <| an hm <| an h1 <| an h2 <| an h3 <| an h4 <| an (ask_bb (a := false) (b := false) rfl (.tmp 36) (.tmp 37)) <| an h5 <| an (ask_bb (a := false) (b := false) rfl (.tmp 42) (.tmp 43)) <| an (show decide ((0 : Int) ≤ k) = true by simp) <| an hk <| an hp <| an h6 <| an h7 trivial) (by kernel_rfl)
end
set_option maxRecDepth 100000 in
theorem ac_recvStays {s : St} {i m : Int} (ho : s.ok) : AC Tryz.prog 5 [stT s, .int .i64 i, .int .i64 m] (.bool true) := by
  cases hF : fewB s
  · exact ac_path mixed (ext := [10, 11]) (fuel := 9) (n := 6) (orc := [vD true, vD false]) (an ac_awakeR <| an (hF ▸ ac_rfew s) trivial) (by kernel_rfl)
  · cases hm : decide (30 < m)
    · obtain ⟨f1, f2, f3⟩ := few_is hF
      have hm' : m ≤ 30 := by simpa using hm
      have h1 := ac_vstep (i := i) ho f2 (by omega)
      have h2 := ac_vst (i := i) (m := m) ho f2 (by omega)
      have hle := recvK_le i (min m 1000).toNat s
      have hk : decide (((recvK s i (min m 1000).toNat).2 : Int) ≤ max m 0) = true := by simp; omega
      cases hB : stB s
      · have e1 : recvS s i = s := recvS_no hB i
        have e2 : recvK s i (min m 1000).toNat = (s, 0) := recvK_no hB _
        rw [e1] at h1
        rw [e2] at h2 hk
        have hc := ac_pcheck hB ho
        have hs := ac_rsame (s := s) f1 (by omega)
        exact stays_3 hF hm h1 h2 hk hc hc hc (by simp) hs hs
      · obtain ⟨a1, a2⟩ := recvS_all hB ho (by omega) i
        obtain ⟨b1, b2, b3⟩ := recvK_all (i := i) (min m 1000).toNat hB ho (by omega)
        have c3 := ac_pcheck hB ho
        have c4 := ac_pcheck (s := recvS s i) ((recvS_stB s i).trans hB) a1
        have c5 := ac_pcheck (s := (recvK s i (min m 1000).toNat).1) ((recvK_stB i _ s).trans hB) b1
        by_cases h0 : (recvK s i (min m 1000).toNat).2 = 0
        · refine stays_2 hF hm h1 h2 hk c3 c4 c5 (by simp [h0]) ?_
          rw [recvK_none h0]
          exact ac_rsame (s := s) f1 (by omega)
        · exact stays_1 hF hm h1 h2 hk c3 c4 c5 (by simp; omega)
    · exact ac_path mixed (ext := [10, 11]) (fuel := 9) (n := 6) (orc := [vD true, vD true, .bool true]) (an ac_awakeR <| an (hF ▸ ac_rfew s) <| an hm trivial) (by kernel_rfl)
theorem recvStays_walk (s : St) (sz : Pz) (hs : s.ok) (id : Int) (hid : In64 id) (many : Int) (hmany : In64 many) (w : World) (hss : StAt w s sz) :
    Calls Tryz.prog 5 #[.agg (s.cells sz).toArray, .int .i64 id, .int .i64 many] w fun e w' => e = .returned (.bool true) ∧ Kept w w' := by
  refine law_of (ac_recvStays (s := s) (i := id) (m := many) hs) (cells_at.2 ?_)
  exact ⟨_, _, rfl, st_free hss, _, _, rfl, rp_int.2 rfl, _, _, rfl, rp_int.2 rfl, rfl⟩
set_option maxRecDepth 100000 in
theorem recvStays_lifted (os : Os) (started : os.Started) (H : Type) (enc : TypeId × Value → H) :
    ReturnsInHanded {} Tryz.checked os 5 .any (Rows.recvStaysSpec.pre6 enc Tryz.prog Tryz.f5 Rows.recvStaysRow.domain false) (Rows.recvStaysSpec.post enc Tryz.prog Tryz.f5 false true false false) := by
  refine returnsInHanded_of_change (C := Tryz.checked) own started (by kernel_rfl) Tryz.func5
    (ChangeSpec.witness6 (enc := enc) (C := Tryz.checked) false ⟨#[], #[.agg St.zero.toArray, .int .i64 0, .int .i64 0], []⟩ 8 (by kernel_rfl) (by kernel_rfl) (by kernel_rfl) (by kernel_rfl)) ?_
  intro W base args ds gs before hval0 hW hcnd _
  have hval : ∀ (j : Nat) t v, Tryz.f5.params[j]? = some t → args[j]? = some v → Value.okWide Tryz.prog W .any base t v := hval0
  have hW' := hW
  obtain ⟨p, q, hA0, hV, rfl, hfz, hnd⟩ := hW
  have hA : DataW.TrodAll enc Tryz.prog W 0 (fun _ => true) true Tryz.f5.params.toList args.toList ds p := hA0
  rw [Tryz.params5] at hA hval
  obtain ⟨v0, vs0, d0, ds0, p0, q0, hargs, rfl, rfl, h0, r0⟩ := trodAll_cons hA
  obtain ⟨v1, vs1, d1, ds1, p1, q1, rfl, rfl, rfl, h1, r1⟩ := trodAll_cons r0
  obtain ⟨v2, vs2, d2, ds2, p2, q2, rfl, rfl, rfl, h2, r2⟩ := trodAll_cons r1
  obtain ⟨rfl, rfl, rfl⟩ := trodAll_nil r2
  obtain rfl : args = #[v0, v1, v2] := by cases args; simp_all
  obtain ⟨rfl, rfl⟩ := trodVars_none hV
  obtain ⟨scs, rfl, srd⟩ := open_struct (g := 9) (l := St.shape) Tryz.underlying33 (by kernel_rfl) (hval 0 33 v0 rfl rfl) h0
  obtain ⟨s, sz, rfl, ssl, sok⟩ := St.of_read srd
  obtain ⟨id, rfl, rfl, rfl, wf1⟩ := open_int Tryz.underlying3 (hval 1 3 v1 rfl rfl) h1
  obtain ⟨many, rfl, rfl, rfl, wf2⟩ := open_int Tryz.underlying3 (hval 2 3 v2 rfl rfl) h2
  clear hA0 hval0
  refine (recvStays_walk s sz sok id (in64_of_wf wf1) many (in64_of_wf wf2) W ssl).mono fun e W' ⟨he, hg⟩ => ?_
  subst he
  exact ⟨_, rfl, law_post laid hW' rfl (by kernel_rfl) rfl Tryz.underlying4 rfl hg⟩

/-- The statement, whole. -/
theorem recvStays_holds : Rows.RecvStaysSaid :=
  OpenClaim.holds_of_wide 5 Tryz.f5 rfl rfl rfl rfl rfl rfl rfl ⟨rfl, rfl, rfl, rfl, rfl⟩ rfl rfl rfl rfl rfl (by kernel_rfl) Tryz.func5 (by kernel_rfl)
    (of_decide_eq_true (by kernel_rfl)) (by unfold Func.isWrapper; rw [if_neg (of_decide_eq_false (by kernel_rfl))]; exact ⟨rfl, rfl⟩)
    (fun os started H enc _ => recvStays_lifted os started H enc)
end Go.Proofs.YtjbcfjfnobklkaaGreat
