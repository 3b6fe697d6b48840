/- Any step of who receives, some, whether one stands in line, and how far it is to a notice, are what the document says: true of every state, thread, number of steps and step. -/
import Derived.Test.YtjbcfjfnobklkaaGreatZa13
namespace Go.Proofs.YtjbcfjfnobklkaaGreat
set_option linter.unusedVariables false
set_option linter.unusedSimpArgs false
open Go.ChangeShapes Go.WideShapes Go.ChangeAt Go.RowKit
set_option maxRecDepth 100000 in
theorem ac_recvTells {s : St} {i m pc : Int} (ho : s.ok) : AC Tryz.prog 3 [stT s, .int .i64 i, .int .i64 m, .int .i64 pc] (.bool true) := by
  cases hF : fewB s
  · exact ac_path mixed (ext := [10, 11]) (fuel := 9) (n := 6) (orc := [vD true, vD false]) (an ac_awakeR <| an (hF ▸ ac_rfew s) trivial) (by kernel_rfl)
  · cases hm : decide (30 < m)
    · obtain ⟨h1, h2, h3⟩ := few_is hF
      have hm' : m ≤ 30 := by simpa using hm
      have hk : (min m 1000).toNat ≤ 30 := by omega
      have hu : AC Tryz.prog 14 [stT (recvK s i (min m 1000).toNat).1, stT (recvK s i (min m 1000).toNat).1] (.bool true) := by
        cases hB : stB s
        · rw [recvK_no hB]; exact ac_rsame (s := s) h1 (by omega)
        · obtain ⟨h4, h5⟩ := recvK_few (i := i) (min m 1000).toNat hB (by omega)
          exact ac_rsame h4 h5
      have hv : AC Tryz.prog 14 [stT (recvS s i), stT (recvS s i)] (.bool true) := by
        cases hB : stB s
        · rw [← recvK_1, recvK_no hB]; exact ac_rsame (s := s) h1 (by omega)
        · obtain ⟨h4, h5⟩ := recvK_few (i := i) 1 hB (by omega)
          rw [← recvK_1]
          exact ac_rsame h4 h5
      exact rtells_yes hF hm (ac_vst ho h2 (by omega)) (ac_rrsteps ho h1 (by omega)) (ac_vstep ho h2 (by omega)) (ac_rrstep ho h1) hv hu
    · exact ac_path mixed (ext := [10, 11]) (fuel := 9) (n := 6) (orc := [vD true, vD true, .bool true]) (an ac_awakeR <| an (hF ▸ ac_rfew s) <| an hm trivial) (by kernel_rfl)
theorem recvTells_walk (s : St) (sz : Pz) (hs : s.ok) (id : Int) (hid : In64 id) (many : Int) (hmany : In64 many) (pc : Int) (hpc : In64 pc) (w : World) (hss : StAt w s sz) :
    Calls Tryz.prog 3 #[.agg (s.cells sz).toArray, .int .i64 id, .int .i64 many, .int .i64 pc] w fun e w' => e = .returned (.bool true) ∧ Kept w w' := by
  refine law_of (ac_recvTells (s := s) (i := id) (m := many) (pc := pc) hs) (cells_at.2 ?_)
  exact ⟨_, _, rfl, st_free hss, _, _, rfl, rp_int.2 rfl, _, _, rfl, rp_int.2 rfl, _, _, rfl, rp_int.2 rfl, rfl⟩
set_option maxRecDepth 100000 in
theorem recvTells_lifted (os : Os) (started : os.Started) (H : Type) (enc : TypeId × Value → H) :
    ReturnsInHanded {} Tryz.checked os 3 .any (Rows.recvTellsSpec.pre6 enc Tryz.prog Tryz.f3 Rows.recvTellsRow.domain false) (Rows.recvTellsSpec.post enc Tryz.prog Tryz.f3 false true false false) := by
  refine returnsInHanded_of_change (C := Tryz.checked) own started (by kernel_rfl) Tryz.func3
    (ChangeSpec.witness6 (enc := enc) (C := Tryz.checked) false ⟨#[], #[.agg St.zero.toArray, .int .i64 0, .int .i64 0, .int .i64 0], []⟩ 8 (by kernel_rfl) (by kernel_rfl) (by kernel_rfl) (by kernel_rfl)) ?_
  intro W base args ds gs before hval0 hW hcnd _
  have hval : ∀ (j : Nat) t v, Tryz.f3.params[j]? = some t → args[j]? = some v → Value.okWide Tryz.prog W .any base t v := hval0
  have hW' := hW
  obtain ⟨p, q, hA0, hV, rfl, hfz, hnd⟩ := hW
  have hA : DataW.TrodAll enc Tryz.prog W 0 (fun _ => true) true Tryz.f3.params.toList args.toList ds p := hA0
  rw [Tryz.params3] at hA hval
  obtain ⟨v0, vs0, d0, ds0, p0, q0, hargs, rfl, rfl, h0, r0⟩ := trodAll_cons hA
  obtain ⟨v1, vs1, d1, ds1, p1, q1, rfl, rfl, rfl, h1, r1⟩ := trodAll_cons r0
  obtain ⟨v2, vs2, d2, ds2, p2, q2, rfl, rfl, rfl, h2, r2⟩ := trodAll_cons r1
  obtain ⟨v3, vs3, d3, ds3, p3, q3, rfl, rfl, rfl, h3, r3⟩ := trodAll_cons r2
  obtain ⟨rfl, rfl, rfl⟩ := trodAll_nil r3
  obtain rfl : args = #[v0, v1, v2, v3] := by cases args; simp_all
  obtain ⟨rfl, rfl⟩ := trodVars_none hV
  obtain ⟨scs, rfl, srd⟩ := open_struct (g := 9) (l := St.shape) Tryz.underlying33 (by kernel_rfl) (hval 0 33 v0 rfl rfl) h0
  obtain ⟨s, sz, rfl, ssl, sok⟩ := St.of_read srd
  obtain ⟨id, rfl, rfl, rfl, wf1⟩ := open_int Tryz.underlying3 (hval 1 3 v1 rfl rfl) h1
  obtain ⟨many, rfl, rfl, rfl, wf2⟩ := open_int Tryz.underlying3 (hval 2 3 v2 rfl rfl) h2
  obtain ⟨pc, rfl, rfl, rfl, wf3⟩ := open_int Tryz.underlying3 (hval 3 3 v3 rfl rfl) h3
  clear hA0 hval0
  refine (recvTells_walk s sz sok id (in64_of_wf wf1) many (in64_of_wf wf2) pc (in64_of_wf wf3) W ssl).mono fun e W' ⟨he, hg⟩ => ?_
  subst he
  exact ⟨_, rfl, law_post laid hW' rfl (by kernel_rfl) rfl Tryz.underlying4 rfl hg⟩

/-- The statement, whole. -/
theorem recvTells_holds : Rows.RecvTellsSaid :=
  OpenClaim.holds_of_wide 3 Tryz.f3 rfl rfl rfl rfl rfl rfl rfl ⟨rfl, rfl, rfl, rfl, rfl⟩ rfl rfl rfl rfl rfl (by kernel_rfl) Tryz.func3 (by kernel_rfl)
    (of_decide_eq_true (by kernel_rfl)) (by unfold Func.isWrapper; rw [if_neg (of_decide_eq_false (by kernel_rfl))]; exact ⟨rfl, rfl⟩)
    (fun os started H enc _ => recvTells_lifted os started H enc)
end Go.Proofs.YtjbcfjfnobklkaaGreat
