/- Some steps of who receives are those of the first part, and then of the other one: true of every state, thread and two numbers. -/
import Derived.Test.YtjbcfjfnobklkaaGreatZb11
import Derived.Test.YtjbcfjfnobklkaaGreatZb13
namespace Go.Proofs.YtjbcfjfnobklkaaGreat
set_option linter.unusedVariables false
set_option linter.unusedSimpArgs false
open Go.ChangeShapes Go.WideShapes Go.ChangeAt Go.RowKit
set_option maxRecDepth 100000 in
theorem parts_go {s x y z : St} {i n m : Int} {a b c : Nat} (hn : 0 ≤ n ∧ n ≤ 255) (hm : 0 ≤ m ∧ m ≤ 255) (hF : fewB s = true) (h1 : AC Tryz.prog 12 [stT s, .int .i64 i, .int .i64 (n % 16 + m % 16)] (.tuple #[stT x, .int .i64 a])) (h2 : AC Tryz.prog 12 [stT s, .int .i64 i, .int .i64 (n % 16)] (.tuple #[stT y, .int .i64 b]))
    (h3 : AC Tryz.prog 12 [stT y, .int .i64 i, .int .i64 (m % 16)] (.tuple #[stT z, .int .i64 c])) (h4 : AC Tryz.prog 14 [stT x, stT z] (.bool true)) (hb : b ≤ 100 ∧ c ≤ 100) :
    AC Tryz.prog 9 [stT s, .int .i64 i, .int .u8 n, .int .u8 m] (.bool ((a : Int) == b + c)) :=
  ac_path mixed (ext := [10, 11, 12, 14]) (fuel := 9) (n := 4) (orc := [vD true, vD true, .int .i64 (n % 16), .int .i64 (m % 16), .tuple #[stT x, .int .i64 a], .tuple #[stT y, .int .i64 b], .tuple #[stT z, .int .i64 c], vD true])
    (an ac_awakeR <| an (hF ▸ ac_rfew s) <| an (show 0 ≤ n ∧ (0 : Int) < 16 from ⟨hn.1, by omega⟩) <| an (ask_u8 (n % 16) (by omega) (by omega) (.tmp 24)) <| an (show 0 ≤ m ∧ (0 : Int) < 16 from ⟨hm.1, by omega⟩) <| an (ask_u8 (m % 16) (by omega) (by omega) (.tmp 27)) <|
      an (show In64 (n % 16 + m % 16) by constructor <;> omega) <| an h1 <| an h2 <| an h3 <| an h4 <| an (show In64 ((b : Int) + c) by constructor <;> omega) trivial) (by kernel_rfl)
set_option maxRecDepth 100000 in
theorem ac_recvParts {s : St} {i n m : Int} (hn : 0 ≤ n ∧ n ≤ 255) (hm : 0 ≤ m ∧ m ≤ 255) (ho : s.ok) : AC Tryz.prog 9 [stT s, .int .i64 i, .int .u8 n, .int .u8 m] (.bool true) := by
  cases hF : fewB s
  · exact ac_path mixed (ext := [10, 11]) (fuel := 9) (n := 6) (orc := [vD true, vD false]) (an ac_awakeR <| an (hF ▸ ac_rfew s) trivial) (by kernel_rfl)
  · obtain ⟨h1, h2, h3⟩ := few_is hF
    have e1 := min_nat (a := n % 16 + m % 16) (by omega) (by omega)
    have e2 := min_nat (a := n % 16) (by omega) (by omega)
    have e3 := min_nat (a := m % 16) (by omega) (by omega)
    have ea : (n % 16 + m % 16).toNat = (n % 16).toNat + (m % 16).toNat := by omega
    have hadd := recvK_add i (m % 16).toNat (n % 16).toNat s
    have hS1 := ac_vst (i := i) (m := n % 16 + m % 16) ho h2 (by omega)
    have hS2 := ac_vst (i := i) (m := n % 16) ho h2 (by omega)
    rw [e1, ea] at hS1
    rw [e2] at hS2
    have hl1 := recvK_le i (n % 16).toNat s
    have hl2 := recvK_le i (m % 16).toNat (recvK s i (n % 16).toNat).1
    obtain ⟨hoy, hfy, hly⟩ : (recvK s i (n % 16).toNat).1.ok ∧ (recvK s i (n % 16).toNat).1.fit ∧ (recvK s i (n % 16).toNat).1.lg.length ≤ 800000 := by
      cases hB : stB s
      · rw [recvK_no hB]; exact ⟨ho, h2, by show s.lg.length ≤ 800000; omega⟩
      · obtain ⟨k1, k2, k3⟩ := recvK_all (i := i) (n % 16).toNat hB ho (by omega); exact ⟨k1, k2, by omega⟩
    have hS3 := ac_vst (i := i) (m := m % 16) hoy hfy hly
    rw [e3] at hS3
    have hu : AC Tryz.prog 14 [stT (recvK s i ((n % 16).toNat + (m % 16).toNat)).1, stT (recvK (recvK s i (n % 16).toNat).1 i (m % 16).toNat).1] (.bool true) := by
      have e : (recvK (recvK s i (n % 16).toNat).1 i (m % 16).toNat).1 = (recvK s i ((n % 16).toNat + (m % 16).toNat)).1 := by rw [hadd]
      rw [e]
      cases hB : stB s
      · rw [recvK_no hB]; exact ac_rsame (s := s) h1 (by omega)
      · obtain ⟨h4, h5⟩ := recvK_few (i := i) ((n % 16).toNat + (m % 16).toNat) hB (by omega)
        exact ac_rsame h4 h5
    have := parts_go hn hm hF hS1 hS2 hS3 hu (by omega)
    rw [show (((recvK s i ((n % 16).toNat + (m % 16).toNat)).2 : Int) == ((recvK s i (n % 16).toNat).2 : Int) + ((recvK (recvK s i (n % 16).toNat).1 i (m % 16).toNat).2 : Int)) = true by rw [hadd]; simp] at this
    exact this
theorem recvParts_walk (s : St) (sz : Pz) (hs : s.ok) (id : Int) (hid : In64 id) (n : Int) (hn : 0 ≤ n ∧ n ≤ 255) (m : Int) (hm : 0 ≤ m ∧ m ≤ 255) (w : World) (hss : StAt w s sz) :
    Calls Tryz.prog 9 #[.agg (s.cells sz).toArray, .int .i64 id, .int .u8 n, .int .u8 m] w fun e w' => e = .returned (.bool true) ∧ Kept w w' := by
  refine law_of (ac_recvParts (s := s) (i := id) (n := n) (m := m) hn hm hs) (cells_at.2 ?_)
  exact ⟨_, _, rfl, st_free hss, _, _, rfl, rp_int.2 rfl, _, _, rfl, rp_int.2 rfl, _, _, rfl, rp_int.2 rfl, rfl⟩
set_option maxRecDepth 100000 in
theorem recvParts_lifted (os : Os) (started : os.Started) (H : Type) (enc : TypeId × Value → H) :
    ReturnsInHanded {} Tryz.checked os 9 .any (Rows.recvPartsSpec.pre6 enc Tryz.prog Tryz.f9 Rows.recvPartsRow.domain false) (Rows.recvPartsSpec.post enc Tryz.prog Tryz.f9 false true false false) := by
  refine returnsInHanded_of_change (C := Tryz.checked) own started (by kernel_rfl) Tryz.func9
    (ChangeSpec.witness6 (enc := enc) (C := Tryz.checked) false ⟨#[], #[.agg St.zero.toArray, .int .i64 0, .int .u8 0, .int .u8 0], []⟩ 8 (by kernel_rfl) (by kernel_rfl) (by kernel_rfl) (by kernel_rfl)) ?_
  intro W base args ds gs before hval0 hW hcnd _
  have hval : ∀ (j : Nat) t v, Tryz.f9.params[j]? = some t → args[j]? = some v → Value.okWide Tryz.prog W .any base t v := hval0
  have hW' := hW
  obtain ⟨p, q, hA0, hV, rfl, hfz, hnd⟩ := hW
  have hA : DataW.TrodAll enc Tryz.prog W 0 (fun _ => true) true Tryz.f9.params.toList args.toList ds p := hA0
  rw [Tryz.params9] at hA hval
  obtain ⟨v0, vs0, d0, ds0, p0, q0, hargs, rfl, rfl, h0, r0⟩ := trodAll_cons hA
  obtain ⟨v1, vs1, d1, ds1, p1, q1, rfl, rfl, rfl, h1, r1⟩ := trodAll_cons r0
  obtain ⟨v2, vs2, d2, ds2, p2, q2, rfl, rfl, rfl, h2, r2⟩ := trodAll_cons r1
  obtain ⟨v3, vs3, d3, ds3, p3, q3, rfl, rfl, rfl, h3, r3⟩ := trodAll_cons r2
  obtain ⟨rfl, rfl, rfl⟩ := trodAll_nil r3
  obtain rfl : args = #[v0, v1, v2, v3] := by cases args; simp_all
  obtain ⟨rfl, rfl⟩ := trodVars_none hV
  obtain ⟨scs, rfl, srd⟩ := open_struct (g := 9) (l := St.shape) Tryz.underlying33 (by kernel_rfl) (hval 0 33 v0 rfl rfl) h0
  obtain ⟨s, sz, rfl, ssl, sok⟩ := St.of_read srd
  obtain ⟨id, rfl, rfl, rfl, wf1⟩ := open_int Tryz.underlying3 (hval 1 3 v1 rfl rfl) h1
  obtain ⟨n, rfl, rfl, rfl, wf2⟩ := open_int Tryz.underlying5 (hval 2 5 v2 rfl rfl) h2
  obtain ⟨m, rfl, rfl, rfl, wf3⟩ := open_int Tryz.underlying5 (hval 3 5 v3 rfl rfl) h3
  clear hA0 hval0
  refine (recvParts_walk s sz sok id (in64_of_wf wf1) n (bounds_u8 wf2) m (bounds_u8 wf3) W ssl).mono fun e W' ⟨he, hg⟩ => ?_
  subst he
  exact ⟨_, rfl, law_post laid hW' rfl (by kernel_rfl) rfl Tryz.underlying4 rfl hg⟩

/-- The statement, whole. -/
theorem recvParts_holds : Rows.RecvPartsSaid :=
  OpenClaim.holds_of_wide 9 Tryz.f9 rfl rfl rfl rfl rfl rfl rfl ⟨rfl, rfl, rfl, rfl, rfl⟩ rfl rfl rfl rfl rfl (by kernel_rfl) Tryz.func9 (by kernel_rfl)
    (of_decide_eq_true (by kernel_rfl)) (by unfold Func.isWrapper; rw [if_neg (of_decide_eq_false (by kernel_rfl))]; exact ⟨rfl, rfl⟩)
    (fun os started H enc _ => recvParts_lifted os started H enc)
end Go.Proofs.YtjbcfjfnobklkaaGreat
