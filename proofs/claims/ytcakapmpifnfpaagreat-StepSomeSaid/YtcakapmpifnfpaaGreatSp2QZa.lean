/- Picks, one behind the other, are those of the first ones, and then of the others: true of every state, picks, and cut. -/
import Derived.Test.YtcakapmpifnfpaaGreatSp1QZa
namespace Go.Proofs.YtcakapmpifnfpaaGreat
set_option linter.unusedVariables false
set_option linter.unusedSimpArgs false
open Go.ChangeShapes Go.WideShapes Go.ChangeAt Go.RowKit
theorem sub_tk {l : List Int} {q : Int} {k : Nat} (hq : q = k) (hk : k ≤ l.length) : SubP (l.take k).length ((l.take k).map (Value.int .i64 ·)) l.length (l.map (Value.int .i64 ·)) 0 q := by
  subst hq
  refine ⟨by omega, by omega, by omega, by rw [List.length_take]; omega, ?_⟩
  show (l.take k).map _ = ((l.map _).drop 0).take (l.take k).length
  rw [List.drop_zero, List.length_take, Nat.min_eq_left hk, List.map_take]
theorem sub_dr {l : List Int} {q : Int} {k : Nat} (hq : q = k) (hk : k ≤ l.length) : SubP (l.drop k).length ((l.drop k).map (Value.int .i64 ·)) l.length (l.map (Value.int .i64 ·)) q l.length := by
  subst hq
  refine ⟨by omega, by omega, by omega, by rw [List.length_drop]; omega, ?_⟩
  rw [Int.toNat_natCast, List.length_drop, List.map_drop, List.take_of_length_le (by simp)]
set_option maxRecDepth 100000 in
theorem sp2_path {s a b : St} {l : List Int} {c : Int} {k n i j : Nat} (hF : fewB s = true) (hl : decide (20 < (l.length : Int)) = false) (hc : 0 ≤ c ∧ c ≤ 255) (hk : c % ((l.length : Int) + 1) = k) (hkl : k ≤ l.length) (h1 : AC Tryz.prog 13 [stT s, rowI l] (.tuple #[stT a, .int .i64 n])) (h2 : AC Tryz.prog 13 [stT s, rowI (l.take k)] (.tuple #[stT b, .int .i64 i])) (h3 : AC Tryz.prog 13 [stT b, rowI (l.drop k)] (.tuple #[stT a, .int .i64 j])) (h4 : AC Tryz.prog 10 [stT a, stT a] (.bool true)) (e : n = i + j) (hn : n ≤ l.length) : AC Tryz.prog 4 [stT s, rowI l, .int .u8 c] (.bool true) := by
  have hl' : l.length ≤ 20 := by
    have := of_decide_eq_false hl
    omega
  have h := ac_path mixed (ext := lwX) (fuel := 9) (n := 6) (g := 4) (args := [stT s, rowI l, .int .u8 c]) (r := .bool (decide (0 ≤ (n : Int)))) (orc := [vD true, vD true, .bool false, .int .i64 c, .tuple #[stT a, .int .i64 n], rowI (l.take k), .tuple #[stT b, .int .i64 i], rowI (l.drop k), .tuple #[stT a, .int .i64 j], vD true, .bool true, .bool true])
    (an ac_awakeS <| an (hF ▸ ac_rfew s) <| an hl <| an (ask_u8 c hc.1 hc.2 (.tmp 25)) <| an (show In64 ((l.length : Int) + 1) by constructor <;> omega) <| an (show 0 ≤ c ∧ (0 : Int) < (l.length : Int) + 1 from ⟨hc.1, by omega⟩) <| an h1 <| an (sub_tk hk hkl) <| an (allK_I l) <| an h2 <| an (sub_dr hk hkl) <| an (allK_I l) <| an h3 <| an h4 <| an (show In64 ((i : Int) + (j : Int)) by constructor <;> omega) <| an (show ((n : Int) == (i : Int) + (j : Int)) = true by simp; omega) <| an (show decide ((n : Int) ≤ l.length) = true by simp [hn]) trivial) (by kernel_rfl)
  rwa [decide_eq_true (show (0 : Int) ≤ n by omega)] at h
theorem some_few {s : St} {l : List Int} (hF : fewB s = true) (ho : s.ok) (hl : l.length ≤ 20) : (someS s l).1.few ∧ (someS s l).1.ok ∧ (someS s l).1.fit ∧ (someS s l).1.lg.length ≤ 220 := by
  obtain ⟨f1, f2, f3⟩ := few_is hF
  cases hB : stB s
  · rw [some_no fun i _ => by rw [pickE_cfg hB i]; decide]
    exact ⟨f1, ho, f2, by show s.lg.length ≤ _; omega⟩
  · have w := some_wk l (N := 200) ⟨hB, .of ho, f3⟩
    exact ⟨w.few (by omega), w.ok (by omega), w.fit (by omega), by have := w.l; omega⟩
set_option maxRecDepth 100000 in
theorem ac_stepSome {s : St} {l : List Int} {c : Int} (ho : s.ok) (hc : 0 ≤ c ∧ c ≤ 255) : AC Tryz.prog 4 [stT s, rowI l, .int .u8 c] (.bool true) := by
  cases hF : fewB s
  · exact ac_path mixed (ext := lwX) (fuel := 9) (n := 6) (orc := [vD true, vD false]) (an ac_awakeS <| an (hF ▸ ac_rfew s) trivial) (by kernel_rfl)
  · cases hl : decide (20 < (l.length : Int))
    · have hl' : l.length ≤ 20 := by
        have := of_decide_eq_false hl
        omega
      obtain ⟨f1, f2, f3⟩ := few_is hF
      obtain ⟨k, hk⟩ : ∃ k : Nat, c % ((l.length : Int) + 1) = k := ⟨(c % ((l.length : Int) + 1)).toNat, by have := Int.emod_nonneg c (show (l.length : Int) + 1 ≠ 0 by omega); omega⟩
      have hkl : k ≤ l.length := by have := Int.emod_lt_of_pos c (show (0 : Int) < (l.length : Int) + 1 by omega); omega
      have tl : (l.take k).length ≤ 20 := by rw [List.length_take]; omega
      have dl : (l.drop k).length ≤ 20 := by rw [List.length_drop]; omega
      obtain ⟨b1, b2, b3, b4⟩ := some_few (l := l.take k) hF ho tl
      have h1 := ac_some (l := l) ho f2 (by omega) (by omega)
      have h2 := ac_some (l := l.take k) ho f2 (by omega) (by omega)
      have h3 := ac_some (l := l.drop k) b2 b3 (by omega) (by omega)
      have e := some_app (l.take k) (l.drop k) s
      rw [List.take_append_drop] at e
      have e1 : (someS s l).1 = (someS (someS s (l.take k)).1 (l.drop k)).1 := by rw [e]
      have e2 : (someS s l).2 = (someS s (l.take k)).2 + (someS (someS s (l.take k)).1 (l.drop k)).2 := by rw [e]
      rw [← e1] at h3
      obtain ⟨a1, a2, a3, a4⟩ := some_few (l := l) hF ho hl'
      exact sp2_path hF hl hc hk hkl h1 h2 h3 (ac_rsame a1 (by omega)) e2 (some_le l s)
    · exact ac_path mixed (ext := lwX) (fuel := 9) (n := 6) (orc := [vD true, vD true, .bool true]) (an ac_awakeS <| an (hF ▸ ac_rfew s) <| an hl trivial) (by kernel_rfl)
theorem sl_free {W : World} {l : List Int} {v : Value} (h : Sl W 1 intC l v) : Rp nowhere (fun _ => False) W (rowI l) v := by
  obtain ⟨p, k, rfl, -⟩ := h.is
  exact rp_rowI.2 ⟨p, k, rfl, h.loc.mono fun _ _ h => h⟩
theorem stepSome_walk (s : St) (sz : Pz) (hs : s.ok) (picks : List Int) (picksv : Value) (hpicks : ∀ x ∈ picks, In64 x) (hpicksm : picks.length ≤ maxLen) (cut : Int) (hcut : 0 ≤ cut ∧ cut ≤ 255) (w : World) (hss : StAt w s sz) (hpickss : Sl w 1 intC picks picksv) :
    Calls Tryz.prog 4 #[.agg (s.cells sz).toArray, picksv, .int .u8 cut] w fun e w' => e = .returned (.bool true) ∧ Kept w w' := by
  refine law_of (ac_stepSome (s := s) (l := picks) (c := cut) hs hcut) (cells_at.2 ?_)
  exact ⟨_, _, rfl, st_free hss, _, _, rfl, sl_free hpickss, _, _, rfl, rp_int.2 rfl, rfl⟩
set_option maxRecDepth 100000 in
theorem stepSome_lifted (os : Os) (started : os.Started) (H : Type) (enc : TypeId × Value → H) :
    ReturnsInHanded {} Tryz.checked os 4 .any (Rows.stepSomeSpec.pre6 enc Tryz.prog Tryz.f4 Rows.stepSomeRow.domain false) (Rows.stepSomeSpec.post enc Tryz.prog Tryz.f4 false true false false) := by
  refine returnsInHanded_of_change (C := Tryz.checked) own started (by kernel_rfl) Tryz.func4
    (ChangeSpec.witness6 (enc := enc) (C := Tryz.checked) false ⟨#[], #[.agg St.zero.toArray, .slice none 0 0, .int .u8 0], []⟩ 8 (by kernel_rfl) (by kernel_rfl) (by kernel_rfl) (by kernel_rfl)) ?_
  intro W base args ds gs before hval0 hW hcnd _
  have hval : ∀ (j : Nat) t v, Tryz.f4.params[j]? = some t → args[j]? = some v → Value.okWide Tryz.prog W .any base t v := hval0
  have hW' := hW
  obtain ⟨p, q, hA0, hV, rfl, hfz, hnd⟩ := hW
  have hA : DataW.TrodAll enc Tryz.prog W 0 (fun _ => true) true Tryz.f4.params.toList args.toList ds p := hA0
  rw [Tryz.params4] at hA hval
  obtain ⟨v0, vs0, d0, ds0, p0, q0, hargs, rfl, rfl, h0, r0⟩ := trodAll_cons hA
  obtain ⟨v1, vs1, d1, ds1, p1, q1, rfl, rfl, rfl, h1, r1⟩ := trodAll_cons r0
  obtain ⟨v2, vs2, d2, ds2, p2, q2, rfl, rfl, rfl, h2, r2⟩ := trodAll_cons r1
  obtain ⟨rfl, rfl, rfl⟩ := trodAll_nil r2
  obtain rfl : args = #[v0, v1, v2] := by cases args; simp_all
  obtain ⟨rfl, rfl⟩ := trodVars_none hV
  obtain ⟨scs, rfl, srd⟩ := open_struct (g := 9) (l := St.shape) Tryz.underlying33 (by kernel_rfl) (hval 0 33 v0 rfl rfl) h0
  obtain ⟨s, sz, rfl, ssl, sok⟩ := St.of_read srd
  obtain ⟨picks, pickssl, picksok, picksml⟩ := Sl.of_read intC In64 (by decide) (open_row (g := 9) (l := intShape) Tryz.underlying27 (by kernel_rfl) (hval 1 27 v1 rfl rfl) h1) (fun vs h => int_of_read h)
  obtain ⟨cut, rfl, rfl, rfl, wf2⟩ := open_int Tryz.underlying5 (hval 2 5 v2 rfl rfl) h2
  clear hA0 hval0
  refine (stepSome_walk s sz sok picks v1 picksok picksml cut (bounds_u8 wf2) W ssl pickssl).mono fun e W' ⟨he, hg⟩ => ?_
  subst he
  exact ⟨_, rfl, law_post laid hW' rfl (by kernel_rfl) rfl Tryz.underlying4 rfl hg⟩

/-- The statement, whole. -/
theorem stepSome_holds : Rows.StepSomeSaid :=
  OpenClaim.holds_of_wide 4 Tryz.f4 rfl rfl rfl rfl rfl rfl rfl ⟨rfl, rfl, rfl, rfl, rfl⟩ rfl rfl rfl rfl rfl (by kernel_rfl) Tryz.func4 (by kernel_rfl)
    (of_decide_eq_true (by kernel_rfl)) (by unfold Func.isWrapper; rw [if_neg (of_decide_eq_false (by kernel_rfl))]; exact ⟨rfl, rfl⟩)
    (fun os started H enc _ => stepSome_lifted os started H enc)
end Go.Proofs.YtcakapmpifnfpaaGreat
