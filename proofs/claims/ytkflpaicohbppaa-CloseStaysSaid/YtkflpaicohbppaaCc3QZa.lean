/- What may be stays so, whatever step of who closes there is, and some, of which there are three at most: true of every state, thread and number of steps. -/
import Derived.Test.YtkflpaicohbppaaZa10
import Derived.Test.YtkflpaicohbppaaZa11
namespace Go.Proofs.Ytkflpaicohbppaa
set_option linter.unusedVariables false
set_option linter.unusedSimpArgs false
open Go.ChangeShapes Go.WideShapes Go.ChangeAt Go.RowKit
def cSX : List FuncId := [7, 8, 9, 12, 13, 14]
section
variable {s u v : St} {i m : Int} {k : Nat} (hF : fewB s = true) (hm : decide (30 < m) = false) (h1 : AC Try.prog 9 [stT s, .int .i64 i] (stT u)) (h2 : AC Try.prog 12 [stT s, .int .i64 i, .int .i64 m] (.tuple #[stT v, .int .i64 k])) (hk : decide ((k : Int) ≤ max m 0) = true) (hk3 : decide ((k : Int) ≤ 3) = true)
include hF hm h1 h2 hk hk3
set_option maxRecDepth 100000 in
theorem cs_1 (h3 : AC Try.prog 13 [stT s] (.bool true)) (h4 : AC Try.prog 13 [stT u] (.bool true)) (h5 : AC Try.prog 13 [stT v] (.bool true)) : AC Try.prog 4 [stT s, .int .i64 i, .int .i64 m] (.bool true) :=
  ac_path mixed (ext := cSX) (fuel := 9) (n := 6) (orc := [vD true, vD true, .bool false, stT u, .tuple #[stT v, .int .i64 k], vD true, vD true, .bool true, .nilFunc, vD true, .bool true, .nilFunc, .bool true, .bool true, .bool true]) (an ac_awakeC <| an (hF ▸ ac_rfew s) <| an hm <| an h1 <| an h2 <| an h3 <| an h4 <| an (ask_bb (a := true) (b := true) rfl (.tmp 36) (.tmp 37)) <| an h5 <| an (ask_bb (a := true) (b := true) rfl (.tmp 42) (.tmp 43)) <| an (show decide ((0 : Int) ≤ k) = true by simp) <| an hk <| an hk3 trivial) (by kernel_rfl)
set_option maxRecDepth 100000 in
theorem cs_2 (h3 : AC Try.prog 13 [stT s] (.bool false)) (h4 : AC Try.prog 13 [stT u] (.bool false)) (h5 : AC Try.prog 13 [stT v] (.bool false)) (h6 : AC Try.prog 14 [stT u, stT s] (.bool true)) : AC Try.prog 4 [stT s, .int .i64 i, .int .i64 m] (.bool true) :=
  ac_path mixed (ext := cSX) (fuel := 9) (n := 6) (orc := [vD true, vD true, .bool false, stT u, .tuple #[stT v, .int .i64 k], vD false, vD false, .bool true, .nilFunc, vD false, .bool true, .nilFunc, .bool true, .bool true, .bool true, vD true]) (an ac_awakeC <| an (hF ▸ ac_rfew s) <| an hm <| an h1 <| an h2 <| an h3 <| an h4 <| an (ask_bb (a := false) (b := false) rfl (.tmp 36) (.tmp 37)) <| an h5 <| an (ask_bb (a := false) (b := false) rfl (.tmp 42) (.tmp 43)) <| an (show decide ((0 : Int) ≤ k) = true by simp) <| an hk <| an hk3 <| an h6 trivial) (by kernel_rfl)
end
theorem closeK_le' (s : St) (i m : Int) : ((closeK s i m.toNat).2 : Int) ≤ max m 0 := by have := closeK_le i m.toNat s; omega
set_option maxRecDepth 100000 in
theorem ac_closeStays {s : St} {i m : Int} (ho : s.ok) : AC Try.prog 4 [stT s, .int .i64 i, .int .i64 m] (.bool true) := by
  cases hF : fewB s
  · exact ac_path mixed (ext := cSX) (fuel := 9) (n := 6) (orc := [vD true, vD false]) (an ac_awakeC <| an (hF ▸ ac_rfew s) trivial) (by kernel_rfl)
  · cases hm : decide (30 < m)
    · obtain ⟨f1, f2, f3⟩ := few_is hF
      have hm' : m ≤ 30 := by simpa using hm
      have h1 := ac_cstep (i := i) ho f2 (by omega)
      have h2 := ac_cst (i := i) (m := m) ho f2 (by omega)
      have hk : decide (((closeK s i m.toNat).2 : Int) ≤ max m 0) = true := by simpa using closeK_le' s i m
      have hk3 : decide (((closeK s i m.toNat).2 : Int) ≤ 3) = true := by have := closeK_le3 s i m.toNat; simp; omega
      cases hB : stB s
      · rw [closeS_no hB] at h1
        rw [closeK_no hB] at h2 hk hk3
        have hc := ac_pcheck hB ho
        exact cs_2 hF hm h1 h2 hk hk3 hc hc hc (ac_rsame (s := s) f1 (by omega))
      · have w : Wk s 200 := ⟨hB, .of ho, f3⟩
        have wa := closeS_wk w i
        have wb := closeK_wk i m.toNat w
        exact cs_1 hF hm h1 h2 hk hk3 (ac_pcheck hB ho) (ac_pcheck wa.b (wa.ok (by omega))) (ac_pcheck wb.b (wb.ok (by omega)))
    · exact ac_path mixed (ext := cSX) (fuel := 9) (n := 6) (orc := [vD true, vD true, .bool true]) (an ac_awakeC <| an (hF ▸ ac_rfew s) <| an hm trivial) (by kernel_rfl)
theorem closeStays_walk (s : St) (sz : Pz) (hs : s.ok) (id : Int) (hid : In64 id) (many : Int) (hmany : In64 many) (w : World) (hss : StAt w s sz) :
    Calls Try.prog 4 #[.agg (s.cells sz).toArray, .int .i64 id, .int .i64 many] w fun e w' => e = .returned (.bool true) ∧ Kept w w' := by
  refine law_of (ac_closeStays (s := s) (i := id) (m := many) hs) (cells_at.2 ?_)
  exact ⟨_, _, rfl, st_free hss, _, _, rfl, rp_int.2 rfl, _, _, rfl, rp_int.2 rfl, rfl⟩
set_option maxRecDepth 100000 in
theorem closeStays_lifted (os : Os) (started : os.Started) (H : Type) (enc : TypeId × Value → H) :
    ReturnsInHanded {} Try.checked os 4 .any (Rows.closeStaysSpec.pre6 enc Try.prog Try.f4 Rows.closeStaysRow.domain false) (Rows.closeStaysSpec.post enc Try.prog Try.f4 false true false false) := by
  refine returnsInHanded_of_change (C := Try.checked) own started (by kernel_rfl) Try.func4
    (ChangeSpec.witness6 (enc := enc) (C := Try.checked) false ⟨#[], #[.agg St.zero.toArray, .int .i64 0, .int .i64 0], []⟩ 8 (by kernel_rfl) (by kernel_rfl) (by kernel_rfl) (by kernel_rfl)) ?_
  intro W base args ds gs before hval0 hW hcnd _
  have hval : ∀ (j : Nat) t v, Try.f4.params[j]? = some t → args[j]? = some v → Value.okWide Try.prog W .any base t v := hval0
  have hW' := hW
  obtain ⟨p, q, hA0, hV, rfl, hfz, hnd⟩ := hW
  have hA : DataW.TrodAll enc Try.prog W 0 (fun _ => true) true Try.f4.params.toList args.toList ds p := hA0
  rw [Try.params4] at hA hval
  obtain ⟨v0, vs0, d0, ds0, p0, q0, hargs, rfl, rfl, h0, r0⟩ := trodAll_cons hA
  obtain ⟨v1, vs1, d1, ds1, p1, q1, rfl, rfl, rfl, h1, r1⟩ := trodAll_cons r0
  obtain ⟨v2, vs2, d2, ds2, p2, q2, rfl, rfl, rfl, h2, r2⟩ := trodAll_cons r1
  obtain ⟨rfl, rfl, rfl⟩ := trodAll_nil r2
  obtain rfl : args = #[v0, v1, v2] := by cases args; simp_all
  obtain ⟨rfl, rfl⟩ := trodVars_none hV
  obtain ⟨scs, rfl, srd⟩ := open_struct (g := 9) (l := St.shape) Try.underlying33 (by kernel_rfl) (hval 0 33 v0 rfl rfl) h0
  obtain ⟨s, sz, rfl, ssl, sok⟩ := St.of_read srd
  obtain ⟨id, rfl, rfl, rfl, wf1⟩ := open_int Try.underlying3 (hval 1 3 v1 rfl rfl) h1
  obtain ⟨many, rfl, rfl, rfl, wf2⟩ := open_int Try.underlying3 (hval 2 3 v2 rfl rfl) h2
  clear hA0 hval0
  refine (closeStays_walk s sz sok id (in64_of_wf wf1) many (in64_of_wf wf2) W ssl).mono fun e W' ⟨he, hg⟩ => ?_
  subst he
  exact ⟨_, rfl, law_post laid hW' rfl (by kernel_rfl) rfl Try.underlying4 rfl hg⟩

/-- The statement, whole. -/
theorem closeStays_holds : Rows.CloseStaysSaid :=
  OpenClaim.holds_of_wide 4 Try.f4 rfl rfl rfl rfl rfl rfl rfl ⟨rfl, rfl, rfl, rfl, rfl⟩ rfl rfl rfl rfl rfl (by kernel_rfl) Try.func4 (by kernel_rfl)
    (of_decide_eq_true (by kernel_rfl)) (by unfold Func.isWrapper; rw [if_neg (of_decide_eq_false (by kernel_rfl))]; exact ⟨rfl, rfl⟩)
    (fun os started H enc _ => closeStays_lifted os started H enc)
end Go.Proofs.Ytkflpaicohbppaa
