/- Any step of who closes, some, what they lead to, and how far it is to notices, are what the document says: true of every state, thread, number of steps, kind and step. -/
import Derived.Test.YtkflpaicohbppaaGreatZa10
namespace Go.Proofs.YtkflpaicohbppaaGreat
set_option linter.unusedVariables false
set_option linter.unusedSimpArgs false
open Go.ChangeShapes Go.WideShapes Go.ChangeAt Go.RowKit
def cTX : List FuncId := [5, 6, 7, 8, 11, 12, 10, 9, 13, 14]
section
variable {s u v : St} {i m kd pc : Int} {k : Nat}
set_option maxRecDepth 100000 in
theorem ctells_yes (hF : fewB s = true) (hm : decide (30 < m) = false) (hP : AC Tryz.prog 7 [stT s, .int .i64 i, .int .i64 m] (.tuple #[stT u, .int .i64 k])) (hR : AC Tryz.prog 8 [stT s, .int .i64 i, .int .i64 m] (.tuple #[stT u, .int .i64 k]))
    (hp : AC Tryz.prog 11 [stT s, .int .i64 i] (stT v)) (hr : AC Tryz.prog 12 [stT s, .int .i64 i] (stT v)) (hv : AC Tryz.prog 10 [stT v, stT v] (.bool true)) (hu : AC Tryz.prog 10 [stT u, stT u] (.bool true)) : AC Tryz.prog 3 [stT s, .int .i64 i, .int .i64 m, .int .i64 kd, .int .i64 pc] (.bool true) := by
  by_cases e1 : pc = 1
  · subst e1
    exact ac_path mixed (ext := cTX) (fuel := 9) (n := 6) (orc := [vD true, vD true, .bool false, .tuple #[stT u, .int .i64 k], .tuple #[stT u, .int .i64 k], .tuple #[.int .i64 1, .int .i64 2], .nilFunc, .nilFunc, .nilFunc, stT v, stT v, vD true, vD true, .bool true, .int .i64 (modeI kd), .int .i64 (modeI kd), .bool true]) (an ac_awakeC <| an (hF ▸ ac_rfew s) <| an hm <| an hP <| an hR <| an (ac_cnear 1) <| an hp <| an hr <| an hv <| an hu <| an (show ((k : Int) == k) = true by simp) <| an (ac_pmode kd) <| an (ac_rmode kd) <| an (show (modeI kd == modeI kd) = true by simp) trivial) (by kernel_rfl)
  · by_cases e2 : pc = 2
    · subst e2
      exact ac_path mixed (ext := cTX) (fuel := 9) (n := 6) (orc := [vD true, vD true, .bool false, .tuple #[stT u, .int .i64 k], .tuple #[stT u, .int .i64 k], .tuple #[.int .i64 0, .int .i64 1], .nilFunc, .nilFunc, .nilFunc, .nilFunc, stT v, stT v, vD true, vD true, .bool true, .int .i64 (modeI kd), .int .i64 (modeI kd), .bool true]) (an ac_awakeC <| an (hF ▸ ac_rfew s) <| an hm <| an hP <| an hR <| an (ac_cnear 2) <| an hp <| an hr <| an hv <| an hu <| an (show ((k : Int) == k) = true by simp) <| an (ac_pmode kd) <| an (ac_rmode kd) <| an (show (modeI kd == modeI kd) = true by simp) trivial) (by kernel_rfl)
    · have hn := ac_cnear pc
      rw [show nearF pc = 0 by simp [nearF, e1], show nearE pc = 0 by simp [nearE, e1, e2]] at hn
      exact ac_path mixed (ext := cTX) (fuel := 9) (n := 6) (orc := [vD true, vD true, .bool false, .tuple #[stT u, .int .i64 k], .tuple #[stT u, .int .i64 k], .tuple #[.int .i64 0, .int .i64 0], .bool false, .bool false, .bool true, .bool true, .nilFunc, stT v, stT v, vD true, vD true, .bool true, .int .i64 (modeI kd), .int .i64 (modeI kd), .bool true])
        (an ac_awakeC <| an (hF ▸ ac_rfew s) <| an hm <| an hP <| an hR <| an hn <| an (show (pc == 1) = false by simp [e1]) <| an (show (pc == 2) = false by simp [e2]) <| an (show (pc != 1) = true by simp [e1]) <| an (show (pc != 2) = true by simp [e2]) <| an hp <| an hr <| an hv <| an hu <| an (show ((k : Int) == k) = true by simp) <| an (ac_pmode kd) <| an (ac_rmode kd) <| an (show (modeI kd == modeI kd) = true by simp) trivial) (by kernel_rfl)
end
set_option maxRecDepth 100000 in
theorem ac_closeTells {s : St} {i m kd pc : Int} (ho : s.ok) : AC Tryz.prog 3 [stT s, .int .i64 i, .int .i64 m, .int .i64 kd, .int .i64 pc] (.bool true) := by
  cases hF : fewB s
  · exact ac_path mixed (ext := cTX) (fuel := 9) (n := 6) (orc := [vD true, vD false]) (an ac_awakeC <| an (hF ▸ ac_rfew s) trivial) (by kernel_rfl)
  · cases hm : decide (30 < m)
    · obtain ⟨h1, h2, h3⟩ := few_is hF
      have hm' : m ≤ 30 := by simpa using hm
      have hR := ac_rcsteps (i := i) (m := m) ho h1 (by omega)
      rw [closeK_thou] at hR
      have hu : AC Tryz.prog 10 [stT (closeK s i m.toNat).1, stT (closeK s i m.toNat).1] (.bool true) := by
        cases hB : stB s
        · rw [closeK_no hB]; exact ac_rsame (s := s) h1 (by omega)
        · have := closeK_wk (N := 200) i m.toNat ⟨hB, .of ho, h3⟩
          exact ac_rsame (this.few (by omega)) (by have := this.l; omega)
      have hv : AC Tryz.prog 10 [stT (closeS s i), stT (closeS s i)] (.bool true) := by
        cases hB : stB s
        · rw [closeS_no hB]; exact ac_rsame (s := s) h1 (by omega)
        · have := closeS_wk (N := 200) ⟨hB, .of ho, h3⟩ i
          exact ac_rsame (this.few (by omega)) (by have := this.l; omega)
      exact ctells_yes hF hm (ac_cst ho h2 (by omega)) hR (ac_cstep ho h2 (by omega)) (ac_rcstep ho h1 (by omega)) hv hu
    · exact ac_path mixed (ext := cTX) (fuel := 9) (n := 6) (orc := [vD true, vD true, .bool true]) (an ac_awakeC <| an (hF ▸ ac_rfew s) <| an hm trivial) (by kernel_rfl)
theorem closeTells_walk (s : St) (sz : Pz) (hs : s.ok) (id : Int) (hid : In64 id) (many : Int) (hmany : In64 many) (kind : Int) (hkind : In64 kind) (pc : Int) (hpc : In64 pc) (w : World) (hss : StAt w s sz) :
    Calls Tryz.prog 3 #[.agg (s.cells sz).toArray, .int .i64 id, .int .i64 many, .int .i64 kind, .int .i64 pc] w fun e w' => e = .returned (.bool true) ∧ Kept w w' := by
  refine law_of (ac_closeTells (s := s) (i := id) (m := many) (kd := kind) (pc := pc) hs) (cells_at.2 ?_)
  exact ⟨_, _, rfl, st_free hss, _, _, rfl, rp_int.2 rfl, _, _, rfl, rp_int.2 rfl, _, _, rfl, rp_int.2 rfl, _, _, rfl, rp_int.2 rfl, rfl⟩
set_option maxRecDepth 100000 in
theorem closeTells_lifted (os : Os) (started : os.Started) (H : Type) (enc : TypeId × Value → H) :
    ReturnsInHanded {} Tryz.checked os 3 .any (Rows.closeTellsSpec.pre6 enc Tryz.prog Tryz.f3 Rows.closeTellsRow.domain false) (Rows.closeTellsSpec.post enc Tryz.prog Tryz.f3 false true false false) := by
  refine returnsInHanded_of_change (C := Tryz.checked) own started (by kernel_rfl) Tryz.func3
    (ChangeSpec.witness6 (enc := enc) (C := Tryz.checked) false ⟨#[], #[.agg St.zero.toArray, .int .i64 0, .int .i64 0, .int .i64 0, .int .i64 0], []⟩ 8 (by kernel_rfl) (by kernel_rfl) (by kernel_rfl) (by kernel_rfl)) ?_
  intro W base args ds gs before hval0 hW hcnd _
  have hval : ∀ (j : Nat) t v, Tryz.f3.params[j]? = some t → args[j]? = some v → Value.okWide Tryz.prog W .any base t v := hval0
  have hW' := hW
  obtain ⟨p, q, hA0, hV, rfl, hfz, hnd⟩ := hW
  have hA : DataW.TrodAll enc Tryz.prog W 0 (fun _ => true) true Tryz.f3.params.toList args.toList ds p := hA0
  rw [Tryz.params3] at hA hval
  obtain ⟨v0, vs0, d0, ds0, p0, q0, hargs, rfl, rfl, h0, r0⟩ := trodAll_cons hA
  obtain ⟨v1, vs1, d1, ds1, p1, q1, rfl, rfl, rfl, h1, r1⟩ := trodAll_cons r0
  obtain ⟨v2, vs2, d2, ds2, p2, q2, rfl, rfl, rfl, h2, r2⟩ := trodAll_cons r1
  obtain ⟨v3, vs3, d3, ds3, p3, q3, rfl, rfl, rfl, h3, r3⟩ := trodAll_cons r2
  obtain ⟨v4, vs4, d4, ds4, p4, q4, rfl, rfl, rfl, h4, r4⟩ := trodAll_cons r3
  obtain ⟨rfl, rfl, rfl⟩ := trodAll_nil r4
  obtain rfl : args = #[v0, v1, v2, v3, v4] := by cases args; simp_all
  obtain ⟨rfl, rfl⟩ := trodVars_none hV
  obtain ⟨scs, rfl, srd⟩ := open_struct (g := 9) (l := St.shape) Tryz.underlying33 (by kernel_rfl) (hval 0 33 v0 rfl rfl) h0
  obtain ⟨s, sz, rfl, ssl, sok⟩ := St.of_read srd
  obtain ⟨id, rfl, rfl, rfl, wf1⟩ := open_int Tryz.underlying3 (hval 1 3 v1 rfl rfl) h1
  obtain ⟨many, rfl, rfl, rfl, wf2⟩ := open_int Tryz.underlying3 (hval 2 3 v2 rfl rfl) h2
  obtain ⟨kind, rfl, rfl, rfl, wf3⟩ := open_int Tryz.underlying3 (hval 3 3 v3 rfl rfl) h3
  obtain ⟨pc, rfl, rfl, rfl, wf4⟩ := open_int Tryz.underlying3 (hval 4 3 v4 rfl rfl) h4
  clear hA0 hval0
  refine (closeTells_walk s sz sok id (in64_of_wf wf1) many (in64_of_wf wf2) kind (in64_of_wf wf3) pc (in64_of_wf wf4) W ssl).mono fun e W' ⟨he, hg⟩ => ?_
  subst he
  exact ⟨_, rfl, law_post laid hW' rfl (by kernel_rfl) rfl Tryz.underlying4 rfl hg⟩

/-- The statement, whole. -/
theorem closeTells_holds : Rows.CloseTellsSaid :=
  OpenClaim.holds_of_wide 3 Tryz.f3 rfl rfl rfl rfl rfl rfl rfl ⟨rfl, rfl, rfl, rfl, rfl⟩ rfl rfl rfl rfl rfl (by kernel_rfl) Tryz.func3 (by kernel_rfl)
    (of_decide_eq_true (by kernel_rfl)) (by unfold Func.isWrapper; rw [if_neg (of_decide_eq_false (by kernel_rfl))]; exact ⟨rfl, rfl⟩)
    (fun os started H enc _ => closeTells_lifted os started H enc)
end Go.Proofs.YtkflpaicohbppaaGreat
