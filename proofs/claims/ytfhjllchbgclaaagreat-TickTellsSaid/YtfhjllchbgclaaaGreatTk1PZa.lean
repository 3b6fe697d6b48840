/- Any tick, some, who is to be late, and when the first one is, are what the document says: true of every state, time and list. -/
import Derived.Test.YtfhjllchbgclaaaGreatZa14
namespace Go.Proofs.YtfhjllchbgclaaaGreat
set_option linter.unusedVariables false
set_option linter.unusedSimpArgs false
open Go.ChangeShapes Go.WideShapes Go.ChangeAt Go.RowKit
def lkX : List FuncId := [9, 10, 11, 15, 13, 20, 12, 14, 16, 21, 18, 19, 17, 22]
theorem lk_few {s : St} (hF : fewB s = true) (ho : s.ok) : TkK s := ⟨ho, (few_is hF).1⟩
theorem TkK.same {s : St} (h : TkK s) : AC Tryz.prog 17 [stT s, stT s] (.bool true) := ac_rsame h.few (by have := h.few.lg; omega)
theorem TkK.ticks : ∀ {l : List Int} {s : St}, TkK s → TkK (ticksS s l).1
  | [], _, h => h
  | n :: l, s, h => TkK.ticks (l := l) (s := tickS s n) (h.tick n)
theorem dues_len {s : St} : (duesS s).length ≤ 1000000 := by
  unfold duesS; split
  · next h => have := td_len s s.th.length; have := (th_len h).2.2; omega
  · simp
set_option maxRecDepth 100000 in
theorem tk1_path {s a b : St} {n e k i : Int} {l m : List Int} {d : List Du} {p : Bool} (hF : fewB s = true) (hl : decide (20 < (l.length : Int)) = false) (h1 : AC Tryz.prog 11 [stT s, .int .i64 n] (.tuple #[stT a, rowI m, .int .i64 e])) (h2 : AC Tryz.prog 12 [stT s, .int .i64 n] (.tuple #[stT a, rowI m, .int .i64 e])) (h3 : AC Tryz.prog 13 [stT s, rowI l] (.tuple #[stT b, .int .i64 k])) (h4 : AC Tryz.prog 14 [stT s, rowI l] (.tuple #[stT b, .int .i64 k]))
    (h5 : AC Tryz.prog 15 [stT s] (.tuple #[.int .i64 i, .bool p])) (h6 : AC Tryz.prog 16 [stT s] (.tuple #[.int .i64 i, .bool p])) (h7 : AC Tryz.prog 17 [stT a, stT a] (.bool true)) (h8 : AC Tryz.prog 18 [rowI m, rowI m] (.bool true)) (h9 : AC Tryz.prog 17 [stT b, stT b] (.bool true))
    (h10 : AC Tryz.prog 20 [stT s] (rowD d)) (h11 : AC Tryz.prog 21 [stT s] (rowD d)) (h12 : AC Tryz.prog 19 [rowD d, rowD d] (.bool true)) : AC Tryz.prog 3 [stT s, .int .i64 n, rowI l] (.bool true) := by
  cases p
  · exact ac_path mixed (ext := lkX) (fuel := 9) (n := 6) (orc := [vD true, vD true, .bool false, .tuple #[stT a, rowI m, .int .i64 e], .tuple #[stT a, rowI m, .int .i64 e], .tuple #[stT b, .int .i64 k], .tuple #[stT b, .int .i64 k], .tuple #[.int .i64 i, .bool false], .tuple #[.int .i64 i, .bool false], vD true, vD true, .bool true, vD true, .bool true, .bool true, .bool true, .nilFunc, rowD d, rowD d, vD true])
      (an ac_awakeK <| an (hF ▸ ac_rfew s) <| an hl <| an h1 <| an h2 <| an h3 <| an h4 <| an h5 <| an h6 <| an h7 <| an h8 <| an (beq_self_eq_true e) <| an h9 <| an (beq_self_eq_true k) <| an (beq_self_eq_true i) <| an (ask_bb (a := false) (b := false) rfl (.tmp 100) (.tmp 101)) <| an h10 <| an h11 <| an h12 trivial) (by kernel_rfl)
  · exact ac_path mixed (ext := lkX) (fuel := 9) (n := 6) (orc := [vD true, vD true, .bool false, .tuple #[stT a, rowI m, .int .i64 e], .tuple #[stT a, rowI m, .int .i64 e], .tuple #[stT b, .int .i64 k], .tuple #[stT b, .int .i64 k], .tuple #[.int .i64 i, .bool true], .tuple #[.int .i64 i, .bool true], vD true, vD true, .bool true, vD true, .bool true, .bool true, .bool true, .nilFunc, rowD d, rowD d, vD true])
      (an ac_awakeK <| an (hF ▸ ac_rfew s) <| an hl <| an h1 <| an h2 <| an h3 <| an h4 <| an h5 <| an h6 <| an h7 <| an h8 <| an (beq_self_eq_true e) <| an h9 <| an (beq_self_eq_true k) <| an (beq_self_eq_true i) <| an (ask_bb (a := true) (b := true) rfl (.tmp 100) (.tmp 101)) <| an h10 <| an h11 <| an h12 trivial) (by kernel_rfl)
set_option maxRecDepth 100000 in
theorem ac_tickTells {s : St} {n : Int} {l : List Int} (ho : s.ok) (hn : In64 n) (hi : ∀ x ∈ l, In64 x) : AC Tryz.prog 3 [stT s, .int .i64 n, rowI l] (.bool true) := by
  cases hF : fewB s
  · exact ac_path mixed (ext := lkX) (fuel := 9) (n := 6) (orc := [vD true, vD false]) (an ac_awakeK <| an (hF ▸ ac_rfew s) trivial) (by kernel_rfl)
  · cases hl : decide (20 < (l.length : Int))
    · have h := lk_few hF ho
      have hl' : l.length ≤ 1000000 := by
        have := of_decide_eq_false hl
        omega
      exact tk1_path hF hl (ac_ptick h hn) (ac_rtick ho h.few hn) (ac_pticks h hi hl') (ac_rticks h hi hl') (ac_ptnext h) (ac_rtnext ho h.few) (h.tick n).same (ac_rints _ (by have := tickI_len h n; omega)) h.ticks.same (ac_pdues h) (ac_rdues ho h.few) (ac_rdsame _ dues_len)
    · exact ac_path mixed (ext := lkX) (fuel := 9) (n := 6) (orc := [vD true, vD true, .bool true]) (an ac_awakeK <| an (hF ▸ ac_rfew s) <| an hl trivial) (by kernel_rfl)
theorem sl_freeK {W : World} {l : List Int} {v : Value} (h : Sl W 1 intC l v) : Rp nowhere (fun _ => False) W (rowI l) v := by
  obtain ⟨p, k, rfl, -⟩ := h.is
  exact rp_rowI.2 ⟨p, k, rfl, h.loc.mono fun _ _ h => h⟩
theorem tickTells_walk (s : St) (sz : Pz) (hs : s.ok) (n : Int) (hn : In64 n) (l : List Int) (lv : Value) (hl : ∀ x ∈ l, In64 x) (hlm : l.length ≤ maxLen) (w : World) (hss : StAt w s sz) (hls : Sl w 1 intC l lv) :
    Calls Tryz.prog 3 #[.agg (s.cells sz).toArray, .int .i64 n, lv] w fun e w' => e = .returned (.bool true) ∧ Kept w w' := by
  refine law_of (ac_tickTells (s := s) (n := n) (l := l) hs hn hl) (cells_at.2 ?_)
  exact ⟨_, _, rfl, st_free hss, _, _, rfl, rp_int.2 rfl, _, _, rfl, sl_freeK hls, rfl⟩
set_option maxRecDepth 100000 in
theorem tickTells_lifted (os : Os) (started : os.Started) (H : Type) (enc : TypeId × Value → H) :
    ReturnsInHanded {} Tryz.checked os 3 .any (Rows.tickTellsSpec.pre6 enc Tryz.prog Tryz.f3 Rows.tickTellsRow.domain false) (Rows.tickTellsSpec.post enc Tryz.prog Tryz.f3 false true false false) := by
  refine returnsInHanded_of_change (C := Tryz.checked) own started (by kernel_rfl) Tryz.func3
    (ChangeSpec.witness6 (enc := enc) (C := Tryz.checked) false ⟨#[], #[.agg St.zero.toArray, .int .i64 0, .slice none 0 0], []⟩ 8 (by kernel_rfl) (by kernel_rfl) (by kernel_rfl) (by kernel_rfl)) ?_
  intro W base args ds gs before hval0 hW hcnd _
  have hval : ∀ (j : Nat) t v, Tryz.f3.params[j]? = some t → args[j]? = some v → Value.okWide Tryz.prog W .any base t v := hval0
  have hW' := hW
  obtain ⟨p, q, hA0, hV, rfl, hfz, hnd⟩ := hW
  have hA : DataW.TrodAll enc Tryz.prog W 0 (fun _ => true) true Tryz.f3.params.toList args.toList ds p := hA0
  rw [Tryz.params3] at hA hval
  obtain ⟨v0, vs0, d0, ds0, p0, q0, hargs, rfl, rfl, h0, r0⟩ := trodAll_cons hA
  obtain ⟨v1, vs1, d1, ds1, p1, q1, rfl, rfl, rfl, h1, r1⟩ := trodAll_cons r0
  obtain ⟨v2, vs2, d2, ds2, p2, q2, rfl, rfl, rfl, h2, r2⟩ := trodAll_cons r1
  obtain ⟨rfl, rfl, rfl⟩ := trodAll_nil r2
  obtain rfl : args = #[v0, v1, v2] := by cases args; simp_all
  obtain ⟨rfl, rfl⟩ := trodVars_none hV
  obtain ⟨scs, rfl, srd⟩ := open_struct (g := 9) (l := St.shape) Tryz.underlying33 (by kernel_rfl) (hval 0 33 v0 rfl rfl) h0
  obtain ⟨s, sz, rfl, ssl, sok⟩ := St.of_read srd
  obtain ⟨n, rfl, rfl, rfl, wf1⟩ := open_int Tryz.underlying3 (hval 1 3 v1 rfl rfl) h1
  obtain ⟨l, lsl, lok, lml⟩ := Sl.of_read intC In64 (by decide) (open_row (g := 9) (l := intShape) Tryz.underlying27 (by kernel_rfl) (hval 2 27 v2 rfl rfl) h2) (fun vs h => int_of_read h)
  clear hA0 hval0
  refine (tickTells_walk s sz sok n (in64_of_wf wf1) l v2 lok lml W ssl lsl).mono fun e W' ⟨he, hg⟩ => ?_
  subst he
  exact ⟨_, rfl, law_post laid hW' rfl (by kernel_rfl) rfl Tryz.underlying4 rfl hg⟩

/-- The statement, whole. -/
theorem tickTells_holds : Rows.TickTellsSaid :=
  OpenClaim.holds_of_wide 3 Tryz.f3 rfl rfl rfl rfl rfl rfl rfl ⟨rfl, rfl, rfl, rfl, rfl⟩ rfl rfl rfl rfl rfl (by kernel_rfl) Tryz.func3 (by kernel_rfl)
    (of_decide_eq_true (by kernel_rfl)) (by unfold Func.isWrapper; rw [if_neg (of_decide_eq_false (by kernel_rfl))]; exact ⟨rfl, rfl⟩)
    (fun os started H enc _ => tickTells_lifted os started H enc)
end Go.Proofs.YtfhjllchbgclaaaGreat
