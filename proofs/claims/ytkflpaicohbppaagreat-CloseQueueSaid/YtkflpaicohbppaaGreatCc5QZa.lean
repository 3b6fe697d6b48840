/- Each step of who closes that tells something tells what a queue may be told of, and leaves the queue as that says, and the others leave it: true of every state and thread. -/
import Derived.Test.YtkflpaicohbppaaGreatZa10
import Derived.Test.YtkflpaicohbppaaGreatZa11
namespace Go.Proofs.YtkflpaicohbppaaGreat
set_option linter.unusedVariables false
set_option linter.unusedSimpArgs false
open Go.ChangeShapes Go.WideShapes Go.ChangeAt Go.RowKit
def cQX : List FuncId := [5, 6, 11, 15, 17, 16, 18]
section
variable {s a : St} {i : Int} (hF : fewB s = true)
set_option maxRecDepth 100000 in
theorem cq_1 (hF : fewB s = false) : AC Tryz.prog 4 [stT s, .int .i64 i] (.bool true) := ac_path mixed (ext := cQX) (fuel := 9) (n := 4) (orc := [vD true, vD false]) (an ac_awakeC <| an (hF ▸ ac_rfew s) trivial) (by kernel_rfl)
include hF
set_option maxRecDepth 100000 in
theorem cq_2 (hC : AC Tryz.prog 15 [stT s] (.bool false)) : AC Tryz.prog 4 [stT s, .int .i64 i] (.bool true) := ac_path mixed (ext := cQX) (fuel := 9) (n := 4) (orc := [vD true, vD true, vD false]) (an ac_awakeC <| an (hF ▸ ac_rfew s) <| an hC trivial) (by kernel_rfl)
variable (hC : AC Tryz.prog 15 [stT s] (.bool true)) (hS : AC Tryz.prog 11 [stT s, .int .i64 i] (stT a))
include hC hS
set_option maxRecDepth 100000 in
theorem cq_no {q : Qu} (hl : decide ((a.lg.length : Int) ≤ s.lg.length) = true) (hQa : AC Tryz.prog 17 [stT a] (quT q)) (hQs : AC Tryz.prog 17 [stT s] (quT q)) (hq : q.vals.length ≤ 1000) : AC Tryz.prog 4 [stT s, .int .i64 i] (.bool true) :=
  ac_path mixed (ext := cQX) (fuel := 9) (n := 4) (orc := [vD true, vD true, vD true, stT a, .bool true, quT q, quT q, vD true]) (an ac_awakeC <| an (hF ▸ ac_rfew s) <| an hC <| an hS <| an hl <| an hQa <| an hQs <| an (ac_rqsame (q := q) (by omega)) trivial) (by kernel_rfl)
set_option maxRecDepth 100000 in
theorem cq_do {x : En} (hl : decide ((a.lg.length : Int) ≤ s.lg.length) = false) (hx : IxP ((a.lg.map enT).toArray) (s.lg.length : Int) (enT x)) {q r : Qu} (hQs : AC Tryz.prog 17 [stT s] (quT q)) (hD : AC Tryz.prog 18 [quT q, enT x] (.tuple #[quT r, .bool true])) (hQa : AC Tryz.prog 17 [stT a] (quT r)) (hr : r.vals.length ≤ 1000) : AC Tryz.prog 4 [stT s, .int .i64 i] (.bool true) :=
  ac_path mixed (ext := cQX) (fuel := 9) (n := 4) (orc := [vD true, vD true, vD true, stT a, .bool false, quT q, enT x, .tuple #[quT r, vD true], quT r, vD true]) (an ac_awakeC <| an (hF ▸ ac_rfew s) <| an hC <| an hS <| an hl <| an hQs <| an hx <| an hD <| an hQa <| an (ac_rqsame (q := r) (by omega)) trivial) (by kernel_rfl)
end
theorem ac_closeQueue {s : St} {i : Int} (ho : s.ok) : AC Tryz.prog 4 [stT s, .int .i64 i] (.bool true) := by
  cases hF : fewB s
  · exact cq_1 hF
  · obtain ⟨f1, f2, f3⟩ := few_is hF
    cases hB : stB s
    · exact cq_2 hF (ac_pcheck hB ho)
    · have hC := ac_pcheck hB ho
      have hS := ac_cstep (i := i) ho f2 (by omega)
      have wa := closeS_wk (N := 200) ⟨hB, .of ho, f3⟩ i
      have hrm := cf_room (st_iff.1 hB).1
      have hsl := (word_ok hB).2.2
      have hck := check_len (word_ok hB).1
      have hcka := check_len (word_ok wa.b).1
      have hqs := ac_pqueue (s := s) rfl ho
      have hqa := ac_pqueue (s := closeS s i) rfl (wa.ok (by omega))
      have hls := quV_len hB
      have hla := quV_len wa.b
      have hrma := cf_room (st_iff.1 wa.b).1
      have hsla := (word_ok wa.b).2.2
      have key : QuOk s (closeS s i) i.toNat := by
        cases hr : runsB s i 3
        · rw [show closeS s i = s by simp [closeS, hr]]; exact .inl ⟨rfl, rfl⟩
        · obtain ⟨hh, h2, h3⟩ := runs_iff.1 hr
          obtain ⟨-, h4, h5⟩ := has_iff.1 hh
          rw [closeS_is hr]
          exact closeN_qu hB (by omega) (by omega) h3
      rcases key with ⟨h, hq⟩ | ⟨x, h, -, h5⟩
      · rw [hq] at hqa
        exact cq_no hF hC hS (by rw [h]; simp) hqa hqs (by omega)
      · have hl : decide (((closeS s i).lg.length : Int) ≤ s.lg.length) = false := by rw [h]; simp; omega
        have hix : IxP (((closeS s i).lg.map enT).toArray) (s.lg.length : Int) (enT x) := ⟨by omega, by rw [h]; simp⟩
        exact cq_do hF hC hS hl hix hqs (ac_fdo h5 (by omega)) hqa (by omega)
theorem closeQueue_walk (s : St) (sz : Pz) (hs : s.ok) (id : Int) (hid : In64 id) (w : World) (hss : StAt w s sz) :
    Calls Tryz.prog 4 #[.agg (s.cells sz).toArray, .int .i64 id] w fun e w' => e = .returned (.bool true) ∧ Kept w w' := by
  refine law_of (ac_closeQueue (s := s) (i := id) hs) (cells_at.2 ?_)
  exact ⟨_, _, rfl, st_free hss, _, _, rfl, rp_int.2 rfl, rfl⟩
set_option maxRecDepth 100000 in
theorem closeQueue_lifted (os : Os) (started : os.Started) (H : Type) (enc : TypeId × Value → H) :
    ReturnsInHanded {} Tryz.checked os 4 .any (Rows.closeQueueSpec.pre6 enc Tryz.prog Tryz.f4 Rows.closeQueueRow.domain false) (Rows.closeQueueSpec.post enc Tryz.prog Tryz.f4 false true false false) := by
  refine returnsInHanded_of_change (C := Tryz.checked) own started (by kernel_rfl) Tryz.func4
    (ChangeSpec.witness6 (enc := enc) (C := Tryz.checked) false ⟨#[], #[.agg St.zero.toArray, .int .i64 0], []⟩ 8 (by kernel_rfl) (by kernel_rfl) (by kernel_rfl) (by kernel_rfl)) ?_
  intro W base args ds gs before hval0 hW hcnd _
  have hval : ∀ (j : Nat) t v, Tryz.f4.params[j]? = some t → args[j]? = some v → Value.okWide Tryz.prog W .any base t v := hval0
  have hW' := hW
  obtain ⟨p, q, hA0, hV, rfl, hfz, hnd⟩ := hW
  have hA : DataW.TrodAll enc Tryz.prog W 0 (fun _ => true) true Tryz.f4.params.toList args.toList ds p := hA0
  rw [Tryz.params4] at hA hval
  obtain ⟨v0, vs0, d0, ds0, p0, q0, hargs, rfl, rfl, h0, r0⟩ := trodAll_cons hA
  obtain ⟨v1, vs1, d1, ds1, p1, q1, rfl, rfl, rfl, h1, r1⟩ := trodAll_cons r0
  obtain ⟨rfl, rfl, rfl⟩ := trodAll_nil r1
  obtain rfl : args = #[v0, v1] := by cases args; simp_all
  obtain ⟨rfl, rfl⟩ := trodVars_none hV
  obtain ⟨scs, rfl, srd⟩ := open_struct (g := 9) (l := St.shape) Tryz.underlying33 (by kernel_rfl) (hval 0 33 v0 rfl rfl) h0
  obtain ⟨s, sz, rfl, ssl, sok⟩ := St.of_read srd
  obtain ⟨id, rfl, rfl, rfl, wf1⟩ := open_int Tryz.underlying3 (hval 1 3 v1 rfl rfl) h1
  clear hA0 hval0
  refine (closeQueue_walk s sz sok id (in64_of_wf wf1) W ssl).mono fun e W' ⟨he, hg⟩ => ?_
  subst he
  exact ⟨_, rfl, law_post laid hW' rfl (by kernel_rfl) rfl Tryz.underlying4 rfl hg⟩

/-- The statement, whole. -/
theorem closeQueue_holds : Rows.CloseQueueSaid :=
  OpenClaim.holds_of_wide 4 Tryz.f4 rfl rfl rfl rfl rfl rfl rfl ⟨rfl, rfl, rfl, rfl, rfl⟩ rfl rfl rfl rfl rfl (by kernel_rfl) Tryz.func4 (by kernel_rfl)
    (of_decide_eq_true (by kernel_rfl)) (by unfold Func.isWrapper; rw [if_neg (of_decide_eq_false (by kernel_rfl))]; exact ⟨rfl, rfl⟩)
    (fun os started H enc _ => closeQueue_lifted os started H enc)
end Go.Proofs.YtkflpaicohbppaaGreat
