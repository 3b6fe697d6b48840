/- Each step of who receives that tells something tells what a queue may be told of, and leaves the queue as that says: true of every state and thread. -/
import Derived.Test.YtjbcfjfnobklkaaGreatZc13
namespace Go.Proofs.YtjbcfjfnobklkaaGreat
set_option linter.unusedVariables false
set_option linter.unusedSimpArgs false
open Go.ChangeShapes Go.WideShapes Go.ChangeAt Go.RowKit
section
variable {s a : St} {n : Nat} (hF : fewB s = true) (hC : AC Tryz.prog 21 [stT s] (.bool true)) (hn : n < s.th.length) (hS : AC Tryz.prog 15 [stT s, .int .i64 n] (stT a))
include hF hC hn hS
set_option maxRecDepth 100000 in
theorem rq_no {q : Qu} (hl : decide ((a.lg.length : Int) ≤ s.lg.length) = true) (hQa : AC Tryz.prog 25 [stT a] (quT q)) (hQs : AC Tryz.prog 25 [stT s] (quT q)) (hq : q.vals.length ≤ 1000) : AC Tryz.prog 7 [stT s, .int .i64 n] (.bool true) :=
  ac_path mixed (ext := [10, 11, 15, 21, 25, 24, 26]) (fuel := 9) (n := 4) (orc := [vD true, vD true, vD true, .bool false, .bool false, stT a, .bool true, quT q, quT q, vD true]) (an ac_awakeR <| an (hF ▸ ac_rfew s) <| an hC <| an (show decide ((n : Int) < 0) = false by simp) <| an (show decide ((s.th.length : Int) ≤ n) = false by simp; omega) <| an hS <| an hl <| an hQa <| an hQs <| an (ac_rqsame (q := q) (by omega)) trivial) (by kernel_rfl)
set_option maxRecDepth 100000 in
theorem rq_do {x : En} (hl : decide ((a.lg.length : Int) ≤ s.lg.length) = false) (hx : IxP ((a.lg.map enT).toArray) (s.lg.length : Int) (enT x)) {q r : Qu} (hQs : AC Tryz.prog 25 [stT s] (quT q)) (hD : AC Tryz.prog 26 [quT q, enT x] (.tuple #[quT r, .bool true])) (hQa : AC Tryz.prog 25 [stT a] (quT r)) (hr : r.vals.length ≤ 1000) : AC Tryz.prog 7 [stT s, .int .i64 n] (.bool (x.th == n)) :=
  ac_path mixed (ext := [10, 11, 15, 21, 25, 24, 26]) (fuel := 9) (n := 4) (orc := [vD true, vD true, vD true, .bool false, .bool false, stT a, .bool false, enT x, quT q, .tuple #[quT r, vD true], quT r, vD true]) (an ac_awakeR <| an (hF ▸ ac_rfew s) <| an hC <| an (show decide ((n : Int) < 0) = false by simp) <| an (show decide ((s.th.length : Int) ≤ n) = false by simp; omega) <| an hS <| an hl <| an hx <| an hQs <| an hD <| an hQa <| an (ac_rqsame (q := r) (by omega)) trivial) (by kernel_rfl)
end
section
variable {s : St} {i : Int}
set_option maxRecDepth 100000 in
theorem rqn_1 (hF : fewB s = false) : AC Tryz.prog 7 [stT s, .int .i64 i] (.bool true) :=
  ac_path mixed (ext := [10, 11, 15, 21, 25, 24, 26]) (fuel := 9) (n := 4) (orc := [vD true, vD false]) (an ac_awakeR <| an (hF ▸ ac_rfew s) trivial) (by kernel_rfl)
set_option maxRecDepth 100000 in
theorem rqn_2 (hF : fewB s = true) (hC : AC Tryz.prog 21 [stT s] (.bool false)) : AC Tryz.prog 7 [stT s, .int .i64 i] (.bool true) :=
  ac_path mixed (ext := [10, 11, 15, 21, 25, 24, 26]) (fuel := 9) (n := 4) (orc := [vD true, vD true, vD false]) (an ac_awakeR <| an (hF ▸ ac_rfew s) <| an hC trivial) (by kernel_rfl)
set_option maxRecDepth 100000 in
theorem rqn_3 (hF : fewB s = true) (hC : AC Tryz.prog 21 [stT s] (.bool true)) (h0 : decide (i < 0) = true) : AC Tryz.prog 7 [stT s, .int .i64 i] (.bool true) :=
  ac_path mixed (ext := [10, 11, 15, 21, 25, 24, 26]) (fuel := 9) (n := 4) (orc := [vD true, vD true, vD true, .bool true]) (an ac_awakeR <| an (hF ▸ ac_rfew s) <| an hC <| an h0 trivial) (by kernel_rfl)
set_option maxRecDepth 100000 in
theorem rqn_4 (hF : fewB s = true) (hC : AC Tryz.prog 21 [stT s] (.bool true)) (h0 : decide (i < 0) = false) (h1 : decide ((s.th.length : Int) ≤ i) = true) : AC Tryz.prog 7 [stT s, .int .i64 i] (.bool true) :=
  ac_path mixed (ext := [10, 11, 15, 21, 25, 24, 26]) (fuel := 9) (n := 4) (orc := [vD true, vD true, vD true, .bool false, .bool true]) (an ac_awakeR <| an (hF ▸ ac_rfew s) <| an hC <| an h0 <| an h1 trivial) (by kernel_rfl)
end
theorem ac_recvQueue {s : St} {i : Int} (ho : s.ok) : AC Tryz.prog 7 [stT s, .int .i64 i] (.bool true) := by
  cases hF : fewB s
  · exact rqn_1 hF
  · obtain ⟨f1, f2, f3⟩ := few_is hF
    cases hB : stB s
    · exact rqn_2 hF (ac_pcheck hB ho)
    · have hC := ac_pcheck hB ho
      by_cases h0 : i < 0
      · exact rqn_3 hF hC (by simpa using h0)
      · by_cases h1 : (s.th.length : Int) ≤ i
        · exact rqn_4 hF hC (by simpa using h0) (by simpa using h1)
        · obtain ⟨n, rfl⟩ : ∃ n : Nat, i = n := ⟨i.toNat, by omega⟩
          have hn : n < s.th.length := by omega
          have hS := ac_vstep (i := n) ho f2 (by omega)
          obtain ⟨oa, la⟩ := recvS_all hB ho (by omega) n
          have hBa : stB (recvS s n) = true := (recvS_stB s n).trans hB
          have hrm := cf_room (st_iff.1 hB).1
          have hsl := (word_ok hB).2.2
          have hck := check_len (word_ok hB).1
          have hcka := check_len (word_ok hBa).1
          have hqs := ac_pqueue (s := s) rfl ho
          have hqa := ac_pqueue (s := recvS s n) rfl oa
          have hls := quV_len hB
          have hla := quV_len hBa
          have hrma := cf_room (st_iff.1 hBa).1
          have hsla := (word_ok hBa).2.2
          have key : QuOk s (recvS s n) n := by
            cases hr : runsB s n 2
            · have e : recvS s n = s := by simp [recvS, hr]
              rw [e]; exact .inl ⟨rfl, rfl⟩
            · obtain ⟨-, h2, h3⟩ := runs_iff.1 hr
              rw [Int.toNat_natCast] at h2 h3
              rw [recvS_is hr]
              exact recvN_qu hB hn (by omega) h3
          rcases key with ⟨h, hq⟩ | ⟨x, h, h4, h5⟩
          · rw [hq] at hqa
            exact rq_no hF hC hn hS (by rw [h]; simp) hqa hqs (by omega)
          · have hl : decide (((recvS s n).lg.length : Int) ≤ s.lg.length) = false := by rw [h]; simp; omega
            have hix : IxP (((recvS s n).lg.map enT).toArray) (s.lg.length : Int) (enT x) := ⟨by omega, by rw [h]; simp⟩
            have := rq_do hF hC hn hS hl hix hqs (ac_fdo h5 (by omega)) hqa (by omega)
            rwa [show (x.th == (n : Int)) = true by simp [h4]] at this
theorem recvQueue_walk (s : St) (sz : Pz) (hs : s.ok) (id : Int) (hid : In64 id) (w : World) (hss : StAt w s sz) :
    Calls Tryz.prog 7 #[.agg (s.cells sz).toArray, .int .i64 id] w fun e w' => e = .returned (.bool true) ∧ Kept w w' := by
  refine law_of (ac_recvQueue (s := s) (i := id) hs) (cells_at.2 ?_)
  exact ⟨_, _, rfl, st_free hss, _, _, rfl, rp_int.2 rfl, rfl⟩
set_option maxRecDepth 100000 in
theorem recvQueue_lifted (os : Os) (started : os.Started) (H : Type) (enc : TypeId × Value → H) :
    ReturnsInHanded {} Tryz.checked os 7 .any (Rows.recvQueueSpec.pre6 enc Tryz.prog Tryz.f7 Rows.recvQueueRow.domain false) (Rows.recvQueueSpec.post enc Tryz.prog Tryz.f7 false true false false) := by
  refine returnsInHanded_of_change (C := Tryz.checked) own started (by kernel_rfl) Tryz.func7
    (ChangeSpec.witness6 (enc := enc) (C := Tryz.checked) false ⟨#[], #[.agg St.zero.toArray, .int .i64 0], []⟩ 8 (by kernel_rfl) (by kernel_rfl) (by kernel_rfl) (by kernel_rfl)) ?_
  intro W base args ds gs before hval0 hW hcnd _
  have hval : ∀ (j : Nat) t v, Tryz.f7.params[j]? = some t → args[j]? = some v → Value.okWide Tryz.prog W .any base t v := hval0
  have hW' := hW
  obtain ⟨p, q, hA0, hV, rfl, hfz, hnd⟩ := hW
  have hA : DataW.TrodAll enc Tryz.prog W 0 (fun _ => true) true Tryz.f7.params.toList args.toList ds p := hA0
  rw [Tryz.params7] at hA hval
  obtain ⟨v0, vs0, d0, ds0, p0, q0, hargs, rfl, rfl, h0, r0⟩ := trodAll_cons hA
  obtain ⟨v1, vs1, d1, ds1, p1, q1, rfl, rfl, rfl, h1, r1⟩ := trodAll_cons r0
  obtain ⟨rfl, rfl, rfl⟩ := trodAll_nil r1
  obtain rfl : args = #[v0, v1] := by cases args; simp_all
  obtain ⟨rfl, rfl⟩ := trodVars_none hV
  obtain ⟨scs, rfl, srd⟩ := open_struct (g := 9) (l := St.shape) Tryz.underlying33 (by kernel_rfl) (hval 0 33 v0 rfl rfl) h0
  obtain ⟨s, sz, rfl, ssl, sok⟩ := St.of_read srd
  obtain ⟨id, rfl, rfl, rfl, wf1⟩ := open_int Tryz.underlying3 (hval 1 3 v1 rfl rfl) h1
  clear hA0 hval0
  refine (recvQueue_walk s sz sok id (in64_of_wf wf1) W ssl).mono fun e W' ⟨he, hg⟩ => ?_
  subst he
  exact ⟨_, rfl, law_post laid hW' rfl (by kernel_rfl) rfl Tryz.underlying4 rfl hg⟩

/-- The statement, whole. -/
theorem recvQueue_holds : Rows.RecvQueueSaid :=
  OpenClaim.holds_of_wide 7 Tryz.f7 rfl rfl rfl rfl rfl rfl rfl ⟨rfl, rfl, rfl, rfl, rfl⟩ rfl rfl rfl rfl rfl (by kernel_rfl) Tryz.func7 (by kernel_rfl)
    (of_decide_eq_true (by kernel_rfl)) (by unfold Func.isWrapper; rw [if_neg (of_decide_eq_false (by kernel_rfl))]; exact ⟨rfl, rfl⟩)
    (fun os started H enc _ => recvQueue_lifted os started H enc)
end Go.Proofs.YtjbcfjfnobklkaaGreat
