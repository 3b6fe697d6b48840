/- No step of who receives changes more than one thing, nor any thread but itself, and one that is woken: true of every state and thread. -/
import Derived.Test.YtjbcfjfnobklkaaGreatZb11
import Derived.Test.YtjbcfjfnobklkaaGreatZb13
namespace Go.Proofs.YtjbcfjfnobklkaaGreat
set_option linter.unusedVariables false
set_option linter.unusedSimpArgs false
open Go.ChangeShapes Go.WideShapes Go.ChangeAt Go.RowKit
def hdO (s a : St) (i o j : Int) : Sg := ⟨mkT 141 [(1, .int .i64 i), (2, pt 0), (5, vD true), (6, pt 1), (7, .int .i64 o), (8, .int .i64 j)], [some ⟨true, false, 20, 1, [stT s]⟩, some ⟨true, false, 20, 1, [stT a]⟩]⟩
theorem ask_te (t u : Th) {r : Bool} (h : decide (t = u) = r) (x y : Operand) : AskP Tryz.prog (.binOp .eql 44 x y 44) [thT t, thT u] (.bool r) :=
  ask_bin (fun x y W => (guard_agg (by kernel_rfl) x y _ _ W).2) (fun W => by rw [← h]; exact th_eql t u W) x y
/-- How many are woken, from place i on. -/
def wkN (l m : List Th) (id : Int) (w i : Nat) : Nat := if i ≤ w ∧ w < l.length ∧ (w : Int) ≠ id ∧ gth m w ≠ gth l w then 1 else 0
theorem wkN_step {l m : List Th} {id : Int} {w i : Nat} (hi : i < l.length) : wkN l m id w i = (if i = w ∧ (i : Int) ≠ id ∧ gth m i ≠ gth l i then 1 else 0) + wkN l m id w (i + 1) := by
  unfold wkN
  by_cases e : i = w
  · subst e
    by_cases c : (i : Int) ≠ id ∧ gth m i ≠ gth l i
    · rw [if_pos ⟨Nat.le_refl _, hi, c⟩, if_pos ⟨rfl, c⟩, if_neg (by omega)]
    · rw [if_neg (fun h => c h.2.2), if_neg (fun h => c h.2), if_neg (by omega)]
  · have e0 : (if i = w ∧ (i : Int) ≠ id ∧ gth m i ≠ gth l i then 1 else 0) = 0 := if_neg (fun h => e h.1)
    rw [e0, Nat.zero_add]
    by_cases c : i + 1 ≤ w ∧ w < l.length ∧ (w : Int) ≠ id ∧ gth m w ≠ gth l w
    · rw [if_pos c, if_pos ⟨by omega, c.2⟩]
    · rw [if_neg c, if_neg (fun h => c ⟨by omega, h.2⟩)]
theorem ask_tn (t u : Th) {r : Bool} (h : (!decide (t = u)) = r) (x y : Operand) : AskP Tryz.prog (.binOp .neq 44 x y 44) [thT t, thT u] (.bool r) :=
  ask_bin (fun x y W => (guard_agg (by kernel_rfl) x y _ _ W).1) (fun W => by rw [← h]; exact th_neq t u W) x y
theorem wake_2 {t : Th} (h : t.st = 2) : wakeT t = ⟨1, t.ki, t.va, t.un, t.pc, t.re, t.se, t.tr, t.la, t.rs, t.go⟩ := if_pos h
section
variable {s a : St} {id : Int}
set_option maxRecDepth 100000 in
theorem one_lp (hl : a.th.length = s.th.length) (hm : s.th.length ≤ 1000) {w : Nat} (hw : ∀ j : Nat, j < s.th.length → (j : Int) ≠ id → gth a.th j = gth s.th j ∨ (j = w ∧ (gth s.th j).st = 2 ∧ gth a.th j = wakeT (gth s.th j))) :
    ∀ (k i o : Nat), s.th.length - i = k → i ≤ s.th.length → o ≤ i → LoopP Tryz.prog (loopOf Tryz.prog 4 0) (hdO s a id o i) (.exit 0) (hdO s a id (o + wkN s.th a.th id w i : Nat) s.th.length)
  | 0, i, o, hk, hi, ho => by
    have : i = s.th.length := by omega
    subst this
    rw [show wkN s.th a.th id w s.th.length = 0 from if_neg (by omega), Nat.add_zero]
    exact loop_end mixed (fuel := 9) (n := 3) (im := [0, 1]) (keep := [1, 2, 5, 6, 7, 8]) (ext := []) (orc := [.bool false]) (an (show decide ((s.th.length : Int) < s.th.length) = false by simp) trivial) (by intro e; cases e) (by kernel_rfl)
  | k + 1, i, o, hk, hi, ho => by
    have h1 : i < s.th.length := by omega
    have h2 : i < a.th.length := by omega
    have d1 : decide ((i : Int) < s.th.length) = true := by simp; omega
    have d2 : decide ((i : Int) < a.th.length) = true := by simp; omega
    have d3 : In64 ((i : Int) + 1) := by constructor <;> omega
    have cast : ((i + 1 : Nat) : Int) = (i : Int) + 1 := by omega
    rw [wkN_step h1]
    by_cases e : (i : Int) = id
    · have ih := one_lp hl hm hw k (i + 1) o (by omega) (by omega) (by omega)
      rw [if_neg (fun h => h.2.1 e), Nat.zero_add]
      rw [cast] at ih
      exact loop_more mixed (fuel := 9) (n := 3) (im := [0, 1]) (keep := [1, 2, 5, 6, 7, 8]) (ext := []) (orc := [.bool true, .bool true, .bool true]) (an d1 <| an d2 <| an (show ((i : Int) == id) = true by simpa using e) <| an d3 trivial) (by kernel_rfl) ih
    · have d4 : ((i : Int) == id) = false := by simpa using e
      by_cases c : gth a.th i = gth s.th i
      · have ih := one_lp hl hm hw k (i + 1) o (by omega) (by omega) (by omega)
        rw [if_neg (fun h => h.2.2 c), Nat.zero_add]
        rw [cast] at ih
        exact loop_more mixed (fuel := 9) (n := 3) (im := [0, 1]) (keep := [1, 2, 5, 6, 7, 8]) (ext := []) (orc := [.bool true, .bool true, .bool false, thT (gth a.th i), thT (gth s.th i), .bool true, .nilFunc])
          (an d1 <| an d2 <| an d4 <| an (ixT h2) <| an (ixT h1) <| an (ask_te (gth a.th i) (gth s.th i) (r := true) (by simp [c]) (.tmp 40) (.tmp 45)) <| an d3 trivial) (by kernel_rfl) ih
      · obtain ⟨hiw, h2st, hwk⟩ := (hw i h1 e).resolve_left c
        have ih := one_lp hl hm hw k (i + 1) (o + 1) (by omega) (by omega) (by omega)
        rw [if_pos ⟨hiw, e, c⟩, ← Nat.add_assoc]
        rw [cast, show ((o + 1 : Nat) : Int) = (o : Int) + 1 by omega] at ih
        rw [wake_2 h2st] at hwk
        exact loop_more mixed (fuel := 9) (n := 3) (im := [0, 1]) (keep := [1, 2, 5, 6, 7, 8]) (ext := []) (orc := [.bool true, .bool true, .bool false, thT (gth a.th i), thT (gth s.th i), .bool false, .nilFunc, thT (gth s.th i), thT (gth s.th i), .bool false, thT (gth a.th i), .bool false, .nilFunc])
          (an d1 <| an d2 <| an d4 <| an (ixT h2) <| an (ixT h1) <| an (ask_te (gth a.th i) (gth s.th i) (r := false) (by simp [c]) (.tmp 40) (.tmp 45)) <| an (ixT h1) <| an (ixT h1) <| an (show ((gth s.th i).st != 2) = false by simp [h2st]) <| an (ixT h2) <|
            an (ask_tn (gth a.th i) ⟨1, (gth s.th i).ki, (gth s.th i).va, (gth s.th i).un, (gth s.th i).pc, (gth s.th i).re, (gth s.th i).se, (gth s.th i).tr, (gth s.th i).la, (gth s.th i).rs, (gth s.th i).go⟩ (r := false) (by simp [hwk]) (.tmp 66) (.tmp 67)) <| an (show In64 ((o : Int) + 1) by constructor <;> omega) <| an d3 trivial) (by kernel_rfl) ih
set_option maxRecDepth 100000 in
theorem one_same {w : Nat} {v : Int} (hF : fewB s = true) (hS : AC Tryz.prog 15 [stT s, .int .i64 id] (stT a)) (hl : a.th.length = s.th.length) (hm : s.th.length ≤ 1000)
    (hw : ∀ j : Nat, j < s.th.length → (j : Int) ≠ id → gth a.th j = gth s.th j ∨ (j = w ∧ (gth s.th j).st = 2 ∧ gth a.th j = wakeT (gth s.th j)))
    (hT : AC Tryz.prog 19 [stT s, stT a] (.int .i64 v)) (hv : v ≤ 1) (hg : a.lg = s.lg) (hgl : s.lg.length ≤ 1000) (hc : a.cf = s.cf) (hn : a.nw = s.nw) : AC Tryz.prog 4 [stT s, .int .i64 id] (.bool true) :=
  have e1 : a.lg.length = s.lg.length := by rw [hg]
  ac_path mixed (ext := [10, 11, 15, 19, 20]) (fuel := 9) (n := 4) (orc := [vD true, vD true, stT a, oL [0, 1] [1, 2, 5, 6, 7, 8] 0 [(1, .int .i64 id), (2, pt 0), (5, vD true), (6, pt 1), (7, .int .i64 (0 + wkN s.th a.th id w 0 : Nat)), (8, .int .i64 s.th.length)] (hdO s a id 0 0).H, .int .i64 v, .bool true, .bool true, .bool true, .bool true, .bool true, .bool true, .nilFunc, .bool true, .bool false, vD true])
    (an ac_awakeR <| an (hF ▸ ac_rfew s) <| an hS <| an (one_lp hl hm hw s.th.length 0 0 rfl (by omega) (by omega)) <| an hT <| an (show decide (v ≤ 1) = true by simpa using hv) <| an (show decide (((0 + wkN s.th a.th id w 0 : Nat) : Int) ≤ 1) = true by unfold wkN; split <;> simp) <| an (show ((a.th.length : Int) == s.th.length) = true by simp [hl]) <| an (show In64 ((a.lg.length : Int) - s.lg.length) by constructor <;> omega) <| an (show decide ((a.lg.length : Int) - s.lg.length ≤ 1) = true by simp; omega) <| an (show decide ((s.lg.length : Int) ≤ a.lg.length) = true by simp; omega) <| an (show AskP Tryz.prog (.binOp .eql 23 (.tmp 113) (.tmp 115) 23) [cfT a.cf, cfT s.cf] (.bool true) from hc ▸ ask_cf a.cf (.tmp 113) (.tmp 115)) <|
      an (show (a.nw == s.nw) = true by simp [hn]) <| an (show decide ((s.lg.length : Int) < a.lg.length) = false by simp; omega) <| an (show AC Tryz.prog 20 [rowE a.lg, rowE s.lg] (.bool true) from hg ▸ ac_rlogs a.lg (by omega)) trivial) (by kernel_rfl)
set_option maxRecDepth 100000 in
theorem one_more {w : Nat} {v : Int} (hF : fewB s = true) (hS : AC Tryz.prog 15 [stT s, .int .i64 id] (stT a)) (hl : a.th.length = s.th.length) (hm : s.th.length ≤ 1000)
    (hw : ∀ j : Nat, j < s.th.length → (j : Int) ≠ id → gth a.th j = gth s.th j ∨ (j = w ∧ (gth s.th j).st = 2 ∧ gth a.th j = wakeT (gth s.th j)))
    (hT : AC Tryz.prog 19 [stT s, stT a] (.int .i64 v)) (hv : v ≤ 1) (hg : a.lg.length = s.lg.length + 1) (hgl : s.lg.length ≤ 1000) (hc : a.cf = s.cf) (hn : a.nw = s.nw) : AC Tryz.prog 4 [stT s, .int .i64 id] (.bool true) :=
  ac_path mixed (ext := [10, 11, 15, 19, 20]) (fuel := 9) (n := 4) (orc := [vD true, vD true, stT a, oL [0, 1] [1, 2, 5, 6, 7, 8] 0 [(1, .int .i64 id), (2, pt 0), (5, vD true), (6, pt 1), (7, .int .i64 (0 + wkN s.th a.th id w 0 : Nat)), (8, .int .i64 s.th.length)] (hdO s a id 0 0).H, .int .i64 v, .bool true, .bool true, .bool true, .bool true, .bool true, .bool true, .nilFunc, .bool true, .bool true])
    (an ac_awakeR <| an (hF ▸ ac_rfew s) <| an hS <| an (one_lp hl hm hw s.th.length 0 0 rfl (by omega) (by omega)) <| an hT <| an (show decide (v ≤ 1) = true by simpa using hv) <| an (show decide (((0 + wkN s.th a.th id w 0 : Nat) : Int) ≤ 1) = true by unfold wkN; split <;> simp) <| an (show ((a.th.length : Int) == s.th.length) = true by simp [hl]) <| an (show In64 ((a.lg.length : Int) - s.lg.length) by constructor <;> omega) <| an (show decide ((a.lg.length : Int) - s.lg.length ≤ 1) = true by simp; omega) <| an (show decide ((s.lg.length : Int) ≤ a.lg.length) = true by simp; omega) <| an (show AskP Tryz.prog (.binOp .eql 23 (.tmp 113) (.tmp 115) 23) [cfT a.cf, cfT s.cf] (.bool true) from hc ▸ ask_cf a.cf (.tmp 113) (.tmp 115)) <|
      an (show (a.nw == s.nw) = true by simp [hn]) <| an (show decide ((s.lg.length : Int) < a.lg.length) = true by simp; omega) trivial) (by kernel_rfl)
end
theorem ac_recvOne {s : St} {i : Int} (ho : s.ok) : AC Tryz.prog 4 [stT s, .int .i64 i] (.bool true) := by
  cases hF : fewB s
  · exact ac_path mixed (ext := [10, 11]) (fuel := 9) (n := 6) (orc := [vD true, vD false]) (an ac_awakeR <| an (hF ▸ ac_rfew s) trivial) (by kernel_rfl)
  · obtain ⟨f1, f2, f3⟩ := few_is hF
    have h1 := ac_vstep (i := i) ho f2 (by omega)
    have ht := recvS_oth (s := s) (i := i)
    obtain ⟨w, hw⟩ := ht.one
    have hsl : s.sl.length = (recvS s i).sl.length := by unfold recvS; split; exact recvN_sl.symm; rfl
    obtain ⟨v, hv, hT⟩ := ac_things (a := s) (b := recvS s i) hsl f1.sl ⟨by have := f1.sn; omega, by have := f1.rc; omega, by have := f1.fl; omega, by have := f1.el; omega⟩ (recvS_things s i)
    obtain ⟨hlg, hc, hn⟩ := recvS_lgOk s i
    rcases hlg with hg | ⟨x, hg⟩
    · exact one_same hF h1 ht.len f1.th hw hT hv hg (by omega) hc hn
    · exact one_more hF h1 ht.len f1.th hw hT hv (by rw [hg]; simp) (by omega) hc hn
theorem recvOne_walk (s : St) (sz : Pz) (hs : s.ok) (id : Int) (hid : In64 id) (w : World) (hss : StAt w s sz) :
    Calls Tryz.prog 4 #[.agg (s.cells sz).toArray, .int .i64 id] w fun e w' => e = .returned (.bool true) ∧ Kept w w' := by
  refine law_of (ac_recvOne (s := s) (i := id) hs) (cells_at.2 ?_)
  exact ⟨_, _, rfl, st_free hss, _, _, rfl, rp_int.2 rfl, rfl⟩
set_option maxRecDepth 100000 in
theorem recvOne_lifted (os : Os) (started : os.Started) (H : Type) (enc : TypeId × Value → H) :
    ReturnsInHanded {} Tryz.checked os 4 .any (Rows.recvOneSpec.pre6 enc Tryz.prog Tryz.f4 Rows.recvOneRow.domain false) (Rows.recvOneSpec.post enc Tryz.prog Tryz.f4 false true false false) := by
  refine returnsInHanded_of_change (C := Tryz.checked) own started (by kernel_rfl) Tryz.func4
    (ChangeSpec.witness6 (enc := enc) (C := Tryz.checked) false ⟨#[], #[.agg St.zero.toArray, .int .i64 0], []⟩ 8 (by kernel_rfl) (by kernel_rfl) (by kernel_rfl) (by kernel_rfl)) ?_
  intro W base args ds gs before hval0 hW hcnd _
  have hval : ∀ (j : Nat) t v, Tryz.f4.params[j]? = some t → args[j]? = some v → Value.okWide Tryz.prog W .any base t v := hval0
  have hW' := hW
  obtain ⟨p, q, hA0, hV, rfl, hfz, hnd⟩ := hW
  have hA : DataW.TrodAll enc Tryz.prog W 0 (fun _ => true) true Tryz.f4.params.toList args.toList ds p := hA0
  rw [Tryz.params4] at hA hval
  obtain ⟨v0, vs0, d0, ds0, p0, q0, hargs, rfl, rfl, h0, r0⟩ := trodAll_cons hA
  obtain ⟨v1, vs1, d1, ds1, p1, q1, rfl, rfl, rfl, h1, r1⟩ := trodAll_cons r0
  obtain ⟨rfl, rfl, rfl⟩ := trodAll_nil r1
  obtain rfl : args = #[v0, v1] := by cases args; simp_all
  obtain ⟨rfl, rfl⟩ := trodVars_none hV
  obtain ⟨scs, rfl, srd⟩ := open_struct (g := 9) (l := St.shape) Tryz.underlying33 (by kernel_rfl) (hval 0 33 v0 rfl rfl) h0
  obtain ⟨s, sz, rfl, ssl, sok⟩ := St.of_read srd
  obtain ⟨id, rfl, rfl, rfl, wf1⟩ := open_int Tryz.underlying3 (hval 1 3 v1 rfl rfl) h1
  clear hA0 hval0
  refine (recvOne_walk s sz sok id (in64_of_wf wf1) W ssl).mono fun e W' ⟨he, hg⟩ => ?_
  subst he
  exact ⟨_, rfl, law_post laid hW' rfl (by kernel_rfl) rfl Tryz.underlying4 rfl hg⟩

/-- The statement, whole. -/
theorem recvOne_holds : Rows.RecvOneSaid :=
  OpenClaim.holds_of_wide 4 Tryz.f4 rfl rfl rfl rfl rfl rfl rfl ⟨rfl, rfl, rfl, rfl, rfl⟩ rfl rfl rfl rfl rfl (by kernel_rfl) Tryz.func4 (by kernel_rfl)
    (of_decide_eq_true (by kernel_rfl)) (by unfold Func.isWrapper; rw [if_neg (of_decide_eq_false (by kernel_rfl))]; exact ⟨rfl, rfl⟩)
    (fun os started H enc _ => recvOne_lifted os started H enc)
end Go.Proofs.YtjbcfjfnobklkaaGreat
