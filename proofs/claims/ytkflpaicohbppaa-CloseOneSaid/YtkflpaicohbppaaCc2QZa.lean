/- No step of who closes changes more than one thing, nor any thread but itself, and those that it wakes: true of every state and thread. -/
import Derived.Test.YtkflpaicohbppaaZa10
namespace Go.Proofs.Ytkflpaicohbppaa
set_option linter.unusedVariables false
set_option linter.unusedSimpArgs false
open Go.ChangeShapes Go.WideShapes Go.ChangeAt Go.RowKit
theorem ask_tn' (t u : Th) {r : Bool} (h : (!decide (t = u)) = r) (x y : Operand) : AskP Try.prog (.binOp .neq 38 x y 38) [thT t, thT u] (.bool r) :=
  ask_bin (fun x y W => (guard_agg (by kernel_rfl) x y _ _ W).1) (fun W => by rw [← h]; exact th_neq t u W) x y
theorem wake_2' {t : Th} (h : t.st = 2) : wakeT t = ⟨1, t.ki, t.va, t.un, t.pc, t.re, t.se, t.tr, t.la, t.rs, t.go⟩ := if_pos h
def hdO1 (s a : St) (i j : Int) : Sg := ⟨mkT 133 [(1, .int .i64 i), (2, pt 0), (5, vD true), (6, pt 1), (7, .int .i64 j)], [bS s, bS a]⟩
section
variable {s a : St} {id : Int}
set_option maxRecDepth 100000 in
theorem one_lp' (hm : s.th.length ≤ 1000) (hl : a.th.length = s.th.length) (hw : ∀ j : Nat, j < s.th.length → (j : Int) ≠ id → gth a.th j = gth s.th j ∨ ((gth s.th j).st = 2 ∧ gth a.th j = wakeT (gth s.th j))) :
    ∀ (k i : Nat), s.th.length - i = k → i ≤ s.th.length → LoopP Try.prog (loopOf Try.prog 3 0) (hdO1 s a id i) (.exit 0) (hdO1 s a id s.th.length)
  | 0, i, hk, hi => by
    have : i = s.th.length := by omega
    subst this
    exact loop_end mixed (fuel := 9) (n := 3) (im := [0, 1]) (keep := [1, 2, 5, 6, 7]) (ext := []) (orc := [.bool false]) (an (show decide ((s.th.length : Int) < s.th.length) = false by simp) trivial) (by intro e; cases e) (by kernel_rfl)
  | k + 1, i, hk, hi => by
    have h1 : i < s.th.length := by omega
    have h2 : i < a.th.length := by omega
    have d1 : decide ((i : Int) < s.th.length) = true := by simp; omega
    have d2 : decide ((i : Int) < a.th.length) = true := by simp; omega
    have d3 : In64 ((i : Int) + 1) := by constructor <;> omega
    have ih := one_lp' hm hl hw k (i + 1) (by omega) (by omega)
    rw [show ((i + 1 : Nat) : Int) = (i : Int) + 1 by omega] at ih
    by_cases e : (i : Int) = id
    · exact loop_more mixed (fuel := 9) (n := 3) (im := [0, 1]) (keep := [1, 2, 5, 6, 7]) (ext := []) (orc := [.bool true, .bool true, thT (gth s.th i), .bool false]) (an d1 <| an d2 <| an (ixT h1) <| an (show ((i : Int) != id) = false by simp [e]) <| an d3 trivial) (by kernel_rfl) ih
    · have d4 : ((i : Int) != id) = true := by simpa using e
      by_cases c : gth a.th i = gth s.th i
      · exact loop_more mixed (fuel := 9) (n := 3) (im := [0, 1]) (keep := [1, 2, 5, 6, 7]) (ext := []) (orc := [.bool true, .bool true, thT (gth s.th i), .bool true, thT (gth a.th i), thT (gth s.th i), .bool false, .nilFunc])
          (an d1 <| an d2 <| an (ixT h1) <| an d4 <| an (ixT h2) <| an (ixT h1) <| an (ask_tn' (gth a.th i) (gth s.th i) (r := false) (by simp [c]) (.tmp 45) (.tmp 50)) <| an d3 trivial) (by kernel_rfl) ih
      · obtain ⟨h3, h4⟩ := (hw i h1 e).resolve_left c
        rw [wake_2' h3] at h4
        exact loop_more mixed (fuel := 9) (n := 3) (im := [0, 1]) (keep := [1, 2, 5, 6, 7]) (ext := []) (orc := [.bool true, .bool true, thT (gth s.th i), .bool true, thT (gth a.th i), thT (gth s.th i), .bool true, .nilFunc, thT (gth s.th i), .bool false, thT (gth a.th i), .bool false, .nilFunc])
          (an d1 <| an d2 <| an (ixT h1) <| an d4 <| an (ixT h2) <| an (ixT h1) <| an (ask_tn' (gth a.th i) (gth s.th i) (r := true) (by simp [c]) (.tmp 45) (.tmp 50)) <| an (ixT h1) <| an (show ((gth s.th i).st != 2) = false by simp [h3]) <| an (ixT h2) <|
            an (ask_tn' (gth a.th i) ⟨1, (gth s.th i).ki, (gth s.th i).va, (gth s.th i).un, (gth s.th i).pc, (gth s.th i).re, (gth s.th i).se, (gth s.th i).tr, (gth s.th i).la, (gth s.th i).rs, (gth s.th i).go⟩ (r := false) (by simp [h4]) (.tmp 66) (.tmp 67)) <| an d3 trivial) (by kernel_rfl) ih
def cOX : List FuncId := [7, 8, 9, 10, 11]
set_option maxRecDepth 100000 in
theorem cone {v : Int} (hF : fewB s = true) (hS : AC Try.prog 9 [stT s, .int .i64 id] (stT a)) (hm : s.th.length ≤ 1000) (hl : a.th.length = s.th.length) (hw : ∀ j : Nat, j < s.th.length → (j : Int) ≠ id → gth a.th j = gth s.th j ∨ ((gth s.th j).st = 2 ∧ gth a.th j = wakeT (gth s.th j)))
    (hT : AC Try.prog 10 [stT s, stT a] (.int .i64 v)) (hv : v ≤ 1) (hc : a.cf = s.cf) (hn : a.nw = s.nw) (hsn : AC Try.prog 11 [rowI a.sn, rowI s.sn] (.bool true)) (hrc : AC Try.prog 11 [rowI a.rc, rowI s.rc] (.bool true)) (hh : a.hd = s.hd) (ht : a.tl = s.tl) : AC Try.prog 3 [stT s, .int .i64 id] (.bool true) := by
  have e : (true : Bool) = (a.tl == s.tl) := by simp [ht]
  rw [e]
  exact ac_path mixed (ext := cOX) (fuel := 9) (n := 4) (orc := [vD true, vD true, stT a, oL [0, 1] [1, 2, 5, 6, 7] 0 [(1, .int .i64 id), (2, pt 0), (5, vD true), (6, pt 1), (7, .int .i64 s.th.length)] [bS s, bS a], .int .i64 v, .bool true, .bool true, .bool true, .nilFunc, .bool true, vD true, vD true, .bool true])
    (an ac_awakeC <| an (hF ▸ ac_rfew s) <| an hS <| an (one_lp' hm hl hw s.th.length 0 rfl (by omega)) <| an hT <| an (show decide (v ≤ 1) = true by simpa using hv) <| an (show ((a.th.length : Int) == s.th.length) = true by simp [hl]) <| an (show AskP Try.prog (.binOp .eql 23 (.tmp 89) (.tmp 91) 23) [cfT a.cf, cfT s.cf] (.bool true) from hc ▸ ask_cf a.cf (.tmp 89) (.tmp 91)) <|
      an (show (a.nw == s.nw) = true by simp [hn]) <| an hsn <| an hrc <| an (show (a.hd == s.hd) = true by simp [hh]) trivial) (by kernel_rfl)
end
set_option maxRecDepth 100000 in
theorem ac_closeOne {s : St} {i : Int} (ho : s.ok) : AC Try.prog 3 [stT s, .int .i64 i] (.bool true) := by
  cases hF : fewB s
  · exact ac_path mixed (ext := cOX) (fuel := 9) (n := 6) (orc := [vD true, vD false]) (an ac_awakeC <| an (hF ▸ ac_rfew s) trivial) (by kernel_rfl)
  · obtain ⟨f1, f2, f3⟩ := few_is hF
    have h1 := ac_cstep (i := i) ho f2 (by omega)
    have ht := closeS_oth (s := s) (i := i)
    obtain ⟨l1, l2, l3, l4, l5⟩ := closeS_left s i
    obtain ⟨v, hv, hT⟩ := ac_things (a := s) (b := closeS s i) (by rw [l3]) f1.sl ⟨by have := f1.sn; omega, by have := f1.rc; omega, by have := f1.fl; omega, by have := f1.el; omega⟩ (closeS_things s i)
    obtain ⟨-, hc, hn⟩ := closeS_lgOk s i
    exact cone hF h1 f1.th ht.len ht.one hT hv hc hn (l4 ▸ ac_rints _ (by have := f1.sn; rw [l4]; omega)) (l5 ▸ ac_rints _ (by have := f1.rc; rw [l5]; omega)) l1 l2
theorem closeOne_walk (s : St) (sz : Pz) (hs : s.ok) (id : Int) (hid : In64 id) (w : World) (hss : StAt w s sz) :
    Calls Try.prog 3 #[.agg (s.cells sz).toArray, .int .i64 id] w fun e w' => e = .returned (.bool true) ∧ Kept w w' := by
  refine law_of (ac_closeOne (s := s) (i := id) hs) (cells_at.2 ?_)
  exact ⟨_, _, rfl, st_free hss, _, _, rfl, rp_int.2 rfl, rfl⟩
set_option maxRecDepth 100000 in
theorem closeOne_lifted (os : Os) (started : os.Started) (H : Type) (enc : TypeId × Value → H) :
    ReturnsInHanded {} Try.checked os 3 .any (Rows.closeOneSpec.pre6 enc Try.prog Try.f3 Rows.closeOneRow.domain false) (Rows.closeOneSpec.post enc Try.prog Try.f3 false true false false) := by
  refine returnsInHanded_of_change (C := Try.checked) own started (by kernel_rfl) Try.func3
    (ChangeSpec.witness6 (enc := enc) (C := Try.checked) false ⟨#[], #[.agg St.zero.toArray, .int .i64 0], []⟩ 8 (by kernel_rfl) (by kernel_rfl) (by kernel_rfl) (by kernel_rfl)) ?_
  intro W base args ds gs before hval0 hW hcnd _
  have hval : ∀ (j : Nat) t v, Try.f3.params[j]? = some t → args[j]? = some v → Value.okWide Try.prog W .any base t v := hval0
  have hW' := hW
  obtain ⟨p, q, hA0, hV, rfl, hfz, hnd⟩ := hW
  have hA : DataW.TrodAll enc Try.prog W 0 (fun _ => true) true Try.f3.params.toList args.toList ds p := hA0
  rw [Try.params3] at hA hval
  obtain ⟨v0, vs0, d0, ds0, p0, q0, hargs, rfl, rfl, h0, r0⟩ := trodAll_cons hA
  obtain ⟨v1, vs1, d1, ds1, p1, q1, rfl, rfl, rfl, h1, r1⟩ := trodAll_cons r0
  obtain ⟨rfl, rfl, rfl⟩ := trodAll_nil r1
  obtain rfl : args = #[v0, v1] := by cases args; simp_all
  obtain ⟨rfl, rfl⟩ := trodVars_none hV
  obtain ⟨scs, rfl, srd⟩ := open_struct (g := 9) (l := St.shape) Try.underlying33 (by kernel_rfl) (hval 0 33 v0 rfl rfl) h0
  obtain ⟨s, sz, rfl, ssl, sok⟩ := St.of_read srd
  obtain ⟨id, rfl, rfl, rfl, wf1⟩ := open_int Try.underlying3 (hval 1 3 v1 rfl rfl) h1
  clear hA0 hval0
  refine (closeOne_walk s sz sok id (in64_of_wf wf1) W ssl).mono fun e W' ⟨he, hg⟩ => ?_
  subst he
  exact ⟨_, rfl, law_post laid hW' rfl (by kernel_rfl) rfl Try.underlying4 rfl hg⟩

/-- The statement, whole. -/
theorem closeOne_holds : Rows.CloseOneSaid :=
  OpenClaim.holds_of_wide 3 Try.f3 rfl rfl rfl rfl rfl rfl rfl ⟨rfl, rfl, rfl, rfl, rfl⟩ rfl rfl rfl rfl rfl (by kernel_rfl) Try.func3 (by kernel_rfl)
    (of_decide_eq_true (by kernel_rfl)) (by unfold Func.isWrapper; rw [if_neg (of_decide_eq_false (by kernel_rfl))]; exact ⟨rfl, rfl⟩)
    (fun os started H enc _ => closeOne_lifted os started H enc)
end Go.Proofs.Ytkflpaicohbppaa
