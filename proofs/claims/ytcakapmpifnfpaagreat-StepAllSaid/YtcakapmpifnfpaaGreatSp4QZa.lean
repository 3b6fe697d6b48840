/- A round in which one thread alone runs is one pick of it, if nobody else is woken by it: true of every state. -/
import Derived.Test.YtcakapmpifnfpaaGreatSp1QZa
namespace Go.Proofs.YtcakapmpifnfpaaGreat
set_option linter.unusedVariables false
set_option linter.unusedSimpArgs false
open Go.ChangeShapes Go.WideShapes Go.ChangeAt Go.RowKit
theorem ask_tn {t u : Th} {q : Bool} (h : (!decide (t = u)) = q) (x y : Operand) : AskP Tryz.prog (.binOp .neq 47 x y 47) [thT t, thT u] (.bool q) :=
  ask_bin (fun x y W => (guard_agg (by kernel_rfl) x y _ _ W).1) (fun W => by rw [← h]; exact th_neq t u W) x y
theorem ixI0 (i : Int) : IxP (([i].map (Value.int .i64 ·)).toArray) 0 (.int .i64 i) := ixIl (l := [i]) (i := 0) (show 0 < 1 by decide)
def bV4 (s : St) : Option Blk := some ⟨true, false, 20, 1, [stT s]⟩
def sl4T (i j : Int) : List (Nat × Value) := [(1, pt 0), (3, vD true), (4, rowI [i]), (5, pt 1), (6, .int .i64 1), (7, pt 2), (8, .int .i64 0), (9, .int .i64 j)]
def sl4H (s a b : St) : List (Option Blk) := [bV4 s, bV4 a, bV4 b]
def sl4 (s a b : St) (i j : Int) : Sg := ⟨mkT 89 (sl4T i j), sl4H s a b⟩
def rt4T : List (Nat × Value) := [(2, .bool true)]
def rt4 (s a b : St) : Sg := ⟨mkT 89 rt4T, sl4H s a b⟩
section
variable {s a b : St} {i : Int} {n : Nat} {S : Sg} {y : Exit}
section
variable (lt : decide ((n : Int) < s.th.length) = true) (lu : decide ((n : Int) < b.th.length) = true)
include lt lu
set_option maxRecDepth 100000 in
theorem sl_is (j1 : In64 ((n : Int) + 1)) (h : ((n : Int) != i) = false) (hL : LoopP Tryz.prog (loopOf Tryz.prog 6 0) (sl4 s a b i (n + 1)) y S) : LoopP Tryz.prog (loopOf Tryz.prog 6 0) (sl4 s a b i n) y S := loop_more mixed (fuel := 9) (n := 6) (im := [0, 1, 2]) (keep := [1, 3, 4, 5, 6, 7, 8, 9]) (ext := lwX) (orc := [.bool true, .bool true, .int .i64 i, .bool false]) (an lt <| an lu <| an (ixI0 i) <| an h <| an j1 trivial) (by kernel_rfl) hL
set_option maxRecDepth 100000 in
theorem sl_no (j1 : In64 ((n : Int) + 1)) (hn : n < s.th.length) (hu : n < b.th.length) (h : ((n : Int) != i) = true) (hz : (!decide (gth b.th n = gth s.th n)) = false) (hL : LoopP Tryz.prog (loopOf Tryz.prog 6 0) (sl4 s a b i (n + 1)) y S) : LoopP Tryz.prog (loopOf Tryz.prog 6 0) (sl4 s a b i n) y S := loop_more mixed (fuel := 9) (n := 6) (im := [0, 1, 2]) (keep := [1, 3, 4, 5, 6, 7, 8, 9]) (ext := lwX) (orc := [.bool true, .bool true, .int .i64 i, .bool true, thT (gth b.th n), thT (gth s.th n), .bool false, .nilFunc]) (an lt <| an lu <| an (ixI0 i) <| an h <| an (ixT hu) <| an (ixT hn) <| an (ask_tn hz (.tmp 58) (.tmp 63)) <| an j1 trivial) (by kernel_rfl) hL
set_option maxRecDepth 100000 in
theorem sl_ne (hn : n < s.th.length) (hu : n < b.th.length) (h : ((n : Int) != i) = true) (hz : (!decide (gth b.th n = gth s.th n)) = true) : LoopP Tryz.prog (loopOf Tryz.prog 6 0) (sl4 s a b i n) .ret (rt4 s a b) := loop_end mixed (fuel := 9) (n := 6) (im := [0, 1, 2]) (keep := [2]) (ext := lwX) (orc := [.bool true, .bool true, .int .i64 i, .bool true, thT (gth b.th n), thT (gth s.th n), .bool true, .nilFunc, .nilFunc]) (an lt <| an lu <| an (ixI0 i) <| an h <| an (ixT hu) <| an (ixT hn) <| an (ask_tn hz (.tmp 58) (.tmp 63)) trivial) (by intro e; cases e) (by kernel_rfl)
end
set_option maxRecDepth 100000 in
theorem sl_ed {j : Int} (lt : decide (j < s.th.length) = false) : LoopP Tryz.prog (loopOf Tryz.prog 6 0) (sl4 s a b i j) (.exit 0) (sl4 s a b i j) := loop_end mixed (fuel := 9) (n := 6) (im := [0, 1, 2]) (keep := [1, 3, 4, 5, 6, 7, 8, 9]) (ext := lwX) (orc := [.bool false]) (an lt trivial) (by intro e; cases e) (by kernel_rfl)
end
section
variable {s a b : St} {i : Int}
/-- Nobody else is another one. -/
theorem sl_all (hm : s.th.length ≤ 1000) (hl : b.th.length = s.th.length) (hz : ∀ n : Nat, n < s.th.length → (n : Int) ≠ i → gth b.th n = gth s.th n) : ∀ (k n : Nat), s.th.length - n = k → n ≤ s.th.length → LoopP Tryz.prog (loopOf Tryz.prog 6 0) (sl4 s a b i n) (.exit 0) (sl4 s a b i s.th.length)
  | 0, n, hk, hn => by
    have : n = s.th.length := by omega
    subst this
    exact sl_ed (by simp)
  | k + 1, n, hk, hn => by
    have ih := sl_all hm hl hz k (n + 1) (by omega) (by omega)
    have hn' : n < s.th.length := by omega
    have lt : decide ((n : Int) < s.th.length) = true := by simp; omega
    have lu : decide ((n : Int) < b.th.length) = true := by simp; omega
    have j1 : In64 ((n : Int) + 1) := by constructor <;> omega
    by_cases h : (n : Int) = i
    · exact sl_is lt lu j1 (by simp [h]) ih
    · exact sl_no lt lu j1 hn' (by omega) (by simp [h]) (by rw [hz n hn' h]; simp) ih
/-- Somebody else is. -/
theorem sl_one (hm : s.th.length ≤ 1000) (hl : b.th.length = s.th.length) : ∀ (k n m : Nat), s.th.length - n = k → n ≤ m → m < s.th.length → (m : Int) ≠ i → gth b.th m ≠ gth s.th m → LoopP Tryz.prog (loopOf Tryz.prog 6 0) (sl4 s a b i n) .ret (rt4 s a b)
  | 0, n, m, hk, h1, h2, _, _ => by omega
  | k + 1, n, m, hk, h1, h2, h3, h4 => by
    have hn' : n < s.th.length := by omega
    have lt : decide ((n : Int) < s.th.length) = true := by simp; omega
    have lu : decide ((n : Int) < b.th.length) = true := by simp; omega
    have j1 : In64 ((n : Int) + 1) := by constructor <;> omega
    by_cases e : n = m
    · subst e
      exact sl_ne lt lu hn' (by omega) (by simp [h3]) (by simp [h4])
    · have ih := sl_one hm hl k (n + 1) m (by omega) (by omega) h2 h3 h4
      by_cases h : (n : Int) = i
      · exact sl_is lt lu j1 (by simp [h]) ih
      · by_cases hz : gth b.th n = gth s.th n
        · exact sl_no lt lu j1 hn' (by omega) (by simp [h]) (by simp [hz]) ih
        · exact sl_ne lt lu hn' (by omega) (by simp [h]) (by simp [hz])
end
set_option maxRecDepth 100000 in
theorem sp4_same {s a b : St} {i : Int} (hF : fewB s = true) (ha : AC Tryz.prog 14 [stT s] (rowI [i])) (hr : AC Tryz.prog 15 [stT s, .int .i64 1] (.tuple #[stT a, .int .i64 1])) (hp : AC Tryz.prog 9 [stT s, .int .i64 i] (.tuple #[stT b, .int .i64 0])) (hL : LoopP Tryz.prog (loopOf Tryz.prog 6 0) (sl4 s a b i 0) (.exit 0) (sl4 s a b i s.th.length)) (hs : AC Tryz.prog 10 [stT a, stT b] (.bool true)) : AC Tryz.prog 6 [stT s] (.bool true) :=
  ac_path mixed (ext := lwX) (fuel := 9) (n := 6) (orc := [vD true, vD true, rowI [i], .nilFunc, .tuple #[stT a, .int .i64 1], .int .i64 i, .tuple #[stT b, .int .i64 0], oL [0, 1, 2] [1, 3, 4, 5, 6, 7, 8, 9] 0 (sl4T i s.th.length) (sl4H s a b), .nilFunc, .nilFunc, vD true]) (an ac_awakeS <| an (hF ▸ ac_rfew s) <| an ha <| an hr <| an (ixI0 i) <| an hp <| an hL <| an hs trivial) (by kernel_rfl)
set_option maxRecDepth 100000 in
theorem sp4_ret {s a b : St} {i : Int} (hF : fewB s = true) (ha : AC Tryz.prog 14 [stT s] (rowI [i])) (hr : AC Tryz.prog 15 [stT s, .int .i64 1] (.tuple #[stT a, .int .i64 1])) (hp : AC Tryz.prog 9 [stT s, .int .i64 i] (.tuple #[stT b, .int .i64 0])) (hL : LoopP Tryz.prog (loopOf Tryz.prog 6 0) (sl4 s a b i 0) .ret (rt4 s a b)) : AC Tryz.prog 6 [stT s] (.bool true) :=
  ac_path mixed (ext := lwX) (fuel := 9) (n := 6) (orc := [vD true, vD true, rowI [i], .nilFunc, .tuple #[stT a, .int .i64 1], .int .i64 i, .tuple #[stT b, .int .i64 0], oL [0, 1, 2] [1, 3, 4, 5, 6, 7, 8, 9] (-1) rt4T (sl4H s a b)]) (an ac_awakeS <| an (hF ▸ ac_rfew s) <| an ha <| an hr <| an (ixI0 i) <| an hp <| an hL trivial) (by kernel_rfl)
set_option maxRecDepth 100000 in
theorem sp4_no {s : St} {l : List Int} (hF : fewB s = true) (ha : AC Tryz.prog 14 [stT s] (rowI l)) (hl : ((l.length : Int) != 1) = true) : AC Tryz.prog 6 [stT s] (.bool true) :=
  ac_path mixed (ext := lwX) (fuel := 9) (n := 6) (orc := [vD true, vD true, rowI l, .bool true]) (an ac_awakeS <| an (hF ▸ ac_rfew s) <| an ha <| an hl trivial) (by kernel_rfl)
set_option maxRecDepth 100000 in
theorem ac_stepAll {s : St} (ho : s.ok) : AC Tryz.prog 6 [stT s] (.bool true) := by
  cases hF : fewB s
  · exact ac_path mixed (ext := lwX) (fuel := 9) (n := 6) (orc := [vD true, vD false]) (an ac_awakeS <| an (hF ▸ ac_rfew s) trivial) (by kernel_rfl)
  · obtain ⟨f1, f2, f3⟩ := few_is hF
    have ha := ac_active ho
    by_cases h1 : (actL s).length = 1
    · obtain ⟨i, hi⟩ := List.length_eq_one_iff.1 h1
      have he : pickE s i = 0 := mem_act.1 (by rw [hi]; exact List.mem_cons_self)
      obtain ⟨n, rfl, hB, hn, h1⟩ := pick_iff.1 he
      have hth := (th_len hB).2.2
      have hp := ac_pick (i := n) ho f2 (by omega)
      rw [he] at hp
      have hr := ac_rounds (m := 1) ho f2 (by omega)
      have hq : quietB s = false := by unfold quietB; rw [hi]; rfl
      have e : roundsS s (min (1 : Int) 200).toNat = (roundS s, 1) := by
        show (if quietB s = true then (s, 0) else ((roundsS (roundS s) 0).1, (roundsS (roundS s) 0).2 + 1)) = _
        rw [if_neg (by simp [hq])]
        rfl
      rw [e] at hr
      rw [hi] at ha
      have hl := pick_len s n
      by_cases hall : ∀ j : Nat, j < s.th.length → (j : Int) ≠ n → gth (pickS s n).th j = gth s.th j
      · have w := pick_wk (N := 200) ⟨hB, .of ho, f3⟩ n
        rw [all_alone hi hall] at hr
        exact sp4_same hF ha hr hp (sl_all (by omega) hl hall s.th.length 0 (by omega) (by omega)) (ac_rsame (s := pickS s n) (w.few (by omega)) (by have := w.l; omega))
      · obtain ⟨m, hm, h2, h3⟩ : ∃ m : Nat, m < s.th.length ∧ (m : Int) ≠ n ∧ gth (pickS s n).th m ≠ gth s.th m := by
          simp only [Classical.not_forall] at hall
          obtain ⟨m, h1, h2, h3⟩ := hall
          exact ⟨m, h1, h2, h3⟩
        exact sp4_ret hF ha hr hp (sl_one (by omega) hl s.th.length 0 m (by omega) (by omega) hm h2 h3)
    · exact sp4_no hF ha (by simp; omega)
theorem stepAll_walk (s : St) (sz : Pz) (hs : s.ok) (w : World) (hss : StAt w s sz) :
    Calls Tryz.prog 6 #[.agg (s.cells sz).toArray] w fun e w' => e = .returned (.bool true) ∧ Kept w w' := by
  refine law_of (ac_stepAll (s := s) hs) (cells_at.2 ?_)
  exact ⟨_, _, rfl, st_free hss, rfl⟩
set_option maxRecDepth 100000 in
theorem stepAll_lifted (os : Os) (started : os.Started) (H : Type) (enc : TypeId × Value → H) :
    ReturnsInHanded {} Tryz.checked os 6 .any (Rows.stepAllSpec.pre6 enc Tryz.prog Tryz.f6 Rows.stepAllRow.domain false) (Rows.stepAllSpec.post enc Tryz.prog Tryz.f6 false true false false) := by
  refine returnsInHanded_of_change (C := Tryz.checked) own started (by kernel_rfl) Tryz.func6
    (ChangeSpec.witness6 (enc := enc) (C := Tryz.checked) false ⟨#[], #[.agg St.zero.toArray], []⟩ 8 (by kernel_rfl) (by kernel_rfl) (by kernel_rfl) (by kernel_rfl)) ?_
  intro W base args ds gs before hval0 hW hcnd _
  have hval : ∀ (j : Nat) t v, Tryz.f6.params[j]? = some t → args[j]? = some v → Value.okWide Tryz.prog W .any base t v := hval0
  have hW' := hW
  obtain ⟨p, q, hA0, hV, rfl, hfz, hnd⟩ := hW
  have hA : DataW.TrodAll enc Tryz.prog W 0 (fun _ => true) true Tryz.f6.params.toList args.toList ds p := hA0
  rw [Tryz.params6] at hA hval
  obtain ⟨v0, vs0, d0, ds0, p0, q0, hargs, rfl, rfl, h0, r0⟩ := trodAll_cons hA
  obtain ⟨rfl, rfl, rfl⟩ := trodAll_nil r0
  obtain rfl : args = #[v0] := by cases args; simp_all
  obtain ⟨rfl, rfl⟩ := trodVars_none hV
  obtain ⟨scs, rfl, srd⟩ := open_struct (g := 9) (l := St.shape) Tryz.underlying33 (by kernel_rfl) (hval 0 33 v0 rfl rfl) h0
  obtain ⟨s, sz, rfl, ssl, sok⟩ := St.of_read srd
  clear hA0 hval0
  refine (stepAll_walk s sz sok W ssl).mono fun e W' ⟨he, hg⟩ => ?_
  subst he
  exact ⟨_, rfl, law_post laid hW' rfl (by kernel_rfl) rfl Tryz.underlying4 rfl hg⟩

/-- The statement, whole. -/
theorem stepAll_holds : Rows.StepAllSaid :=
  OpenClaim.holds_of_wide 6 Tryz.f6 rfl rfl rfl rfl rfl rfl rfl ⟨rfl, rfl, rfl, rfl, rfl⟩ rfl rfl rfl rfl rfl (by kernel_rfl) Tryz.func6 (by kernel_rfl)
    (of_decide_eq_true (by kernel_rfl)) (by unfold Func.isWrapper; rw [if_neg (of_decide_eq_false (by kernel_rfl))]; exact ⟨rfl, rfl⟩)
    (fun os started H enc _ => stepAll_lifted os started H enc)
end Go.Proofs.YtcakapmpifnfpaaGreat
