/- Time that goes by changes nothing but itself, if nobody is to be late, and nobody is, of whom no time is asked: true of every state and time. -/
import Derived.Test.YtfhjllchbgclaaaGreatTk4QZb
namespace Go.Proofs.YtfhjllchbgclaaaGreat
set_option linter.unusedVariables false
set_option linter.unusedSimpArgs false
open Go.ChangeShapes Go.WideShapes Go.ChangeAt Go.RowKit
/-- Is one of the first ones asked a time of? -/
def tmB (s : St) : Nat → Bool
  | 0 => false
  | k + 1 => tmB s k || opTimed (gth s.th k).ki
theorem tmB_no (s : St) : ∀ {k : Nat}, tmB s k = false → ∀ j, j < k → opTimed (gth s.th j).ki = false
  | 0, _, j, hj => absurd hj (by omega)
  | k + 1, h, j, hj => by
    simp only [tmB, Bool.or_eq_false_iff] at h
    by_cases e : j = k
    · subst e; exact h.2
    · exact tmB_no s h.1 j (by omega)
def noT (e : Int) (l : List Int) (v : Value) (i : Int) : List (Nat × Value) := [(2, pt 0), (5, vD true), (6, pt 1), (7, rowI l), (8, .int .i64 e), (9, pt 2), (10, v), (11, .int .i64 i)]
def hdNo (s a b : St) (e : Int) (l : List Int) (v : Value) (i : Nat) : Sg := ⟨mkT 85 (noT e l v i), [bS s, bS a, bS b]⟩
/-- A bool, decided or not. -/
def Bv (v : Value) (p : Bool) : Prop := v = vD p ∨ v = .bool p
section
variable {s a b : St} {e : Int} {l : List Int}
set_option maxRecDepth 100000 in
theorem no_more {i : Nat} (hi : i < s.th.length) (hm : s.th.length ≤ 1000) {v : Value} (hv : Bv v (tmB s i)) : ∃ v', Bv v' (tmB s (i + 1)) ∧ ∀ S, LoopP Tryz.prog (loopOf Tryz.prog 8 0) (hdNo s a b e l v' (i + 1)) (.exit 0) S → LoopP Tryz.prog (loopOf Tryz.prog 8 0) (hdNo s a b e l v i) (.exit 0) S := by
  simp only [tmB]
  cases hp : tmB s i
  · rw [hp] at hv
    rw [Bool.false_or]
    unfold opTimed
    cases hk : (gth s.th i).ki == 3
    · rw [Bool.false_or]
      refine ⟨.bool ((gth s.th i).ki == 6), .inr rfl, fun S ih => ?_⟩
      rcases hv with rfl | rfl
      · exact loop_more mixed (fuel := 9) (n := 3) (im := [0, 1, 2]) (keep := [2, 5, 6, 7, 8, 9, 10, 11]) (ext := []) (orc := [.bool true, thT (gth s.th i), .bool false, thT (gth s.th i)]) (an (d_lt hi) <| an (ixT hi) <| an hk <| an (ixT hi) <| an (d_in hi (by omega)) trivial) (by kernel_rfl) ih
      · exact loop_more mixed (fuel := 9) (n := 3) (im := [0, 1, 2]) (keep := [2, 5, 6, 7, 8, 9, 10, 11]) (ext := []) (orc := [.bool true, .nilFunc, thT (gth s.th i), .bool false, thT (gth s.th i)]) (an (d_lt hi) <| an (ixT hi) <| an hk <| an (ixT hi) <| an (d_in hi (by omega)) trivial) (by kernel_rfl) ih
    · rw [Bool.true_or]
      refine ⟨vD true, .inl rfl, fun S ih => ?_⟩
      rcases hv with rfl | rfl
      · exact loop_more mixed (fuel := 9) (n := 3) (im := [0, 1, 2]) (keep := [2, 5, 6, 7, 8, 9, 10, 11]) (ext := []) (orc := [.bool true, thT (gth s.th i), .bool true]) (an (d_lt hi) <| an (ixT hi) <| an hk <| an (d_in hi (by omega)) trivial) (by kernel_rfl) ih
      · exact loop_more mixed (fuel := 9) (n := 3) (im := [0, 1, 2]) (keep := [2, 5, 6, 7, 8, 9, 10, 11]) (ext := []) (orc := [.bool true, .nilFunc, thT (gth s.th i), .bool true]) (an (d_lt hi) <| an (ixT hi) <| an hk <| an (d_in hi (by omega)) trivial) (by kernel_rfl) ih
  · rw [hp] at hv
    rw [Bool.true_or]
    refine ⟨vD true, .inl rfl, fun S ih => ?_⟩
    rcases hv with rfl | rfl
    · exact loop_more mixed (fuel := 9) (n := 3) (im := [0, 1, 2]) (keep := [2, 5, 6, 7, 8, 9, 10, 11]) (ext := []) (orc := [.bool true]) (an (d_lt hi) <| an (d_in hi (by omega)) trivial) (by kernel_rfl) ih
    · exact loop_more mixed (fuel := 9) (n := 3) (im := [0, 1, 2]) (keep := [2, 5, 6, 7, 8, 9, 10, 11]) (ext := []) (orc := [.bool true, .nilFunc]) (an (d_lt hi) <| an (d_in hi (by omega)) trivial) (by kernel_rfl) ih
set_option maxRecDepth 100000 in
theorem no_lp (hm : s.th.length ≤ 1000) : ∀ (k i : Nat) {v : Value}, s.th.length - i = k → i ≤ s.th.length → Bv v (tmB s i) → ∃ v', Bv v' (tmB s s.th.length) ∧ LoopP Tryz.prog (loopOf Tryz.prog 8 0) (hdNo s a b e l v i) (.exit 0) (hdNo s a b e l v' s.th.length)
  | 0, i, v, hk, hi, hv => by
    have : i = s.th.length := by omega
    subst this
    refine ⟨v, hv, ?_⟩
    cases hp : tmB s s.th.length <;> rw [hp] at hv <;> rcases hv with rfl | rfl <;>
      exact loop_end mixed (fuel := 9) (n := 3) (im := [0, 1, 2]) (keep := [2, 5, 6, 7, 8, 9, 10, 11]) (ext := []) (orc := [.bool false]) (an (d_nlt s.th.length) trivial) (by intro e; cases e) (by kernel_rfl)
  | k + 1, i, v, hk, hi, hv => by
    obtain ⟨v1, h1, f1⟩ := no_more (a := a) (b := b) (e := e) (l := l) (i := i) (by omega) hm hv
    obtain ⟨v2, h2, f2⟩ := no_lp hm k (i + 1) (by omega) (by omega) h1
    exact ⟨v2, h2, f1 _ f2⟩
end
def oNo (s a b : St) (e : Int) (l : List Int) (v : Value) : Value := oL [0, 1, 2] [2, 5, 6, 7, 8, 9, 10, 11] 0 (noT e l v s.th.length) [bS s, bS a, bS b]
section
variable {s a : St} {n e : Int} {l : List Int} (hF : fewB s = true) (hn : 0 ≤ n ∧ n ≤ 4294967295) (h1 : AC Tryz.prog 11 [stT s, .int .i64 n] (.tuple #[stT a, rowI l, .int .i64 e]))
include hF hn h1
set_option maxRecDepth 100000 in
theorem tk6_e {v : Value} {p : Bool} {d : List Du} (hv : Bv v p) (hL : LoopP Tryz.prog (loopOf Tryz.prog 8 0) (hdNo s a (a.toNow s.nw) e l (vD false) 0) (.exit 0) (hdNo s a (a.toNow s.nw) e l v s.th.length)) (h2 : AC Tryz.prog 20 [stT s] (rowD d)) (he : (e != 0) = true) (hp : p = false → d = []) : AC Tryz.prog 8 [stT s, .int .u32 n] (.bool true) := by
  cases p
  · obtain rfl := hp rfl
    rcases hv with rfl | rfl
    · exact ac_path mixed (ext := lkX) (fuel := 9) (n := 6) (orc := [vD true, vD true, .int .i64 n, .tuple #[stT a, rowI l, .int .i64 e], oNo s a (a.toNow s.nw) e l (vD false), rowD [], .bool true]) (an ac_awakeK <| an (hF ▸ ac_rfew s) <| an (ask_u32 n hn.1 hn.2 (.tmp 20)) <| an h1 <| an hL <| an h2 <| an he trivial) (by kernel_rfl)
    · exact ac_path mixed (ext := lkX) (fuel := 9) (n := 6) (orc := [vD true, vD true, .int .i64 n, .tuple #[stT a, rowI l, .int .i64 e], oNo s a (a.toNow s.nw) e l (.bool false), rowD [], .bool true, .nilFunc]) (an ac_awakeK <| an (hF ▸ ac_rfew s) <| an (ask_u32 n hn.1 hn.2 (.tmp 20)) <| an h1 <| an hL <| an h2 <| an he trivial) (by kernel_rfl)
  · rcases hv with rfl | rfl
    · exact ac_path mixed (ext := lkX) (fuel := 9) (n := 6) (orc := [vD true, vD true, .int .i64 n, .tuple #[stT a, rowI l, .int .i64 e], oNo s a (a.toNow s.nw) e l (vD true), rowD d, .bool true]) (an ac_awakeK <| an (hF ▸ ac_rfew s) <| an (ask_u32 n hn.1 hn.2 (.tmp 20)) <| an h1 <| an hL <| an h2 <| an he trivial) (by kernel_rfl)
    · exact ac_path mixed (ext := lkX) (fuel := 9) (n := 6) (orc := [vD true, vD true, .int .i64 n, .tuple #[stT a, rowI l, .int .i64 e], oNo s a (a.toNow s.nw) e l (.bool true), rowD d, .bool true, .nilFunc]) (an ac_awakeK <| an (hF ▸ ac_rfew s) <| an (ask_u32 n hn.1 hn.2 (.tmp 20)) <| an h1 <| an hL <| an h2 <| an he trivial) (by kernel_rfl)
set_option maxRecDepth 100000 in
theorem tk6_d {v : Value} {d : Du} {r : List Du} (hv : Bv v true) (hL : LoopP Tryz.prog (loopOf Tryz.prog 8 0) (hdNo s a (a.toNow s.nw) e l (vD false) 0) (.exit 0) (hdNo s a (a.toNow s.nw) e l v s.th.length)) (h2 : AC Tryz.prog 20 [stT s] (rowD (d :: r))) (he : (e != 0) = false) : AC Tryz.prog 8 [stT s, .int .u32 n] (.bool true) := by
  rcases hv with rfl | rfl
  · exact ac_path mixed (ext := lkX) (fuel := 9) (n := 6) (orc := [vD true, vD true, .int .i64 n, .tuple #[stT a, rowI l, .int .i64 e], oNo s a (a.toNow s.nw) e l (vD true), rowD (d :: r), .bool false, .bool true]) (an ac_awakeK <| an (hF ▸ ac_rfew s) <| an (ask_u32 n hn.1 hn.2 (.tmp 20)) <| an h1 <| an hL <| an h2 <| an he <| an (show (!((d :: r).length : Int) == 0) = true by simp; omega) trivial) (by kernel_rfl)
  · exact ac_path mixed (ext := lkX) (fuel := 9) (n := 6) (orc := [vD true, vD true, .int .i64 n, .tuple #[stT a, rowI l, .int .i64 e], oNo s a (a.toNow s.nw) e l (.bool true), rowD (d :: r), .bool false, .bool true, .nilFunc]) (an ac_awakeK <| an (hF ▸ ac_rfew s) <| an (ask_u32 n hn.1 hn.2 (.tmp 20)) <| an h1 <| an hL <| an h2 <| an he <| an (show (!((d :: r).length : Int) == 0) = true by simp; omega) trivial) (by kernel_rfl)
end
set_option maxRecDepth 100000 in
theorem tk6_n {s a : St} {n e : Int} {l : List Int} {v : Value} {p : Bool} (hF : fewB s = true) (hn : 0 ≤ n ∧ n ≤ 4294967295) (h1 : AC Tryz.prog 11 [stT s, .int .i64 n] (.tuple #[stT a, rowI l, .int .i64 e])) (hl : l = []) (hv : Bv v p) (hL : LoopP Tryz.prog (loopOf Tryz.prog 8 0) (hdNo s a (a.toNow s.nw) e l (vD false) 0) (.exit 0) (hdNo s a (a.toNow s.nw) e l v s.th.length)) (h2 : AC Tryz.prog 20 [stT s] (rowD [])) (he : (e != 0) = false) (h3 : AC Tryz.prog 17 [stT (a.toNow s.nw), stT s] (.bool true)) : AC Tryz.prog 8 [stT s, .int .u32 n] (.bool true) := by
  subst hl
  cases p <;> rcases hv with rfl | rfl
  · exact ac_path mixed (ext := lkX) (fuel := 9) (n := 6) (orc := [vD true, vD true, .int .i64 n, .tuple #[stT a, rowI [], .int .i64 e], oNo s a (a.toNow s.nw) e [] (vD false), rowD [], .bool false, .nilFunc, .nilFunc, vD true]) (an ac_awakeK <| an (hF ▸ ac_rfew s) <| an (ask_u32 n hn.1 hn.2 (.tmp 20)) <| an h1 <| an hL <| an h2 <| an he <| an h3 trivial) (by kernel_rfl)
  · exact ac_path mixed (ext := lkX) (fuel := 9) (n := 6) (orc := [vD true, vD true, .int .i64 n, .tuple #[stT a, rowI [], .int .i64 e], oNo s a (a.toNow s.nw) e [] (.bool false), rowD [], .bool false, .nilFunc, .nilFunc, vD true, .nilFunc]) (an ac_awakeK <| an (hF ▸ ac_rfew s) <| an (ask_u32 n hn.1 hn.2 (.tmp 20)) <| an h1 <| an hL <| an h2 <| an he <| an h3 trivial) (by kernel_rfl)
  · exact ac_path mixed (ext := lkX) (fuel := 9) (n := 6) (orc := [vD true, vD true, .int .i64 n, .tuple #[stT a, rowI [], .int .i64 e], oNo s a (a.toNow s.nw) e [] (vD true), rowD [], .bool false, .nilFunc, .nilFunc, vD true]) (an ac_awakeK <| an (hF ▸ ac_rfew s) <| an (ask_u32 n hn.1 hn.2 (.tmp 20)) <| an h1 <| an hL <| an h2 <| an he <| an h3 trivial) (by kernel_rfl)
  · exact ac_path mixed (ext := lkX) (fuel := 9) (n := 6) (orc := [vD true, vD true, .int .i64 n, .tuple #[stT a, rowI [], .int .i64 e], oNo s a (a.toNow s.nw) e [] (.bool true), rowD [], .bool false, .nilFunc, .nilFunc, vD true, .nilFunc]) (an ac_awakeK <| an (hF ▸ ac_rfew s) <| an (ask_u32 n hn.1 hn.2 (.tmp 20)) <| an h1 <| an hL <| an h2 <| an he <| an h3 trivial) (by kernel_rfl)
set_option maxRecDepth 100000 in
theorem ac_tickNone {s : St} {n : Int} (ho : s.ok) (hn : 0 ≤ n ∧ n ≤ 4294967295) : AC Tryz.prog 8 [stT s, .int .u32 n] (.bool true) := by
  cases hF : fewB s
  · exact ac_path mixed (ext := lkX) (fuel := 9) (n := 6) (orc := [vD true, vD false]) (an ac_awakeK <| an (hF ▸ ac_rfew s) trivial) (by kernel_rfl)
  · have h := lk_few hF ho
    have h1 := ac_ptick (n := n) h (by constructor <;> omega)
    have h2 := ac_pdues h
    obtain ⟨v, hv, hL⟩ := no_lp (s := s) (a := tickS s n) (b := (tickS s n).toNow s.nw) (e := tickE s n) (l := tickI s n) h.few.th s.th.length 0 (v := vD false) rfl (by omega) (.inl rfl)
    have hno : tmB s s.th.length = false → duesS s = [] := fun e => none_timed (tmB_no s e)
    by_cases he : tickE s n = 0
    · by_cases hd : duesS s = []
      · have hi := tick_none hd n
        rw [hd] at h2
        refine tk6_n hF hn h1 hi hv hL h2 (by simp [he]) ?_
        rw [show (tickS s n).toNow s.nw = s by rw [(tick_yes he).1, hi]; rfl]
        exact h.same
      · have ht : tmB s s.th.length = true := by
          cases e : tmB s s.th.length
          · exact absurd (hno e) hd
          · rfl
        rw [ht] at hv
        obtain ⟨d, r, e⟩ := List.exists_cons_of_ne_nil hd
        rw [e] at h2
        exact tk6_d hF hn h1 hv hL h2 (by simp [he])
    · exact tk6_e hF hn h1 hv hL h2 (by simp [he]) hno
theorem tickNone_walk (s : St) (sz : Pz) (hs : s.ok) (n : Int) (hn : 0 ≤ n ∧ n ≤ 4294967295) (w : World) (hss : StAt w s sz) :
    Calls Tryz.prog 8 #[.agg (s.cells sz).toArray, .int .u32 n] w fun e w' => e = .returned (.bool true) ∧ Kept w w' := by
  refine law_of (ac_tickNone (s := s) (n := n) hs hn) (cells_at.2 ?_)
  exact ⟨_, _, rfl, st_free hss, _, _, rfl, rp_int.2 rfl, rfl⟩
set_option maxRecDepth 100000 in
theorem tickNone_lifted (os : Os) (started : os.Started) (H : Type) (enc : TypeId × Value → H) :
    ReturnsInHanded {} Tryz.checked os 8 .any (Rows.tickNoneSpec.pre6 enc Tryz.prog Tryz.f8 Rows.tickNoneRow.domain false) (Rows.tickNoneSpec.post enc Tryz.prog Tryz.f8 false true false false) := by
  refine returnsInHanded_of_change (C := Tryz.checked) own started (by kernel_rfl) Tryz.func8
    (ChangeSpec.witness6 (enc := enc) (C := Tryz.checked) false ⟨#[], #[.agg St.zero.toArray, .int .u32 0], []⟩ 8 (by kernel_rfl) (by kernel_rfl) (by kernel_rfl) (by kernel_rfl)) ?_
  intro W base args ds gs before hval0 hW hcnd _
  have hval : ∀ (j : Nat) t v, Tryz.f8.params[j]? = some t → args[j]? = some v → Value.okWide Tryz.prog W .any base t v := hval0
  have hW' := hW
  obtain ⟨p, q, hA0, hV, rfl, hfz, hnd⟩ := hW
  have hA : DataW.TrodAll enc Tryz.prog W 0 (fun _ => true) true Tryz.f8.params.toList args.toList ds p := hA0
  rw [Tryz.params8] at hA hval
  obtain ⟨v0, vs0, d0, ds0, p0, q0, hargs, rfl, rfl, h0, r0⟩ := trodAll_cons hA
  obtain ⟨v1, vs1, d1, ds1, p1, q1, rfl, rfl, rfl, h1, r1⟩ := trodAll_cons r0
  obtain ⟨rfl, rfl, rfl⟩ := trodAll_nil r1
  obtain rfl : args = #[v0, v1] := by cases args; simp_all
  obtain ⟨rfl, rfl⟩ := trodVars_none hV
  obtain ⟨scs, rfl, srd⟩ := open_struct (g := 9) (l := St.shape) Tryz.underlying33 (by kernel_rfl) (hval 0 33 v0 rfl rfl) h0
  obtain ⟨s, sz, rfl, ssl, sok⟩ := St.of_read srd
  obtain ⟨n, rfl, rfl, rfl, wf1⟩ := open_int Tryz.underlying52 (hval 1 52 v1 rfl rfl) h1
  clear hA0 hval0
  refine (tickNone_walk s sz sok n (bounds_u32 wf1) W ssl).mono fun e W' ⟨he, hg⟩ => ?_
  subst he
  exact ⟨_, rfl, law_post laid hW' rfl (by kernel_rfl) rfl Tryz.underlying4 rfl hg⟩

/-- The statement, whole. -/
theorem tickNone_holds : Rows.TickNoneSaid :=
  OpenClaim.holds_of_wide 8 Tryz.f8 rfl rfl rfl rfl rfl rfl rfl ⟨rfl, rfl, rfl, rfl, rfl⟩ rfl rfl rfl rfl rfl (by kernel_rfl) Tryz.func8 (by kernel_rfl)
    (of_decide_eq_true (by kernel_rfl)) (by unfold Func.isWrapper; rw [if_neg (of_decide_eq_false (by kernel_rfl))]; exact ⟨rfl, rfl⟩)
    (fun os started H enc _ => tickNone_lifted os started H enc)
end Go.Proofs.YtfhjllchbgclaaaGreat
