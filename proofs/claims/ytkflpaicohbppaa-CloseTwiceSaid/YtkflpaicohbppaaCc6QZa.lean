/- Who closes again changes no mode but to a greater one: true of every configuration, whichever is done again. -/
import Derived.Test.YtkflpaicohbppaaZa11
namespace Go.Proofs.Ytkflpaicohbppaa
set_option linter.unusedVariables false
set_option linter.unusedSimpArgs false
open Go.ChangeShapes Go.WideShapes Go.ChangeAt Go.RowKit
def cWX : List FuncId := [7, 17, 15, 12, 16]
section
variable {c : Cf} {s t u v w : St} {b : Bool} (hN : AC Try.prog 17 [cfT c] (.tuple #[stT s, .int .i64 0])) (h1 : AC Try.prog 15 [stT s, .int .i64 0, .int .i64 7, .int .i64 0, .int .i64 0] (.tuple #[stT t, .int .i64 0])) (h2 : AC Try.prog 12 [stT t, .int .i64 0, .int .i64 9] (.tuple #[stT u, .int .i64 3])) (h4 : AC Try.prog 12 [stT v, .int .i64 0, .int .i64 9] (.tuple #[stT w, .int .i64 3])) (e1 : (u.md == 1) = true) (e3 : ((w.lg.length : Int) == 2) = true) (e4 : (w.fe == 2) = true) (e5 : (w.ee == 2) = true)
include hN h1 h2 h4 e1 e3 e4 e5
set_option maxRecDepth 100000 in
theorem cw_7 (hb : b = true) (h3 : AC Try.prog 15 [stT u, .int .i64 0, .int .i64 7, .int .i64 0, .int .i64 0] (.tuple #[stT v, .int .i64 0])) (e2 : (w.md == 1) = true) : AC Try.prog 6 [cfT c, .bool b] (.bool (w.tl == 0)) :=
  ac_path mixed (ext := cWX) (fuel := 9) (n := 6) (orc := [vD true, .tuple #[stT s, .int .i64 0], .nilFunc, .bool true, .tuple #[stT t, .int .i64 0], .tuple #[stT u, .int .i64 3], .tuple #[stT v, .int .i64 0], .tuple #[stT w, .int .i64 3], .nilFunc, .bool true, .int .i64 1, .bool true, .bool true, .bool true, .bool true])
    (an ac_awakeC <| an hN <| an hb <| an h1 <| an h2 <| an h3 <| an h4 <| an e1 <| an (ac_pmode 7) <| an e2 <| an e3 <| an e4 <| an e5 trivial) (by kernel_rfl)
set_option maxRecDepth 100000 in
theorem cw_8 (hb : b = false) (h3 : AC Try.prog 15 [stT u, .int .i64 0, .int .i64 8, .int .i64 0, .int .i64 0] (.tuple #[stT v, .int .i64 0])) (e2 : (w.md == 2) = true) : AC Try.prog 6 [cfT c, .bool b] (.bool (w.tl == 0)) :=
  ac_path mixed (ext := cWX) (fuel := 9) (n := 6) (orc := [vD true, .tuple #[stT s, .int .i64 0], .nilFunc, .bool false, .tuple #[stT t, .int .i64 0], .tuple #[stT u, .int .i64 3], .tuple #[stT v, .int .i64 0], .tuple #[stT w, .int .i64 3], .nilFunc, .bool true, .int .i64 2, .bool true, .bool true, .bool true, .bool true])
    (an ac_awakeC <| an hN <| an hb <| an h1 <| an h2 <| an h3 <| an h4 <| an e1 <| an (ac_pmode 8) <| an e2 <| an e3 <| an e4 <| an e5 trivial) (by kernel_rfl)
end
theorem new_wk {c : Cf} (hc : cfB c = true) (ho : c.ok) : Wk (newSt c) 0 := by
  refine ⟨new_stB hc, ⟨ho, fun x hx => ?_, fun t ht => ?_⟩, by show (0 : Nat) ≤ 0; omega⟩
  · have hx' : x ∈ newL (cfR c) := hx
    unfold newL at hx'
    split at hx'
    · obtain ⟨i, -, rfl⟩ := List.mem_map.1 hx'; exact (by decide : In64 0)
    · cases hx'
  · have ht' : t ∈ List.replicate c.th.toNat th0 := ht
    rw [List.eq_of_mem_replicate ht']; exact ⟨(by decide : In64 0), (by decide : In64 0)⟩
theorem st_9 {s u : St} {N : Nat} {n : Nat} {k : Int} (h : Wk (s.setTh n (bgT k)) N) (hN : N ≤ 1000) (e : closeK (s.setTh n (bgT k)) n (6 + 3) = (u, 3)) : AC Try.prog 12 [stT (s.setTh n (bgT k)), .int .i64 n, .int .i64 9] (.tuple #[stT u, .int .i64 3]) := by
  have := ac_cst (i := n) (m := 9) (h.ok (by omega)) (h.fit (by omega)) (by have := h.l; omega)
  rw [show (9 : Int).toNat = 6 + 3 from rfl, e] at this
  exact this
set_option maxRecDepth 100000 in
theorem ac_closeTwice {c : Cf} {b : Bool} (ho : c.ok) : AC Try.prog 6 [cfT c, .bool b] (.bool true) := by
  cases hc : cfB c
  · exact ac_path mixed (ext := cWX) (fuel := 9) (n := 6) (orc := [vD true, .tuple #[stT st0, .int .i64 20], .nilFunc]) (an ac_awakeC <| an (ac_pnew_no hc) trivial) (by kernel_rfl)
  · have w0 := new_wk hc ho
    have hth := (cf_th hc).1
    have hl : (newSt c).th.length = c.th.toNat := List.length_replicate
    have hg : (gth (newSt c).th 0).st = 0 := by
      have hm := gth_mem (l := (newSt c).th) (n := 0) (by omega)
      have hm' : gth (newSt c).th 0 ∈ List.replicate c.th.toNat th0 := hm
      rw [List.eq_of_mem_replicate hm']; rfl
    obtain ⟨u, e, w3, d1, d2, -, -, d5, d6, d7, d8, d9, -⟩ := cl_done (n := 0) (k := 7) w0 (by omega) (.inl rfl) 6
    have hb1 := cl_begW (n := 0) (k := 7) w0 (.inl rfl)
    have i1 := ac_pinvoke (cl_beg (n := 0) (k := 7) w0.b (by omega) hg (.inl rfl)) (w0.ok (by omega)) (w0.fit (by omega))
    have s1 := st_9 hb1 (by omega) e
    have m1 : u.md = 1 := by rw [d1]; rfl
    have key : ∀ k : Int, k = 7 ∨ k = 8 → ∃ v w : St, AC Try.prog 15 [stT u, .int .i64 0, .int .i64 k, .int .i64 0, .int .i64 0] (.tuple #[stT v, .int .i64 0]) ∧ AC Try.prog 12 [stT v, .int .i64 0, .int .i64 9] (.tuple #[stT w, .int .i64 3]) ∧ w.md = clM 1 (modeI k) ∧ w.lg.length = 2 ∧ w.fe = 2 ∧ w.ee = 2 ∧ w.tl = 0 := fun k hk => by
      have hu : (gth u.th 0).st = 0 := by rw [d9]
      have hul : 0 < u.th.length := by omega
      obtain ⟨w, f, x3, c1, c2, -, -, c5, c6, c7, -, -, -⟩ := cl_done (n := 0) (k := k) w3 hul hk 6
      have hb2 := cl_begW (n := 0) (k := k) w3 hk
      refine ⟨_, w, ac_pinvoke (cl_beg (n := 0) (k := k) w3.b hul hu hk) (w3.ok (by omega)) (w3.fit (by omega)), st_9 hb2 (by omega) f, by rw [c1, m1], ?_, ?_, ?_, ?_⟩
      · rw [c7, d7]; rfl
      · rw [c5, d5]; rfl
      · rw [c6, d6]; rfl
      · rw [c2, d2]; rfl
    cases b
    · obtain ⟨v, w, i2, s2, k1, k2, k3, k4, k5⟩ := key 8 (.inr rfl)
      have := cw_8 (b := false) (ac_pnew hc) i1 s1 s2 (by simp [m1]) (by simp [k2]) (by simp [k3]) (by simp [k4]) rfl i2 (by rw [k1]; rfl)
      rwa [show (w.tl == 0) = true by simp [k5]] at this
    · obtain ⟨v, w, i2, s2, k1, k2, k3, k4, k5⟩ := key 7 (.inl rfl)
      have := cw_7 (b := true) (ac_pnew hc) i1 s1 s2 (by simp [m1]) (by simp [k2]) (by simp [k3]) (by simp [k4]) rfl i2 (by rw [k1]; rfl)
      rwa [show (w.tl == 0) = true by simp [k5]] at this
theorem closeTwice_walk (c : Cf) (hc : c.ok) (drains : Bool) (w : World) :
    Calls Try.prog 6 #[.agg c.cells.toArray, .bool drains] w fun e w' => e = .returned (.bool true) ∧ Kept w w' := by
  refine law_of (ac_closeTwice (c := c) (b := drains) hc) (cells_at.2 ?_)
  exact ⟨_, _, rfl, rp_cfT.2 rfl, _, _, rfl, rp_bool.2 rfl, rfl⟩
set_option maxRecDepth 100000 in
theorem closeTwice_lifted (os : Os) (started : os.Started) (H : Type) (enc : TypeId × Value → H) :
    ReturnsInHanded {} Try.checked os 6 .any (Rows.closeTwiceSpec.pre6 enc Try.prog Try.f6 Rows.closeTwiceRow.domain false) (Rows.closeTwiceSpec.post enc Try.prog Try.f6 false true false false) := by
  refine returnsInHanded_of_change (C := Try.checked) own started (by kernel_rfl) Try.func6
    (ChangeSpec.witness6 (enc := enc) (C := Try.checked) false ⟨#[], #[.agg Cf.zero.toArray, .bool false], []⟩ 8 (by kernel_rfl) (by kernel_rfl) (by kernel_rfl) (by kernel_rfl)) ?_
  intro W base args ds gs before hval0 hW hcnd _
  have hval : ∀ (j : Nat) t v, Try.f6.params[j]? = some t → args[j]? = some v → Value.okWide Try.prog W .any base t v := hval0
  have hW' := hW
  obtain ⟨p, q, hA0, hV, rfl, hfz, hnd⟩ := hW
  have hA : DataW.TrodAll enc Try.prog W 0 (fun _ => true) true Try.f6.params.toList args.toList ds p := hA0
  rw [Try.params6] at hA hval
  obtain ⟨v0, vs0, d0, ds0, p0, q0, hargs, rfl, rfl, h0, r0⟩ := trodAll_cons hA
  obtain ⟨v1, vs1, d1, ds1, p1, q1, rfl, rfl, rfl, h1, r1⟩ := trodAll_cons r0
  obtain ⟨rfl, rfl, rfl⟩ := trodAll_nil r1
  obtain rfl : args = #[v0, v1] := by cases args; simp_all
  obtain ⟨rfl, rfl⟩ := trodVars_none hV
  obtain ⟨ccs, rfl, crd⟩ := open_struct (g := 9) (l := Cf.shape) Try.underlying23 (by kernel_rfl) (hval 0 23 v0 rfl rfl) h0
  obtain ⟨c, rfl, cok⟩ := Cf.of_read crd
  obtain ⟨drains, rfl, rfl, rfl⟩ := open_bool Try.underlying4 (hval 1 4 v1 rfl rfl) h1
  clear hA0 hval0
  refine (closeTwice_walk c cok drains W).mono fun e W' ⟨he, hg⟩ => ?_
  subst he
  exact ⟨_, rfl, law_post laid hW' rfl (by kernel_rfl) rfl Try.underlying4 rfl hg⟩

/-- The statement, whole. -/
theorem closeTwice_holds : Rows.CloseTwiceSaid :=
  OpenClaim.holds_of_wide 6 Try.f6 rfl rfl rfl rfl rfl rfl rfl ⟨rfl, rfl, rfl, rfl, rfl⟩ rfl rfl rfl rfl rfl (by kernel_rfl) Try.func6 (by kernel_rfl)
    (of_decide_eq_true (by kernel_rfl)) (by unfold Func.isWrapper; rw [if_neg (of_decide_eq_false (by kernel_rfl))]; exact ⟨rfl, rfl⟩)
    (fun os started H enc _ => closeTwice_lifted os started H enc)
end Go.Proofs.Ytkflpaicohbppaa
