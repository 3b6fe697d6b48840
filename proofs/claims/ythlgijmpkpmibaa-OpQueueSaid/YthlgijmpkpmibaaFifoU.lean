/- Contract of the program's own function of layer 3 that tells an entry. -/
import Derived.Test.YthlgijmpkpmibaaFifoT
import Derived.Deep.QuietTactic
namespace Go.Proofs.Ythlgijmpkpmibaa
set_option linter.unusedVariables false
set_option linter.unusedSimpArgs false
open Go.ChangeShapes Go.WideShapes Go.ChangeAt Go.RowKit

theorem look_hit {s r : Int} {mb i : Nat} (hi : i < 14) (hk : keyV s r = keyAt i) {W : World} (h : RulesAt W mb) :
    (Instr.lookup 45 (.map (some mb)) (keyV s r) true).run Try.prog W = .ok (.tuple #[fnAt i, .bool true]) W := by
  rcases rules_look h s r with ⟨j, hj, hkj, hr⟩ | ⟨hno, _⟩
  · have : i = j := by
      have := hk.symm.trans hkj
      rw [keyAt, keyAt, keyV_inj] at this
      exact keyAt_inj i hi j hj this
    subst this
    exact hr
  · exact absurd hk (hno i hi)
theorem look_miss {s r : Int} {mb : Nat} (hk : ∀ i, i < 14 → keyV s r ≠ keyAt i) {W : World} (h : RulesAt W mb) :
    (Instr.lookup 45 (.map (some mb)) (keyV s r) true).run Try.prog W = .ok (.tuple #[.nilFunc, .bool false]) W := by
  rcases rules_look h s r with ⟨j, hj, hkj, hr⟩ | ⟨_, hr⟩
  · exact absurd hkj (hk j hj)
  · exact hr


set_option maxHeartbeats 4000000 in
theorem ptell_miss (base qb : Nat) (a : Qu) (p : Option Addr) (k : Nat) (w : World) (hA : At w base qb a p k) (th ki va re go : Int) (mb : Nat) (hR : RulesAt w mb) (hk : ∀ i, i < 14 → keyV (sortI ki) re ≠ keyAt i) : Calls Try.prog 26 #[.pointer (some ⟨qb, 0, none⟩), .map (some mb), .agg #[.int .i64 th, .int .i64 ki, .int .i64 va, .int .i64 re, .int .i64 go]] w (Told base qb p (a, false) w) := by
  obtain ⟨es, ck, ho, hL⟩ := hR; have hlt : mb < w.heap.size := obj_lt ho; obtain ⟨L, hLL⟩ : ∃ L : List (Nat × Obj), [(mb, Obj.map es ck), (w.heap.size, .cells #[.int .i64 th, .int .i64 ki, .int .i64 va, .int .i64 re, .int .i64 go] 35 (0, 0))] = L := ⟨_, rfl⟩; have hL2 : ∀ x : Wo w L, ObjsAt x.at [(mb, Obj.map es ck), (w.heap.size, .cells #[.int .i64 th, .int .i64 ki, .int .i64 va, .int .i64 re, .int .i64 go] 35 (0, 0))] := fun x => hLL.symm ▸ x.objs
  have hlk : ∀ x : Wo w L, (Instr.lookup 45 (.map (some mb)) (.agg #[.int .i64 (sortI ki), .int .i64 re]) true).run Try.prog x.at = .ok (.tuple #[.nilFunc, .bool false]) x.at := fun x => look_miss hk ⟨es, ck, (hL2 x).1, hL⟩
  have q1 : ∀ x : Wo w L, x.at.cell? ⟨w.heap.size, 1, none⟩ = some (.int .i64 ki) := fun x => obj_cell (hL2 x).2.1 1; have q3 : ∀ x : Wo w L, x.at.cell? ⟨w.heap.size, 3, none⟩ = some (.int .i64 re) := fun x => obj_cell (hL2 x).2.1 3; have hob : ObjsAt (w.alloc (.cells #[.int .i64 th, .int .i64 ki, .int .i64 va, .int .i64 re, .int .i64 go] 35 (0, 0))) L := (by rw [← hLL]; exact ⟨obj_past hlt ho, obj_at rfl, trivial⟩); have hLh := Lib.hid hLL; have hL2h := Lib.hid hL2; have hkh := Lib.hid hk; have hoh := Lib.hid ho; clear hLL hk ho hL2
  go_enter Try.func26, Try.ntmps26
  go_wp2
  refine wp_region_objs (w := w) L (by kernel_rfl) (by kernel_rfl) (by repeat' (first | (with_reducible exact Below.refl _ _) | (with_reducible assumption) | (with_reducible refine kept_alloc ?_ _) | (with_reducible refine kept_drewN ?_ _) | (with_reducible refine Below.drew ?_) | (with_reducible refine Below.setCell ?_ (by first | omega | (simp; omega) | (simp; done)) _) | (refine kept_trans ?_ (by with_reducible assumption)))) hob (fun hne => ?_); (repeat (go_big_quiet_step ((go_at_call 33; exact quiet_callo (psort_any _ _))))); refine wpQuiet_nil ?_; intro wq hwq; obtain ⟨xwd, hxwd⟩ := hwq; have hgx : Below w.heap.size w wq := (by rw [hxwd]; exact xwd.kept); have hoe : wq.heap[w.heap.size]? = some (.cells #[.int .i64 th, .int .i64 ki, .int .i64 va, .int .i64 re, .int .i64 go] 35 (0, 0)) := (by rw [hxwd]; exact (hL2h.out xwd).2.1); clear hlk q1 q3 hxwd xwd hne hL2h; have u0 := obj_cell hoe 0; have u1 := obj_cell hoe 1; have u2 := obj_cell hoe 2; have u3 := obj_cell hoe 3; have u4 := obj_cell hoe 4; have huz := obj_lt hoe; have hoeh := Lib.hid hoe; clear hoe
  go_wp2
  go_ret
  exact told_of_kept hA ⟨rfl, by repeat' (first | (with_reducible exact Below.refl _ _) | (with_reducible assumption) | (with_reducible refine kept_alloc ?_ _) | (with_reducible refine kept_drewN ?_ _) | (with_reducible refine Below.drew ?_) | (with_reducible refine Below.setCell ?_ (by first | omega | (simp; omega) | (simp; done)) _) | (refine kept_trans ?_ (by with_reducible assumption)))⟩

set_option maxHeartbeats 4000000 in
theorem ptell_hit (base qb : Nat) (a : Qu) (p : Option Addr) (k : Nat) (w : World) (hA : At w base qb a p k) (th ki va re go : Int) (hm : a.vals.length ≤ 1000) (mb : Nat) (hR : RulesAt w mb) (i : Nat) (hi : i < 14) (hk : keyV (sortI ki) re = keyAt i) : Calls Try.prog 26 #[.pointer (some ⟨qb, 0, none⟩), .map (some mb), .agg #[.int .i64 th, .int .i64 ki, .int .i64 va, .int .i64 re, .int .i64 go]] w (Told base qb p (a.rule ⟨th, ki, va, re, go⟩ i) w) := by
  obtain ⟨es, ck, ho, hL⟩ := hR; have hlt : mb < w.heap.size := obj_lt ho; obtain ⟨L, hLL⟩ : ∃ L : List (Nat × Obj), [(mb, Obj.map es ck), (w.heap.size, .cells #[.int .i64 th, .int .i64 ki, .int .i64 va, .int .i64 re, .int .i64 go] 35 (0, 0))] = L := ⟨_, rfl⟩; have hL2 : ∀ x : Wo w L, ObjsAt x.at [(mb, Obj.map es ck), (w.heap.size, .cells #[.int .i64 th, .int .i64 ki, .int .i64 va, .int .i64 re, .int .i64 go] 35 (0, 0))] := fun x => hLL.symm ▸ x.objs
  have hlk : ∀ x : Wo w L, (Instr.lookup 45 (.map (some mb)) (.agg #[.int .i64 (sortI ki), .int .i64 re]) true).run Try.prog x.at = .ok (.tuple #[fnAt i, .bool true]) x.at := fun x => look_hit hi hk ⟨es, ck, (hL2 x).1, hL⟩
  have hC : ∀ W, Below w.heap.size w W → Calls Try.prog (ruleTab.getD i (0, 0, 0)).2.2 #[.pointer (some ⟨qb, 0, none⟩), .agg #[.int .i64 th, .int .i64 ki, .int .i64 va, .int .i64 re, .int .i64 go]] W (Told base qb p (a.rule ⟨th, ki, va, re, go⟩ i) W) := fun W hW => prule_any base qb a p k W (hA.kept hW) ⟨th, ki, va, re, go⟩ hm i hi
  have q1 : ∀ x : Wo w L, x.at.cell? ⟨w.heap.size, 1, none⟩ = some (.int .i64 ki) := fun x => obj_cell (hL2 x).2.1 1; have q3 : ∀ x : Wo w L, x.at.cell? ⟨w.heap.size, 3, none⟩ = some (.int .i64 re) := fun x => obj_cell (hL2 x).2.1 3; have hob : ObjsAt (w.alloc (.cells #[.int .i64 th, .int .i64 ki, .int .i64 va, .int .i64 re, .int .i64 go] 35 (0, 0))) L := (by rw [← hLL]; exact ⟨obj_past hlt ho, obj_at rfl, trivial⟩); have hLh := Lib.hid hLL; have hL2h := Lib.hid hL2; have hkh := Lib.hid hk; have hoh := Lib.hid ho; clear hLL hk ho hL2
  unfold fnAt fnV at hlk
  generalize hr : a.rule ⟨th, ki, va, re, go⟩ i = rr at hC ⊢
  have hrh := Lib.hid hr
  clear hr
  obtain rfl | rfl | rfl | rfl | rfl | rfl | rfl | rfl | rfl | rfl | rfl | rfl | rfl | rfl : i = 0 ∨ i = 1 ∨ i = 2 ∨ i = 3 ∨ i = 4 ∨ i = 5 ∨ i = 6 ∨ i = 7 ∨ i = 8 ∨ i = 9 ∨ i = 10 ∨ i = 11 ∨ i = 12 ∨ i = 13 := by omega
  all_goals
    simp only [ruleTab, List.getD_cons_zero, List.getD_cons_succ] at hlk hC
    go_enter Try.func26, Try.ntmps26
    go_wp2
    refine wp_region_objs (w := w) L (by kernel_rfl) (by kernel_rfl) (by repeat' (first | (with_reducible exact Below.refl _ _) | (with_reducible assumption) | (with_reducible refine kept_alloc ?_ _) | (with_reducible refine kept_drewN ?_ _) | (with_reducible refine Below.drew ?_) | (with_reducible refine Below.setCell ?_ (by first | omega | (simp; omega) | (simp; done)) _) | (refine kept_trans ?_ (by with_reducible assumption)))) hob (fun hne => ?_); (repeat (go_big_quiet_step ((go_at_call 33; exact quiet_callo (psort_any _ _))))); refine wpQuiet_nil ?_; intro wq hwq; obtain ⟨xwd, hxwd⟩ := hwq; have hgx : Below w.heap.size w wq := (by rw [hxwd]; exact xwd.kept); have hoe : wq.heap[w.heap.size]? = some (.cells #[.int .i64 th, .int .i64 ki, .int .i64 va, .int .i64 re, .int .i64 go] 35 (0, 0)) := (by rw [hxwd]; exact (hL2h.out xwd).2.1); clear hlk q1 q3 hxwd xwd hne hL2h; have u0 := obj_cell hoe 0; have u1 := obj_cell hoe 1; have u2 := obj_cell hoe 2; have u3 := obj_cell hoe 3; have u4 := obj_cell hoe 4; have huz := obj_lt hoe; have hoeh := Lib.hid hoe; clear hoe
    go_wp2_with ((refine (hC _ (by repeat' (first | (with_reducible exact Below.refl _ _) | (with_reducible assumption) | (with_reducible refine kept_alloc ?_ _) | (with_reducible refine kept_drewN ?_ _) | (with_reducible refine Below.drew ?_) | (with_reducible refine Below.setCell ?_ (by first | omega | (simp; omega) | (simp; done)) _) | (refine kept_trans ?_ (by with_reducible assumption))))).mono ?_; rintro e wy hT; obtain ⟨rfl, hT2⟩ := hT))
    go_ret
    exact Told.after (by repeat' (first | (with_reducible exact Below.refl _ _) | (with_reducible assumption) | (with_reducible refine kept_alloc ?_ _) | (with_reducible refine kept_drewN ?_ _) | (with_reducible refine Below.drew ?_) | (with_reducible refine Below.setCell ?_ (by first | omega | (simp; omega) | (simp; done)) _) | (refine kept_trans ?_ (by with_reducible assumption)))) ⟨rfl, hT2⟩

theorem ptell_any (base qb : Nat) (a : Qu) (p : Option Addr) (k : Nat) (w : World) (hA : At w base qb a p k) (e : En) (hm : a.vals.length ≤ 1000) (mb : Nat) (hR : RulesAt w mb) : Calls Try.prog 26 #[.pointer (some ⟨qb, 0, none⟩), .map (some mb), .agg #[.int .i64 e.th, .int .i64 e.ki, .int .i64 e.va, .int .i64 e.re, .int .i64 e.go]] w (Told base qb p (a.tell e) w) := by
  by_cases h : ∃ i, i < 14 ∧ keyV (sortI e.ki) e.re = keyAt i
  · obtain ⟨i, hi, hk⟩ := h
    rw [tell_rule i hi hk]
    exact ptell_hit base qb a p k w hA e.th e.ki e.va e.re e.go hm mb hR i hi hk
  · have hk : ∀ i, i < 14 → keyV (sortI e.ki) e.re ≠ keyAt i := fun i hi hk => h ⟨i, hi, hk⟩
    rw [tell_none hk]
    exact ptell_miss base qb a p k w hA e.th e.ki e.va e.re e.go mb hR hk
end Go.Proofs.Ythlgijmpkpmibaa
