/- Contract of the program's own function of layer 3 that lets in. -/
import Derived.Test.YthlgijmpkpmibaaFifoQ
import Derived.Deep.RegionHeld3
import Derived.Deep.RegionLaw
namespace Go.Proofs.Ythlgijmpkpmibaa
set_option linter.unusedVariables false
set_option linter.unusedSimpArgs false
open Go.ChangeShapes Go.WideShapes Go.ChangeAt Go.RowKit

set_option maxHeartbeats 1000000 in
theorem pletin_no (base qb : Nat) (a : Qu) (p : Option Addr) (k : Nat) (w : World) (hA : At w base qb a p k) (th ki va re go : Int) (h : a.mode ≠ 0 ∨ a.cap ≤ a.vals.length) : Calls Try.prog 34 #[.pointer (some ⟨qb, 0, none⟩), .agg #[.int .i64 th, .int .i64 ki, .int .i64 va, .int .i64 re, .int .i64 go]] w (Told base qb p (a, false) w) := by
  have hz := hA.lt
  obtain ⟨⟨c0, c1, c2, c3⟩, -⟩ := hA.cells
  cases b0 : (a.mode != 0)
  · have h2 : a.mode = 0 := by simpa using b0
    have h3 : decide (a.cap ≤ (a.vals.length : Int)) = true := by simp; omega
    clear h h2
    go_enter Try.func34, Try.ntmps34
    go_wp2_with ((go_at_call 46; refine (pfull_any qb a.vals a.cap a.pol a.mode p k _ (by first | assumption | (simp; omega)) (by first | assumption | (refine (World.cell?_alloc_past _ _ _ (by first | assumption | (simp; omega))).trans ?_; assumption)) (by first | assumption | (refine (World.cell?_alloc_past _ _ _ (by first | assumption | (simp; omega))).trans ?_; assumption)) (by first | assumption | (refine (World.cell?_alloc_past _ _ _ (by first | assumption | (simp; omega))).trans ?_; assumption)) (by first | assumption | (refine (World.cell?_alloc_past _ _ _ (by first | assumption | (simp; omega))).trans ?_; assumption))).mono ?_; rintro e wx ⟨rfl, hgx⟩; rw [h3]))
    go_ret
    exact told_of_kept hA ⟨rfl, by repeat' (first | (with_reducible exact Below.refl _ _) | (with_reducible assumption) | (with_reducible refine kept_alloc ?_ _) | (with_reducible refine kept_drewN ?_ _) | (with_reducible refine Below.drew ?_) | (with_reducible refine Below.setCell ?_ (by first | omega | (simp; omega) | (simp; done)) _) | (refine kept_trans ?_ (by with_reducible assumption)))⟩
  · clear h
    go_enter Try.func34, Try.ntmps34
    go_wp2
    go_ret
    exact told_of_kept hA ⟨rfl, by repeat' (first | (with_reducible exact Below.refl _ _) | (with_reducible assumption) | (with_reducible refine kept_alloc ?_ _) | (with_reducible refine kept_drewN ?_ _) | (with_reducible refine Below.drew ?_) | (with_reducible refine Below.setCell ?_ (by first | omega | (simp; omega) | (simp; done)) _) | (refine kept_trans ?_ (by with_reducible assumption)))⟩

theorem step_ov {P : Program} {ops : Array Oper} {o : Oper} {a : Act} {w w2 : World} {K : Act → World → Prop} {Q : Exit → Act → World → Prop} {E : Prop} (hgd : o.guard = none) (s x : Operand) (t : TypeId)
    (ho : o.op = .call { callee := .builtin .append, args := #[s, x], argTypes := #[t, t] }) {v u r : Value} (hs : a.eval s = v) (hx : a.eval x = u) (hrun : (Builtin.append_ #[t, t] o.type #[v, u]).run P w = .ok r w2)
    (h : K (a.put o.dst r) w2) : if Region.wanted o (yielded ops a.tmps) = true then Oper.wp P o a w K Q else E := by
  rw [if_pos (by simp [Region.wanted, hgd])]
  unfold Oper.wp
  simp [execOp, ho, resolve, invoke, builtin, hs, hx, hrun, Result.andThen]
  exact h

set_option maxHeartbeats 1000000 in
theorem pletin_yes (base qb : Nat) (a : Qu) (p : Option Addr) (k : Nat) (w : World) (hA : At w base qb a p k) (th ki va re go : Int) (h0 : a.mode = 0) (h1 : (a.vals.length : Int) < a.cap) (hm : a.vals.length ≤ 1000) : Calls Try.prog 34 #[.pointer (some ⟨qb, 0, none⟩), .agg #[.int .i64 th, .int .i64 ki, .int .i64 va, .int .i64 re, .int .i64 go]] w (Told base qb p (a.with (a.vals ++ [va]), true) w) := by
  have hz := hA.lt
  obtain ⟨⟨c0, c1, c2, c3⟩, hf⟩ := hA.cells
  have hf0 := hf 0
  clear hf
  have h3 : decide (a.cap ≤ (a.vals.length : Int)) = false := by simp; omega
  have b0 : (a.mode != 0) = false := by simp [h0]
  clear h0 h1
  go_enter Try.func34, Try.ntmps34
  go_wp2_with ((go_at_call 46; refine (pfull_any qb a.vals a.cap a.pol a.mode p k _ (by first | assumption | (simp; omega)) (by first | assumption | (refine (World.cell?_alloc_past _ _ _ (by first | assumption | (simp; omega))).trans ?_; assumption)) (by first | assumption | (refine (World.cell?_alloc_past _ _ _ (by first | assumption | (simp; omega))).trans ?_; assumption)) (by first | assumption | (refine (World.cell?_alloc_past _ _ _ (by first | assumption | (simp; omega))).trans ?_; assumption)) (by first | assumption | (refine (World.cell?_alloc_past _ _ _ (by first | assumption | (simp; omega))).trans ?_; assumption))).mono ?_; rintro e wx ⟨rfl, hgx⟩; rw [h3]))
  have hA' : At wx base qb a p k := (hA.kept (w' := w.alloc (.cells #[.int .i64 th, .int .i64 ki, .int .i64 va, .int .i64 re, .int .i64 go] 35)) (by repeat' (first | (with_reducible exact Below.refl _ _) | (with_reducible assumption) | (with_reducible refine kept_alloc ?_ _) | (with_reducible refine kept_drewN ?_ _) | (with_reducible refine Below.drew ?_) | (with_reducible refine Below.setCell ?_ (by first | omega | (simp; omega) | (simp; done)) _) | (refine kept_trans ?_ (by with_reducible assumption))))).kept hgx
  have d0 := hA'.cells.1.1
  have f0 := hA'.cells.2 0
  have d2 : wx.cell? ⟨w.heap.size, 2, none⟩ = some (.int .i64 va) := (hgx.cell (p := ⟨w.heap.size, 2, none⟩) (by simp)).trans (by simp)
  have hz1 := hA'.lt
  have hz2 : w.heap.size < wx.heap.size := by have := hgx.size; simp at this; omega
  obtain ⟨p', k', w2, hrun, hO, hC, hpb⟩ := run_append_ov (P := Try.prog) (wx.alloc (.cells #[.int .i64 va] 3)).drew 31 31 Try.underlying31 int_info (hA'.own.kept (w' := (wx.alloc (.cells #[.int .i64 va] 3)).drew) ((Below.refl _ _).alloc (Nat.le_refl _) _).drew) va ⟨wx.heap.size, 0, none⟩ 1 (by simp) hm (by have := hA'.ge; simp; omega)
  have hC1 : Chg qb p w w2 := Chg.after (by repeat' (first | (with_reducible exact Below.refl _ _) | (with_reducible assumption) | (with_reducible refine kept_alloc ?_ _) | (with_reducible refine kept_drewN ?_ _) | (with_reducible refine Below.drew ?_) | (with_reducible refine Below.setCell ?_ (by first | omega | (simp; omega) | (simp; done)) _) | (refine kept_trans ?_ (by with_reducible assumption)))) (hC qb)
  have hob : w2.heap[qb]? = _ := ((hC (qb + 1)).block qb (by simp; omega) (by omega) (fun x hx => (hA'.ne x hx).symm)).trans ((Below.heap_alloc wx _ qb hz1).trans hA'.obj)
  have e0 : w2.cell? ⟨qb, 0, none⟩ = some (.slice p a.vals.length k) := by simp [World.cell?, hob]
  have e1 : w2.frozen? ⟨qb, 0, none⟩ = false := by simp [World.frozen?, hob]
  have hne : ∀ x, p' = some x → x.block ≠ qb := fun x hx => by
    rcases hpb x hx with ⟨y, hy, e⟩ | h
    · rw [e]; exact hA'.ne y hy
    · simp at h; omega
  have hS := At.setVals (a := a) hob hA'.ge hO hne
  have hpb' : ∀ x, p' = some x → (∃ y, p = some y ∧ x.block = y.block) ∨ w.heap.size ≤ x.block := fun x hx => (hpb x hx).imp id (fun h => by simp at h; omega)
  have hl : (a.vals ++ [va]).length = a.vals.length + 1 := by simp
  rw [hl] at hS
  have hS' := Lib.hid hS
  have hl' := Lib.hid hl
  have hob' := Lib.hid hob
  clear hC hO hob hpb hS hl hne
  go_region_law ((refine step_ov (by rfl) _ _ 31 (by rfl) (by rfl) (by rfl) hrun ?_))
  all_goals go_wp2
  all_goals go_ret
  all_goals exact ⟨rfl, _, _, hS'.out, hC1.set (x := ⟨qb, 0, none⟩) rfl _, hpb'⟩
theorem pletin_any (base qb : Nat) (a : Qu) (p : Option Addr) (k : Nat) (w : World) (hA : At w base qb a p k) (th ki va re go : Int) (hm : a.vals.length ≤ 1000) : Calls Try.prog 34 #[.pointer (some ⟨qb, 0, none⟩), .agg #[.int .i64 th, .int .i64 ki, .int .i64 va, .int .i64 re, .int .i64 go]] w (Told base qb p (if decide (a.mode ≠ 0) || a.full then (a, false) else (a.with (a.vals ++ [va]), true)) w) := by
  by_cases h0 : a.mode = 0
  · by_cases h1 : (a.vals.length : Int) < a.cap
    · have : (if decide (a.mode ≠ 0) || a.full then (a, false) else (a.with (a.vals ++ [va]), true)) = (a.with (a.vals ++ [va]), true) := by rw [if_neg]; simp [h0, Qu.full]; omega
      rw [this]
      exact pletin_yes base qb a p k w hA th ki va re go h0 h1 hm
    · have : (if decide (a.mode ≠ 0) || a.full then (a, false) else (a.with (a.vals ++ [va]), true)) = (a, false) := by rw [if_pos]; simp [h0, Qu.full]; omega
      rw [this]
      exact pletin_no base qb a p k w hA th ki va re go (.inr (by omega))
  · have : (if decide (a.mode ≠ 0) || a.full then (a, false) else (a.with (a.vals ++ [va]), true)) = (a, false) := by rw [if_pos]; simp [h0]
    rw [this]
    exact pletin_no base qb a p k w hA th ki va re go (.inl h0)
end Go.Proofs.Ythlgijmpkpmibaa
