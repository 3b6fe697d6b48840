/- Contract of the program's own function of layer 3 that tells an entry. -/
import Derived.Test.YthlgijmpkpmibaaFifoN
import Derived.Test.YthlgijmpkpmibaaFifoO
namespace Go.Proofs.Ythlgijmpkpmibaa
set_option linter.unusedVariables false
set_option linter.unusedSimpArgs false
open Go.ChangeShapes Go.WideShapes Go.ChangeAt Go.RowKit

/-- What a row of the table makes of a queue. -/
def Qu.rule (a : Qu) (e : En) : Nat → Qu × Bool
  | 0 => if decide (a.mode ≠ 0) || a.full then (a, false) else (a.with (a.vals ++ [e.va]), true)
  | 1 => (a, decide (a.mode = 0) && decide (a.cap ≤ (a.vals.length : Int)) && decide (a.pol = 0) && decide (e.ki = 2))
  | 2 => (a, decide (a.mode = 0) && decide (a.cap ≤ (a.vals.length : Int)) && decide (a.pol = 1))
  | 3 => (a, or (decide (e.ki = 3)) (decide (e.ki = 6)))
  | 4 => (a, decide (a.mode = 1))
  | 5 => (a, decide (a.mode = 2))
  | 6 => if a.mode = 2 then (a, false) else a.gone e.go
  | 7 => (a, decide (a.mode = 0) && decide (a.vals.length = 0) && decide (e.ki = 5))
  | 8 => (a, or (decide (e.ki = 3)) (decide (e.ki = 6)))
  | 9 => (a, decide (a.mode = 1) && decide (a.vals.length = 0))
  | 10 => (a, decide (a.mode = 2))
  | 11 => if decide (a.mode = 0) && decide (a.cap ≤ (a.vals.length : Int)) && decide (a.pol = 2) then a.gone e.go else (a, false)
  | 12 => (⟨a.vals, a.cap, a.pol, drainI a.mode⟩, true)
  | 13 => (⟨a.vals, a.cap, a.pol, 2⟩, true)
  | _ => (a, false)

theorem sort_1 {k : Int} : sortI k = 1 ↔ sendsB k = true := by
  simp [sortI, sendsB, recvsB]; (repeat' split) <;> omega
theorem sort_4 {k : Int} : sortI k = 4 ↔ recvsB k = true := by
  simp [sortI, sendsB, recvsB]; (repeat' split) <;> omega
theorem sort_hi {k m : Int} (hm : 7 ≤ m) : sortI k = m ↔ k = m := by
  simp [sortI, sendsB, recvsB]; (repeat' split) <;> omega
theorem sends_ki {k : Int} (h : sendsB k = true) : 1 ≤ k ∧ k ≤ 3 := by simpa [sendsB] using h
theorem recvs_ki {k : Int} (h : recvsB k = true) : 4 ≤ k ∧ k ≤ 6 := by simpa [recvsB] using h

theorem tell_sends {a : Qu} {e : En} (h : sendsB e.ki = true) : a.tell e = a.send e := by simp [Qu.tell, h]
theorem tell_recvs {a : Qu} {e : En} (h : recvsB e.ki = true) : a.tell e = a.recv e := by
  have := recvs_ki h
  have h' : sendsB e.ki = false := by simp [sendsB]; omega
  simp [Qu.tell, h, h']
theorem tell_else {a : Qu} {e : En} (h : sendsB e.ki = false) (h' : recvsB e.ki = false) : a.tell e = if e.re ≠ 1 then (a, false)
  else if e.ki = 7 then (⟨a.vals, a.cap, a.pol, drainI a.mode⟩, true)
  else if e.ki = 8 then (⟨a.vals, a.cap, a.pol, 2⟩, true)
  else if e.ki = 9 then (if a.mode ≠ 0 ∨ a.pol ≠ 2 ∨ (a.vals.length : Int) < a.cap then (a, false) else a.gone e.go)
  else (a, false) := by simp [Qu.tell, h, h']

theorem tell_rule {a : Qu} {e : En} (i : Nat) (hi : i < 14) (h : keyV (sortI e.ki) e.re = keyAt i) : a.tell e = a.rule e i := by
  rw [keyAt, keyV_inj] at h
  obtain ⟨h1, h2⟩ := h
  obtain rfl | rfl | rfl | rfl | rfl | rfl | rfl | rfl | rfl | rfl | rfl | rfl | rfl | rfl : i = 0 ∨ i = 1 ∨ i = 2 ∨ i = 3 ∨ i = 4 ∨ i = 5 ∨ i = 6 ∨ i = 7 ∨ i = 8 ∨ i = 9 ∨ i = 10 ∨ i = 11 ∨ i = 12 ∨ i = 13 := by omega
  all_goals simp only [ruleTab, List.getD_cons_zero, List.getD_cons_succ] at h1 h2
  all_goals first
    | (have hs := sort_1.1 h1; have hk := sends_ki hs; have h6 : ¬ e.ki = 6 := (by omega); rw [tell_sends hs]; simp [Qu.send, Qu.rule, Qu.full, h2, h6]; done)
    | (have hs := sort_4.1 h1; have hk := recvs_ki hs; have h6 : ¬ e.ki = 3 := (by omega); rw [tell_recvs hs]; simp [Qu.recv, Qu.rule, Qu.full, h2, h6]; done)
    | (have hk := (sort_hi (by omega)).1 h1; rw [tell_else (by simp [sendsB, hk]) (by simp [recvsB, hk])]; simp [Qu.rule, h2, hk]; done)
    | (have hk := (sort_hi (by omega)).1 h1; rw [tell_else (by simp [sendsB, hk]) (by simp [recvsB, hk])]; simp only [Qu.rule, h2, hk]; by_cases q0 : a.mode = 0 <;> by_cases q1 : a.pol = 2 <;> by_cases q2 : a.cap ≤ (a.vals.length : Int) <;> simp [q0, q1, q2] <;> omega)
theorem tell_none {a : Qu} {e : En} (h : ∀ i, i < 14 → keyV (sortI e.ki) e.re ≠ keyAt i) : a.tell e = (a, false) := by
  have g : ∀ i, i < 14 → ¬ (sortI e.ki = (ruleTab.getD i (0, 0, 0)).1 ∧ e.re = (ruleTab.getD i (0, 0, 0)).2.1) := fun i hi h' => h i hi (by rw [keyAt, keyV_inj]; exact h')
  clear h
  have g0 := g 0 (by omega); have g1 := g 1 (by omega); have g2 := g 2 (by omega); have g3 := g 3 (by omega); have g4 := g 4 (by omega); have g5 := g 5 (by omega); have g6 := g 6 (by omega)
  have g7 := g 7 (by omega); have g8 := g 8 (by omega); have g9 := g 9 (by omega); have g10 := g 10 (by omega); have g11 := g 11 (by omega); have g12 := g 12 (by omega); have g13 := g 13 (by omega)
  clear g
  simp only [ruleTab, List.getD_cons_zero, List.getD_cons_succ, sort_1, sort_4, sort_hi (show (7 : Int) ≤ 7 by omega), sort_hi (show (7 : Int) ≤ 8 by omega), sort_hi (show (7 : Int) ≤ 9 by omega)] at *
  cases hs : sendsB e.ki
  · cases hr : recvsB e.ki
    · rw [tell_else hs hr]
      by_cases h1 : e.re = 1
      · have : e.ki ≠ 7 := fun h => g12 ⟨h, h1⟩
        have : e.ki ≠ 8 := fun h => g13 ⟨h, h1⟩
        have : e.ki ≠ 9 := fun h => g11 ⟨h, h1⟩
        simp [*]
      · simp [h1]
    · rw [tell_recvs hr]
      simp [hr] at g6 g7 g8 g9 g10
      simp [Qu.recv, *]
  · rw [tell_sends hs]
    simp [hs] at g0 g1 g2 g3 g4 g5
    simp [Qu.send, *]

/-- Each row's function by its contract. -/
theorem prule_any (base qb : Nat) (a : Qu) (p : Option Addr) (k : Nat) (w : World) (hA : At w base qb a p k) (e : En) (hm : a.vals.length ≤ 1000) (i : Nat) (hi : i < 14) : Calls Try.prog (ruleTab.getD i (0, 0, 0)).2.2 #[.pointer (some ⟨qb, 0, none⟩), .agg #[.int .i64 e.th, .int .i64 e.ki, .int .i64 e.va, .int .i64 e.re, .int .i64 e.go]] w (Told base qb p (a.rule e i) w) := by
  obtain ⟨th, ki, va, re, go⟩ := e
  have hz := hA.lt
  obtain ⟨⟨c0, c1, c2, c3⟩, -⟩ := hA.cells
  have K : ∀ {f : Nat} {b : Bool}, (Calls Try.prog f #[.pointer (some ⟨qb, 0, none⟩), .agg #[.int .i64 th, .int .i64 ki, .int .i64 va, .int .i64 re, .int .i64 go]] w fun e w' => e = .returned (.bool b) ∧ Kept w w') → Calls Try.prog f #[.pointer (some ⟨qb, 0, none⟩), .agg #[.int .i64 th, .int .i64 ki, .int .i64 va, .int .i64 re, .int .i64 go]] w (Told base qb p (a, b) w) := fun h => h.mono fun e w' h => told_of_kept hA h
  obtain rfl | rfl | rfl | rfl | rfl | rfl | rfl | rfl | rfl | rfl | rfl | rfl | rfl | rfl : i = 0 ∨ i = 1 ∨ i = 2 ∨ i = 3 ∨ i = 4 ∨ i = 5 ∨ i = 6 ∨ i = 7 ∨ i = 8 ∨ i = 9 ∨ i = 10 ∨ i = 11 ∨ i = 12 ∨ i = 13 := by omega
  · exact pletin_any base qb a p k w hA th ki va re go hm
  · exact K (pblocks_any qb a.vals a.cap a.pol a.mode p k w hz c0 c1 c2 c3 th ki va re go)
  · exact K (pdrops_any qb a.vals a.cap a.pol a.mode p k w hz c0 c1 c2 c3 th ki va re go)
  · exact K (plate_any qb w th ki va re go)
  · exact K (pdrains_any qb a.vals a.cap a.pol a.mode p k w hz c0 c1 c2 c3 th ki va re go)
  · exact K (phalts_any qb a.vals a.cap a.pol a.mode p k w hz c0 c1 c2 c3 th ki va re go)
  · exact pgive_any base qb a p k w hA th ki va re go
  · exact K (placks_any qb a.vals a.cap a.pol a.mode p k w hz c0 c1 c2 c3 th ki va re go)
  · exact K (plate_any qb w th ki va re go)
  · exact K (pdrained_any qb a.vals a.cap a.pol a.mode p k w hz c0 c1 c2 c3 th ki va re go)
  · exact K (phalts_any qb a.vals a.cap a.pol a.mode p k w hz c0 c1 c2 c3 th ki va re go)
  · exact pevict_any base qb a p k w hA th ki va re go
  · exact pdrain_any base qb a p k w hA th ki va re go
  · exact phalt_any base qb a p k w hA th ki va re go
end Go.Proofs.Ythlgijmpkpmibaa
