/- Layer 12: what is done to a thread, as plain functions and relations. -/
import Derived.Test.YtacfgjjahnobjaaOpF
import Derived.Test.YtacfgjjahnobjaaTh
namespace Go.Proofs.Ytacfgjjahnobjaa
set_option linter.unusedVariables false
set_option linter.unusedSimpArgs false

def thIn (n l h : Int) : Bool := decide (l ≤ n) && decide (n ≤ h)
def thDoes (st ki : Int) : Bool := (st == 0 && ki == 0) || (thIn st 0 2 && opB ki)
def thWaits (ki un : Int) (la : Bool) : Bool := if opTimed ki = true then thIn un 0 1099511627776 else (un == 0 && !la)
def thCounts (pc re se tr rs : Int) : Bool := thIn pc 0 11 && (thIn re 0 1099511627776 && (thIn se (-1) 1099511627776 && (thIn tr 0 1099511627776 && thIn rs 0 7)))
def thRests (st pc re se tr : Int) (la : Bool) : Bool := st == 0 && (pc == 0 && (re == 0 && (se == 0 && (tr == 0 && !la))))
/-- Whether a thread may be. -/
def thB (t : Th) : Bool := thDoes t.st t.ki && (thWaits t.ki t.un t.la && (thCounts t.pc t.re t.se t.tr t.rs && (!(t.st == 0) || thRests t.st t.pc t.re t.se t.tr t.la)))
def thLate (t : Th) (now : Int) : Bool := opTimed t.ki && (!(t.st == 0) && decide (t.un ≤ now))
/-- Why a thread may not step, or 0. -/
def thRuns (st : Int) : Int := if st = 0 then 121 else if st = 2 then 122 else 0
/-- One of which something is begun: E the error, r what it becomes. -/
def thBeg (t : Th) (k v u E : Int) (r : Th) : Prop :=
  (t.st ≠ 0 ∧ E = 120 ∧ r = t) ∨ (t.st = 0 ∧ opB k = false ∧ E = 190 ∧ r = t) ∨ (t.st = 0 ∧ opB k = true ∧ opTimed k = false ∧ E = 0 ∧ r = ⟨1, k, v, 0, 0, 0, 0, 0, false, 0, 0⟩) ∨
  (t.st = 0 ∧ opB k = true ∧ opTimed k = true ∧ ¬(0 ≤ u ∧ u ≤ 1099511627776) ∧ E = 50 ∧ r = t) ∨ (t.st = 0 ∧ opB k = true ∧ opTimed k = true ∧ (0 ≤ u ∧ u ≤ 1099511627776) ∧ E = 0 ∧ r = ⟨1, k, v, u, 0, 0, 0, 0, false, 0, 0⟩)
def thPark (t : Th) (p E : Int) (r : Th) : Prop :=
  (t.st = 0 ∧ E = 121 ∧ r = t) ∨ (t.st = 2 ∧ E = 122 ∧ r = t) ∨ (t.st ≠ 0 ∧ t.st ≠ 2 ∧ E = 0 ∧ r = ⟨2, t.ki, t.va, t.un, p, t.re, t.se, 0, t.la, t.rs, t.go⟩)
def thDone (t : Th) (E : Int) (r : Th) : Prop :=
  (t.st = 0 ∧ E = 121 ∧ r = t) ∨ (t.st = 2 ∧ E = 122 ∧ r = t) ∨ (t.st ≠ 0 ∧ t.st ≠ 2 ∧ E = 0 ∧ r = ⟨0, t.ki, t.va, t.un, 0, 0, 0, 0, false, t.rs, t.go⟩)
def thWake (t : Th) (r : Th) : Prop := (t.st = 2 ∧ r = ⟨1, t.ki, t.va, t.un, t.pc, t.re, t.se, t.tr, t.la, t.rs, t.go⟩) ∨ (t.st ≠ 2 ∧ r = t)

theorem beg_is (t : Th) (k v u : Int) : ∃ E r, thBeg t k v u E r := by
  unfold thBeg
  by_cases h : t.st = 0
  · cases h1 : opB k
    · exact ⟨190, t, .inr (.inl ⟨h, rfl, rfl, rfl⟩)⟩
    · cases h2 : opTimed k
      · exact ⟨0, _, .inr (.inr (.inl ⟨h, rfl, rfl, rfl, rfl⟩))⟩
      · by_cases h3 : 0 ≤ u ∧ u ≤ 1099511627776
        · exact ⟨0, _, .inr (.inr (.inr (.inr ⟨h, rfl, rfl, h3, rfl, rfl⟩)))⟩
        · exact ⟨50, t, .inr (.inr (.inr (.inl ⟨h, rfl, rfl, h3, rfl, rfl⟩)))⟩
  · exact ⟨120, t, .inl ⟨h, rfl, rfl⟩⟩
theorem park_is (t : Th) (p : Int) : ∃ E r, thPark t p E r := by
  by_cases h : t.st = 0
  · exact ⟨121, t, .inl ⟨h, rfl, rfl⟩⟩
  · by_cases h2 : t.st = 2
    · exact ⟨122, t, .inr (.inl ⟨h2, rfl, rfl⟩)⟩
    · exact ⟨0, _, .inr (.inr ⟨h, h2, rfl, rfl⟩)⟩
theorem done_is (t : Th) : ∃ E r, thDone t E r := by
  by_cases h : t.st = 0
  · exact ⟨121, t, .inl ⟨h, rfl, rfl⟩⟩
  · by_cases h2 : t.st = 2
    · exact ⟨122, t, .inr (.inl ⟨h2, rfl, rfl⟩)⟩
    · exact ⟨0, _, .inr (.inr ⟨h, h2, rfl, rfl⟩)⟩
theorem wake_is (t : Th) : ∃ r, thWake t r := by
  by_cases h : t.st = 2
  · exact ⟨_, .inl ⟨h, rfl⟩⟩
  · exact ⟨t, .inr ⟨h, rfl⟩⟩

def bI (b : Bool) : Int := if b = true then 1 else 0
theorem timed_iff {k : Int} : opTimed k = true ↔ (k = 3 ∨ k = 6) := by simp [opTimed]
theorem thB_iff {st ki va un pc re se tr rs go : Int} {la : Bool} : thB ⟨st, ki, va, un, pc, re, se, tr, la, rs, go⟩ = true ↔
    ((st = 0 ∧ ki = 0) ∨ (0 ≤ st ∧ st ≤ 2 ∧ 1 ≤ ki ∧ ki ≤ 8)) ∧ (((ki = 3 ∨ ki = 6) ∧ 0 ≤ un ∧ un ≤ 1099511627776) ∨ (¬(ki = 3 ∨ ki = 6) ∧ un = 0 ∧ bI la = 0)) ∧
    (0 ≤ pc ∧ pc ≤ 11 ∧ 0 ≤ re ∧ re ≤ 1099511627776 ∧ -1 ≤ se ∧ se ≤ 1099511627776 ∧ 0 ≤ tr ∧ tr ≤ 1099511627776 ∧ 0 ≤ rs ∧ rs ≤ 7) ∧
    (st ≠ 0 ∨ (pc = 0 ∧ re = 0 ∧ se = 0 ∧ tr = 0 ∧ bI la = 0)) := by
  have hw : thWaits ki un la = true ↔ (((ki = 3 ∨ ki = 6) ∧ 0 ≤ un ∧ un ≤ 1099511627776) ∨ (¬(ki = 3 ∨ ki = 6) ∧ un = 0 ∧ bI la = 0)) := by
    unfold thWaits
    by_cases h : ki = 3 ∨ ki = 6
    · rw [if_pos (timed_iff.2 h)]; cases la <;> simp [h, thIn, bI]
    · rw [if_neg (fun h' => h (timed_iff.1 h'))]; cases la <;> simp [h, bI]
  simp only [thB, Bool.and_eq_true, hw]
  cases la <;> simp [thDoes, thCounts, thRests, thIn, opB, bI] <;> omega
end Go.Proofs.Ytacfgjjahnobjaa
