/- Layer 3: what the statements say, as plain mathematics. -/
import Derived.Test.YtomnhjcoonbajaaFifoF
namespace Go.Proofs.Ytomnhjcoonbajaa
set_option linter.unusedVariables false
set_option linter.unusedSimpArgs false

theorem send_not_recv {k : Int} (h : sendsB k = true) : recvsB k = false := by
  simp [sendsB] at h; simp [recvsB]; omega
theorem tell_threads (a : Qu) (e : En) (t n : Int) : a.tell ⟨t, e.ki, if recvsB e.ki then n else e.va, e.re, if sendsB e.ki then n else e.go⟩ = a.tell e := by
  cases hs : sendsB e.ki
  · cases hr : recvsB e.ki
    · simp [Qu.tell, hs, hr]
    · simp [Qu.tell, Qu.recv, hs, hr]
  · simp [Qu.tell, Qu.send, hs, send_not_recv hs]

/-- How many of the first results may be told. -/
def cnt (f : Nat → Bool) : Nat → Int
  | 0 => 0
  | n + 1 => cnt f n + (if f (n + 1) then 1 else 0)
theorem cnt_bd (f : Nat → Bool) (n : Nat) : 0 ≤ cnt f n ∧ cnt f n ≤ n := by
  induction n with
  | zero => simp [cnt]
  | succ n ih => simp only [cnt]; split <;> omega
def evB (a : Qu) : Bool := decide (a.mode = 0) && decide (a.pol = 2) && decide (a.cap ≤ (a.vals.length : Int))
def firstI (a : Qu) : Int := a.vals.headD 0
def sendF (a : Qu) (val : Int) (r : Nat) : Bool := (a.tell ⟨0, 2, val, r, 0⟩).2
def recvF (a : Qu) (r : Nat) : Bool := (a.tell ⟨0, 5, 0, r, firstI a⟩).2
theorem cnt_sends (a : Qu) (val : Int) (h0 : 0 ≤ a.mode) (h1 : a.mode ≤ 2) (h2 : 0 ≤ a.pol) (h3 : a.pol ≤ 2) : cnt (sendF a val) 7 = if evB a then 0 else 1 := by
  have hm : a.mode = 0 ∨ a.mode = 1 ∨ a.mode = 2 := by omega
  have hp : a.pol = 0 ∨ a.pol = 1 ∨ a.pol = 2 := by omega
  by_cases hf : a.cap ≤ (a.vals.length : Int) <;> rcases hm with hm | hm | hm <;> rcases hp with hp | hp | hp <;> simp [cnt, sendF, evB, Qu.tell, sendsB, Qu.send, Qu.full, hm, hp, hf]
theorem cnt_recvs (a : Qu) (h0 : 0 ≤ a.mode) (h1 : a.mode ≤ 2) : cnt (recvF a) 7 = 1 := by
  have hm : a.mode = 0 ∨ a.mode = 1 ∨ a.mode = 2 := by omega
  obtain ⟨l, c, p, m⟩ := a
  cases l <;> rcases hm with hm | hm | hm <;> simp only at hm <;> subst hm <;> simp [cnt, recvF, firstI, Qu.tell, sendsB, recvsB, Qu.recv, Qu.gone]

/-! In order. -/
def inL (es : List En) : List Int := es.filterMap fun e => if sendsB e.ki && decide (e.re = 1) then some e.va else none
def outL (es : List En) : List Int := es.filterMap fun e => if (recvsB e.ki || decide (e.ki = 9)) && decide (e.re = 1) then some e.go else none
theorem inL_one (e : En) : inL [e] = if sendsB e.ki && decide (e.re = 1) then [e.va] else [] := by
  simp only [inL, List.filterMap_cons, List.filterMap_nil]; cases (sendsB e.ki && decide (e.re = 1)) <;> rfl
theorem outL_one (e : En) : outL [e] = if (recvsB e.ki || decide (e.ki = 9)) && decide (e.re = 1) then [e.go] else [] := by
  simp only [outL, List.filterMap_cons, List.filterMap_nil]; cases ((recvsB e.ki || decide (e.ki = 9)) && decide (e.re = 1)) <;> rfl
theorem inL_snoc (es : List En) (e : En) : inL (es ++ [e]) = inL es ++ (if sendsB e.ki && decide (e.re = 1) then [e.va] else []) := by
  rw [← inL_one]; unfold inL; rw [List.filterMap_append]
theorem outL_snoc (es : List En) (e : En) : outL (es ++ [e]) = outL es ++ (if (recvsB e.ki || decide (e.ki = 9)) && decide (e.re = 1) then [e.go] else []) := by
  rw [← outL_one]; unfold outL; rw [List.filterMap_append]

theorem gone_true {a : Qu} {n : Int} (h : (a.gone n).2 = true) : ∃ r, a.vals = n :: r ∧ (a.gone n).1 = a.with r := by
  obtain ⟨l, c, p, m⟩ := a
  cases l with
  | nil => simp [Qu.gone] at h
  | cons v r =>
    simp only [Qu.gone] at h ⊢
    split
    · rename_i hv; subst hv; exact ⟨r, rfl, rfl⟩
    · rename_i hv; simp [hv] at h
theorem gone_false {a : Qu} {n : Int} (h : (a.gone n).2 = false) : (a.gone n).1 = a := by
  obtain ⟨l, c, p, m⟩ := a
  cases l with
  | nil => rfl
  | cons v r =>
    simp only [Qu.gone] at h ⊢
    split at h
    · cases h
    · rename_i hv; simp [hv]

/-- What an entry that may be told does. -/
theorem tell_order {a : Qu} {e : En} (h : (a.tell e).2 = true) : outL [e] ++ (a.tell e).1.vals = a.vals ++ inL [e] ∧ (a.tell e).1.cap = a.cap ∧ (a.tell e).1.pol = a.pol ∧ (a.mode ≤ 2 → a.mode ≤ (a.tell e).1.mode ∧ (a.tell e).1.mode ≤ 2) := by
  cases hs : sendsB e.ki
  · cases hr : recvsB e.ki
    · have e1 : a.tell e = if e.re ≠ 1 then (a, false) else if e.ki = 7 then (⟨a.vals, a.cap, a.pol, drainI a.mode⟩, true) else if e.ki = 8 then (⟨a.vals, a.cap, a.pol, 2⟩, true) else if e.ki = 9 then (if a.mode ≠ 0 ∨ a.pol ≠ 2 ∨ (a.vals.length : Int) < a.cap then (a, false) else a.gone e.go) else (a, false) := by simp [Qu.tell, hs, hr]
      rw [e1] at h ⊢
      by_cases h1 : e.re = 1
      · by_cases h7 : e.ki = 7
        · have hs7 : sendsB 7 = false := rfl
          have hr7 : recvsB 7 = false := rfl
          simp only [h1, h7, ne_eq, not_true_eq_false, if_false, if_true, inL_one, outL_one, hs7, hr7]
          refine ⟨by simp, trivial, trivial, fun hm => ?_⟩
          unfold drainI; split <;> omega
        · by_cases h8 : e.ki = 8
          · have hs8 : sendsB 8 = false := rfl
            have hr8 : recvsB 8 = false := rfl
            simp [inL_one, outL_one, h1, h8, hs8, hr8]
          · by_cases h9 : e.ki = 9
            · simp only [h1, h9, ne_eq, not_true_eq_false, if_false, if_true, show ¬ (9 : Int) = 7 by omega, show ¬ (9 : Int) = 8 by omega] at h ⊢
              split
              · rename_i hc; simp [hc] at h
              · rename_i hc
                simp only [hc, if_false] at h
                obtain ⟨r, hv, hg⟩ := gone_true h
                rw [hg]
                have hs9 : sendsB 9 = false := rfl
                simp [inL_one, outL_one, h1, h9, hv, Qu.with, hs9]
            · simp [h1, h7, h8, h9] at h
      · simp [h1] at h
    · have e1 : a.tell e = a.recv e := by simp [Qu.tell, hs, hr]
      rw [e1] at h ⊢
      unfold Qu.recv at h ⊢
      by_cases h1 : e.re = 1
      · simp only [h1, if_true] at h ⊢
        by_cases h2 : a.mode = 2
        · simp [h2] at h
        · simp only [h2, if_false] at h ⊢
          obtain ⟨r, hv, hg⟩ := gone_true h
          rw [hg]
          simp [inL_one, outL_one, hs, hr, h1, hv, Qu.with]
      · simp only [h1, if_false] at h ⊢
        have hio : inL [e] = [] ∧ outL [e] = [] := by simp [inL_one, outL_one, h1]
        rw [hio.1, hio.2]
        repeat' split
        all_goals simp
  · have e1 : a.tell e = a.send e := by simp [Qu.tell, hs]
    have hr := send_not_recv hs
    have h9 : ¬ e.ki = 9 := by intro h9; rw [h9] at hs; simp [sendsB] at hs
    rw [e1] at h ⊢
    unfold Qu.send at h ⊢
    by_cases h1 : e.re = 1
    · simp only [h1, if_true] at h ⊢
      split
      · rename_i hc; rw [if_pos hc] at h; cases h
      · simp [inL_one, outL_one, hs, hr, h1, h9, Qu.with]
    · simp only [h1, if_false] at h ⊢
      have hio : inL [e] = [] ∧ outL [e] = [] := by simp [inL_one, outL_one, h1]
      rw [hio.1, hio.2]
      repeat' split
      all_goals simp

theorem all_cons_no {a : Qu} {e : En} {l : List En} (h : (a.tell e).2 = false) : a.all (e :: l) = (a, 0) := by simp [Qu.all, h]
theorem all_cons_yes {a : Qu} {e : En} {l : List En} (h : (a.tell e).2 = true) : a.all (e :: l) = (((a.tell e).1.all l).1, ((a.tell e).1.all l).2 + 1) := by simp [Qu.all, h]
theorem inL_cons (e : En) (l : List En) : inL (e :: l) = inL [e] ++ inL l := by
  rw [show e :: l = [e] ++ l from rfl]; unfold inL; rw [List.filterMap_append]
theorem outL_cons (e : En) (l : List En) : outL (e :: l) = outL [e] ++ outL l := by
  rw [show e :: l = [e] ++ l from rfl]; unfold outL; rw [List.filterMap_append]

theorem all_order : ∀ (es : List En) (a : Qu), (a.all es).2 ≤ es.length ∧ outL (es.take (a.all es).2) ++ (a.all es).1.vals = a.vals ++ inL (es.take (a.all es).2) ∧ (a.all es).1.cap = a.cap ∧ (a.all es).1.pol = a.pol ∧ (a.mode ≤ 2 → a.mode ≤ (a.all es).1.mode)
  | [], a => by simp [Qu.all, inL, outL]
  | e :: l, a => by
    cases h : (a.tell e).2
    · rw [all_cons_no h]; simp [inL, outL]
    · obtain ⟨h1, h2, h3, h4⟩ := tell_order h
      obtain ⟨i1, i2, i3, i4, i5⟩ := all_order l (a.tell e).1
      rw [all_cons_yes h]
      refine ⟨by simp only [List.length_cons]; omega, ?_, i3.trans h2, i4.trans h3, fun hm => ?_⟩
      · simp only [List.take_succ_cons]
        rw [outL_cons, inL_cons, List.append_assoc, i2, ← List.append_assoc, h1, List.append_assoc]
      · obtain ⟨j1, j2⟩ := h4 hm
        have := i5 j2
        simp only; omega

/-! As far as each may be. -/
theorem all_take_short : ∀ (k : Nat) (es : List En) (a : Qu), (a.all (es.take k)).2 < k → k ≤ es.length → a.all es = a.all (es.take k)
  | 0, es, a, h, _ => by simp at h
  | k + 1, [], a, _, hk => by simp at hk
  | k + 1, e :: l, a, h, hk => by
    rw [List.take_succ_cons] at h ⊢
    cases ht : (a.tell e).2
    · rw [all_cons_no ht, all_cons_no ht]
    · rw [all_cons_yes ht] at h ⊢
      rw [all_cons_yes ht]
      simp only at h
      have := all_take_short k l (a.tell e).1 (by omega) (by simpa using hk)
      rw [this]
theorem all_take_whole : ∀ (k : Nat) (es : List En) (a : Qu), (a.all (es.take k)).2 = k → k ≤ es.length → a.all es = (((a.all (es.take k)).1.all (es.drop k)).1, k + ((a.all (es.take k)).1.all (es.drop k)).2)
  | 0, es, a, _, _ => by simp [Qu.all]
  | k + 1, [], a, _, hk => by simp at hk
  | k + 1, e :: l, a, h, hk => by
    rw [List.take_succ_cons] at h ⊢
    cases ht : (a.tell e).2
    · rw [all_cons_no ht] at h; simp at h
    · rw [all_cons_yes ht] at h
      simp only at h
      have := all_take_whole k l (a.tell e).1 (by omega) (by simpa using hk)
      rw [all_cons_yes ht, all_cons_yes ht, List.drop_succ_cons, this]
      simp only [Prod.mk.injEq, true_and]
      omega
theorem all_stops : ∀ (es : List En) (a : Qu) (h : (a.all es).2 < es.length), ((a.all es).1.tell (es[(a.all es).2]'h)).2 = false
  | [], a, h => by simp at h
  | e :: l, a, h => by
    cases ht : (a.tell e).2
    · have e0 := all_cons_no (l := l) ht
      have : ∀ (r : Qu × Nat) (hr : r.2 < (e :: l).length), r = (a, 0) → (r.1.tell ((e :: l)[r.2]'hr)).2 = false := fun r hr e => by subst e; exact ht
      exact this _ h e0
    · have e0 := all_cons_yes (l := l) ht
      have h' : ((a.tell e).1.all l).2 < l.length := by rw [e0] at h; simpa using h
      have ih := all_stops l (a.tell e).1 h'
      have : ∀ (r : Qu × Nat) (hr : r.2 < (e :: l).length), r = (((a.tell e).1.all l).1, ((a.tell e).1.all l).2 + 1) → (r.1.tell ((e :: l)[r.2]'hr)).2 = false := fun r hr e => by subst e; simpa using ih
      exact this _ h e0

/-! Closed. -/
theorem tell_halted {a : Qu} (hm : a.mode = 2) (e : En) : (a.tell e).1 = a := by
  have hd : (⟨a.vals, a.cap, a.pol, drainI a.mode⟩ : Qu) = a := by obtain ⟨l, c, p, m⟩ := a; simp only at hm; subst hm; rfl
  have hh : (⟨a.vals, a.cap, a.pol, 2⟩ : Qu) = a := by obtain ⟨l, c, p, m⟩ := a; simp only at hm; subst hm; rfl
  unfold Qu.tell Qu.send Qu.recv
  rw [hd, hh]
  repeat' split
  all_goals first | rfl | (simp_all; done)
theorem all_halted : ∀ (es : List En) (a : Qu), a.mode = 2 → (a.all es).1 = a
  | [], a, _ => rfl
  | e :: l, a, hm => by
    cases ht : (a.tell e).2
    · rw [all_cons_no ht]
    · rw [all_cons_yes ht]
      have := tell_halted hm e
      rw [this]
      exact all_halted l a hm
theorem gone_suffix (a : Qu) (n : Int) : (∃ pre, a.vals = pre ++ (a.gone n).1.vals) ∧ (a.gone n).1.mode = a.mode := by
  cases h : (a.gone n).2
  · rw [gone_false h]; exact ⟨⟨[], rfl⟩, rfl⟩
  · obtain ⟨r, hv, hg⟩ := gone_true h
    rw [hg]; exact ⟨⟨[n], hv⟩, rfl⟩
theorem tell_closed {a : Qu} (hm : 1 ≤ a.mode) (e : En) : (∃ pre, a.vals = pre ++ (a.tell e).1.vals) ∧ 1 ≤ (a.tell e).1.mode := by
  have hg := gone_suffix a e.go
  have h0 : a.mode ≠ 0 := by omega
  have hd : drainI a.mode = a.mode := by simp [drainI, h0]
  have same : (∃ pre, a.vals = pre ++ a.vals) ∧ 1 ≤ a.mode := ⟨⟨[], rfl⟩, hm⟩
  unfold Qu.tell Qu.send Qu.recv
  rw [hd]
  repeat' split
  all_goals first | exact same | exact ⟨hg.1, by rw [hg.2]; exact hm⟩ | exact ⟨⟨[], rfl⟩, by simp⟩ | (rename_i h _; simp [h0] at h) | (simp_all; done)
theorem all_closed : ∀ (es : List En) (a : Qu), 1 ≤ a.mode → (∃ pre, a.vals = pre ++ (a.all es).1.vals) ∧ 1 ≤ (a.all es).1.mode
  | [], a, hm => ⟨⟨[], rfl⟩, hm⟩
  | e :: l, a, hm => by
    cases ht : (a.tell e).2
    · rw [all_cons_no ht]; exact ⟨⟨[], rfl⟩, hm⟩
    · rw [all_cons_yes ht]
      obtain ⟨⟨p1, h1⟩, h2⟩ := tell_closed hm e
      obtain ⟨⟨p2, h3⟩, h4⟩ := all_closed l (a.tell e).1 h2
      exact ⟨⟨p1 ++ p2, by rw [List.append_assoc, ← h3, h1]⟩, h4⟩
theorem suffix_drop {l m pre : List Int} (h : l = pre ++ m) : m = l.drop (l.length - m.length) ∧ m.length ≤ l.length := by
  subst h; simp

/-! Room. -/
theorem gone_room (a : Qu) (n : Int) : (a.gone n).1.vals.length ≤ a.vals.length := by
  obtain ⟨⟨pre, h⟩, _⟩ := gone_suffix a n
  have := congrArg List.length h
  simp at this; omega
theorem gone_cap (a : Qu) (n : Int) : (a.gone n).1.cap = a.cap := by
  cases h : (a.gone n).2
  · rw [gone_false h]
  · obtain ⟨r, hv, hg⟩ := gone_true h
    rw [hg]; rfl
theorem tell_room {a : Qu} (e : En) (h : (a.vals.length : Int) ≤ a.cap) : ((a.tell e).1.vals.length : Int) ≤ a.cap ∧ (a.mode ≠ 0 → (a.tell e).1.vals.length ≤ a.vals.length) ∧ (a.tell e).1.cap = a.cap := by
  have hg := gone_room a e.go
  have hc := gone_cap a e.go
  unfold Qu.tell Qu.send Qu.recv
  repeat' split
  all_goals first
    | exact ⟨h, fun _ => Nat.le_refl _, rfl⟩
    | exact ⟨by omega, fun _ => hg, hc⟩
    | (rename_i hf; simp [Qu.full] at hf; refine ⟨by simp [Qu.with]; omega, fun h' => absurd hf.1 h', rfl⟩)
end Go.Proofs.Ytomnhjcoonbajaa
