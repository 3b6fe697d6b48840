/- Texts merged: AcLQ, AcMQ, AcNQ, CloseAQ, CcBQ, DueFQ, TickFQ, TickDQ, TkDQ, TickPQ, SlEQ, AcOQ, TkEQ, TkGQ. -/
import Derived.Test.YtfhjllchbgclaaaGreatZb9
import Derived.Test.YtfhjllchbgclaaaGreatZb4
import Derived.Test.YtfhjllchbgclaaaGreatZb1
import Derived.Laws.StructEq
import Derived.Test.YtfhjllchbgclaaaGreatZb8
import Derived.Test.YtfhjllchbgclaaaGreatZb6
/- The document's Step, case by case, told by plain states. -/
namespace Go.Proofs.YtfhjllchbgclaaaGreat
set_option linter.unusedVariables false
set_option linter.unusedSimpArgs false
open Go.RowKit
/-- What is true of a state in which thread n, at step c, sends. -/
structure Dn (s : St) (n : Nat) (c : Int) : Prop where
  ck : stB s = true
  ok : s.ok
  few : s.few
  hn : n < s.th.length
  st : (gth s.th n).st = 1
  sd : opSide (gth s.th n).ki = 1
  pc : (gth s.th n).pc = c
section
variable {s : St} {n : Nat} {c : Int}
theorem Dn.ht (h : Dn s n c) : gth s.th n = pcT (gth s.th n) c := by rw [← h.pc]; rfl
theorem Dn.ix (h : Dn s n c) : IxP ((s.th.map thT).toArray) (n : Int) (thT (pcT (gth s.th n) c)) := by
  have := ixT h.hn
  rw [h.ht] at this
  exact this
theorem Dn.has (h : Dn s n c) : hasB s n = true := has_of h.ck h.hn
theorem Dn.ru (h : Dn s n c) : runsB s n 1 = true := runs_iff.2 ⟨h.has, by simpa using h.st, by simpa using h.sd⟩
theorem Dn.rs (h : Dn s n c) : thRuns (gth s.th n).st = 0 := by rw [h.st]; rfl
theorem Dn.sl (h : Dn s n c) : okSl s.sl = true := (word_ok h.ck).2.1
theorem Dn.bd (h : Dn s n c) : 0 ≤ (gth s.th n).re ∧ (gth s.th n).re ≤ 1099511627776 ∧ 0 ≤ (gth s.th n).tr ∧ (gth s.th n).tr ≤ 1099511627776 := by
  have h1 := gth_ok h.ck h.hn
  generalize gth s.th n = t at h1
  obtain ⟨st, ki, va, un, pc, re, se, tr, la, rs, go⟩ := t
  rw [thB_iff] at h1
  simp only
  omega
theorem Dn.len (h : Dn s n c) : In64 (s.sl.length : Int) := by have := h.few.sl; constructor <;> omega
end
end Go.Proofs.YtfhjllchbgclaaaGreat

/- The document's Step is the step of plain states; Steps as many as there are. -/
namespace Go.Proofs.YtfhjllchbgclaaaGreat
set_option linter.unusedVariables false
set_option linter.unusedSimpArgs false
open Go.RowKit
section
variable {s : St} {n : Nat} {c : Int}
theorem Dn.sp (h : Dn s n c) (hl : s.lg.length ≤ 999999) : Sp s n 1 0 := ⟨by decide, h.ck, h.ok, h.hn, h.st, h.sd, hl, by constructor <;> omega⟩
end
end Go.Proofs.YtfhjllchbgclaaaGreat

/- The document's Steps: as many steps as there are, told by plain states. -/
namespace Go.Proofs.YtfhjllchbgclaaaGreat
set_option linter.unusedVariables false
set_option linter.unusedSimpArgs false
open Go.RowKit
def bS (s : St) : Option Blk := some ⟨true, false, 20, 1, [stT s]⟩
theorem few_of {s : St} (h : stB s = true) (hl : s.lg.length ≤ 1000) : s.few := by
  obtain ⟨a, b, c, d, -, -⟩ := full_lines h
  have h1 := th_len h
  have h2 := ok_len (stn_iff.1 a).1
  have h3 := ok_len (stn_iff.1 b).1
  have h4 := ok_len (stn_iff.1 c).1
  have h5 := ok_len (stn_iff.1 d).1
  have h6 := (ok_iff.1 (word_ok h).2.1).1
  exact ⟨by omega, by omega, by omega, by omega, by omega, by omega, hl⟩
section
variable {s : St} {i m o : Int} {b : Bool}
end
end Go.Proofs.YtfhjllchbgclaaaGreat

/- Layer 16, plain: who begins to close is done after three steps, and behind them nobody waits. -/
namespace Go.Proofs.YtfhjllchbgclaaaGreat
set_option linter.unusedVariables false
set_option linter.unusedSimpArgs false
theorem closeS_is {s : St} {i : Int} (h : runsB s i 3 = true) : closeS s i = closeN s i.toNat := by unfold closeS; rw [if_pos h]
theorem closeN_0 {s : St} {n : Nat} (h : (gth s.th n).pc = 0) : closeN s n = shutC s n := by unfold closeN; rw [if_pos h]
theorem closeN_1 {s : St} {n : Nat} (h : (gth s.th n).pc = 1) : closeN s n = fullC s n := by unfold closeN; rw [if_neg (by omega), if_pos h]
theorem closeN_2 {s : St} {n : Nat} (h0 : (gth s.th n).pc ≠ 0) (h1 : (gth s.th n).pc ≠ 1) : closeN s n = emptyC s n := by unfold closeN; rw [if_neg h0, if_neg h1]
theorem wkT_not {t : Th} (h : t.st ≠ 2) : wakeT t = t := by unfold wakeT; rw [if_neg h]
section
variable {s : St} (h : stB s = true) {n : Nat} (hn : n < s.th.length) (h1 : (gth s.th n).st = 1)
include h hn
theorem gth_shut (j : Nat) : gth (shutC s n).th j = if j = n then pcT (tellT (gth s.th n) (gth s.th n).ki 1 0) 1 else gth s.th j := by
  have hw := shut_word h (modeI (gth s.th n).ki)
  unfold shutC toldS
  rw [tell_th (n := n) hw hn]
  show gth ((s.th.set n (tellT (gth s.th n) (gth s.th n).ki 1 0)).set n (pcT (gth (s.th.set n (tellT (gth s.th n) (gth s.th n).ki 1 0)) n) 1)) j = _
  rw [List.set_set, gth_set hn, gth_set hn, if_pos rfl]
  by_cases e : n = j
  · rw [if_pos e, if_pos e.symm]
  · rw [if_neg e, if_neg (fun x => e x.symm)]
include h1
theorem gth_full {j : Nat} (hj : j < s.th.length) : gth (fullC s n).th j = if j = n then pcT (gth s.th n) 2 else if (j : Int) ∈ s.fl then wakeT (gth s.th j) else gth s.th j := by
  have hb := full_on h hn (by omega)
  have e3 := (nt_all (full_lines h).2.2.2.2.1).2.2
  unfold fullC
  rw [wakes_th _ hb (by show j < (s.th.set n _).length; simpa using hj), e3]
  have e : gth ((s.toFull (ntE s.fe s.fl) (ntL s.fl.length s.fe s.fl)).onTh n (pcT · 2)).th j = if n = j then pcT (gth s.th n) 2 else gth s.th j := gth_set hn
  rw [e]
  by_cases c : j = n
  · subst c
    rw [if_pos rfl, if_pos rfl, wkT_not (show (pcT (gth s.th j) 2).st ≠ 2 by show (gth s.th j).st ≠ 2; omega)]
    simp
  · have c' : ¬ n = j := fun x => c x.symm
    simp only [if_neg c, if_neg c']
theorem gth_empty {j : Nat} (hj : j < s.th.length) : gth (emptyC s n).th j = if j = n then doneT (gth s.th n) else if (j : Int) ∈ s.el then wakeT (gth s.th j) else gth s.th j := by
  have hb := empty_on h hn (by omega)
  have e3 := (nt_all (full_lines h).2.2.2.2.2).2.2
  unfold emptyC
  rw [wakes_th _ hb (by show j < (s.th.set n _).length; simpa using hj), e3]
  have e : gth ((s.toEmpty (ntE s.ee s.el) (ntL s.el.length s.ee s.el)).onTh n doneT).th j = if n = j then doneT (gth s.th n) else gth s.th j := gth_set hn
  rw [e]
  by_cases c : j = n
  · subst c
    rw [if_pos rfl, if_pos rfl, wkT_not (show (doneT (gth s.th j)).st ≠ 2 by show (0 : Int) ≠ 2; decide)]
    simp
  · have c' : ¬ n = j := fun x => c x.symm
    simp only [if_neg c, if_neg c']
end
/-- What threads share behind each step. -/
theorem shr_shut (s : St) (n : Nat) : shr (shutC s n) = shr (s.toWord s.hd s.tl (clM s.md (modeI (gth s.th n).ki))) := shr_told _ _ _ _ _ _
theorem shr_full (s : St) (n : Nat) : shr (fullC s n) = shr (s.toFull (ntE s.fe s.fl) (ntL s.fl.length s.fe s.fl)) := shr_wakes _ _
theorem shr_empty (s : St) (n : Nat) : shr (emptyC s n) = shr (s.toEmpty (ntE s.ee s.el) (ntL s.el.length s.ee s.el)) := shr_wakes _ _
theorem runs_of {s : St} (h : stB s = true) {n : Nat} (hn : n < s.th.length) (h1 : (gth s.th n).st = 1) (h2 : opSide (gth s.th n).ki = 3) : runsB s n 3 = true := by
  refine runs_iff.2 ⟨has_of h hn, ?_, ?_⟩ <;> rw [Int.toNat_natCast] <;> assumption
theorem runs_no {s : St} {n : Nat} (h1 : (gth s.th n).st ≠ 1) : runsB s n 3 = false := by
  cases h : runsB s n 3
  · rfl
  · have := (runs_iff.1 h).2.1; rw [Int.toNat_natCast] at this; exact absurd this h1
/-- Who begins to close is done after three steps. -/
theorem three {s : St} (h : stB s = true) {n : Nat} (hn : n < s.th.length) (h1 : (gth s.th n).st = 1) (hk : opSide (gth s.th n).ki = 3) (hp : (gth s.th n).pc = 0) (m : Nat) :
    ∃ u : St, closeK s n (m + 3) = (u, 3) ∧ stB u = true ∧ u.md = clM s.md (modeI (gth s.th n).ki) ∧ u.hd = s.hd ∧ u.tl = s.tl ∧ u.fl = [] ∧ u.el = [] ∧ u.fe = nxE s.fe ∧ u.ee = nxE s.ee ∧ u.cf = s.cf ∧ u.nw = s.nw ∧ u.sl = s.sl ∧ u.sn = s.sn ∧ u.rc = s.rc ∧
      u.lg = s.lg ++ [⟨n, (gth s.th n).ki, (gth s.th n).va, 1, 0⟩] ∧ u.th.length = s.th.length ∧ gth u.th n = doneT (tellT (gth s.th n) (gth s.th n).ki 1 0) ∧
      ∀ j : Nat, j < s.th.length → j ≠ n → (gth u.th j = gth s.th j ∨ gth u.th j = wakeT (gth s.th j)) ∧ ((j : Int) ∈ s.fl ∨ (j : Int) ∈ s.el → gth u.th j = wakeT (gth s.th j)) := by
  have ki9 : (gth s.th n).ki ≠ 9 := fun e => by rw [e] at hk; exact absurd hk (by decide)
  have e9 : ∀ t : Th, tellT t (gth s.th n).ki 1 0 = ⟨t.st, t.ki, t.va, t.un, t.pc, t.re, t.se, t.tr, t.la, 1, 0⟩ := fun t => by unfold tellT; rw [if_neg ki9]
  have r0 := runs_of h hn h1 hk
  have b1 := closeN_stB h hn (by omega)
  have l1 := (closeN_oth h hn (by omega)).len
  have q1 := shr_shut s n
  have g1 := gth_shut h hn
  have o1 := closeN_lgOk (s := s) (n := n)
  have lg1 : (shutC s n).lg = s.lg ++ [⟨n, (gth s.th n).ki, (gth s.th n).va, 1, 0⟩] := lg_is (shut_word h (modeI (gth s.th n).ki)) (n := n) hn (gth s.th n).ki 1 0 1
  rw [closeN_0 hp] at b1 l1 o1
  simp only [shr, Prod.mk.injEq] at q1
  have s0 : closeS s n = shutC s n := by rw [closeS_is r0, Int.toNat_natCast, closeN_0 hp]
  obtain ⟨⟨w1, w2, w3⟩, w4, w5, w6, ⟨w7, w8⟩, w9, w10⟩ := q1
  generalize shutC s n = a at *
  have ga := g1 n
  rw [if_pos rfl, e9] at ga
  have na : n < a.th.length := by omega
  have a1 : (gth a.th n).st = 1 := by rw [ga]; exact h1
  have ak : opSide (gth a.th n).ki = 3 := by rw [ga]; exact hk
  have ap : (gth a.th n).pc = 1 := by rw [ga]; rfl
  have r1 := runs_of b1 na a1 ak
  have b2 := closeN_stB b1 na (by omega)
  have l2 := (closeN_oth b1 na (by omega)).len
  have q2 := shr_full a n
  have g2 := fun (j : Nat) (hj : j < a.th.length) => gth_full b1 na a1 hj
  have o2 := closeN_lgOk (s := a) (n := n)
  have lg2 : (fullC a n).lg = a.lg := (wakes_rest _ _).1
  rw [closeN_1 ap] at b2 l2 o2
  obtain ⟨f1, f2, -⟩ := nt_all (full_lines b1).2.2.2.2.1
  simp only [shr, Prod.mk.injEq, f1, f2] at q2
  have s1 : closeS a n = fullC a n := by rw [closeS_is r1, Int.toNat_natCast, closeN_1 ap]
  obtain ⟨⟨x1, x2, x3⟩, x4, x5, x6, ⟨x7, x8⟩, x9, x10⟩ := q2
  generalize fullC a n = b at *
  have gb := g2 n na
  rw [if_pos rfl, ga] at gb
  have nb : n < b.th.length := by omega
  have b1' : (gth b.th n).st = 1 := by rw [gb]; exact h1
  have bk : opSide (gth b.th n).ki = 3 := by rw [gb]; exact hk
  have bp : (gth b.th n).pc = 2 := by rw [gb]; rfl
  have r2 := runs_of b2 nb b1' bk
  have b3 := closeN_stB b2 nb (by omega)
  have l3 := (closeN_oth b2 nb (by omega)).len
  have q3 := shr_empty b n
  have g3 := fun (j : Nat) (hj : j < b.th.length) => gth_empty b2 nb b1' hj
  have o3 := closeN_lgOk (s := b) (n := n)
  have lg3 : (emptyC b n).lg = b.lg := (wakes_rest _ _).1
  rw [closeN_2 (by omega) (by omega)] at b3 l3 o3
  obtain ⟨f3, f4, -⟩ := nt_all (full_lines b2).2.2.2.2.2
  simp only [shr, Prod.mk.injEq, f3, f4] at q3
  have s2 : closeS b n = emptyC b n := by rw [closeS_is r2, Int.toNat_natCast, closeN_2 (by omega) (by omega)]
  obtain ⟨⟨y1, y2, y3⟩, y4, y5, y6, ⟨y7, y8⟩, y9, y10⟩ := q3
  generalize emptyC b n = u at *
  have gu := g3 n nb
  rw [if_pos rfl, gb] at gu
  have r3 : runsB u n 3 = false := runs_no (by rw [gu]; show (0 : Int) ≠ 1; decide)
  refine ⟨u, ?_, b3, ?_, ?_, ?_, ?_, ?_, ?_, ?_, ?_, ?_, ?_, ?_, ?_, ?_, ?_, ?_, ?_⟩
  · rw [closeK_on r0, s0, closeK_on r1, s1, closeK_on r2, s2, closeK_off r3]
  · rw [y3]; exact x3.trans w3
  · rw [y1]; exact x1.trans w1
  · rw [y2]; exact x2.trans w2
  · rw [y8]; exact x8
  · exact y10
  · rw [y7]; show b.fe = _; rw [x7]; show nxE a.fe = _; rw [w7]; rfl
  · rw [y9]; show nxE b.ee = _; rw [x9]; show nxE a.ee = _; rw [w9]; rfl
  · exact o3.2.1.trans (o2.2.1.trans o1.2.1)
  · exact o3.2.2.trans (o2.2.2.trans o1.2.2)
  · rw [y4]; exact x4.trans w4
  · rw [y5]; exact x5.trans w5
  · rw [y6]; exact x6.trans w6
  · rw [lg3, lg2, lg1]
  · omega
  · rw [gu, e9]; rfl
  · intro j hj hne
    have e1 := g1 j
    have e2 := g2 j (by omega)
    have e3 := g3 j (by omega)
    rw [if_neg hne] at e1 e2 e3
    have hfl : a.fl = s.fl := w8
    have hel : b.el = s.el := x10.trans w10
    rw [hfl, e1] at e2
    rw [hel, e2] at e3
    rw [e3]
    by_cases c1 : (j : Int) ∈ s.fl
    · rw [if_pos c1, wake_wake]
      refine ⟨?_, fun _ => ?_⟩
      · right; split <;> rfl
      · split <;> rfl
    · rw [if_neg c1]
      by_cases c2 : (j : Int) ∈ s.el
      · rw [if_pos c2]; exact ⟨.inr rfl, fun _ => rfl⟩
      · rw [if_neg c2]; exact ⟨.inl rfl, fun x => absurd x (by simp [c1, c2])⟩
/-- There are at most three steps. -/
theorem closeK_three {s : St} {n : Nat} (m : Nat) : (closeK s n m).2 ≤ 3 := by
  cases h0 : runsB s n 3
  · rw [closeK_off h0]; omega
  obtain ⟨hh, h1, hk⟩ := runs_iff.1 h0
  obtain ⟨h, -, hi⟩ := has_iff.1 hh
  rw [Int.toNat_natCast] at h1 hk
  have hn : n < s.th.length := by omega
  have two : ∀ {b : St}, stB b = true → n < b.th.length → (gth b.th n).st = 1 → (gth b.th n).pc ≠ 0 → (gth b.th n).pc ≠ 1 → ∀ k, (closeK b n k).2 ≤ 1 := fun {b} hb nb h1 p0 p1 k => by
    cases k with
    | zero => simp [closeK]
    | succ k =>
      cases hr : runsB b n 3
      · rw [closeK_off hr]; omega
      · rw [closeK_on hr, closeS_is hr, Int.toNat_natCast, closeN_2 p0 p1]
        have := gth_empty hb nb h1 nb
        rw [if_pos rfl] at this
        rw [closeK_off (runs_no (by rw [this]; show (0 : Int) ≠ 1; decide))]
        show 0 + 1 ≤ 1; omega
  have one : ∀ {b : St}, stB b = true → n < b.th.length → (gth b.th n).st = 1 → (gth b.th n).pc ≠ 0 → ∀ k, (closeK b n k).2 ≤ 2 := fun {b} hb nb h1 p0 k => by
    by_cases p1 : (gth b.th n).pc = 1
    · cases k with
      | zero => simp [closeK]
      | succ k =>
        cases hr : runsB b n 3
        · rw [closeK_off hr]; omega
        · rw [closeK_on hr, closeS_is hr, Int.toNat_natCast, closeN_1 p1]
          have hg := gth_full hb nb h1 nb
          rw [if_pos rfl] at hg
          have hb' := closeN_stB hb nb (by omega)
          have hl := (closeN_oth hb nb (by omega)).len
          rw [closeN_1 p1] at hb' hl
          have := two hb' (by omega) (by rw [hg]; exact h1) (by rw [hg]; show (2 : Int) ≠ 0; decide) (by rw [hg]; show (2 : Int) ≠ 1; decide) k
          show _ + 1 ≤ 2; omega
    · have := two hb nb h1 p0 p1 k; omega
  by_cases p0 : (gth s.th n).pc = 0
  · cases m with
    | zero => simp [closeK]
    | succ k =>
      rw [closeK_on h0, closeS_is h0, Int.toNat_natCast, closeN_0 p0]
      have hg := gth_shut h hn n
      rw [if_pos rfl] at hg
      have hb' := closeN_stB h hn (by omega)
      have hl := (closeN_oth h hn (by omega)).len
      rw [closeN_0 p0] at hb' hl
      have hst : (tellT (gth s.th n) (gth s.th n).ki 1 0).st = 1 := by rw [tellT_st]; exact h1
      have := one hb' (by omega) (by rw [hg]; exact hst) (by rw [hg]; show (1 : Int) ≠ 0; decide) k
      show _ + 1 ≤ 3; omega
  · have := one h hn h1 p0 m; omega
end Go.Proofs.YtfhjllchbgclaaaGreat

/- The document's Step of who closes, and Steps, told by plain states. -/
namespace Go.Proofs.YtfhjllchbgclaaaGreat
set_option linter.unusedVariables false
set_option linter.unusedSimpArgs false
open Go.RowKit
/-- A state that may be, whose numbers are those of an int, with not too long a log. -/
structure Wk (s : St) (N : Nat) : Prop where
  b : stB s = true
  v : Vk s
  l : s.lg.length ≤ N
theorem Wk.ok {s : St} {N : Nat} (h : Wk s N) (hN : N ≤ 1000000) : s.ok := ok_of h.b h.v (by have := h.l; omega)
theorem Wk.few {s : St} {N : Nat} (h : Wk s N) (hN : N ≤ 1000) : s.few := few_of h.b (by have := h.l; omega)
theorem Wk.fit {s : St} {N : Nat} (h : Wk s N) (hN : N ≤ 1000000) : s.fit := fit_of h.b (by have := h.l; omega)
theorem Wk.wake {s : St} {N : Nat} (h : Wk s N) (i : Int) : Wk (wakeS s i) N := ⟨wake_stB h.b i, h.v.wake i, by rw [(wake_rest s i).1]; exact h.l⟩
theorem Wk.wakes {N : Nat} : ∀ (l : List Int) {s : St}, Wk s N → Wk (wakesS l s) N
  | [], _, h => h
  | i :: l, _, h => Wk.wakes l (h.wake i)
theorem ixIl {l : List Int} {i : Nat} (h : i < l.length) : IxP ((l.map (Value.int .i64 ·)).toArray) (i : Int) (.int .i64 l[i]) := ⟨by omega, by simp [h]⟩
/-- What is true of a state in which thread n, at step c, closes. -/
structure Dc (s : St) (n : Nat) (c : Int) : Prop where
  w : Wk s 999
  hn : n < s.th.length
  st : (gth s.th n).st = 1
  sd : opSide (gth s.th n).ki = 3
  pc : (gth s.th n).pc = c
section
variable {s : St} {n : Nat} {c : Int}
theorem Dc.ok (h : Dc s n c) : s.ok := h.w.ok (by omega)
theorem Dc.few (h : Dc s n c) : s.few := h.w.few (by omega)
theorem Dc.ht (h : Dc s n c) : gth s.th n = pcT (gth s.th n) c := by rw [← h.pc]; rfl
theorem Dc.ix (h : Dc s n c) : IxP ((s.th.map thT).toArray) (n : Int) (thT (pcT (gth s.th n) c)) := by
  have := ixT h.hn
  rw [h.ht] at this
  exact this
theorem Dc.has (h : Dc s n c) : hasB s n = true := has_of h.w.b h.hn
theorem Dc.ru (h : Dc s n c) : runsB s n 3 = true := runs_iff.2 ⟨h.has, by simpa using h.st, by simpa using h.sd⟩
theorem Dc.rs (h : Dc s n c) : thRuns (gth s.th n).st = 0 := by rw [h.st]; rfl
theorem wk_full {s : St} {N n : Nat} (h : Wk s N) (hn : n < s.th.length) (h1 : (gth s.th n).st ≠ 0) : Wk ((s.toFull (nxE s.fe) []).onTh n (pcT · 2)) N := by
  obtain ⟨e1, e2, -⟩ := nt_all (full_lines h.b).2.2.2.2.1
  refine ⟨?_, Vk.on (s := s.toFull (nxE s.fe) []) (f := (pcT · 2)) ⟨h.v.cf, h.v.sl, h.v.th⟩ hn fun _ => ⟨rfl, rfl⟩, h.l⟩
  have := full_on h.b hn h1
  rwa [e1, e2] at this
theorem wk_empty {s : St} {N n : Nat} (h : Wk s N) (hn : n < s.th.length) (h1 : (gth s.th n).st ≠ 0) : Wk ((s.toEmpty (nxE s.ee) []).onTh n doneT) N := by
  obtain ⟨e1, e2, -⟩ := nt_all (full_lines h.b).2.2.2.2.2
  refine ⟨?_, Vk.on (s := s.toEmpty (nxE s.ee) []) (f := doneT) ⟨h.v.cf, h.v.sl, h.v.th⟩ hn fun _ => ⟨rfl, rfl⟩, h.l⟩
  have := empty_on h.b hn h1
  rwa [e1, e2] at this
theorem fullC_is {s : St} (h : stB s = true) (n : Nat) : fullC s n = wakesS s.fl ((s.toFull (nxE s.fe) []).onTh n (pcT · 2)) := by
  obtain ⟨e1, e2, e3⟩ := nt_all (full_lines h).2.2.2.2.1
  unfold fullC; rw [e1, e2, e3]
theorem emptyC_is {s : St} (h : stB s = true) (n : Nat) : emptyC s n = wakesS s.el ((s.toEmpty (nxE s.ee) []).onTh n doneT) := by
  obtain ⟨e1, e2, e3⟩ := nt_all (full_lines h).2.2.2.2.2
  unfold emptyC; rw [e1, e2, e3]
theorem Wk.shut {s : St} {N : Nat} (h : Wk s N) (d : Int) : Wk (s.toWord s.hd s.tl (clM s.md d)) N := ⟨shut_word h.b d, ⟨h.v.cf, h.v.sl, h.v.th⟩, h.l⟩
theorem closeN_wk {s : St} {N n : Nat} (h : Wk s N) (hn : n < s.th.length) (h1 : (gth s.th n).st ≠ 0) : Wk (closeN s n) (N + 1) := by
  have up : ∀ {u : St}, Wk u N → Wk u (N + 1) := fun w => ⟨w.b, w.v, by have := w.l; omega⟩
  refine closeN_ind (P := fun u => Wk u (N + 1)) ?_ ?_ ?_
  · have hw := h.shut (modeI (gth s.th n).ki)
    refine ⟨told_stB hw.b hn h1 (by decide) (by decide), hw.v.told hw.b hn (.inr (by constructor <;> omega)), ?_⟩
    have := told_lg hw.b (n := n) hn (k := (gth s.th n).ki) (r := 1) (g := 0) (p := 1)
    have hl : (s.toWord s.hd s.tl (clM s.md (modeI (gth s.th n).ki))).lg.length = s.lg.length := rfl
    have := h.l
    show (toldS _ n _ 1 0 1).lg.length ≤ _
    omega
  · rw [fullC_is h.b]; exact up (Wk.wakes _ (wk_full h hn h1))
  · rw [emptyC_is h.b]; exact up (Wk.wakes _ (wk_empty h hn h1))
theorem line_le {m : Int} {l : List Int} (h : stnB m l = true) : l.length ≤ 16 := ok_len (stn_iff.1 h).1
end
section
variable {s : St} {i m o : Int} {b : Bool}
end
end Go.Proofs.YtfhjllchbgclaaaGreat

/- Plain functions of layer 4 (who is late): dues, their order, what is put, dropped and late. -/
namespace Go.Proofs.YtfhjllchbgclaaaGreat
set_option linter.unusedVariables false
set_option linter.unusedSimpArgs false

/-- A due. -/
structure Du where
  tm : Int
  id : Int
def Du.cells (d : Du) : List Value := [.int .i64 d.tm, .int .i64 d.id]
theorem Du.enc : Enc 2 Du.cells := ⟨fun _ => rfl, fun x c hc => by simp [Du.cells] at hc; rcases hc with rfl | rfl <;> rfl⟩
def dahB (a b : Du) : Bool := decide (a.tm < b.tm) || (a.tm == b.tm && decide (a.id < b.id))
def inTB (d : Du) : Bool := decide (0 ≤ d.tm) && decide (d.tm ≤ 1099511627776)
def ofTB (d : Du) : Bool := decide (0 ≤ d.id) && decide (d.id < 16)

theorem inT_iff {d : Du} : inTB d = true ↔ 0 ≤ d.tm ∧ d.tm ≤ 1099511627776 := by simp [inTB]
theorem ahead_iff {a b : Du} : dahB a b = true ↔ a.tm < b.tm ∨ (a.tm = b.tm ∧ a.id < b.id) := by simp [dahB]
theorem nahead_iff {a b : Du} : dahB a b = false ↔ ¬ (a.tm < b.tm ∨ (a.tm = b.tm ∧ a.id < b.id)) := by
  rw [← ahead_iff]; simp
theorem ahead_trans {a b c : Du} (h : dahB a b = true) (k : dahB b c = true) : dahB a c = true := by rw [ahead_iff] at *; omega
theorem ahead_asymm {a b : Du} (h : dahB a b = true) : dahB b a = false := by rw [ahead_iff] at h; rw [nahead_iff]; omega
theorem nahead_trans {a b c : Du} (h : dahB a b = false) (k : dahB b c = false) : dahB a c = false := by rw [nahead_iff] at *; omega
theorem ahead_irrefl (a : Du) : dahB a a = false := by rw [nahead_iff]; omega
theorem nahead_of {a b c : Du} (h : dahB a c = false) (k : dahB b c = true) : dahB a b = false := by rw [nahead_iff] at *; rw [ahead_iff] at k; omega
theorem ahead_total {a b : Du} (h : a.id ≠ b.id) (k : dahB a b = false) : dahB b a = true := by rw [nahead_iff] at k; rw [ahead_iff]; omega
/-- Each ahead of the one behind it. -/
abbrev Sorted (l : List Du) : Prop := l.Pairwise (fun a b => dahB a b = true)
/-- No two are one. -/
abbrev Apart (l : List Du) : Prop := l.Pairwise (fun a b => a.id ≠ b.id)
def okB (l : List Du) : Bool := l.all (fun d => inTB d && ofTB d) && decide (Sorted l) && decide (Apart l)
theorem dok_iff {l : List Du} : okB l = true ↔ (∀ d ∈ l, inTB d = true ∧ ofTB d = true) ∧ Sorted l ∧ Apart l := by
  simp [okB, and_assoc]
theorem ok_sub {l m : List Du} (h : okB l = true) (hs : m.Sublist l) : okB m = true := by
  rw [dok_iff] at *
  exact ⟨fun d hd => h.1 d (hs.subset hd), h.2.1.sublist hs, h.2.2.sublist hs⟩

theorem sorted_unique : ∀ {l m : List Du}, l.Perm m → Sorted l → Sorted m → l = m
  | [], m, h, _, _ => (List.nil_perm.1 h).symm
  | a :: l, m, h, hl, hm => by
    cases m with
    | nil => exact absurd h (by simp)
    | cons b m =>
      rw [Sorted, List.pairwise_cons] at hl hm
      have hab : a = b := by
        rcases List.mem_cons.1 (h.mem_iff.1 (List.mem_cons_self ..)) with e | ha
        · exact e
        rcases List.mem_cons.1 (h.mem_iff.2 (List.mem_cons_self ..)) with e | hb
        · exact e.symm
        have := ahead_asymm (hl.1 b hb)
        rw [hm.1 a ha] at this
        cases this
      subst hab
      rw [sorted_unique (List.perm_cons _ |>.1 h) hl.2 hm.2]

/-- One more, in its place. -/
def ins (d : Du) : List Du → List Du
  | [] => [d]
  | e :: l => if dahB d e = true then d :: e :: l else e :: ins d l
/-- In order. -/
def srt (l : List Du) : List Du := l.foldr ins []
theorem ins_perm (d : Du) : ∀ l : List Du, (ins d l).Perm (d :: l)
  | [] => List.Perm.refl _
  | e :: l => by
    unfold ins
    split
    · exact List.Perm.refl _
    · exact ((ins_perm d l).cons e).trans (List.Perm.swap d e l)
theorem ins_sorted {d : Du} : ∀ {l : List Du}, Sorted l → (∀ e ∈ l, e.id ≠ d.id) → Sorted (ins d l)
  | [], _, _ => by simp [ins, Sorted]
  | e :: l, h, hd => by
    unfold ins
    rw [Sorted, List.pairwise_cons] at h
    split
    · rename_i hde
      refine List.pairwise_cons.2 ⟨fun x hx => ?_, List.pairwise_cons.2 h⟩
      rcases List.mem_cons.1 hx with rfl | hx
      · exact hde
      · exact ahead_trans hde (h.1 x hx)
    · rename_i hde
      refine List.pairwise_cons.2 ⟨fun x hx => ?_, ins_sorted h.2 (fun y hy => hd y (List.mem_cons_of_mem _ hy))⟩
      rcases List.mem_cons.1 ((ins_perm d l).mem_iff.1 hx) with rfl | hx
      · exact ahead_total (Ne.symm (hd e (List.mem_cons_self ..))) (by simpa using hde)
      · exact h.1 x hx
theorem srt_perm : ∀ l : List Du, (srt l).Perm l
  | [] => List.Perm.refl _
  | d :: l => (ins_perm d _).trans ((srt_perm l).cons d)
theorem srt_sorted : ∀ {l : List Du}, Apart l → Sorted (srt l)
  | [], _ => by simp [srt]
  | d :: l, h => by
    rw [Apart, List.pairwise_cons] at h
    exact ins_sorted (srt_sorted h.2) (fun e he => Ne.symm (h.1 e ((srt_perm l).mem_iff.1 he)))
theorem srt_eq {l m : List Du} (h : m.Perm l) (hm : Sorted m) (ha : Apart l) : srt l = m := sorted_unique ((srt_perm l).trans h.symm) (srt_sorted ha) hm
theorem srt_id {l : List Du} (h : Sorted l) (ha : Apart l) : srt l = l := srt_eq (List.Perm.refl _) h ha
theorem srt_len (l : List Du) : (srt l).length = l.length := (srt_perm l).length_eq
theorem apart_perm {l m : List Du} (h : l.Perm m) (ha : Apart l) : Apart m := (h.pairwise_iff (fun {_ _} k => Ne.symm k)).1 ha

def dhasB (l : List Du) (i : Int) : Bool := l.any (fun e => e.id == i)
theorem dhas_iff {l : List Du} {i : Int} : dhasB l i = true ↔ ∃ e ∈ l, e.id = i := by simp [dhasB]
theorem nhas_iff {l : List Du} {i : Int} : dhasB l i = false ↔ ∀ e ∈ l, e.id ≠ i := by simp [dhasB]
def codeI (l : List Du) (d : Du) : Int := if okB l = false then 40 else if inTB d = false then 50 else if ofTB d = false then 40 else if dhasB l d.id = true then 60 else 0
def putL (l : List Du) (d : Du) : List Du := if codeI l d = 0 then srt (l ++ [d]) else l
def dropI (l : List Du) (i : Int) : Int := if okB l = true ∧ dhasB l i = true then 0 else 40
def without (l : List Du) (i : Int) : List Du := l.filter (fun e => !(e.id == i))
def dropL (l : List Du) (i : Int) : List Du := if dropI l i = 0 then without l i else l
def lateB (now : Int) (d : Du) : Bool := decide (d.tm ≤ now)
theorem late_iff {now : Int} {d : Du} : lateB now d = true ↔ d.tm ≤ now := by simp [lateB]
def lateI (l : List Du) (now : Int) : List Int := if okB l = true then (l.takeWhile (lateB now)).map Du.id else []
def restL (l : List Du) (now : Int) : List Du := if okB l = true then l.dropWhile (lateB now) else l

/-- One more round of what lets threads stand. -/
theorem dok_snoc {l : List Du} {d : Du} (h : okB l = true) (h1 : dhasB l d.id = false) (h2 : inTB d = true) (h3 : ofTB d = true) (h4 : ∀ e, l.getLast? = some e → dahB e d = true) : okB (l ++ [d]) = true := by
  rw [dok_iff] at *
  obtain ⟨ha, hs, hp⟩ := h
  refine ⟨fun e he => ?_, ?_, ?_⟩
  · rcases List.mem_append.1 he with he | he
    · exact ha e he
    · rw [List.mem_singleton] at he; subst he; exact ⟨h2, h3⟩
  · refine List.pairwise_append.2 ⟨hs, by simp, fun a hA b hb => ?_⟩
    rw [List.mem_singleton] at hb; subst hb
    cases hl : l.getLast? with
    | none => rw [List.getLast?_eq_none_iff] at hl; subst hl; simp at hA
    | some e =>
      have h5 := h4 e hl
      obtain ⟨k, rfl⟩ := List.getLast?_eq_some_iff.1 hl
      rw [Sorted, List.pairwise_append] at hs
      rcases List.mem_append.1 hA with hA | hA
      · exact ahead_trans (hs.2.2 a hA e (by simp)) h5
      · rw [List.mem_singleton] at hA; subst hA; exact h5
  · refine List.pairwise_append.2 ⟨hp, by simp, fun a hA b hb => ?_⟩
    rw [List.mem_singleton] at hb; subst hb
    exact nhas_iff.1 h1 a hA
theorem ok_not_snoc {l r : List Du} {d : Du} (h : dhasB l d.id = true ∨ inTB d = false ∨ ofTB d = false ∨ ∃ e, l.getLast? = some e ∧ dahB e d = false) : okB (l ++ d :: r) = false := by
  cases hk : okB (l ++ d :: r)
  · rfl
  rw [dok_iff] at hk
  obtain ⟨ha, hs, hp⟩ := hk
  rw [Sorted, List.pairwise_append] at hs
  rw [Apart, List.pairwise_append] at hp
  have hd := ha d (by simp)
  rcases h with h | h | h | ⟨e, he, h⟩
  · obtain ⟨x, hx, hxd⟩ := dhas_iff.1 h
    exact absurd hxd (hp.2.2 x hx d (by simp))
  · rw [h] at hd; cases hd.1
  · rw [h] at hd; cases hd.2
  · rw [hs.2.2 e (List.mem_of_getLast? he) d (by simp)] at h; cases h

/-! ### The laws, of plain lists -/
theorem ok_put {l : List Du} {d : Du} (h : codeI l d = 0) : okB (srt (l ++ [d])) = true ∧ okB l = true ∧ inTB d = true ∧ ofTB d = true ∧ dhasB l d.id = false := by
  unfold codeI at h
  cases h1 : okB l
  · rw [h1] at h; simp at h
  cases h2 : inTB d
  · rw [h1, h2] at h; simp at h
  cases h3 : ofTB d
  · rw [h1, h2, h3] at h; simp at h
  cases h4 : dhasB l d.id
  · refine ⟨?_, rfl, rfl, rfl, rfl⟩
    rw [dok_iff] at *
    obtain ⟨ha, hs, hp⟩ := h1
    have hap : Apart (l ++ [d]) := List.pairwise_append.2 ⟨hp, by simp, fun a hA b hb => by
      rw [List.mem_singleton] at hb; subst hb; exact nhas_iff.1 h4 a hA⟩
    refine ⟨fun e he => ?_, srt_sorted hap, apart_perm (srt_perm _).symm hap⟩
    rcases List.mem_append.1 ((srt_perm _).mem_iff.1 he) with he | he
    · exact ha e he
    · rw [List.mem_singleton] at he; subst he; exact ⟨h2, h3⟩
  · rw [h1, h2, h3, h4] at h; simp at h
theorem code_mk {l : List Du} {d : Du} (h1 : okB l = true) (h2 : inTB d = true) (h3 : ofTB d = true) (h4 : dhasB l d.id = false) : codeI l d = 0 := by simp [codeI, h1, h2, h3, h4]
theorem putL_ok {l : List Du} {d : Du} (h : codeI l d = 0) : putL l d = srt (l ++ [d]) := by simp [putL, h]
theorem has_put {l : List Du} {d : Du} (h : codeI l d = 0) : dhasB (srt (l ++ [d])) d.id = true := dhas_iff.2 ⟨d, (srt_perm _).mem_iff.2 (by simp), rfl⟩
/-- Who was put, and dropped, leaves the others as they were. -/
theorem back {l : List Du} {d : Du} (h : codeI l d = 0) : dropI (putL l d) d.id = 0 ∧ dropL (putL l d) d.id = l ∧ okB (putL l d) = true ∧ (putL l d).length = l.length + 1 ∧ codeI (putL l d) d = 60 := by
  obtain ⟨h0, h1, h2, h3, h4⟩ := ok_put h
  rw [putL_ok h]
  have h5 := has_put h
  have h6 : dropI (srt (l ++ [d])) d.id = 0 := by simp [dropI, h0, h5]
  refine ⟨h6, ?_, h0, by rw [srt_len]; simp, by simp [codeI, h0, h2, h3, h5]⟩
  unfold dropL
  rw [if_pos h6]
  have hp : (without (srt (l ++ [d])) d.id).Perm l := by
    refine ((srt_perm (l ++ [d])).filter _).trans ?_
    rw [List.filter_append, List.filter_eq_self.2 (fun e he => by simpa using nhas_iff.1 h4 e he)]
    simp
  rw [dok_iff] at h0 h1
  exact sorted_unique hp (h0.2.1.filter _) h1.2.1

theorem late_ok {l : List Du} {now : Int} (h : okB l = true) : lateI l now = (l.takeWhile (lateB now)).map Du.id ∧ restL l now = l.dropWhile (lateB now) := by simp [lateI, restL, h]
theorem rest_sub (l : List Du) (now : Int) : (restL l now).Sublist l := by
  unfold restL; split
  · exact List.dropWhile_sublist _
  · exact List.Sublist.refl _
theorem takeWhile_two {lo hi : Int} (h : lo ≤ hi) : ∀ l : List Du, l.takeWhile (lateB lo) ++ (l.dropWhile (lateB lo)).takeWhile (lateB hi) = l.takeWhile (lateB hi) ∧ (l.dropWhile (lateB lo)).dropWhile (lateB hi) = l.dropWhile (lateB hi)
  | [] => by simp
  | d :: l => by
    obtain ⟨h1, h2⟩ := takeWhile_two h l
    by_cases hd : d.tm ≤ lo
    · have hd' : d.tm ≤ hi := by omega
      simp [List.takeWhile_cons, List.dropWhile_cons, lateB, hd, hd'] at *
      exact ⟨h1, h2⟩
    · simp [List.takeWhile_cons, List.dropWhile_cons, lateB, hd]
theorem late_two {l : List Du} {lo hi : Int} (h : okB l = true) (hl : lo ≤ hi) : lateI l lo ++ lateI (restL l lo) hi = lateI l hi ∧ restL (restL l lo) hi = restL l hi ∧ (lateI l lo).length + (restL l lo).length = l.length := by
  obtain ⟨a1, a2⟩ := late_ok (now := lo) h
  obtain ⟨b1, b2⟩ := late_ok (now := hi) h
  obtain ⟨c1, c2⟩ := late_ok (now := hi) (ok_sub h (rest_sub l lo))
  obtain ⟨d1, d2⟩ := takeWhile_two hl l
  rw [c1, c2, a1, a2, b1, b2, ← List.map_append, d1, d2]
  refine ⟨rfl, rfl, ?_⟩
  have := congrArg List.length (List.takeWhile_append_dropWhile (p := lateB lo) (l := l))
  rw [List.length_append] at this
  rw [List.length_map]
  exact this
theorem dropWhile_late {lo : Int} : ∀ {l : List Du}, Sorted l → ∀ d ∈ l.dropWhile (lateB lo), lo < d.tm
  | [], _, _, h => by simp at h
  | e :: l, hs, d, h => by
    rw [Sorted, List.pairwise_cons] at hs
    by_cases he : e.tm ≤ lo
    · rw [List.dropWhile_cons_of_pos (by simp [lateB, he])] at h
      exact dropWhile_late hs.2 d h
    · rw [List.dropWhile_cons_of_neg (by simp [lateB, he])] at h
      rcases List.mem_cons.1 h with rfl | h
      · omega
      · have := ahead_iff.1 (hs.1 d h); omega
theorem rest_late {l : List Du} {lo : Int} (h : okB l = true) : ∀ d ∈ restL l lo, lo < d.tm := by
  rw [(late_ok h).2]
  exact dropWhile_late (dok_iff.1 h).2.1

end Go.Proofs.YtfhjllchbgclaaaGreat

/- Layer 18, plain: who is to be late, when; time goes by. -/
namespace Go.Proofs.YtfhjllchbgclaaaGreat
set_option linter.unusedVariables false
set_option linter.unusedSimpArgs false
/-- Is it to be late? -/
def tdB (t : Th) : Bool := opTimed t.ki && (!(t.st == 0) && !t.la)
def tdDu (s : St) (k : Nat) : Du := ⟨(gth s.th k).un, k⟩
/-- Those of the first k threads that are to be late, in their order. -/
def tdS (s : St) : Nat → List Du
  | 0 => []
  | k + 1 => if tdB (gth s.th k) = true then putL (tdS s k) (tdDu s k) else tdS s k
def duesS (s : St) : List Du := if stB s = true then tdS s s.th.length else []
def nextT (s : St) : Int := match duesS s with
  | [] => 0
  | d :: _ => d.tm
def nextB (s : St) : Bool := !(duesS s).isEmpty
/-- Whose time is over. -/
def lateIds (l : List Du) (now : Int) : List Int := (l.filter (lateB now)).map Du.id
def lateT (t : Th) : Th := ⟨if t.st = 2 then 1 else t.st, t.ki, t.va, t.un, t.pc, t.re, t.se, t.tr, true, t.rs, t.go⟩
/-- One becomes late. -/
def lateS (s : St) (n : Nat) : St :=
  if (gth s.th n).st = 2 then ((s.toFull s.fe (cnL s.fe s.fl n)).toEmpty s.ee (cnL s.ee s.el n)).setTh n (lateT (gth s.th n)) else s.setTh n (lateT (gth s.th n))
def lateK : List Int → St → St
  | [], s => s
  | i :: l, s => lateK l (lateS s i.toNat)
def St.toNow (s : St) (n : Int) : St := ⟨s.cf, s.hd, s.tl, s.md, s.sl, s.sn, s.rc, s.fe, s.fl, s.ee, s.el, n, s.th, s.lg⟩
def tickE (s : St) (n : Int) : Int := if stB s = false then 20 else if n < 0 ∨ 1099511627776 - s.nw < n then 50 else 0
def tickI (s : St) (n : Int) : List Int := if tickE s n = 0 then lateIds (duesS s) (s.nw + n) else []
def tickS (s : St) (n : Int) : St := if tickE s n = 0 then lateK (tickI s n) (s.toNow (s.nw + n)) else s
def ticksS : St → List Int → St × Nat
  | s, [] => (s, 0)
  | s, n :: l => ((ticksS (tickS s n) l).1, (tickI s n).length + (ticksS (tickS s n) l).2)
/-! ### Dues -/
theorem td_time {t : Th} (h : thB t = true) (h1 : tdB t = true) : 0 ≤ t.un ∧ t.un ≤ 1099511627776 := by
  obtain ⟨st, ki, va, un, pc, re, se, tr, la, rs, go⟩ := t
  simp only [tdB, Bool.and_eq_true] at h1
  simp only [thB, thWaits, h1.1, if_true, Bool.and_eq_true, thIn, decide_eq_true_eq] at h
  exact ⟨h.2.1.1, h.2.1.2⟩
theorem td_ok {s : St} (h : stB s = true) : ∀ {k : Nat}, k ≤ s.th.length → okB (tdS s k) = true ∧ ∀ d, d ∈ tdS s k ↔ ∃ i, i < k ∧ tdB (gth s.th i) = true ∧ d = tdDu s i
  | 0, _ => ⟨rfl, fun d => ⟨fun hd => (List.not_mem_nil hd).elim, fun ⟨i, hi, _⟩ => absurd hi (by omega)⟩⟩
  | k + 1, hk => by
    obtain ⟨h1, h2⟩ := td_ok h (k := k) (by omega)
    by_cases ht : tdB (gth s.th k) = true
    · have e : tdS s (k + 1) = putL (tdS s k) (tdDu s k) := by simp [tdS, ht]
      have hth := (th_len h).2.2
      have hu := td_time (gth_ok h (show k < s.th.length by omega)) ht
      have hc : codeI (tdS s k) (tdDu s k) = 0 := code_mk h1 (inT_iff.2 hu) (by unfold ofTB; rw [Bool.and_eq_true]; exact ⟨decide_eq_true (show (0 : Int) ≤ (k : Int) by omega), decide_eq_true (show (k : Int) < 16 by omega)⟩) (nhas_iff.2 fun d hd => by
        obtain ⟨i, hi, -, rfl⟩ := (h2 d).1 hd
        show ((i : Int)) ≠ (k : Int)
        omega)
      rw [e, putL_ok hc]
      refine ⟨(ok_put hc).1, fun d => ?_⟩
      rw [(srt_perm _).mem_iff, List.mem_append, List.mem_singleton, h2]
      constructor
      · rintro (⟨i, hi, a, b⟩ | rfl)
        · exact ⟨i, by omega, a, b⟩
        · exact ⟨k, by omega, ht, rfl⟩
      · rintro ⟨i, hi, a, b⟩
        by_cases e : i = k
        · subst e; exact .inr b
        · exact .inl ⟨i, by omega, a, b⟩
    · have e : tdS s (k + 1) = tdS s k := by simp [tdS, ht]
      rw [e]
      refine ⟨h1, fun d => ?_⟩
      rw [h2]
      constructor
      · rintro ⟨i, hi, a, b⟩; exact ⟨i, by omega, a, b⟩
      · rintro ⟨i, hi, a, b⟩
        by_cases e : i = k
        · subst e; exact absurd a ht
        · exact ⟨i, by omega, a, b⟩
theorem dues_ok (s : St) : okB (duesS s) = true := by
  unfold duesS; split
  · next h => exact (td_ok h (Nat.le_refl _)).1
  · rfl
theorem mem_dues {s : St} (h : stB s = true) {d : Du} : d ∈ duesS s ↔ ∃ i, i < s.th.length ∧ tdB (gth s.th i) = true ∧ d = tdDu s i := by
  unfold duesS; rw [if_pos h]; exact (td_ok h (Nat.le_refl _)).2 d
/-- Dues that may be, of which just these are, are these. -/
theorem dues_uniq {l m : List Du} (hl : okB l = true) (hm : okB m = true) (h : ∀ d, d ∈ l ↔ d ∈ m) : l = m := by
  have a := (dok_iff.1 hl).2
  have b := (dok_iff.1 hm).2
  have nd : ∀ {l : List Du}, Apart l → l.Nodup := fun h => h.imp fun {x y} k e => k (by rw [e])
  exact sorted_unique ((List.perm_ext_iff_of_nodup (nd a.2) (nd b.2)).2 h) a.1 b.1
theorem mem_late {s : St} (h : stB s = true) {now j : Int} : j ∈ lateIds (duesS s) now ↔ ∃ i : Nat, j = i ∧ i < s.th.length ∧ tdB (gth s.th i) = true ∧ (gth s.th i).un ≤ now := by
  unfold lateIds
  rw [List.mem_map]
  constructor
  · rintro ⟨d, hd, rfl⟩
    obtain ⟨h1, h2⟩ := List.mem_filter.1 hd
    obtain ⟨i, hi, a, rfl⟩ := (mem_dues h).1 h1
    exact ⟨i, rfl, hi, a, late_iff.1 h2⟩
  · rintro ⟨i, rfl, hi, a, b⟩
    exact ⟨tdDu s i, List.mem_filter.2 ⟨(mem_dues h).2 ⟨i, hi, a, rfl⟩, late_iff.2 b⟩, rfl⟩
/-- In order, whose time is over stand ahead. -/
theorem filter_take {now : Int} : ∀ {l : List Du}, Sorted l → l.filter (lateB now) = l.takeWhile (lateB now)
  | [], _ => rfl
  | d :: l, h => by
    have h := List.pairwise_cons.1 h
    by_cases hd : lateB now d = true
    · rw [List.filter_cons_of_pos hd, List.takeWhile_cons_of_pos hd, filter_take h.2]
    · rw [List.filter_cons_of_neg hd, List.takeWhile_cons_of_neg hd]
      refine List.filter_eq_nil_iff.2 fun e he => ?_
      have h1 := ahead_iff.1 (h.1 e he)
      rw [late_iff] at hd ⊢
      omega
theorem late_is {l : List Du} (h : okB l = true) (now : Int) : lateIds l now = lateI l now := by
  unfold lateIds lateI
  rw [if_pos h, filter_take (dok_iff.1 h).2.1]
/-! ### One becomes late -/
theorem lateT_two (t : Th) : lateT (lateT t) = lateT t := by
  unfold lateT
  by_cases h : t.st = 2 <;> simp [h]
theorem lateT_ok {t : Th} (h : thB t = true) (h1 : opTimed t.ki = true) (h2 : t.st ≠ 0) : thB (lateT t) = true := by
  obtain ⟨st, ki, va, un, pc, re, se, tr, la, rs, go⟩ := t
  simp only at h1 h2
  simp only [thB, lateT, thWaits, h1, if_true] at h ⊢
  by_cases e : st = 2
  · subst e
    simp only [if_true]
    simp only [thDoes, thIn, Bool.and_eq_true] at h ⊢
    refine ⟨?_, h.2.1, h.2.2.1, by simp⟩
    have := h.1
    simp at this ⊢
    exact this
  · simp only [e, if_false]
    simp only [Bool.and_eq_true] at h ⊢
    refine ⟨h.1, h.2.1, h.2.2.1, by simp [h2]⟩
theorem lateS_rest (s : St) (n : Nat) : (lateS s n).cf = s.cf ∧ (lateS s n).hd = s.hd ∧ (lateS s n).tl = s.tl ∧ (lateS s n).md = s.md ∧ (lateS s n).sl = s.sl ∧ (lateS s n).sn = s.sn ∧ (lateS s n).rc = s.rc ∧ (lateS s n).nw = s.nw ∧ (lateS s n).lg = s.lg ∧ (lateS s n).fe = s.fe ∧ (lateS s n).ee = s.ee := by
  unfold lateS; split <;> exact ⟨rfl, rfl, rfl, rfl, rfl, rfl, rfl, rfl, rfl, rfl, rfl⟩
theorem late_set (s : St) (n : Nat) : (lateS s n).th = s.th.set n (lateT (gth s.th n)) := by
  unfold lateS; split <;> rfl
theorem late_len (s : St) (n : Nat) : (lateS s n).th.length = s.th.length := by rw [late_set, List.length_set]
theorem cn_ok {ep : Int} {l : List Int} (h : okE ep l = true) (i : Int) : okE ep (cnL ep l i) = true := by
  unfold cnL; rw [if_pos h]
  unfold okE at h ⊢
  simp only [Bool.and_eq_true] at h ⊢
  exact ⟨h.1, ok_lv h.2 i⟩
theorem cn_stn {m ep : Int} {l : List Int} (h : stnB m l = true) (i : Int) : stnB m (cnL ep l i) = true := by
  unfold cnL; split
  · exact stn_lv h
  · exact h
theorem late_stB {s : St} (h : stB s = true) {n : Nat} (hn : n < s.th.length) (h1 : opTimed (gth s.th n).ki = true) (h2 : (gth s.th n).st ≠ 0) : stB (lateS s n) = true := by
  have ht := lateT_ok (gth_ok h hn) h1 h2
  obtain ⟨-, -, a, b, c, d⟩ := full_lines h
  unfold lateS; split
  · exact th_stB (empty_stB (full_stB h (cn_ok c n) (cn_stn a n)) (cn_ok d n) (cn_stn b n)) ht
  · exact th_stB h ht
theorem gth_late {s : St} {n j : Nat} (hn : n < s.th.length) : gth (lateS s n).th j = if j = n then lateT (gth s.th j) else gth s.th j := by
  rw [late_set, gth_set hn]
  by_cases e : n = j
  · subst e; simp
  · rw [if_neg e, if_neg (Ne.symm e)]
theorem lateK_rest : ∀ (l : List Int) (s : St), (lateK l s).cf = s.cf ∧ (lateK l s).hd = s.hd ∧ (lateK l s).tl = s.tl ∧ (lateK l s).md = s.md ∧ (lateK l s).sl = s.sl ∧ (lateK l s).sn = s.sn ∧ (lateK l s).rc = s.rc ∧ (lateK l s).nw = s.nw ∧ (lateK l s).lg = s.lg ∧ (lateK l s).fe = s.fe ∧ (lateK l s).ee = s.ee
  | [], _ => ⟨rfl, rfl, rfl, rfl, rfl, rfl, rfl, rfl, rfl, rfl, rfl⟩
  | i :: l, s => by
    obtain ⟨a1, a2, a3, a4, a5, a6, a7, a8, a9, a10, a11⟩ := lateK_rest l (lateS s i.toNat)
    obtain ⟨b1, b2, b3, b4, b5, b6, b7, b8, b9, b10, b11⟩ := lateS_rest s i.toNat
    exact ⟨a1.trans b1, a2.trans b2, a3.trans b3, a4.trans b4, a5.trans b5, a6.trans b6, a7.trans b7, a8.trans b8, a9.trans b9, a10.trans b10, a11.trans b11⟩
theorem lateK_len : ∀ (l : List Int) (s : St), (lateK l s).th.length = s.th.length
  | [], _ => rfl
  | i :: l, s => (lateK_len l _).trans (late_len s _)
theorem gth_lateK : ∀ (l : List Int) {s : St}, (∀ i ∈ l, 0 ≤ i ∧ i.toNat < s.th.length) → ∀ j : Nat, gth (lateK l s).th j = if (j : Int) ∈ l then lateT (gth s.th j) else gth s.th j
  | [], _, _, j => rfl
  | i :: l, s, h, j => by
    have h0 := h i List.mem_cons_self
    have ih := gth_lateK l (s := lateS s i.toNat) (fun x hx => by rw [late_len]; exact h x (List.mem_cons_of_mem _ hx)) j
    show gth (lateK l (lateS s i.toNat)).th j = _
    rw [ih, gth_late h0.2]
    by_cases e : j = i.toNat
    · have hj : (j : Int) = i := by omega
      rw [if_pos e, if_pos (show (j : Int) ∈ i :: l by rw [hj]; exact List.mem_cons_self)]
      split
      · exact lateT_two _
      · rfl
    · have hj : (j : Int) ≠ i := by omega
      rw [if_neg e]
      simp only [List.mem_cons, hj, false_or]
theorem lateK_stB : ∀ (l : List Int) {s : St}, stB s = true → (∀ i ∈ l, ∃ n : Nat, i = n ∧ n < s.th.length ∧ opTimed (gth s.th n).ki = true ∧ (gth s.th n).st ≠ 0) → stB (lateK l s) = true
  | [], _, h, _ => h
  | i :: l, s, h, hl => by
    obtain ⟨n, rfl, hn, h1, h2⟩ := hl i List.mem_cons_self
    refine lateK_stB l (s := lateS s (n : Int).toNat) (by rw [Int.toNat_natCast]; exact late_stB h hn h1 h2) fun x hx => ?_
    obtain ⟨m, rfl, hm, h3, h4⟩ := hl x (List.mem_cons_of_mem _ hx)
    rw [Int.toNat_natCast]
    refine ⟨m, rfl, by rw [late_len]; exact hm, ?_, ?_⟩
    · rw [gth_late hn]; split
      · exact h3
      · exact h3
    · rw [gth_late hn]; split
      · unfold lateT; simp only; split <;> omega
      · exact h4
/-! ### A tick -/
theorem now_stB {s : St} (h : stB s = true) {n : Int} (h0 : 0 ≤ n ∧ n ≤ 1099511627776) : stB (s.toNow n) = true := by
  obtain ⟨a1, a2, a3, a4, a5, a6, a7, a8⟩ := st_iff.1 h
  exact st_iff.2 ⟨a1, a2, a3, a4, a5, h0.1, h0.2, a8⟩
theorem nw_bd {s : St} (h : stB s = true) : 0 ≤ s.nw ∧ s.nw ≤ 1099511627776 := by
  obtain ⟨a1, a2, a3, a4, a5, a6, a7, a8⟩ := st_iff.1 h
  exact ⟨a6, a7⟩
theorem tickE_ok {s : St} {n : Int} (h : tickE s n = 0) : stB s = true ∧ 0 ≤ n ∧ s.nw + n ≤ 1099511627776 := by
  unfold tickE at h
  split at h
  · cases h
  · next hB =>
    split at h
    · cases h
    · exact ⟨by simpa using hB, by omega, by omega⟩
theorem tickE_mk {s : St} {n : Int} (h : stB s = true) (h0 : 0 ≤ n) (h1 : s.nw + n ≤ 1099511627776) : tickE s n = 0 := by
  unfold tickE; rw [if_neg (by simp [h]), if_neg (by omega)]
theorem tick_no {s : St} {n : Int} (h : tickE s n ≠ 0) : tickS s n = s ∧ tickI s n = [] := ⟨if_neg h, if_neg h⟩
theorem tick_yes {s : St} {n : Int} (h : tickE s n = 0) : tickS s n = lateK (tickI s n) (s.toNow (s.nw + n)) ∧ tickI s n = lateIds (duesS s) (s.nw + n) := ⟨if_pos h, if_pos h⟩
theorem mem_tick {s : St} {n j : Int} (h : tickE s n = 0) : j ∈ tickI s n ↔ ∃ i : Nat, j = i ∧ i < s.th.length ∧ tdB (gth s.th i) = true ∧ (gth s.th i).un ≤ s.nw + n := by
  rw [(tick_yes h).2]; exact mem_late (tickE_ok h).1
theorem td_is {t : Th} : tdB t = true ↔ opTimed t.ki = true ∧ t.st ≠ 0 ∧ t.la = false := by simp [tdB]
theorem tick_stB (s : St) (n : Int) : stB (tickS s n) = stB s := by
  by_cases h : tickE s n = 0
  · obtain ⟨hB, h0, h1⟩ := tickE_ok h
    have hb := nw_bd hB
    rw [hB, (tick_yes h).1]
    refine lateK_stB _ (now_stB hB (by omega)) fun i hi => ?_
    obtain ⟨m, rfl, hm, h2, -⟩ := (mem_tick h).1 hi
    obtain ⟨h3, h4, -⟩ := td_is.1 h2
    exact ⟨m, rfl, hm, h3, h4⟩
  · rw [(tick_no h).1]
theorem tick_len (s : St) (n : Int) : (tickS s n).th.length = s.th.length := by
  by_cases h : tickE s n = 0
  · rw [(tick_yes h).1]; exact lateK_len _ _
  · rw [(tick_no h).1]
theorem gth_tick {s : St} {n : Int} (h : tickE s n = 0) (j : Nat) : gth (tickS s n).th j = if (j : Int) ∈ tickI s n then lateT (gth s.th j) else gth s.th j := by
  rw [(tick_yes h).1]
  refine gth_lateK _ (s := s.toNow (s.nw + n)) (fun i hi => ?_) j
  obtain ⟨m, rfl, hm, -⟩ := (mem_tick h).1 hi
  exact ⟨by omega, by rw [Int.toNat_natCast]; exact hm⟩
theorem tick_rest {s : St} {n : Int} (h : tickE s n = 0) : (tickS s n).cf = s.cf ∧ (tickS s n).hd = s.hd ∧ (tickS s n).tl = s.tl ∧ (tickS s n).md = s.md ∧ (tickS s n).sl = s.sl ∧ (tickS s n).sn = s.sn ∧ (tickS s n).rc = s.rc ∧ (tickS s n).nw = s.nw + n ∧ (tickS s n).lg = s.lg ∧ (tickS s n).fe = s.fe ∧ (tickS s n).ee = s.ee := by
  rw [(tick_yes h).1]; exact lateK_rest _ _
theorem tick_wk {s : St} {N : Nat} (h : Wk s N) (n : Int) : Wk (tickS s n) N := by
  by_cases he : tickE s n = 0
  · obtain ⟨c1, -, -, -, c5, -, -, -, c9, -, -⟩ := tick_rest he
    refine ⟨(tick_stB s n).trans h.b, ⟨by rw [c1]; exact h.v.cf, by rw [c5]; exact h.v.sl, fun t ht => ?_⟩, by rw [c9]; exact h.l⟩
    obtain ⟨j, hj, rfl⟩ := List.mem_iff_getElem.1 ht
    have e : (tickS s n).th[j] = gth (tickS s n).th j := (gth_eq hj).symm
    have hj' : j < s.th.length := by rw [tick_len] at hj; exact hj
    have hv := h.v.th (gth s.th j) (gth_mem hj')
    rw [e, gth_tick he]
    split
    · exact hv
    · exact hv
  · rw [(tick_no he).1]; exact h
end Go.Proofs.YtfhjllchbgclaaaGreat

/- Layer 18, plain: what the document's Put lays where. -/
namespace Go.Proofs.YtfhjllchbgclaaaGreat
set_option linter.unusedVariables false
set_option linter.unusedSimpArgs false
end Go.Proofs.YtfhjllchbgclaaaGreat

/- Layer 18, the document's dues, by the engine. -/
namespace Go.Proofs.YtfhjllchbgclaaaGreat
set_option linter.unusedVariables false
set_option linter.unusedSimpArgs false
open Go.RowKit
def duT (d : Du) : Value := .agg #[.int .i64 d.tm, .int .i64 d.id]
def rowD (l : List Du) : Value := vRow l.length (l.map duT)
def gd (l : List Du) (i : Nat) : Du := l.getD i ⟨0, 0⟩
theorem gd_eq {l : List Du} {i : Nat} (h : i < l.length) : gd l i = l[i] := by simp [gd, h]
theorem ixD {l : List Du} {i : Nat} (h : i < l.length) : IxP ((l.map duT).toArray) (i : Int) (duT (gd l i)) := ⟨by omega, by simp [gd_eq h, h]⟩
/-! ### Those that .., laid behind -/
theorem d_lt {n i : Nat} (h : i < n) : decide ((i : Int) < n) = true := by simp; omega
theorem d_nlt (n : Nat) : decide ((n : Int) < n) = false := by simp
theorem d_in {n i : Nat} (h : i < n) (hm : n ≤ 1000000) : In64 ((i : Int) + 1) := by constructor <;> omega
/-! ### Without -/
/-! ### Check -/
section
variable {l : List Du}
/-! ### Put -/
end
end Go.Proofs.YtfhjllchbgclaaaGreat

/- Layer 18, plain: what the laws say of a tick. -/
namespace Go.Proofs.YtfhjllchbgclaaaGreat
set_option linter.unusedVariables false
set_option linter.unusedSimpArgs false
/-! ### What stays -/
theorem tick_back {s : St} {n : Int} (h : tickE s n = 0) : (⟨(tickS s n).cf, (tickS s n).hd, (tickS s n).tl, (tickS s n).md, (tickS s n).sl, (tickS s n).sn, (tickS s n).rc, s.fe, s.fl, s.ee, s.el, s.nw, s.th, (tickS s n).lg⟩ : St) = s := by
  obtain ⟨c1, c2, c3, c4, c5, c6, c7, c8, c9, c10, c11⟩ := tick_rest h
  rw [c1, c2, c3, c4, c5, c6, c7, c9]
theorem tickE_cfg (s : St) (n : Int) : (tickE s n = 20 ↔ stB s = false) := by
  unfold tickE
  constructor
  · intro h
    split at h
    · next e => exact e
    · split at h <;> cases h
  · intro h; rw [if_pos h]
/-! ### Who is late -/
theorem lateT_la (t : Th) : (lateT t).la = true := rfl
theorem lateT_st {t : Th} (h : thB t = true) (h1 : tdB t = true) : (lateT t).st = 1 := by
  obtain ⟨st, ki, va, un, pc, re, se, tr, la, rs, go⟩ := t
  rw [thB_iff] at h
  have h2 := (td_is.1 h1).2.1
  simp only at h h2
  unfold lateT
  simp only
  split <;> omega
/-- Thread j, behind a tick: it became late, or is as it was. -/
theorem tick_one {s : St} {n : Int} (h : tickE s n = 0) {j : Nat} (hj : j < s.th.length) :
    ((j : Int) ∈ tickI s n ∧ tdB (gth s.th j) = true ∧ (gth s.th j).un ≤ s.nw + n ∧ gth (tickS s n).th j = lateT (gth s.th j)) ∨ ((j : Int) ∉ tickI s n ∧ ¬ (tdB (gth s.th j) = true ∧ (gth s.th j).un ≤ s.nw + n) ∧ gth (tickS s n).th j = gth s.th j) := by
  have e := gth_tick h j
  by_cases hm : (j : Int) ∈ tickI s n
  · rw [if_pos hm] at e
    obtain ⟨i, hi, -, h1, h2⟩ := (mem_tick h).1 hm
    obtain rfl : i = j := by omega
    exact .inl ⟨hm, h1, h2, e⟩
  · rw [if_neg hm] at e
    exact .inr ⟨hm, fun ⟨h1, h2⟩ => hm ((mem_tick h).2 ⟨j, rfl, hj, h1, h2⟩), e⟩
theorem late_nodup (s : St) (now : Int) : (lateIds (duesS s) now).Nodup := by
  have a := (dok_iff.1 (dues_ok s)).2.2
  unfold lateIds
  have b : ((duesS s).filter (lateB now)).Pairwise (fun a b => a.id ≠ b.id) := a.filter _
  exact List.pairwise_map.2 b
theorem tick_nodup (s : St) (n : Int) : (tickI s n).Nodup := by
  unfold tickI; split
  · exact late_nodup _ _
  · exact List.nodup_nil
/-- How many of the first k are in a list of threads. -/
def cntT (l : List Int) (k : Nat) : Nat := ((List.range k).filter fun (j : Nat) => decide ((j : Int) ∈ l)).length
theorem cntT_succ (l : List Int) (k : Nat) : cntT l (k + 1) = cntT l k + (if (k : Int) ∈ l then 1 else 0) := by
  unfold cntT
  rw [List.range_succ, List.filter_append, List.length_append]
  congr 1
  by_cases h : (k : Int) ∈ l <;> simp [h]
theorem cntT_all {l : List Int} {N : Nat} (hn : l.Nodup) (h : ∀ i ∈ l, ∃ j : Nat, i = j ∧ j < N) : cntT l N = l.length := by
  have hp : (((List.range N).filter fun (j : Nat) => decide ((j : Int) ∈ l)).map fun (j : Nat) => (j : Int)).Perm l := by
    refine (List.perm_ext_iff_of_nodup ?_ hn).2 fun i => ?_
    · refine List.pairwise_map.2 ?_
      have : (List.range N).Nodup := List.nodup_range
      exact ((this.filter _).imp fun {a b} hab e => hab (by omega))
    · rw [List.mem_map]
      constructor
      · rintro ⟨j, hj, rfl⟩
        exact of_decide_eq_true (List.mem_filter.1 hj).2
      · intro hi
        obtain ⟨j, rfl, hj⟩ := h i hi
        exact ⟨j, List.mem_filter.2 ⟨List.mem_range.2 hj, decide_eq_true hi⟩, rfl⟩
  have := hp.length_eq
  rw [List.length_map] at this
  exact this
theorem tick_many {s : St} {n : Int} (h : tickE s n = 0) : cntT (tickI s n) s.th.length = (tickI s n).length :=
  cntT_all (tick_nodup s n) fun i hi => by
    obtain ⟨j, rfl, hj, -⟩ := (mem_tick h).1 hi
    exact ⟨j, rfl, hj⟩
/-! ### When -/
theorem next_is {s : St} (h : nextB s = true) : ∃ d r, duesS s = d :: r ∧ nextT s = d.tm ∧ stB s = true ∧ 0 ≤ d.tm ∧ d.tm ≤ 1099511627776 := by
  unfold nextB at h
  cases hd : duesS s with
  | nil => rw [hd] at h; simp at h
  | cons d r =>
    have hB : stB s = true := by
      cases hB : stB s
      · unfold duesS at hd; rw [if_neg (by simp [hB])] at hd; cases hd
      · rfl
    have ho := dok_iff.1 (dues_ok s)
    rw [hd] at ho
    have ht := inT_iff.1 (ho.1 d List.mem_cons_self).1
    exact ⟨d, r, rfl, by simp [nextT, hd], hB, ht.1, ht.2⟩
theorem next_no {s : St} (h : nextB s = false) : duesS s = [] ∧ nextT s = 0 := by
  unfold nextB at h
  have e : duesS s = [] := by simpa using h
  exact ⟨e, by simp [nextT, e]⟩
theorem tick_none {s : St} (h : duesS s = []) (n : Int) : tickI s n = [] := by
  unfold tickI; split
  · rw [h]; rfl
  · rfl
theorem next_tick {s : St} (h : nextB s = true) : tickE s (max (nextT s - s.nw) 0) = 0 ∧ (∃ d r q, duesS s = d :: r ∧ nextT s = d.tm ∧ tickI s (max (nextT s - s.nw) 0) = d.id :: q) ∧ (nextT s ≤ s.nw ∨ tickI s (max (nextT s - s.nw - 1) 0) = []) := by
  obtain ⟨d, r, hd, ht, hB, h0, h1⟩ := next_is h
  have hb := nw_bd hB
  have he := tickE_mk (s := s) (n := max (nextT s - s.nw) 0) hB (by omega) (by omega)
  refine ⟨he, ⟨d, r, (r.filter (lateB (s.nw + max (nextT s - s.nw) 0))).map Du.id, hd, ht, ?_⟩, ?_⟩
  · rw [(tick_yes he).2, hd]
    unfold lateIds
    rw [List.filter_cons_of_pos (late_iff.2 (by omega))]
    rfl
  · by_cases hn : nextT s ≤ s.nw
    · exact .inl hn
    · refine .inr ?_
      unfold tickI
      split
      · unfold lateIds
        rw [hd]
        have ho := (dok_iff.1 (dues_ok s)).2.1
        rw [hd] at ho
        have ho := List.pairwise_cons.1 ho
        have e : (d :: r).filter (lateB (s.nw + max (nextT s - s.nw - 1) 0)) = [] := List.filter_eq_nil_iff.2 fun c hc => by
          rw [late_iff]
          rcases List.mem_cons.1 hc with rfl | hc
          · omega
          · have := ahead_iff.1 (ho.1 c hc); omega
        rw [e]; rfl
      · rfl
theorem none_timed {s : St} (h : ∀ j : Nat, j < s.th.length → opTimed (gth s.th j).ki = false) : duesS s = [] := by
  cases hd : duesS s with
  | nil => rfl
  | cons d r =>
    exfalso
    cases hB : stB s
    · unfold duesS at hd; rw [if_neg (by simp [hB])] at hd; cases hd
    · obtain ⟨i, hi, ht, -⟩ := (mem_dues hB (d := d)).1 (by rw [hd]; exact List.mem_cons_self)
      have := (td_is.1 ht).1
      rw [h i hi] at this; cases this
/-! ### Two ticks -/
theorem lateS_now (s : St) (n : Nat) (x : Int) : lateS (s.toNow x) n = (lateS s n).toNow x := by
  unfold lateS
  by_cases h : (gth s.th n).st = 2
  · rw [if_pos h, if_pos (show (gth (s.toNow x).th n).st = 2 from h)]; rfl
  · rw [if_neg h, if_neg (show ¬ (gth (s.toNow x).th n).st = 2 from h)]; rfl
theorem lateK_now : ∀ (l : List Int) (s : St) (x : Int), lateK l (s.toNow x) = (lateK l s).toNow x
  | [], _, _ => rfl
  | i :: l, s, x => by
    show lateK l (lateS (s.toNow x) i.toNat) = (lateK l (lateS s i.toNat)).toNow x
    rw [lateS_now, lateK_now l]
theorem lateK_app : ∀ (k l : List Int) (s : St), lateK (k ++ l) s = lateK l (lateK k s)
  | [], _, _ => rfl
  | _ :: k, l, s => lateK_app k l _
theorem mem_rest {l : List Du} {lo : Int} (h : okB l = true) (d : Du) : d ∈ restL l lo ↔ d ∈ l ∧ lo < d.tm := by
  constructor
  · intro hd; exact ⟨(rest_sub l lo).subset hd, rest_late h d hd⟩
  · rintro ⟨hd, hlt⟩
    unfold restL
    rw [if_pos h]
    rw [← List.takeWhile_append_dropWhile (p := lateB lo) (l := l), List.mem_append] at hd
    rcases hd with hd | hd
    · have h1 : ∀ {l : List Du}, d ∈ l.takeWhile (lateB lo) → lateB lo d = true := fun {l} => by
        induction l with
        | nil => intro h; exact (List.not_mem_nil h).elim
        | cons e l ih =>
          intro h
          by_cases he : lateB lo e = true
          · rw [List.takeWhile_cons_of_pos he] at h
            rcases List.mem_cons.1 h with rfl | h
            · exact he
            · exact ih h
          · rw [List.takeWhile_cons_of_neg he] at h; exact (List.not_mem_nil h).elim
      have := late_iff.1 (h1 hd); omega
    · exact hd
theorem dues_tick {s : St} {n : Int} (h : tickE s n = 0) : duesS (tickS s n) = restL (duesS s) (s.nw + n) := by
  obtain ⟨hB, h0, h1⟩ := tickE_ok h
  have hA : stB (tickS s n) = true := (tick_stB s n).trans hB
  refine dues_uniq (dues_ok _) (ok_sub (dues_ok s) (rest_sub _ _)) fun d => ?_
  rw [mem_rest (dues_ok s), mem_dues hA, mem_dues hB, tick_len]
  constructor
  · rintro ⟨i, hi, ht, rfl⟩
    rcases tick_one h hi with ⟨-, -, -, e⟩ | ⟨-, h3, e⟩
    · rw [e] at ht; have := (td_is.1 ht).2.2; rw [lateT_la] at this; cases this
    · have e2 : tdDu (tickS s n) i = tdDu s i := by unfold tdDu; rw [e]
      rw [e] at ht
      rw [e2]
      exact ⟨⟨i, hi, ht, rfl⟩, by show s.nw + n < (gth s.th i).un; exact Int.lt_of_not_ge fun hle => h3 ⟨ht, hle⟩⟩
  · rintro ⟨⟨i, hi, ht, rfl⟩, hlt⟩
    have hlt' : s.nw + n < (gth s.th i).un := hlt
    rcases tick_one h hi with ⟨-, -, h2, -⟩ | ⟨-, -, e⟩
    · omega
    · exact ⟨i, hi, by rw [e]; exact ht, by unfold tdDu; rw [e]⟩
theorem tick_two {s : St} {n m : Int} (h0 : 0 ≤ n) (h1 : 0 ≤ m) (he : tickE s n = 0) (hf : tickE (tickS s n) m = 0) : tickE s (n + m) = 0 ∧ tickS (tickS s n) m = tickS s (n + m) ∧ tickI s n ++ tickI (tickS s n) m = tickI s (n + m) := by
  obtain ⟨hB, -, -⟩ := tickE_ok he
  obtain ⟨-, -, h2⟩ := tickE_ok hf
  have hw := (tick_rest he).2.2.2.2.2.2.2.1
  rw [hw] at h2
  have hg := tickE_mk (s := s) (n := n + m) hB (by omega) (by omega)
  have hi : tickI s n ++ tickI (tickS s n) m = tickI s (n + m) := by
    rw [(tick_yes he).2, (tick_yes hf).2, (tick_yes hg).2, dues_tick he, hw, late_is (dues_ok s), late_is (ok_sub (dues_ok s) (rest_sub _ _)), late_is (dues_ok s), ← Int.add_assoc]
    exact (late_two (dues_ok s) (by omega)).1
  refine ⟨hg, ?_, hi⟩
  rw [(tick_yes hf).1, (tick_yes hg).1, ← hi, lateK_app, hw]
  generalize tickI (tickS s n) m = L
  rw [(tick_yes he).1, lateK_now, lateK_now, lateK_now, lateK_now, lateK_now, Int.add_assoc]
  rfl
theorem tick_two_no {s : St} {n m : Int} (h0 : 0 ≤ n) (h1 : 0 ≤ m) (h : tickE s n ≠ 0 ∨ tickE (tickS s n) m ≠ 0) : tickE s (n + m) ≠ 0 := fun hg => by
  obtain ⟨hB, -, h3⟩ := tickE_ok hg
  have he := tickE_mk (s := s) (n := n) hB h0 (by omega)
  rcases h with h | h
  · exact h he
  · refine h (tickE_mk ((tick_stB s n).trans hB) h1 ?_)
    rw [(tick_rest he).2.2.2.2.2.2.2.1]; omega
end Go.Proofs.YtfhjllchbgclaaaGreat

/- Layer 9: '==' on two slots. -/
namespace Go.Proofs.YtfhjllchbgclaaaGreat
set_option linter.unusedVariables false
set_option linter.unusedSimpArgs false
open Go.ChangeShapes Go.WideShapes Go.ChangeAt Go.RowKit
theorem slo_equal (a b : Slo) (w : World) : (Op.equal 104 (.agg #[.int .i64 a.st, .int .i64 a.vl]) (.agg #[.int .i64 b.st, .int .i64 b.vl])).run Tryz.prog w = .ok (decide (a = b)) w := by
  have hu := Tryz.underlying104
  have h3 := Tryz.underlying3
  have hp : Tryz.prog.stoodInHeld 104 = false := by kernel_rfl
  have hc : Tryz.prog.info? 3 = _ := rfl
  have e : decide (a = b) = (a.st == b.st && a.vl == b.vl) := by
    rw [Bool.eq_iff_iff]; cases a; cases b; simp
  rw [e]
  unfold Op.equal Op.maxDepth
  rw [run_equalIn_struct w 9999 _ _ _ (by unfold Program.fieldsOf; rw [hu]) hp]
  unfold Program.fieldsOf
  rw [hu]
  cases h : (a.st == b.st) <;> cases h2 : (a.vl == b.vl)
  all_goals simp [Op.eqFields, part, isAgg, run_underlying h3, run_equalIn_int _ _ _ _ _ _ _ h3, h, h2]
theorem slo_neq (a b : Slo) (w : World) : (binOp .neq 104 (.agg #[.int .i64 a.st, .int .i64 a.vl]) (.agg #[.int .i64 b.st, .int .i64 b.vl])).run Tryz.prog w = .ok (.bool (!decide (a = b))) w := by
  have h := slo_equal a b w
  have hu := Tryz.underlying104
  simp [binOp, h, run_underlying hu, Result.andThen]
end Go.Proofs.YtfhjllchbgclaaaGreat

/- Contracts told by abstract values: whether two states are one. -/
namespace Go.Proofs.YtfhjllchbgclaaaGreat
set_option linter.unusedVariables false
set_option linter.unusedSimpArgs false
open Go.RowKit
theorem ask_th (t : Th) (x y : Operand) : AskP Tryz.prog (.binOp .neq 51 x y 51) [thT t, thT t] (.bool false) :=
  ask_bin (fun x y W => (guard_agg (by kernel_rfl) x y _ _ W).1) (fun W => by simpa using th_neq t t W) x y
theorem ask_en (t : En) (x y : Operand) : AskP Tryz.prog (.binOp .neq 106 x y 106) [enT t, enT t] (.bool false) :=
  ask_bin (fun x y W => (guard_agg (by kernel_rfl) x y _ _ W).1) (fun W => by simpa using en_neq t t W) x y
theorem ask_cf (c : Cf) (x y : Operand) : AskP Tryz.prog (.binOp .eql 23 x y 23) [cfT c, cfT c] (.bool true) :=
  ask_bin (fun x y W => (guard_agg (by kernel_rfl) x y _ _ W).2) (fun W => by simpa using cf_eql c c W) x y
theorem ask_wd (h t m : Int) (x y : Operand) : AskP Tryz.prog (.binOp .eql 25 x y 25) [wdT h t m, wdT h t m] (.bool true) :=
  ask_bin (fun x y W => (guard_agg (by kernel_rfl) x y _ _ W).2) (fun W => by simpa using wo_eql ⟨h, t, m⟩ ⟨h, t, m⟩ W) x y
def hdTh (l : List Th) (i : Int) : Sg := ⟨mkT 26 [(0, rowT l), (1, rowT l), (5, .int .i64 i)], []⟩
def hdEn (l : List En) (i : Int) : Sg := ⟨mkT 26 [(0, rowE l), (1, rowE l), (5, .int .i64 i)], []⟩
def gle (l : List En) (i : Nat) : En := l.getD i ⟨0, 0, 0, 0, 0⟩
theorem ixEn {l : List En} {i : Nat} (h : i < l.length) : IxP ((l.map enT).toArray) (i : Int) (enT (gle l i)) := ⟨by omega, by simp [gle, h]⟩
set_option maxRecDepth 100000 in
theorem th_lp (l : List Th) (hm : l.length ≤ 1000000) : ∀ (k i : Nat), l.length - i = k → i ≤ l.length → LoopP Tryz.prog (loopOf Tryz.prog 33 0) (hdTh l i) (.exit 0) (hdTh l l.length)
  | 0, i, hk, hi => by
    have : i = l.length := by omega
    subst this
    exact loop_end mixed (fuel := 9) (n := 3) (im := []) (keep := [0, 1, 5]) (ext := []) (orc := [.bool false]) (an (show decide ((l.length : Int) < l.length) = false by simp) trivial) (by intro e; cases e) (by kernel_rfl)
  | k + 1, i, hk, hi => by
    have ih := th_lp l hm k (i + 1) (by omega) (by omega)
    rw [show ((i + 1 : Nat) : Int) = (i : Int) + 1 by omega] at ih
    exact loop_more mixed (fuel := 9) (n := 3) (im := []) (keep := [0, 1, 5]) (ext := []) (orc := [.bool true, thT (gth l i), thT (gth l i), .bool false, .bool false])
      (an (show decide ((i : Int) < l.length) = true by simp; omega) <| an (ixT (l := l) (n := i) (by omega)) <| an (ixT (l := l) (n := i) (by omega)) <| an (ask_th (gth l i) (.tmp 20) (.tmp 24)) <| an (rfl : false = false) <| an (show In64 ((i : Int) + 1) by constructor <;> omega) trivial) (by kernel_rfl) ih
set_option maxRecDepth 100000 in
theorem en_lp (l : List En) (hm : l.length ≤ 1000000) : ∀ (k i : Nat), l.length - i = k → i ≤ l.length → LoopP Tryz.prog (loopOf Tryz.prog 34 0) (hdEn l i) (.exit 0) (hdEn l l.length)
  | 0, i, hk, hi => by
    have : i = l.length := by omega
    subst this
    exact loop_end mixed (fuel := 9) (n := 3) (im := []) (keep := [0, 1, 5]) (ext := []) (orc := [.bool false]) (an (show decide ((l.length : Int) < l.length) = false by simp) trivial) (by intro e; cases e) (by kernel_rfl)
  | k + 1, i, hk, hi => by
    have ih := en_lp l hm k (i + 1) (by omega) (by omega)
    rw [show ((i + 1 : Nat) : Int) = (i : Int) + 1 by omega] at ih
    exact loop_more mixed (fuel := 9) (n := 3) (im := []) (keep := [0, 1, 5]) (ext := []) (orc := [.bool true, enT (gle l i), enT (gle l i), .bool false, .bool false])
      (an (show decide ((i : Int) < l.length) = true by simp; omega) <| an (ixEn (l := l) (i := i) (by omega)) <| an (ixEn (l := l) (i := i) (by omega)) <| an (ask_en (gle l i) (.tmp 20) (.tmp 24)) <| an (rfl : false = false) <| an (show In64 ((i : Int) + 1) by constructor <;> omega) trivial) (by kernel_rfl) ih
set_option maxRecDepth 100000 in
theorem ac_rthreads (l : List Th) (hm : l.length ≤ 1000000) : AC Tryz.prog 33 [rowT l, rowT l] (.bool true) :=
  ac_path mixed (ext := []) (fuel := 9) (n := 3) (orc := [.bool false, oL [] [0, 1, 5] 0 [(0, rowT l), (1, rowT l), (5, .int .i64 l.length)] []])
    (an (show ((l.length : Int) != l.length) = false by simp) <| an (th_lp l hm l.length 0 rfl (by omega)) trivial) (by kernel_rfl)
set_option maxRecDepth 100000 in
theorem ac_rlogs (l : List En) (hm : l.length ≤ 1000000) : AC Tryz.prog 34 [rowE l, rowE l] (.bool true) :=
  ac_path mixed (ext := []) (fuel := 9) (n := 3) (orc := [.bool false, oL [] [0, 1, 5] 0 [(0, rowE l), (1, rowE l), (5, .int .i64 l.length)] []])
    (an (show ((l.length : Int) != l.length) = false by simp) <| an (en_lp l hm l.length 0 rfl (by omega)) trivial) (by kernel_rfl)
theorem ask_slv (t : Slo) (x y : Operand) : AskP Tryz.prog (.binOp .neq 104 x y 104) [slT t, slT t] (.bool false) :=
  ask_bin (fun x y W => (guard_agg (by kernel_rfl) x y _ _ W).1) (fun W => by simpa using slo_neq t t W) x y
def hdRw (r : Value) (n i : Int) : Sg := ⟨mkT 26 [(0, r), (1, r), (5, .int .i64 i)], []⟩
set_option maxRecDepth 100000 in
theorem rin_lp (l : List Int) (hm : l.length ≤ 1000000) : ∀ (k i : Nat), l.length - i = k → i ≤ l.length → LoopP Tryz.prog (loopOf Tryz.prog 18 0) (hdRw (rowI l) 0 i) (.exit 0) (hdRw (rowI l) 0 l.length)
  | 0, i, hk, hi => by
    have : i = l.length := by omega
    subst this
    exact loop_end mixed (fuel := 9) (n := 3) (im := []) (keep := [0, 1, 5]) (ext := []) (orc := [.bool false]) (an (lt_noV l.length) trivial) (by intro e; cases e) (by kernel_rfl)
  | k + 1, i, hk, hi => by
    have hi' : i < l.length := by omega
    exact loop_more mixed (fuel := 9) (n := 3) (im := []) (keep := [0, 1, 5]) (ext := []) (orc := [.bool true, .int .i64 l[i], .int .i64 l[i], .bool false]) (an (lt_yesV hi') <| an (ixV hi') <| an (ixV hi') <| an (show (l[i] != l[i]) = false by simp) <| an (show In64 ((i : Int) + 1) by constructor <;> omega) trivial) (by kernel_rfl) (rin_lp l hm k (i + 1) (by omega) (by omega))
set_option maxRecDepth 100000 in
theorem rsl_lp (l : List Slo) (hm : l.length ≤ 1000) : ∀ (k i : Nat), l.length - i = k → i ≤ l.length → LoopP Tryz.prog (loopOf Tryz.prog 31 0) (hdRw (rowS l) 0 i) (.exit 0) (hdRw (rowS l) 0 l.length)
  | 0, i, hk, hi => by
    have : i = l.length := by omega
    subst this
    exact loop_end mixed (fuel := 9) (n := 3) (im := []) (keep := [0, 1, 5]) (ext := []) (orc := [.bool false]) (an (lt_noV l.length) trivial) (by intro e; cases e) (by kernel_rfl)
  | k + 1, i, hk, hi => by
    have hi' : i < l.length := by omega
    exact loop_more mixed (fuel := 9) (n := 3) (im := []) (keep := [0, 1, 5]) (ext := []) (orc := [.bool true, slT (gs l i), slT (gs l i), .bool false, .bool false]) (an (lt_yesV hi') <| an (ixSv hi') <| an (ixSv hi') <| an (ask_slv (gs l i) (.tmp 20) (.tmp 24)) <| an (rfl : false = false) <| an (show In64 ((i : Int) + 1) by constructor <;> omega) trivial) (by kernel_rfl) (rsl_lp l hm k (i + 1) (by omega) (by omega))
set_option maxRecDepth 100000 in
theorem ac_rints (l : List Int) (hm : l.length ≤ 1000000) : AC Tryz.prog 18 [rowI l, rowI l] (.bool true) :=
  ac_path mixed (ext := []) (fuel := 9) (n := 3) (orc := [.bool false, oL [] [0, 1, 5] 0 [(0, rowI l), (1, rowI l), (5, .int .i64 l.length)] []]) (an (show ((l.length : Int) != l.length) = false by simp) <| an (rin_lp l hm l.length 0 rfl (by omega)) trivial) (by kernel_rfl)
set_option maxRecDepth 100000 in
theorem ac_rssame (l : List Slo) (hm : l.length ≤ 1000) : AC Tryz.prog 31 [rowS l, rowS l] (.bool true) :=
  ac_path mixed (ext := []) (fuel := 9) (n := 3) (orc := [.bool false, oL [] [0, 1, 5] 0 [(0, rowS l), (1, rowS l), (5, .int .i64 l.length)] []]) (an (show ((l.length : Int) != l.length) = false by simp) <| an (rsl_lp l hm l.length 0 rfl (by omega)) trivial) (by kernel_rfl)
set_option maxRecDepth 100000 in
theorem ac_resame (ep : Int) (l : List Int) (hm : l.length ≤ 1000000) : AC Tryz.prog 32 [evT ep l, evT ep l] (.bool true) := by
  rw [show (true : Bool) = (ep == ep) by simp]
  exact ac_path mixed (ext := [18]) (fuel := 9) (n := 3) (orc := [vD true]) (an (ac_rints l hm) trivial) (by kernel_rfl)
set_option maxRecDepth 100000 in
/-- A state is the same as itself. -/
theorem ac_rsame {s : St} (hw : s.few) (hl : s.lg.length ≤ 1000000) : AC Tryz.prog 17 [stT s, stT s] (.bool true) :=
  ac_path mixed (ext := [31, 18, 32, 33, 34]) (fuel := 9) (n := 3)
    (orc := [.bool true, .nilFunc, .bool true, .nilFunc, vD true, vD true, vD true, vD true, vD true, vD true, vD true, .bool true])
    (an (ask_cf s.cf (.tmp 10) (.tmp 12)) <| an (ask_wd s.hd s.tl s.md (.tmp 16) (.tmp 18)) <| an (ac_rssame s.sl hw.sl) <| an (ac_rints s.sn (by have := hw.sn; omega)) <| an (ac_rints s.rc (by have := hw.rc; omega)) <| an (ac_resame s.fe s.fl (by have := hw.fl; omega)) <| an (ac_resame s.ee s.el (by have := hw.el; omega)) <|
      an (ac_rthreads s.th (by have := hw.th; omega)) <| an (ac_rlogs s.lg hl) <| an (show (s.nw == s.nw) = true by simp) trivial) (by kernel_rfl)
end Go.Proofs.YtfhjllchbgclaaaGreat

/- Layer 18, the document's side told by plain functions, by the engine. -/
namespace Go.Proofs.YtfhjllchbgclaaaGreat
set_option linter.unusedVariables false
set_option linter.unusedSimpArgs false
open Go.RowKit
/-! ### Who is to be late -/
theorem td_code {s : St} (h : stB s = true) {k : Nat} (hk : k < s.th.length) (ht : tdB (gth s.th k) = true) : codeI (tdS s k) (tdDu s k) = 0 := by
  obtain ⟨h1, h2⟩ := td_ok h (k := k) (by omega)
  have hth := (th_len h).2.2
  have hu := td_time (gth_ok h hk) ht
  refine code_mk h1 (inT_iff.2 hu) (by unfold ofTB; rw [Bool.and_eq_true]; exact ⟨decide_eq_true (show (0 : Int) ≤ (k : Int) by omega), decide_eq_true (show (k : Int) < 16 by omega)⟩) (nhas_iff.2 fun d hd => ?_)
  obtain ⟨i, hi, -, rfl⟩ := (h2 d).1 hd
  show ((i : Int)) ≠ (k : Int)
  omega
theorem putL_le (l : List Du) (d : Du) : (putL l d).length ≤ l.length + 1 := by
  unfold putL; split
  · rw [srt_len]; simp
  · omega
theorem td_len (s : St) : ∀ k, (tdS s k).length ≤ k
  | 0 => by simp [tdS]
  | k + 1 => by
    have := td_len s k
    have := putL_le (tdS s k) (tdDu s k)
    simp only [tdS]; split <;> omega
/-! ### A tick -/
/-- Who may become late. -/
def TdOk (s : St) (i : Int) : Prop := 0 ≤ i ∧ i.toNat < s.th.length ∧ opTimed (gth s.th i.toNat).ki = true ∧ (gth s.th i.toNat).st ≠ 0
theorem TdOk.late {s : St} {i j : Int} (h : TdOk s i) (hj : TdOk s j) : TdOk (lateS s j.toNat) i := by
  obtain ⟨h0, h1, h2, h3⟩ := h
  refine ⟨h0, by rw [late_len]; exact h1, ?_, ?_⟩
  · rw [gth_late hj.2.1]; split
    · exact h2
    · exact h2
  · rw [gth_late hj.2.1]; split
    · unfold lateT; simp only; split <;> omega
    · exact h3
end Go.Proofs.YtfhjllchbgclaaaGreat

/- Layer 18, the document's ticks, and whether two lists of dues are one, by the engine. -/
namespace Go.Proofs.YtfhjllchbgclaaaGreat
set_option linter.unusedVariables false
set_option linter.unusedSimpArgs false
open Go.RowKit
/-- A state whose numbers are an int's, not too large. -/
structure TkK (s : St) : Prop where
  ok : s.ok
  few : s.few
theorem TkK.tick {s : St} (h : TkK s) (n : Int) : TkK (tickS s n) := by
  cases hB : stB s
  · rw [show tickS s n = s from (tick_no (by simp [tickE, hB])).1]; exact h
  · have w := tick_wk (N := 1000) ⟨hB, Vk.of h.ok, h.few.lg⟩ n
    exact ⟨w.ok (by omega), w.few (by omega)⟩
theorem tickI_len {s : St} (h : TkK s) (n : Int) : (tickI s n).length ≤ 16 := by
  by_cases e : tickE s n = 0
  · obtain ⟨hB, -⟩ := tickE_ok e
    have := td_len s s.th.length
    have := (th_len hB).2.2
    rw [(tick_yes e).2]
    unfold lateIds
    rw [List.length_map]
    refine Nat.le_trans (List.length_filter_le _ _) ?_
    simp only [duesS, hB, if_true]; omega
  · rw [(tick_no e).2]; simp
theorem dv_equal (a : Du) (w : World) : (Op.equal 55 (duT a) (duT a)).run Tryz.prog w = .ok true w := by
  have hu := Tryz.underlying55
  have h3 := Tryz.underlying3
  have hp : Tryz.prog.stoodInHeld 55 = false := by kernel_rfl
  unfold duT Op.equal Op.maxDepth
  rw [run_equalIn_struct w 9999 _ _ _ (by unfold Program.fieldsOf; rw [hu]) hp]
  unfold Program.fieldsOf
  rw [hu]
  simp [Op.eqFields, part, isAgg, run_underlying h3, run_equalIn_int _ _ _ _ _ _ _ h3]
theorem dv_neq (a : Du) (w : World) : (binOp .neq 55 (duT a) (duT a)).run Tryz.prog w = .ok (.bool false) w := by
  have h := dv_equal a w
  have hu := Tryz.underlying55
  unfold duT at h ⊢
  simp [binOp, h, run_underlying hu, Result.andThen]
theorem ask_du (t : Du) (x y : Operand) : AskP Tryz.prog (.binOp .neq 55 x y 55) [duT t, duT t] (.bool false) :=
  ask_bin (fun x y W => (guard_agg (by kernel_rfl) x y _ _ W).1) (fun W => dv_neq t W) x y
def hdDs (l : List Du) (i : Int) : Sg := ⟨mkT 26 [(0, rowD l), (1, rowD l), (5, .int .i64 i)], []⟩
set_option maxRecDepth 100000 in
theorem ds_lp (l : List Du) (hm : l.length ≤ 1000000) : ∀ (k i : Nat), l.length - i = k → i ≤ l.length → LoopP Tryz.prog (loopOf Tryz.prog 19 0) (hdDs l i) (.exit 0) (hdDs l l.length)
  | 0, i, hk, hi => by
    have : i = l.length := by omega
    subst this
    exact loop_end mixed (fuel := 9) (n := 3) (im := []) (keep := [0, 1, 5]) (ext := []) (orc := [.bool false]) (an (d_nlt l.length) trivial) (by intro e; cases e) (by kernel_rfl)
  | k + 1, i, hk, hi' => by
    have hi : i < l.length := by omega
    exact loop_more mixed (fuel := 9) (n := 3) (im := []) (keep := [0, 1, 5]) (ext := []) (orc := [.bool true, duT (gd l i), duT (gd l i), .bool false, .bool false]) (an (d_lt hi) <| an (ixD hi) <| an (ixD hi) <| an (ask_du (gd l i) (.tmp 20) (.tmp 24)) <| an (rfl : false = false) <| an (d_in hi hm) trivial) (by kernel_rfl) (ds_lp l hm k (i + 1) (by omega) (by omega))
set_option maxRecDepth 100000 in
theorem ac_rdsame (l : List Du) (hm : l.length ≤ 1000000) : AC Tryz.prog 19 [rowD l, rowD l] (.bool true) :=
  ac_path mixed (fuel := 9) (n := 3) (ext := []) (orc := [.bool false, oL [] [0, 1, 5] 0 [(0, rowD l), (1, rowD l), (5, .int .i64 l.length)] []]) (an (show ((l.length : Int) != l.length) = false by simp) <| an (ds_lp l hm l.length 0 rfl (by omega)) trivial) (by kernel_rfl)
end Go.Proofs.YtfhjllchbgclaaaGreat
