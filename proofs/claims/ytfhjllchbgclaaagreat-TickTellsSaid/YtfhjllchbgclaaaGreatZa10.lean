/- Texts merged: AcLP, AcMP, AcNP, CloseAP, CcBP, DueFP, TickFP, TickDP, TkDP, TickPP, SlEP, AcOP, TkEP, TkGP. -/
import Derived.Test.YtfhjllchbgclaaaGreatZa9
import Derived.Test.YtfhjllchbgclaaaGreatZa4
import Derived.Test.YtfhjllchbgclaaaGreatZa1
import Derived.Laws.StructEq
import Derived.Test.YtfhjllchbgclaaaGreatZa8
import Derived.Test.YtfhjllchbgclaaaGreatZa6
/- The document's Step, case by case, told by plain states. -/
namespace Go.Proofs.YtfhjllchbgclaaaGreat
set_option linter.unusedVariables false
set_option linter.unusedSimpArgs false
open Go.RowKit
/-- What is true of a state in which thread n, at step c, sends. -/
structure Dn (s : St) (n : Nat) (c : Int) : Prop where
  ck : stB s = true
  ok : s.ok
  few : s.few
  hn : n < s.th.length
  st : (gth s.th n).st = 1
  sd : opSide (gth s.th n).ki = 1
  pc : (gth s.th n).pc = c
section
variable {s : St} {n : Nat} {c : Int}
theorem Dn.ht (h : Dn s n c) : gth s.th n = pcT (gth s.th n) c := by rw [← h.pc]; rfl
theorem Dn.ix (h : Dn s n c) : IxP ((s.th.map thT).toArray) (n : Int) (thT (pcT (gth s.th n) c)) := by
  have := ixT h.hn
  rw [h.ht] at this
  exact this
theorem Dn.has (h : Dn s n c) : hasB s n = true := has_of h.ck h.hn
theorem Dn.ru (h : Dn s n c) : runsB s n 1 = true := runs_iff.2 ⟨h.has, by simpa using h.st, by simpa using h.sd⟩
theorem Dn.rs (h : Dn s n c) : thRuns (gth s.th n).st = 0 := by rw [h.st]; rfl
theorem Dn.sl (h : Dn s n c) : okSl s.sl = true := (word_ok h.ck).2.1
theorem Dn.bd (h : Dn s n c) : 0 ≤ (gth s.th n).re ∧ (gth s.th n).re ≤ 1099511627776 ∧ 0 ≤ (gth s.th n).tr ∧ (gth s.th n).tr ≤ 1099511627776 := by
  have h1 := gth_ok h.ck h.hn
  generalize gth s.th n = t at h1
  obtain ⟨st, ki, va, un, pc, re, se, tr, la, rs, go⟩ := t
  rw [thB_iff] at h1
  simp only
  omega
theorem Dn.len (h : Dn s n c) : In64 (s.sl.length : Int) := by have := h.few.sl; constructor <;> omega
end
end Go.Proofs.YtfhjllchbgclaaaGreat

/- The document's Step is the step of plain states; Steps as many as there are. -/
namespace Go.Proofs.YtfhjllchbgclaaaGreat
set_option linter.unusedVariables false
set_option linter.unusedSimpArgs false
open Go.RowKit
section
variable {s : St} {n : Nat} {c : Int}
theorem Dn.sp (h : Dn s n c) (hl : s.lg.length ≤ 999999) : Sp s n 1 0 := ⟨by decide, h.ck, h.ok, h.hn, h.st, h.sd, hl, by constructor <;> omega⟩
end
end Go.Proofs.YtfhjllchbgclaaaGreat

/- The document's Steps: as many steps as there are, told by plain states. -/
namespace Go.Proofs.YtfhjllchbgclaaaGreat
set_option linter.unusedVariables false
set_option linter.unusedSimpArgs false
open Go.RowKit
def bS (s : St) : Option Blk := some ⟨true, false, 20, 1, [stT s]⟩
theorem few_of {s : St} (h : stB s = true) (hl : s.lg.length ≤ 1000) : s.few := by
  obtain ⟨a, b, c, d, -, -⟩ := full_lines h
  have h1 := th_len h
  have h2 := ok_len (stn_iff.1 a).1
  have h3 := ok_len (stn_iff.1 b).1
  have h4 := ok_len (stn_iff.1 c).1
  have h5 := ok_len (stn_iff.1 d).1
  have h6 := (ok_iff.1 (word_ok h).2.1).1
  exact ⟨by omega, by omega, by omega, by omega, by omega, by omega, hl⟩
section
variable {s : St} {i m o : Int} {b : Bool}
end
end Go.Proofs.YtfhjllchbgclaaaGreat

/- Layer 16, plain: who begins to close is done after three steps, and behind them nobody waits. -/
namespace Go.Proofs.YtfhjllchbgclaaaGreat
set_option linter.unusedVariables false
set_option linter.unusedSimpArgs false
theorem closeS_is {s : St} {i : Int} (h : runsB s i 3 = true) : closeS s i = closeN s i.toNat := by unfold closeS; rw [if_pos h]
theorem closeN_0 {s : St} {n : Nat} (h : (gth s.th n).pc = 0) : closeN s n = shutC s n := by unfold closeN; rw [if_pos h]
theorem closeN_1 {s : St} {n : Nat} (h : (gth s.th n).pc = 1) : closeN s n = fullC s n := by unfold closeN; rw [if_neg (by omega), if_pos h]
theorem closeN_2 {s : St} {n : Nat} (h0 : (gth s.th n).pc ≠ 0) (h1 : (gth s.th n).pc ≠ 1) : closeN s n = emptyC s n := by unfold closeN; rw [if_neg h0, if_neg h1]
theorem wkT_not {t : Th} (h : t.st ≠ 2) : wakeT t = t := by unfold wakeT; rw [if_neg h]
section
variable {s : St} (h : stB s = true) {n : Nat} (hn : n < s.th.length) (h1 : (gth s.th n).st = 1)
include h hn
theorem gth_shut (j : Nat) : gth (shutC s n).th j = if j = n then pcT (tellT (gth s.th n) (gth s.th n).ki 1 0) 1 else gth s.th j := by
  have hw := shut_word h (modeI (gth s.th n).ki)
  unfold shutC toldS
  rw [tell_th (n := n) hw hn]
  show gth ((s.th.set n (tellT (gth s.th n) (gth s.th n).ki 1 0)).set n (pcT (gth (s.th.set n (tellT (gth s.th n) (gth s.th n).ki 1 0)) n) 1)) j = _
  rw [List.set_set, gth_set hn, gth_set hn, if_pos rfl]
  by_cases e : n = j
  · rw [if_pos e, if_pos e.symm]
  · rw [if_neg e, if_neg (fun x => e x.symm)]
include h1
theorem gth_full {j : Nat} (hj : j < s.th.length) : gth (fullC s n).th j = if j = n then pcT (gth s.th n) 2 else if (j : Int) ∈ s.fl then wakeT (gth s.th j) else gth s.th j := by
  have hb := full_on h hn (by omega)
  have e3 := (nt_all (full_lines h).2.2.2.2.1).2.2
  unfold fullC
  rw [wakes_th _ hb (by show j < (s.th.set n _).length; simpa using hj), e3]
  have e : gth ((s.toFull (ntE s.fe s.fl) (ntL s.fl.length s.fe s.fl)).onTh n (pcT · 2)).th j = if n = j then pcT (gth s.th n) 2 else gth s.th j := gth_set hn
  rw [e]
  by_cases c : j = n
  · subst c
    rw [if_pos rfl, if_pos rfl, wkT_not (show (pcT (gth s.th j) 2).st ≠ 2 by show (gth s.th j).st ≠ 2; omega)]
    simp
  · have c' : ¬ n = j := fun x => c x.symm
    simp only [if_neg c, if_neg c']
theorem gth_empty {j : Nat} (hj : j < s.th.length) : gth (emptyC s n).th j = if j = n then doneT (gth s.th n) else if (j : Int) ∈ s.el then wakeT (gth s.th j) else gth s.th j := by
  have hb := empty_on h hn (by omega)
  have e3 := (nt_all (full_lines h).2.2.2.2.2).2.2
  unfold emptyC
  rw [wakes_th _ hb (by show j < (s.th.set n _).length; simpa using hj), e3]
  have e : gth ((s.toEmpty (ntE s.ee s.el) (ntL s.el.length s.ee s.el)).onTh n doneT).th j = if n = j then doneT (gth s.th n) else gth s.th j := gth_set hn
  rw [e]
  by_cases c : j = n
  · subst c
    rw [if_pos rfl, if_pos rfl, wkT_not (show (doneT (gth s.th j)).st ≠ 2 by show (0 : Int) ≠ 2; decide)]
    simp
  · have c' : ¬ n = j := fun x => c x.symm
    simp only [if_neg c, if_neg c']
end
/-- What threads share behind each step. -/
theorem shr_shut (s : St) (n : Nat) : shr (shutC s n) = shr (s.toWord s.hd s.tl (clM s.md (modeI (gth s.th n).ki))) := shr_told _ _ _ _ _ _
theorem shr_full (s : St) (n : Nat) : shr (fullC s n) = shr (s.toFull (ntE s.fe s.fl) (ntL s.fl.length s.fe s.fl)) := shr_wakes _ _
theorem shr_empty (s : St) (n : Nat) : shr (emptyC s n) = shr (s.toEmpty (ntE s.ee s.el) (ntL s.el.length s.ee s.el)) := shr_wakes _ _
theorem runs_of {s : St} (h : stB s = true) {n : Nat} (hn : n < s.th.length) (h1 : (gth s.th n).st = 1) (h2 : opSide (gth s.th n).ki = 3) : runsB s n 3 = true := by
  refine runs_iff.2 ⟨has_of h hn, ?_, ?_⟩ <;> rw [Int.toNat_natCast] <;> assumption
theorem runs_no {s : St} {n : Nat} (h1 : (gth s.th n).st ≠ 1) : runsB s n 3 = false := by
  cases h : runsB s n 3
  · rfl
  · have := (runs_iff.1 h).2.1; rw [Int.toNat_natCast] at this; exact absurd this h1
/-- Who begins to close is done after three steps. -/
theorem three {s : St} (h : stB s = true) {n : Nat} (hn : n < s.th.length) (h1 : (gth s.th n).st = 1) (hk : opSide (gth s.th n).ki = 3) (hp : (gth s.th n).pc = 0) (m : Nat) :
    ∃ u : St, closeK s n (m + 3) = (u, 3) ∧ stB u = true ∧ u.md = clM s.md (modeI (gth s.th n).ki) ∧ u.hd = s.hd ∧ u.tl = s.tl ∧ u.fl = [] ∧ u.el = [] ∧ u.fe = nxE s.fe ∧ u.ee = nxE s.ee ∧ u.cf = s.cf ∧ u.nw = s.nw ∧ u.sl = s.sl ∧ u.sn = s.sn ∧ u.rc = s.rc ∧
      u.lg = s.lg ++ [⟨n, (gth s.th n).ki, (gth s.th n).va, 1, 0⟩] ∧ u.th.length = s.th.length ∧ gth u.th n = doneT (tellT (gth s.th n) (gth s.th n).ki 1 0) ∧
      ∀ j : Nat, j < s.th.length → j ≠ n → (gth u.th j = gth s.th j ∨ gth u.th j = wakeT (gth s.th j)) ∧ ((j : Int) ∈ s.fl ∨ (j : Int) ∈ s.el → gth u.th j = wakeT (gth s.th j)) := by
  have ki9 : (gth s.th n).ki ≠ 9 := fun e => by rw [e] at hk; exact absurd hk (by decide)
  have e9 : ∀ t : Th, tellT t (gth s.th n).ki 1 0 = ⟨t.st, t.ki, t.va, t.un, t.pc, t.re, t.se, t.tr, t.la, 1, 0⟩ := fun t => by unfold tellT; rw [if_neg ki9]
  have r0 := runs_of h hn h1 hk
  have b1 := closeN_stB h hn (by omega)
  have l1 := (closeN_oth h hn (by omega)).len
  have q1 := shr_shut s n
  have g1 := gth_shut h hn
  have o1 := closeN_lgOk (s := s) (n := n)
  have lg1 : (shutC s n).lg = s.lg ++ [⟨n, (gth s.th n).ki, (gth s.th n).va, 1, 0⟩] := lg_is (shut_word h (modeI (gth s.th n).ki)) (n := n) hn (gth s.th n).ki 1 0 1
  rw [closeN_0 hp] at b1 l1 o1
  simp only [shr, Prod.mk.injEq] at q1
  have s0 : closeS s n = shutC s n := by rw [closeS_is r0, Int.toNat_natCast, closeN_0 hp]
  obtain ⟨⟨w1, w2, w3⟩, w4, w5, w6, ⟨w7, w8⟩, w9, w10⟩ := q1
  generalize shutC s n = a at *
  have ga := g1 n
  rw [if_pos rfl, e9] at ga
  have na : n < a.th.length := by omega
  have a1 : (gth a.th n).st = 1 := by rw [ga]; exact h1
  have ak : opSide (gth a.th n).ki = 3 := by rw [ga]; exact hk
  have ap : (gth a.th n).pc = 1 := by rw [ga]; rfl
  have r1 := runs_of b1 na a1 ak
  have b2 := closeN_stB b1 na (by omega)
  have l2 := (closeN_oth b1 na (by omega)).len
  have q2 := shr_full a n
  have g2 := fun (j : Nat) (hj : j < a.th.length) => gth_full b1 na a1 hj
  have o2 := closeN_lgOk (s := a) (n := n)
  have lg2 : (fullC a n).lg = a.lg := (wakes_rest _ _).1
  rw [closeN_1 ap] at b2 l2 o2
  obtain ⟨f1, f2, -⟩ := nt_all (full_lines b1).2.2.2.2.1
  simp only [shr, Prod.mk.injEq, f1, f2] at q2
  have s1 : closeS a n = fullC a n := by rw [closeS_is r1, Int.toNat_natCast, closeN_1 ap]
  obtain ⟨⟨x1, x2, x3⟩, x4, x5, x6, ⟨x7, x8⟩, x9, x10⟩ := q2
  generalize fullC a n = b at *
  have gb := g2 n na
  rw [if_pos rfl, ga] at gb
  have nb : n < b.th.length := by omega
  have b1' : (gth b.th n).st = 1 := by rw [gb]; exact h1
  have bk : opSide (gth b.th n).ki = 3 := by rw [gb]; exact hk
  have bp : (gth b.th n).pc = 2 := by rw [gb]; rfl
  have r2 := runs_of b2 nb b1' bk
  have b3 := closeN_stB b2 nb (by omega)
  have l3 := (closeN_oth b2 nb (by omega)).len
  have q3 := shr_empty b n
  have g3 := fun (j : Nat) (hj : j < b.th.length) => gth_empty b2 nb b1' hj
  have o3 := closeN_lgOk (s := b) (n := n)
  have lg3 : (emptyC b n).lg = b.lg := (wakes_rest _ _).1
  rw [closeN_2 (by omega) (by omega)] at b3 l3 o3
  obtain ⟨f3, f4, -⟩ := nt_all (full_lines b2).2.2.2.2.2
  simp only [shr, Prod.mk.injEq, f3, f4] at q3
  have s2 : closeS b n = emptyC b n := by rw [closeS_is r2, Int.toNat_natCast, closeN_2 (by omega) (by omega)]
  obtain ⟨⟨y1, y2, y3⟩, y4, y5, y6, ⟨y7, y8⟩, y9, y10⟩ := q3
  generalize emptyC b n = u at *
  have gu := g3 n nb
  rw [if_pos rfl, gb] at gu
  have r3 : runsB u n 3 = false := runs_no (by rw [gu]; show (0 : Int) ≠ 1; decide)
  refine ⟨u, ?_, b3, ?_, ?_, ?_, ?_, ?_, ?_, ?_, ?_, ?_, ?_, ?_, ?_, ?_, ?_, ?_, ?_⟩
  · rw [closeK_on r0, s0, closeK_on r1, s1, closeK_on r2, s2, closeK_off r3]
  · rw [y3]; exact x3.trans w3
  · rw [y1]; exact x1.trans w1
  · rw [y2]; exact x2.trans w2
  · rw [y8]; exact x8
  · exact y10
  · rw [y7]; show b.fe = _; rw [x7]; show nxE a.fe = _; rw [w7]; rfl
  · rw [y9]; show nxE b.ee = _; rw [x9]; show nxE a.ee = _; rw [w9]; rfl
  · exact o3.2.1.trans (o2.2.1.trans o1.2.1)
  · exact o3.2.2.trans (o2.2.2.trans o1.2.2)
  · rw [y4]; exact x4.trans w4
  · rw [y5]; exact x5.trans w5
  · rw [y6]; exact x6.trans w6
  · rw [lg3, lg2, lg1]
  · omega
  · rw [gu, e9]; rfl
  · intro j hj hne
    have e1 := g1 j
    have e2 := g2 j (by omega)
    have e3 := g3 j (by omega)
    rw [if_neg hne] at e1 e2 e3
    have hfl : a.fl = s.fl := w8
    have hel : b.el = s.el := x10.trans w10
    rw [hfl, e1] at e2
    rw [hel, e2] at e3
    rw [e3]
    by_cases c1 : (j : Int) ∈ s.fl
    · rw [if_pos c1, wake_wake]
      refine ⟨?_, fun _ => ?_⟩
      · right; split <;> rfl
      · split <;> rfl
    · rw [if_neg c1]
      by_cases c2 : (j : Int) ∈ s.el
      · rw [if_pos c2]; exact ⟨.inr rfl, fun _ => rfl⟩
      · rw [if_neg c2]; exact ⟨.inl rfl, fun x => absurd x (by simp [c1, c2])⟩
/-- There are at most three steps. -/
theorem closeK_three {s : St} {n : Nat} (m : Nat) : (closeK s n m).2 ≤ 3 := by
  cases h0 : runsB s n 3
  · rw [closeK_off h0]; omega
  obtain ⟨hh, h1, hk⟩ := runs_iff.1 h0
  obtain ⟨h, -, hi⟩ := has_iff.1 hh
  rw [Int.toNat_natCast] at h1 hk
  have hn : n < s.th.length := by omega
  have two : ∀ {b : St}, stB b = true → n < b.th.length → (gth b.th n).st = 1 → (gth b.th n).pc ≠ 0 → (gth b.th n).pc ≠ 1 → ∀ k, (closeK b n k).2 ≤ 1 := fun {b} hb nb h1 p0 p1 k => by
    cases k with
    | zero => simp [closeK]
    | succ k =>
      cases hr : runsB b n 3
      · rw [closeK_off hr]; omega
      · rw [closeK_on hr, closeS_is hr, Int.toNat_natCast, closeN_2 p0 p1]
        have := gth_empty hb nb h1 nb
        rw [if_pos rfl] at this
        rw [closeK_off (runs_no (by rw [this]; show (0 : Int) ≠ 1; decide))]
        show 0 + 1 ≤ 1; omega
  have one : ∀ {b : St}, stB b = true → n < b.th.length → (gth b.th n).st = 1 → (gth b.th n).pc ≠ 0 → ∀ k, (closeK b n k).2 ≤ 2 := fun {b} hb nb h1 p0 k => by
    by_cases p1 : (gth b.th n).pc = 1
    · cases k with
      | zero => simp [closeK]
      | succ k =>
        cases hr : runsB b n 3
        · rw [closeK_off hr]; omega
        · rw [closeK_on hr, closeS_is hr, Int.toNat_natCast, closeN_1 p1]
          have hg := gth_full hb nb h1 nb
          rw [if_pos rfl] at hg
          have hb' := closeN_stB hb nb (by omega)
          have hl := (closeN_oth hb nb (by omega)).len
          rw [closeN_1 p1] at hb' hl
          have := two hb' (by omega) (by rw [hg]; exact h1) (by rw [hg]; show (2 : Int) ≠ 0; decide) (by rw [hg]; show (2 : Int) ≠ 1; decide) k
          show _ + 1 ≤ 2; omega
    · have := two hb nb h1 p0 p1 k; omega
  by_cases p0 : (gth s.th n).pc = 0
  · cases m with
    | zero => simp [closeK]
    | succ k =>
      rw [closeK_on h0, closeS_is h0, Int.toNat_natCast, closeN_0 p0]
      have hg := gth_shut h hn n
      rw [if_pos rfl] at hg
      have hb' := closeN_stB h hn (by omega)
      have hl := (closeN_oth h hn (by omega)).len
      rw [closeN_0 p0] at hb' hl
      have hst : (tellT (gth s.th n) (gth s.th n).ki 1 0).st = 1 := by rw [tellT_st]; exact h1
      have := one hb' (by omega) (by rw [hg]; exact hst) (by rw [hg]; show (1 : Int) ≠ 0; decide) k
      show _ + 1 ≤ 3; omega
  · have := one h hn h1 p0 m; omega
end Go.Proofs.YtfhjllchbgclaaaGreat

/- The document's Step of who closes, and Steps, told by plain states. -/
namespace Go.Proofs.YtfhjllchbgclaaaGreat
set_option linter.unusedVariables false
set_option linter.unusedSimpArgs false
open Go.RowKit
/-- A state that may be, whose numbers are those of an int, with not too long a log. -/
structure Wk (s : St) (N : Nat) : Prop where
  b : stB s = true
  v : Vk s
  l : s.lg.length ≤ N
theorem Wk.ok {s : St} {N : Nat} (h : Wk s N) (hN : N ≤ 1000000) : s.ok := ok_of h.b h.v (by have := h.l; omega)
theorem Wk.few {s : St} {N : Nat} (h : Wk s N) (hN : N ≤ 1000) : s.few := few_of h.b (by have := h.l; omega)
theorem Wk.fit {s : St} {N : Nat} (h : Wk s N) (hN : N ≤ 1000000) : s.fit := fit_of h.b (by have := h.l; omega)
theorem Wk.wake {s : St} {N : Nat} (h : Wk s N) (i : Int) : Wk (wakeS s i) N := ⟨wake_stB h.b i, h.v.wake i, by rw [(wake_rest s i).1]; exact h.l⟩
theorem Wk.wakes {N : Nat} : ∀ (l : List Int) {s : St}, Wk s N → Wk (wakesS l s) N
  | [], _, h => h
  | i :: l, _, h => Wk.wakes l (h.wake i)
theorem ixIl {l : List Int} {i : Nat} (h : i < l.length) : IxP ((l.map (Value.int .i64 ·)).toArray) (i : Int) (.int .i64 l[i]) := ⟨by omega, by simp [h]⟩
/-- What is true of a state in which thread n, at step c, closes. -/
structure Dc (s : St) (n : Nat) (c : Int) : Prop where
  w : Wk s 999
  hn : n < s.th.length
  st : (gth s.th n).st = 1
  sd : opSide (gth s.th n).ki = 3
  pc : (gth s.th n).pc = c
section
variable {s : St} {n : Nat} {c : Int}
theorem Dc.ok (h : Dc s n c) : s.ok := h.w.ok (by omega)
theorem Dc.few (h : Dc s n c) : s.few := h.w.few (by omega)
theorem Dc.ht (h : Dc s n c) : gth s.th n = pcT (gth s.th n) c := by rw [← h.pc]; rfl
theorem Dc.ix (h : Dc s n c) : IxP ((s.th.map thT).toArray) (n : Int) (thT (pcT (gth s.th n) c)) := by
  have := ixT h.hn
  rw [h.ht] at this
  exact this
theorem Dc.has (h : Dc s n c) : hasB s n = true := has_of h.w.b h.hn
theorem Dc.ru (h : Dc s n c) : runsB s n 3 = true := runs_iff.2 ⟨h.has, by simpa using h.st, by simpa using h.sd⟩
theorem Dc.rs (h : Dc s n c) : thRuns (gth s.th n).st = 0 := by rw [h.st]; rfl
theorem wk_full {s : St} {N n : Nat} (h : Wk s N) (hn : n < s.th.length) (h1 : (gth s.th n).st ≠ 0) : Wk ((s.toFull (nxE s.fe) []).onTh n (pcT · 2)) N := by
  obtain ⟨e1, e2, -⟩ := nt_all (full_lines h.b).2.2.2.2.1
  refine ⟨?_, Vk.on (s := s.toFull (nxE s.fe) []) (f := (pcT · 2)) ⟨h.v.cf, h.v.sl, h.v.th⟩ hn fun _ => ⟨rfl, rfl⟩, h.l⟩
  have := full_on h.b hn h1
  rwa [e1, e2] at this
theorem wk_empty {s : St} {N n : Nat} (h : Wk s N) (hn : n < s.th.length) (h1 : (gth s.th n).st ≠ 0) : Wk ((s.toEmpty (nxE s.ee) []).onTh n doneT) N := by
  obtain ⟨e1, e2, -⟩ := nt_all (full_lines h.b).2.2.2.2.2
  refine ⟨?_, Vk.on (s := s.toEmpty (nxE s.ee) []) (f := doneT) ⟨h.v.cf, h.v.sl, h.v.th⟩ hn fun _ => ⟨rfl, rfl⟩, h.l⟩
  have := empty_on h.b hn h1
  rwa [e1, e2] at this
theorem fullC_is {s : St} (h : stB s = true) (n : Nat) : fullC s n = wakesS s.fl ((s.toFull (nxE s.fe) []).onTh n (pcT · 2)) := by
  obtain ⟨e1, e2, e3⟩ := nt_all (full_lines h).2.2.2.2.1
  unfold fullC; rw [e1, e2, e3]
theorem emptyC_is {s : St} (h : stB s = true) (n : Nat) : emptyC s n = wakesS s.el ((s.toEmpty (nxE s.ee) []).onTh n doneT) := by
  obtain ⟨e1, e2, e3⟩ := nt_all (full_lines h).2.2.2.2.2
  unfold emptyC; rw [e1, e2, e3]
theorem Wk.shut {s : St} {N : Nat} (h : Wk s N) (d : Int) : Wk (s.toWord s.hd s.tl (clM s.md d)) N := ⟨shut_word h.b d, ⟨h.v.cf, h.v.sl, h.v.th⟩, h.l⟩
theorem closeN_wk {s : St} {N n : Nat} (h : Wk s N) (hn : n < s.th.length) (h1 : (gth s.th n).st ≠ 0) : Wk (closeN s n) (N + 1) := by
  have up : ∀ {u : St}, Wk u N → Wk u (N + 1) := fun w => ⟨w.b, w.v, by have := w.l; omega⟩
  refine closeN_ind (P := fun u => Wk u (N + 1)) ?_ ?_ ?_
  · have hw := h.shut (modeI (gth s.th n).ki)
    refine ⟨told_stB hw.b hn h1 (by decide) (by decide), hw.v.told hw.b hn (.inr (by constructor <;> omega)), ?_⟩
    have := told_lg hw.b (n := n) hn (k := (gth s.th n).ki) (r := 1) (g := 0) (p := 1)
    have hl : (s.toWord s.hd s.tl (clM s.md (modeI (gth s.th n).ki))).lg.length = s.lg.length := rfl
    have := h.l
    show (toldS _ n _ 1 0 1).lg.length ≤ _
    omega
  · rw [fullC_is h.b]; exact up (Wk.wakes _ (wk_full h hn h1))
  · rw [emptyC_is h.b]; exact up (Wk.wakes _ (wk_empty h hn h1))
theorem line_le {m : Int} {l : List Int} (h : stnB m l = true) : l.length ≤ 16 := ok_len (stn_iff.1 h).1
end
section
variable {s : St} {i m o : Int} {b : Bool}
end
end Go.Proofs.YtfhjllchbgclaaaGreat

/- Plain functions of layer 4 (who is late): dues, their order, what is put, dropped and late. -/
namespace Go.Proofs.YtfhjllchbgclaaaGreat
set_option linter.unusedVariables false
set_option linter.unusedSimpArgs false

/-- A due. -/
structure Du where
  tm : Int
  id : Int
def Du.cells (d : Du) : List Value := [.int .i64 d.tm, .int .i64 d.id]
theorem Du.enc : Enc 2 Du.cells := ⟨fun _ => rfl, fun x c hc => by simp [Du.cells] at hc; rcases hc with rfl | rfl <;> rfl⟩
def dahB (a b : Du) : Bool := decide (a.tm < b.tm) || (a.tm == b.tm && decide (a.id < b.id))
def inTB (d : Du) : Bool := decide (0 ≤ d.tm) && decide (d.tm ≤ 1099511627776)
def ofTB (d : Du) : Bool := decide (0 ≤ d.id) && decide (d.id < 16)

theorem inT_iff {d : Du} : inTB d = true ↔ 0 ≤ d.tm ∧ d.tm ≤ 1099511627776 := by simp [inTB]
theorem ahead_iff {a b : Du} : dahB a b = true ↔ a.tm < b.tm ∨ (a.tm = b.tm ∧ a.id < b.id) := by simp [dahB]
theorem nahead_iff {a b : Du} : dahB a b = false ↔ ¬ (a.tm < b.tm ∨ (a.tm = b.tm ∧ a.id < b.id)) := by
  rw [← ahead_iff]; simp
theorem ahead_trans {a b c : Du} (h : dahB a b = true) (k : dahB b c = true) : dahB a c = true := by rw [ahead_iff] at *; omega
theorem ahead_asymm {a b : Du} (h : dahB a b = true) : dahB b a = false := by rw [ahead_iff] at h; rw [nahead_iff]; omega
theorem nahead_trans {a b c : Du} (h : dahB a b = false) (k : dahB b c = false) : dahB a c = false := by rw [nahead_iff] at *; omega
theorem ahead_irrefl (a : Du) : dahB a a = false := by rw [nahead_iff]; omega
theorem nahead_of {a b c : Du} (h : dahB a c = false) (k : dahB b c = true) : dahB a b = false := by rw [nahead_iff] at *; rw [ahead_iff] at k; omega
theorem ahead_total {a b : Du} (h : a.id ≠ b.id) (k : dahB a b = false) : dahB b a = true := by rw [nahead_iff] at k; rw [ahead_iff]; omega
/-- Each ahead of the one behind it. -/
abbrev Sorted (l : List Du) : Prop := l.Pairwise (fun a b => dahB a b = true)
/-- No two are one. -/
abbrev Apart (l : List Du) : Prop := l.Pairwise (fun a b => a.id ≠ b.id)
def okB (l : List Du) : Bool := l.all (fun d => inTB d && ofTB d) && decide (Sorted l) && decide (Apart l)
theorem dok_iff {l : List Du} : okB l = true ↔ (∀ d ∈ l, inTB d = true ∧ ofTB d = true) ∧ Sorted l ∧ Apart l := by
  simp [okB, and_assoc]
theorem ok_sub {l m : List Du} (h : okB l = true) (hs : m.Sublist l) : okB m = true := by
  rw [dok_iff] at *
  exact ⟨fun d hd => h.1 d (hs.subset hd), h.2.1.sublist hs, h.2.2.sublist hs⟩

theorem sorted_unique : ∀ {l m : List Du}, l.Perm m → Sorted l → Sorted m → l = m
  | [], m, h, _, _ => (List.nil_perm.1 h).symm
  | a :: l, m, h, hl, hm => by
    cases m with
    | nil => exact absurd h (by simp)
    | cons b m =>
      rw [Sorted, List.pairwise_cons] at hl hm
      have hab : a = b := by
        rcases List.mem_cons.1 (h.mem_iff.1 (List.mem_cons_self ..)) with e | ha
        · exact e
        rcases List.mem_cons.1 (h.mem_iff.2 (List.mem_cons_self ..)) with e | hb
        · exact e.symm
        have := ahead_asymm (hl.1 b hb)
        rw [hm.1 a ha] at this
        cases this
      subst hab
      rw [sorted_unique (List.perm_cons _ |>.1 h) hl.2 hm.2]

/-- One more, in its place. -/
def ins (d : Du) : List Du → List Du
  | [] => [d]
  | e :: l => if dahB d e = true then d :: e :: l else e :: ins d l
/-- In order. -/
def srt (l : List Du) : List Du := l.foldr ins []
theorem ins_perm (d : Du) : ∀ l : List Du, (ins d l).Perm (d :: l)
  | [] => List.Perm.refl _
  | e :: l => by
    unfold ins
    split
    · exact List.Perm.refl _
    · exact ((ins_perm d l).cons e).trans (List.Perm.swap d e l)
theorem ins_sorted {d : Du} : ∀ {l : List Du}, Sorted l → (∀ e ∈ l, e.id ≠ d.id) → Sorted (ins d l)
  | [], _, _ => by simp [ins, Sorted]
  | e :: l, h, hd => by
    unfold ins
    rw [Sorted, List.pairwise_cons] at h
    split
    · rename_i hde
      refine List.pairwise_cons.2 ⟨fun x hx => ?_, List.pairwise_cons.2 h⟩
      rcases List.mem_cons.1 hx with rfl | hx
      · exact hde
      · exact ahead_trans hde (h.1 x hx)
    · rename_i hde
      refine List.pairwise_cons.2 ⟨fun x hx => ?_, ins_sorted h.2 (fun y hy => hd y (List.mem_cons_of_mem _ hy))⟩
      rcases List.mem_cons.1 ((ins_perm d l).mem_iff.1 hx) with rfl | hx
      · exact ahead_total (Ne.symm (hd e (List.mem_cons_self ..))) (by simpa using hde)
      · exact h.1 x hx
theorem srt_perm : ∀ l : List Du, (srt l).Perm l
  | [] => List.Perm.refl _
  | d :: l => (ins_perm d _).trans ((srt_perm l).cons d)
theorem srt_sorted : ∀ {l : List Du}, Apart l → Sorted (srt l)
  | [], _ => by simp [srt]
  | d :: l, h => by
    rw [Apart, List.pairwise_cons] at h
    exact ins_sorted (srt_sorted h.2) (fun e he => Ne.symm (h.1 e ((srt_perm l).mem_iff.1 he)))
theorem srt_eq {l m : List Du} (h : m.Perm l) (hm : Sorted m) (ha : Apart l) : srt l = m := sorted_unique ((srt_perm l).trans h.symm) (srt_sorted ha) hm
theorem srt_id {l : List Du} (h : Sorted l) (ha : Apart l) : srt l = l := srt_eq (List.Perm.refl _) h ha
theorem srt_len (l : List Du) : (srt l).length = l.length := (srt_perm l).length_eq
theorem apart_perm {l m : List Du} (h : l.Perm m) (ha : Apart l) : Apart m := (h.pairwise_iff (fun {_ _} k => Ne.symm k)).1 ha

def dhasB (l : List Du) (i : Int) : Bool := l.any (fun e => e.id == i)
theorem dhas_iff {l : List Du} {i : Int} : dhasB l i = true ↔ ∃ e ∈ l, e.id = i := by simp [dhasB]
theorem nhas_iff {l : List Du} {i : Int} : dhasB l i = false ↔ ∀ e ∈ l, e.id ≠ i := by simp [dhasB]
def codeI (l : List Du) (d : Du) : Int := if okB l = false then 40 else if inTB d = false then 50 else if ofTB d = false then 40 else if dhasB l d.id = true then 60 else 0
def putL (l : List Du) (d : Du) : List Du := if codeI l d = 0 then srt (l ++ [d]) else l
def dropI (l : List Du) (i : Int) : Int := if okB l = true ∧ dhasB l i = true then 0 else 40
def without (l : List Du) (i : Int) : List Du := l.filter (fun e => !(e.id == i))
def dropL (l : List Du) (i : Int) : List Du := if dropI l i = 0 then without l i else l
def lateB (now : Int) (d : Du) : Bool := decide (d.tm ≤ now)
theorem late_iff {now : Int} {d : Du} : lateB now d = true ↔ d.tm ≤ now := by simp [lateB]
def lateI (l : List Du) (now : Int) : List Int := if okB l = true then (l.takeWhile (lateB now)).map Du.id else []
def restL (l : List Du) (now : Int) : List Du := if okB l = true then l.dropWhile (lateB now) else l

/-- One more round of what lets threads stand. -/
theorem dok_snoc {l : List Du} {d : Du} (h : okB l = true) (h1 : dhasB l d.id = false) (h2 : inTB d = true) (h3 : ofTB d = true) (h4 : ∀ e, l.getLast? = some e → dahB e d = true) : okB (l ++ [d]) = true := by
  rw [dok_iff] at *
  obtain ⟨ha, hs, hp⟩ := h
  refine ⟨fun e he => ?_, ?_, ?_⟩
  · rcases List.mem_append.1 he with he | he
    · exact ha e he
    · rw [List.mem_singleton] at he; subst he; exact ⟨h2, h3⟩
  · refine List.pairwise_append.2 ⟨hs, by simp, fun a hA b hb => ?_⟩
    rw [List.mem_singleton] at hb; subst hb
    cases hl : l.getLast? with
    | none => rw [List.getLast?_eq_none_iff] at hl; subst hl; simp at hA
    | some e =>
      have h5 := h4 e hl
      obtain ⟨k, rfl⟩ := List.getLast?_eq_some_iff.1 hl
      rw [Sorted, List.pairwise_append] at hs
      rcases List.mem_append.1 hA with hA | hA
      · exact ahead_trans (hs.2.2 a hA e (by simp)) h5
      · rw [List.mem_singleton] at hA; subst hA; exact h5
  · refine List.pairwise_append.2 ⟨hp, by simp, fun a hA b hb => ?_⟩
    rw [List.mem_singleton] at hb; subst hb
    exact nhas_iff.1 h1 a hA
theorem ok_not_snoc {l r : List Du} {d : Du} (h : dhasB l d.id = true ∨ inTB d = false ∨ ofTB d = false ∨ ∃ e, l.getLast? = some e ∧ dahB e d = false) : okB (l ++ d :: r) = false := by
  cases hk : okB (l ++ d :: r)
  · rfl
  rw [dok_iff] at hk
  obtain ⟨ha, hs, hp⟩ := hk
  rw [Sorted, List.pairwise_append] at hs
  rw [Apart, List.pairwise_append] at hp
  have hd := ha d (by simp)
  rcases h with h | h | h | ⟨e, he, h⟩
  · obtain ⟨x, hx, hxd⟩ := dhas_iff.1 h
    exact absurd hxd (hp.2.2 x hx d (by simp))
  · rw [h] at hd; cases hd.1
  · rw [h] at hd; cases hd.2
  · rw [hs.2.2 e (List.mem_of_getLast? he) d (by simp)] at h; cases h

/-! ### The laws, of plain lists -/
theorem ok_put {l : List Du} {d : Du} (h : codeI l d = 0) : okB (srt (l ++ [d])) = true ∧ okB l = true ∧ inTB d = true ∧ ofTB d = true ∧ dhasB l d.id = false := by
  unfold codeI at h
  cases h1 : okB l
  · rw [h1] at h; simp at h
  cases h2 : inTB d
  · rw [h1, h2] at h; simp at h
  cases h3 : ofTB d
  · rw [h1, h2, h3] at h; simp at h
  cases h4 : dhasB l d.id
  · refine ⟨?_, rfl, rfl, rfl, rfl⟩
    rw [dok_iff] at *
    obtain ⟨ha, hs, hp⟩ := h1
    have hap : Apart (l ++ [d]) := List.pairwise_append.2 ⟨hp, by simp, fun a hA b hb => by
      rw [List.mem_singleton] at hb; subst hb; exact nhas_iff.1 h4 a hA⟩
    refine ⟨fun e he => ?_, srt_sorted hap, apart_perm (srt_perm _).symm hap⟩
    rcases List.mem_append.1 ((srt_perm _).mem_iff.1 he) with he | he
    · exact ha e he
    · rw [List.mem_singleton] at he; subst he; exact ⟨h2, h3⟩
  · rw [h1, h2, h3, h4] at h; simp at h
theorem code_mk {l : List Du} {d : Du} (h1 : okB l = true) (h2 : inTB d = true) (h3 : ofTB d = true) (h4 : dhasB l d.id = false) : codeI l d = 0 := by simp [codeI, h1, h2, h3, h4]
theorem putL_ok {l : List Du} {d : Du} (h : codeI l d = 0) : putL l d = srt (l ++ [d]) := by simp [putL, h]
theorem has_put {l : List Du} {d : Du} (h : codeI l d = 0) : dhasB (srt (l ++ [d])) d.id = true := dhas_iff.2 ⟨d, (srt_perm _).mem_iff.2 (by simp), rfl⟩
/-- Who was put, and dropped, leaves the others as they were. -/
theorem back {l : List Du} {d : Du} (h : codeI l d = 0) : dropI (putL l d) d.id = 0 ∧ dropL (putL l d) d.id = l ∧ okB (putL l d) = true ∧ (putL l d).length = l.length + 1 ∧ codeI (putL l d) d = 60 := by
  obtain ⟨h0, h1, h2, h3, h4⟩ := ok_put h
  rw [putL_ok h]
  have h5 := has_put h
  have h6 : dropI (srt (l ++ [d])) d.id = 0 := by simp [dropI, h0, h5]
  refine ⟨h6, ?_, h0, by rw [srt_len]; simp, by simp [codeI, h0, h2, h3, h5]⟩
  unfold dropL
  rw [if_pos h6]
  have hp : (without (srt (l ++ [d])) d.id).Perm l := by
    refine ((srt_perm (l ++ [d])).filter _).trans ?_
    rw [List.filter_append, List.filter_eq_self.2 (fun e he => by simpa using nhas_iff.1 h4 e he)]
    simp
  rw [dok_iff] at h0 h1
  exact sorted_unique hp (h0.2.1.filter _) h1.2.1

theorem late_ok {l : List Du} {now : Int} (h : okB l = true) : lateI l now = (l.takeWhile (lateB now)).map Du.id ∧ restL l now = l.dropWhile (lateB now) := by simp [lateI, restL, h]
theorem rest_sub (l : List Du) (now : Int) : (restL l now).Sublist l := by
  unfold restL; split
  · exact List.dropWhile_sublist _
  · exact List.Sublist.refl _
theorem dropWhile_late {lo : Int} : ∀ {l : List Du}, Sorted l → ∀ d ∈ l.dropWhile (lateB lo), lo < d.tm
  | [], _, _, h => by simp at h
  | e :: l, hs, d, h => by
    rw [Sorted, List.pairwise_cons] at hs
    by_cases he : e.tm ≤ lo
    · rw [List.dropWhile_cons_of_pos (by simp [lateB, he])] at h
      exact dropWhile_late hs.2 d h
    · rw [List.dropWhile_cons_of_neg (by simp [lateB, he])] at h
      rcases List.mem_cons.1 h with rfl | h
      · omega
      · have := ahead_iff.1 (hs.1 d h); omega
theorem rest_late {l : List Du} {lo : Int} (h : okB l = true) : ∀ d ∈ restL l lo, lo < d.tm := by
  rw [(late_ok h).2]
  exact dropWhile_late (dok_iff.1 h).2.1

end Go.Proofs.YtfhjllchbgclaaaGreat

/- Layer 18, plain: who is to be late, when; time goes by. -/
namespace Go.Proofs.YtfhjllchbgclaaaGreat
set_option linter.unusedVariables false
set_option linter.unusedSimpArgs false
/-- Is it to be late? -/
def tdB (t : Th) : Bool := opTimed t.ki && (!(t.st == 0) && !t.la)
def tdDu (s : St) (k : Nat) : Du := ⟨(gth s.th k).un, k⟩
/-- Those of the first k threads that are to be late, in their order. -/
def tdS (s : St) : Nat → List Du
  | 0 => []
  | k + 1 => if tdB (gth s.th k) = true then putL (tdS s k) (tdDu s k) else tdS s k
def duesS (s : St) : List Du := if stB s = true then tdS s s.th.length else []
def nextT (s : St) : Int := match duesS s with
  | [] => 0
  | d :: _ => d.tm
def nextB (s : St) : Bool := !(duesS s).isEmpty
/-- Whose time is over. -/
def lateIds (l : List Du) (now : Int) : List Int := (l.filter (lateB now)).map Du.id
def lateT (t : Th) : Th := ⟨if t.st = 2 then 1 else t.st, t.ki, t.va, t.un, t.pc, t.re, t.se, t.tr, true, t.rs, t.go⟩
/-- One becomes late. -/
def lateS (s : St) (n : Nat) : St :=
  if (gth s.th n).st = 2 then ((s.toFull s.fe (cnL s.fe s.fl n)).toEmpty s.ee (cnL s.ee s.el n)).setTh n (lateT (gth s.th n)) else s.setTh n (lateT (gth s.th n))
def lateK : List Int → St → St
  | [], s => s
  | i :: l, s => lateK l (lateS s i.toNat)
def St.toNow (s : St) (n : Int) : St := ⟨s.cf, s.hd, s.tl, s.md, s.sl, s.sn, s.rc, s.fe, s.fl, s.ee, s.el, n, s.th, s.lg⟩
def tickE (s : St) (n : Int) : Int := if stB s = false then 20 else if n < 0 ∨ 1099511627776 - s.nw < n then 50 else 0
def tickI (s : St) (n : Int) : List Int := if tickE s n = 0 then lateIds (duesS s) (s.nw + n) else []
def tickS (s : St) (n : Int) : St := if tickE s n = 0 then lateK (tickI s n) (s.toNow (s.nw + n)) else s
def ticksS : St → List Int → St × Nat
  | s, [] => (s, 0)
  | s, n :: l => ((ticksS (tickS s n) l).1, (tickI s n).length + (ticksS (tickS s n) l).2)
/-! ### Dues -/
theorem td_time {t : Th} (h : thB t = true) (h1 : tdB t = true) : 0 ≤ t.un ∧ t.un ≤ 1099511627776 := by
  obtain ⟨st, ki, va, un, pc, re, se, tr, la, rs, go⟩ := t
  simp only [tdB, Bool.and_eq_true] at h1
  simp only [thB, thWaits, h1.1, if_true, Bool.and_eq_true, thIn, decide_eq_true_eq] at h
  exact ⟨h.2.1.1, h.2.1.2⟩
theorem td_ok {s : St} (h : stB s = true) : ∀ {k : Nat}, k ≤ s.th.length → okB (tdS s k) = true ∧ ∀ d, d ∈ tdS s k ↔ ∃ i, i < k ∧ tdB (gth s.th i) = true ∧ d = tdDu s i
  | 0, _ => ⟨rfl, fun d => ⟨fun hd => (List.not_mem_nil hd).elim, fun ⟨i, hi, _⟩ => absurd hi (by omega)⟩⟩
  | k + 1, hk => by
    obtain ⟨h1, h2⟩ := td_ok h (k := k) (by omega)
    by_cases ht : tdB (gth s.th k) = true
    · have e : tdS s (k + 1) = putL (tdS s k) (tdDu s k) := by simp [tdS, ht]
      have hth := (th_len h).2.2
      have hu := td_time (gth_ok h (show k < s.th.length by omega)) ht
      have hc : codeI (tdS s k) (tdDu s k) = 0 := code_mk h1 (inT_iff.2 hu) (by unfold ofTB; rw [Bool.and_eq_true]; exact ⟨decide_eq_true (show (0 : Int) ≤ (k : Int) by omega), decide_eq_true (show (k : Int) < 16 by omega)⟩) (nhas_iff.2 fun d hd => by
        obtain ⟨i, hi, -, rfl⟩ := (h2 d).1 hd
        show ((i : Int)) ≠ (k : Int)
        omega)
      rw [e, putL_ok hc]
      refine ⟨(ok_put hc).1, fun d => ?_⟩
      rw [(srt_perm _).mem_iff, List.mem_append, List.mem_singleton, h2]
      constructor
      · rintro (⟨i, hi, a, b⟩ | rfl)
        · exact ⟨i, by omega, a, b⟩
        · exact ⟨k, by omega, ht, rfl⟩
      · rintro ⟨i, hi, a, b⟩
        by_cases e : i = k
        · subst e; exact .inr b
        · exact .inl ⟨i, by omega, a, b⟩
    · have e : tdS s (k + 1) = tdS s k := by simp [tdS, ht]
      rw [e]
      refine ⟨h1, fun d => ?_⟩
      rw [h2]
      constructor
      · rintro ⟨i, hi, a, b⟩; exact ⟨i, by omega, a, b⟩
      · rintro ⟨i, hi, a, b⟩
        by_cases e : i = k
        · subst e; exact absurd a ht
        · exact ⟨i, by omega, a, b⟩
theorem dues_ok (s : St) : okB (duesS s) = true := by
  unfold duesS; split
  · next h => exact (td_ok h (Nat.le_refl _)).1
  · rfl
theorem mem_dues {s : St} (h : stB s = true) {d : Du} : d ∈ duesS s ↔ ∃ i, i < s.th.length ∧ tdB (gth s.th i) = true ∧ d = tdDu s i := by
  unfold duesS; rw [if_pos h]; exact (td_ok h (Nat.le_refl _)).2 d
/-- Dues that may be, of which just these are, are these. -/
theorem dues_uniq {l m : List Du} (hl : okB l = true) (hm : okB m = true) (h : ∀ d, d ∈ l ↔ d ∈ m) : l = m := by
  have a := (dok_iff.1 hl).2
  have b := (dok_iff.1 hm).2
  have nd : ∀ {l : List Du}, Apart l → l.Nodup := fun h => h.imp fun {x y} k e => k (by rw [e])
  exact sorted_unique ((List.perm_ext_iff_of_nodup (nd a.2) (nd b.2)).2 h) a.1 b.1
theorem mem_late {s : St} (h : stB s = true) {now j : Int} : j ∈ lateIds (duesS s) now ↔ ∃ i : Nat, j = i ∧ i < s.th.length ∧ tdB (gth s.th i) = true ∧ (gth s.th i).un ≤ now := by
  unfold lateIds
  rw [List.mem_map]
  constructor
  · rintro ⟨d, hd, rfl⟩
    obtain ⟨h1, h2⟩ := List.mem_filter.1 hd
    obtain ⟨i, hi, a, rfl⟩ := (mem_dues h).1 h1
    exact ⟨i, rfl, hi, a, late_iff.1 h2⟩
  · rintro ⟨i, rfl, hi, a, b⟩
    exact ⟨tdDu s i, List.mem_filter.2 ⟨(mem_dues h).2 ⟨i, hi, a, rfl⟩, late_iff.2 b⟩, rfl⟩
/-- In order, whose time is over stand ahead. -/
theorem filter_take {now : Int} : ∀ {l : List Du}, Sorted l → l.filter (lateB now) = l.takeWhile (lateB now)
  | [], _ => rfl
  | d :: l, h => by
    have h := List.pairwise_cons.1 h
    by_cases hd : lateB now d = true
    · rw [List.filter_cons_of_pos hd, List.takeWhile_cons_of_pos hd, filter_take h.2]
    · rw [List.filter_cons_of_neg hd, List.takeWhile_cons_of_neg hd]
      refine List.filter_eq_nil_iff.2 fun e he => ?_
      have h1 := ahead_iff.1 (h.1 e he)
      rw [late_iff] at hd ⊢
      omega
theorem late_is {l : List Du} (h : okB l = true) (now : Int) : lateIds l now = lateI l now := by
  unfold lateIds lateI
  rw [if_pos h, filter_take (dok_iff.1 h).2.1]
/-! ### One becomes late -/
theorem lateT_two (t : Th) : lateT (lateT t) = lateT t := by
  unfold lateT
  by_cases h : t.st = 2 <;> simp [h]
theorem lateT_ok {t : Th} (h : thB t = true) (h1 : opTimed t.ki = true) (h2 : t.st ≠ 0) : thB (lateT t) = true := by
  obtain ⟨st, ki, va, un, pc, re, se, tr, la, rs, go⟩ := t
  simp only at h1 h2
  simp only [thB, lateT, thWaits, h1, if_true] at h ⊢
  by_cases e : st = 2
  · subst e
    simp only [if_true]
    simp only [thDoes, thIn, Bool.and_eq_true] at h ⊢
    refine ⟨?_, h.2.1, h.2.2.1, by simp⟩
    have := h.1
    simp at this ⊢
    exact this
  · simp only [e, if_false]
    simp only [Bool.and_eq_true] at h ⊢
    refine ⟨h.1, h.2.1, h.2.2.1, by simp [h2]⟩
theorem lateS_rest (s : St) (n : Nat) : (lateS s n).cf = s.cf ∧ (lateS s n).hd = s.hd ∧ (lateS s n).tl = s.tl ∧ (lateS s n).md = s.md ∧ (lateS s n).sl = s.sl ∧ (lateS s n).sn = s.sn ∧ (lateS s n).rc = s.rc ∧ (lateS s n).nw = s.nw ∧ (lateS s n).lg = s.lg ∧ (lateS s n).fe = s.fe ∧ (lateS s n).ee = s.ee := by
  unfold lateS; split <;> exact ⟨rfl, rfl, rfl, rfl, rfl, rfl, rfl, rfl, rfl, rfl, rfl⟩
theorem late_set (s : St) (n : Nat) : (lateS s n).th = s.th.set n (lateT (gth s.th n)) := by
  unfold lateS; split <;> rfl
theorem late_len (s : St) (n : Nat) : (lateS s n).th.length = s.th.length := by rw [late_set, List.length_set]
theorem cn_ok {ep : Int} {l : List Int} (h : okE ep l = true) (i : Int) : okE ep (cnL ep l i) = true := by
  unfold cnL; rw [if_pos h]
  unfold okE at h ⊢
  simp only [Bool.and_eq_true] at h ⊢
  exact ⟨h.1, ok_lv h.2 i⟩
theorem cn_stn {m ep : Int} {l : List Int} (h : stnB m l = true) (i : Int) : stnB m (cnL ep l i) = true := by
  unfold cnL; split
  · exact stn_lv h
  · exact h
theorem late_stB {s : St} (h : stB s = true) {n : Nat} (hn : n < s.th.length) (h1 : opTimed (gth s.th n).ki = true) (h2 : (gth s.th n).st ≠ 0) : stB (lateS s n) = true := by
  have ht := lateT_ok (gth_ok h hn) h1 h2
  obtain ⟨-, -, a, b, c, d⟩ := full_lines h
  unfold lateS; split
  · exact th_stB (empty_stB (full_stB h (cn_ok c n) (cn_stn a n)) (cn_ok d n) (cn_stn b n)) ht
  · exact th_stB h ht
theorem gth_late {s : St} {n j : Nat} (hn : n < s.th.length) : gth (lateS s n).th j = if j = n then lateT (gth s.th j) else gth s.th j := by
  rw [late_set, gth_set hn]
  by_cases e : n = j
  · subst e; simp
  · rw [if_neg e, if_neg (Ne.symm e)]
theorem lateK_rest : ∀ (l : List Int) (s : St), (lateK l s).cf = s.cf ∧ (lateK l s).hd = s.hd ∧ (lateK l s).tl = s.tl ∧ (lateK l s).md = s.md ∧ (lateK l s).sl = s.sl ∧ (lateK l s).sn = s.sn ∧ (lateK l s).rc = s.rc ∧ (lateK l s).nw = s.nw ∧ (lateK l s).lg = s.lg ∧ (lateK l s).fe = s.fe ∧ (lateK l s).ee = s.ee
  | [], _ => ⟨rfl, rfl, rfl, rfl, rfl, rfl, rfl, rfl, rfl, rfl, rfl⟩
  | i :: l, s => by
    obtain ⟨a1, a2, a3, a4, a5, a6, a7, a8, a9, a10, a11⟩ := lateK_rest l (lateS s i.toNat)
    obtain ⟨b1, b2, b3, b4, b5, b6, b7, b8, b9, b10, b11⟩ := lateS_rest s i.toNat
    exact ⟨a1.trans b1, a2.trans b2, a3.trans b3, a4.trans b4, a5.trans b5, a6.trans b6, a7.trans b7, a8.trans b8, a9.trans b9, a10.trans b10, a11.trans b11⟩
theorem lateK_len : ∀ (l : List Int) (s : St), (lateK l s).th.length = s.th.length
  | [], _ => rfl
  | i :: l, s => (lateK_len l _).trans (late_len s _)
theorem gth_lateK : ∀ (l : List Int) {s : St}, (∀ i ∈ l, 0 ≤ i ∧ i.toNat < s.th.length) → ∀ j : Nat, gth (lateK l s).th j = if (j : Int) ∈ l then lateT (gth s.th j) else gth s.th j
  | [], _, _, j => rfl
  | i :: l, s, h, j => by
    have h0 := h i List.mem_cons_self
    have ih := gth_lateK l (s := lateS s i.toNat) (fun x hx => by rw [late_len]; exact h x (List.mem_cons_of_mem _ hx)) j
    show gth (lateK l (lateS s i.toNat)).th j = _
    rw [ih, gth_late h0.2]
    by_cases e : j = i.toNat
    · have hj : (j : Int) = i := by omega
      rw [if_pos e, if_pos (show (j : Int) ∈ i :: l by rw [hj]; exact List.mem_cons_self)]
      split
      · exact lateT_two _
      · rfl
    · have hj : (j : Int) ≠ i := by omega
      rw [if_neg e]
      simp only [List.mem_cons, hj, false_or]
theorem lateK_stB : ∀ (l : List Int) {s : St}, stB s = true → (∀ i ∈ l, ∃ n : Nat, i = n ∧ n < s.th.length ∧ opTimed (gth s.th n).ki = true ∧ (gth s.th n).st ≠ 0) → stB (lateK l s) = true
  | [], _, h, _ => h
  | i :: l, s, h, hl => by
    obtain ⟨n, rfl, hn, h1, h2⟩ := hl i List.mem_cons_self
    refine lateK_stB l (s := lateS s (n : Int).toNat) (by rw [Int.toNat_natCast]; exact late_stB h hn h1 h2) fun x hx => ?_
    obtain ⟨m, rfl, hm, h3, h4⟩ := hl x (List.mem_cons_of_mem _ hx)
    rw [Int.toNat_natCast]
    refine ⟨m, rfl, by rw [late_len]; exact hm, ?_, ?_⟩
    · rw [gth_late hn]; split
      · exact h3
      · exact h3
    · rw [gth_late hn]; split
      · unfold lateT; simp only; split <;> omega
      · exact h4
/-! ### A tick -/
theorem now_stB {s : St} (h : stB s = true) {n : Int} (h0 : 0 ≤ n ∧ n ≤ 1099511627776) : stB (s.toNow n) = true := by
  obtain ⟨a1, a2, a3, a4, a5, a6, a7, a8⟩ := st_iff.1 h
  exact st_iff.2 ⟨a1, a2, a3, a4, a5, h0.1, h0.2, a8⟩
theorem nw_bd {s : St} (h : stB s = true) : 0 ≤ s.nw ∧ s.nw ≤ 1099511627776 := by
  obtain ⟨a1, a2, a3, a4, a5, a6, a7, a8⟩ := st_iff.1 h
  exact ⟨a6, a7⟩
theorem tickE_ok {s : St} {n : Int} (h : tickE s n = 0) : stB s = true ∧ 0 ≤ n ∧ s.nw + n ≤ 1099511627776 := by
  unfold tickE at h
  split at h
  · cases h
  · next hB =>
    split at h
    · cases h
    · exact ⟨by simpa using hB, by omega, by omega⟩
theorem tickE_mk {s : St} {n : Int} (h : stB s = true) (h0 : 0 ≤ n) (h1 : s.nw + n ≤ 1099511627776) : tickE s n = 0 := by
  unfold tickE; rw [if_neg (by simp [h]), if_neg (by omega)]
theorem tick_no {s : St} {n : Int} (h : tickE s n ≠ 0) : tickS s n = s ∧ tickI s n = [] := ⟨if_neg h, if_neg h⟩
theorem tick_yes {s : St} {n : Int} (h : tickE s n = 0) : tickS s n = lateK (tickI s n) (s.toNow (s.nw + n)) ∧ tickI s n = lateIds (duesS s) (s.nw + n) := ⟨if_pos h, if_pos h⟩
theorem mem_tick {s : St} {n j : Int} (h : tickE s n = 0) : j ∈ tickI s n ↔ ∃ i : Nat, j = i ∧ i < s.th.length ∧ tdB (gth s.th i) = true ∧ (gth s.th i).un ≤ s.nw + n := by
  rw [(tick_yes h).2]; exact mem_late (tickE_ok h).1
theorem td_is {t : Th} : tdB t = true ↔ opTimed t.ki = true ∧ t.st ≠ 0 ∧ t.la = false := by simp [tdB]
theorem tick_stB (s : St) (n : Int) : stB (tickS s n) = stB s := by
  by_cases h : tickE s n = 0
  · obtain ⟨hB, h0, h1⟩ := tickE_ok h
    have hb := nw_bd hB
    rw [hB, (tick_yes h).1]
    refine lateK_stB _ (now_stB hB (by omega)) fun i hi => ?_
    obtain ⟨m, rfl, hm, h2, -⟩ := (mem_tick h).1 hi
    obtain ⟨h3, h4, -⟩ := td_is.1 h2
    exact ⟨m, rfl, hm, h3, h4⟩
  · rw [(tick_no h).1]
theorem tick_len (s : St) (n : Int) : (tickS s n).th.length = s.th.length := by
  by_cases h : tickE s n = 0
  · rw [(tick_yes h).1]; exact lateK_len _ _
  · rw [(tick_no h).1]
theorem gth_tick {s : St} {n : Int} (h : tickE s n = 0) (j : Nat) : gth (tickS s n).th j = if (j : Int) ∈ tickI s n then lateT (gth s.th j) else gth s.th j := by
  rw [(tick_yes h).1]
  refine gth_lateK _ (s := s.toNow (s.nw + n)) (fun i hi => ?_) j
  obtain ⟨m, rfl, hm, -⟩ := (mem_tick h).1 hi
  exact ⟨by omega, by rw [Int.toNat_natCast]; exact hm⟩
theorem tick_rest {s : St} {n : Int} (h : tickE s n = 0) : (tickS s n).cf = s.cf ∧ (tickS s n).hd = s.hd ∧ (tickS s n).tl = s.tl ∧ (tickS s n).md = s.md ∧ (tickS s n).sl = s.sl ∧ (tickS s n).sn = s.sn ∧ (tickS s n).rc = s.rc ∧ (tickS s n).nw = s.nw + n ∧ (tickS s n).lg = s.lg ∧ (tickS s n).fe = s.fe ∧ (tickS s n).ee = s.ee := by
  rw [(tick_yes h).1]; exact lateK_rest _ _
theorem tick_wk {s : St} {N : Nat} (h : Wk s N) (n : Int) : Wk (tickS s n) N := by
  by_cases he : tickE s n = 0
  · obtain ⟨c1, -, -, -, c5, -, -, -, c9, -, -⟩ := tick_rest he
    refine ⟨(tick_stB s n).trans h.b, ⟨by rw [c1]; exact h.v.cf, by rw [c5]; exact h.v.sl, fun t ht => ?_⟩, by rw [c9]; exact h.l⟩
    obtain ⟨j, hj, rfl⟩ := List.mem_iff_getElem.1 ht
    have e : (tickS s n).th[j] = gth (tickS s n).th j := (gth_eq hj).symm
    have hj' : j < s.th.length := by rw [tick_len] at hj; exact hj
    have hv := h.v.th (gth s.th j) (gth_mem hj')
    rw [e, gth_tick he]
    split
    · exact hv
    · exact hv
  · rw [(tick_no he).1]; exact h
end Go.Proofs.YtfhjllchbgclaaaGreat

/- Layer 18, plain: what the document's Put lays where. -/
namespace Go.Proofs.YtfhjllchbgclaaaGreat
set_option linter.unusedVariables false
set_option linter.unusedSimpArgs false
theorem put_parts {l : List Du} {d : Du} (h : codeI l d = 0) : putL l d = l.filter (fun e => dahB e d) ++ d :: l.filter (fun e => dahB d e) := by
  obtain ⟨h1, h2, -, -, h5⟩ := ok_put h
  have hs := (dok_iff.1 h2).2.1
  have hne := nhas_iff.1 h5
  have tot : ∀ e ∈ l, dahB d e = !dahB e d := fun e he => by
    cases hc : dahB e d
    · rw [ahead_total (hne e he) hc]; rfl
    · rw [ahead_asymm hc]; rfl
  rw [putL_ok h]
  refine sorted_unique ?_ (dok_iff.1 h1).2.1 ?_
  · have e : l.filter (fun e => dahB d e) = l.filter (fun e => !dahB e d) := List.filter_congr fun e he => tot e he
    rw [e]
    refine (srt_perm _).trans ?_
    refine List.Perm.trans ?_ List.perm_middle.symm
    exact List.perm_append_comm.trans (List.Perm.cons d (List.filter_append_perm (fun e => dahB e d) l).symm)
  · refine List.pairwise_append.2 ⟨hs.sublist List.filter_sublist, List.pairwise_cons.2 ⟨fun e he => (List.mem_filter.1 he).2, hs.sublist List.filter_sublist⟩, fun a ha b hb => ?_⟩
    have h3 : dahB a d = true := (List.mem_filter.1 ha).2
    rcases List.mem_cons.1 hb with rfl | hb
    · exact h3
    · exact ahead_trans h3 (List.mem_filter.1 hb).2
/-- Those without one are fewer, if it is there. -/
theorem without_lt {l : List Du} {i : Int} : ((without l i).length : Int) < l.length ↔ dhasB l i = true := by
  unfold without
  rw [dhas_iff]
  constructor
  · intro h
    refine Classical.byContradiction fun hn => ?_
    have : l.filter (fun e => !(e.id == i)) = l := List.filter_eq_self.2 fun e he => by
      have : e.id ≠ i := fun h' => hn ⟨e, he, h'⟩
      simp [this]
    rw [this] at h; omega
  · rintro ⟨e, he, rfl⟩
    have h1 := List.length_filter_le (fun x : Du => !(x.id == e.id)) l
    have h2 : (l.filter (fun x : Du => !(x.id == e.id))).length ≠ l.length := fun h => by
      have := List.length_filter_eq_length_iff.1 h e he
      simp at this
    omega
end Go.Proofs.YtfhjllchbgclaaaGreat

/- Layer 18, the document's dues, by the engine. -/
namespace Go.Proofs.YtfhjllchbgclaaaGreat
set_option linter.unusedVariables false
set_option linter.unusedSimpArgs false
open Go.RowKit
def duT (d : Du) : Value := .agg #[.int .i64 d.tm, .int .i64 d.id]
def rowD (l : List Du) : Value := vRow l.length (l.map duT)
theorem allK_D (l : List Du) : AllK 2 (l.map duT) := allK_map (f := duT) (fun _ => ⟨rfl, rfl⟩) l
def gd (l : List Du) (i : Nat) : Du := l.getD i ⟨0, 0⟩
theorem gd_eq {l : List Du} {i : Nat} (h : i < l.length) : gd l i = l[i] := by simp [gd, h]
theorem ixD {l : List Du} {i : Nat} (h : i < l.length) : IxP ((l.map duT).toArray) (i : Int) (duT (gd l i)) := ⟨by omega, by simp [gd_eq h, h]⟩
/-! ### Those that .., laid behind -/
def adO : Option (List Du) → Du → Option (List Du)
  | none, d => some [d]
  | some m, d => some (m ++ [d])
def listO : Option (List Du) → List Du
  | none => []
  | some m => m
def tkO (p : Du → Bool) : List Du → Option (List Du) → Option (List Du)
  | [], o => o
  | d :: l, o => tkO p l (if p d then adO o d else o)
theorem tkO_some (p : Du → Bool) : ∀ (l m : List Du), tkO p l (some m) = some (m ++ l.filter p)
  | [], m => by simp [tkO]
  | d :: l, m => by
    show tkO p l (if p d then some (m ++ [d]) else some m) = _
    cases h : p d <;> simp [tkO_some p l, h]
theorem tkO_is (p : Du → Bool) : ∀ (l : List Du) (o : Option (List Du)), listO (tkO p l o) = listO o ++ l.filter p
  | l, some m => by rw [tkO_some]; rfl
  | [], none => rfl
  | d :: l, none => by
    show listO (tkO p l (if p d then some [d] else none)) = _
    cases h : p d
    · have := tkO_is p l none
      simpa [h] using this
    · simp [tkO_some, h, listO]
theorem tkO_at {p : Du → Bool} {l : List Du} {i : Nat} (h : i < l.length) (o : Option (List Du)) : tkO p (l.drop i) o = tkO p (l.drop (i + 1)) (if p (gd l i) then adO o (gd l i) else o) := by
  rw [List.drop_eq_getElem_cons h, gd_eq h]; rfl
theorem listO_ad (o : Option (List Du)) (d : Du) : (listO (adO o d)).length = (listO o).length + 1 := by cases o <;> simp [adO, listO]
theorem tk_loop {L : Code} {x : Exit} {Hd : Nat → Option (List Du) → Sg} {l : List Du} {p : Du → Bool} (he : ∀ o, LoopP Tryz.prog L (Hd l.length o) x (Hd l.length o))
    (hk : ∀ i, i < l.length → ∀ o, p (gd l i) = false → ∀ S, LoopP Tryz.prog L (Hd (i + 1) o) x S → LoopP Tryz.prog L (Hd i o) x S)
    (hp : ∀ i, i < l.length → ∀ o, (listO o).length ≤ i + 20 → p (gd l i) = true → ∀ S, LoopP Tryz.prog L (Hd (i + 1) (adO o (gd l i))) x S → LoopP Tryz.prog L (Hd i o) x S) :
    ∀ (k i : Nat) (o : Option (List Du)), l.length - i = k → i ≤ l.length → (listO o).length ≤ i + 20 → LoopP Tryz.prog L (Hd i o) x (Hd l.length (tkO p (l.drop i) o))
  | 0, i, o, hi, hl, _ => by
    have : i = l.length := by omega
    subst this
    rw [List.drop_length]; exact he o
  | k + 1, i, o, hi, hl, ho => by
    have h : i < l.length := by omega
    rw [tkO_at h]
    cases e : p (gd l i)
    · exact hk i h o e _ (tk_loop he hk hp k (i + 1) o (by omega) (by omega) (by omega))
    · exact hp i h o ho e _ (tk_loop he hk hp k (i + 1) _ (by omega) (by omega) (by rw [listO_ad]; omega))
def oB : Option (List Du) → List (Option Blk)
  | none => []
  | some m => [some ⟨true, true, 2, m.length, m.map duT⟩]
def oV (b : Nat) : Option (List Du) → Value
  | none => .slice none 0 0
  | some m => .slice (some ⟨b, 0, some 0⟩) m.length 0
theorem d_lt {n i : Nat} (h : i < n) : decide ((i : Int) < n) = true := by simp; omega
theorem d_nlt (n : Nat) : decide ((n : Int) < n) = false := by simp
theorem d_in {n i : Nat} (h : i < n) (hm : n ≤ 1000000) : In64 ((i : Int) + 1) := by constructor <;> omega
theorem lenD (l : List Du) : l.length = (l.map duT).length := by simp
theorem appD {m : List Du} (d : Du) (h : m.length ≤ 1000000) : AppP (m ++ [d]).length ((m ++ [d]).map duT) m.length (m.map duT) 1 [duT d] := ⟨by simp, by simp, by omega⟩
theorem appD0 (d : Du) : 0 < 1 ∧ AppP [d].length ([d].map duT) 0 [] 1 [duT d] := ⟨by omega, by simp, by simp, by omega⟩
/-! ### Without -/
def hdDw (l : List Du) (j : Int) (i : Nat) (o : Option (List Du)) : Sg := ⟨mkT 28 [(0, rowD l), (1, .int .i64 j), (5, oV 0 o), (6, .int .i64 i)], oB o⟩
set_option maxRecDepth 100000 in
theorem wo_lp {l : List Du} (j : Int) (hm : l.length ≤ 1000) : LoopP Tryz.prog (loopOf Tryz.prog 74 0) (hdDw l j 0 none) (.exit 0) (hdDw l j l.length (tkO (fun e => e.id != j) l none)) :=
  tk_loop (Hd := hdDw l j) (l := l) (p := fun e => e.id != j)
    (fun o => by cases o with
      | none => exact loop_end mixed (fuel := 9) (n := 3) (keep := [0, 1, 5, 6]) (ext := []) (im := []) (orc := [.bool false]) (an (d_nlt l.length) trivial) (by intro e; cases e) (by kernel_rfl)
      | some m => exact loop_end mixed (fuel := 9) (n := 3) (keep := [0, 1, 5, 6]) (ext := []) (im := [0]) (orc := [.bool false]) (an (d_nlt l.length) trivial) (by intro e; cases e) (by kernel_rfl))
    (fun i hi o hp S ih => by cases o with
      | none => exact loop_more mixed (fuel := 9) (n := 3) (keep := [0, 1, 5, 6]) (ext := []) (im := []) (orc := [.bool true, duT (gd l i), .bool false]) (an (d_lt hi) <| an (ixD hi) <| an hp <| an (d_in hi (by omega)) trivial) (by kernel_rfl) ih
      | some m => exact loop_more mixed (fuel := 9) (n := 3) (keep := [0, 1, 5, 6]) (ext := []) (im := [0]) (orc := [.bool true, duT (gd l i), .bool false]) (an (d_lt hi) <| an (ixD hi) <| an hp <| an (d_in hi (by omega)) trivial) (by kernel_rfl) ih)
    (fun i hi o hl hp S ih => by cases o with
      | none => exact loop_more mixed (fuel := 9) (n := 3) (keep := [0, 1, 5, 6]) (ext := []) (im := [1]) (orc := [.bool true, duT (gd l i), .bool true, duT (gd l i), rowD [gd l i]]) (an (d_lt hi) <| an (ixD hi) <| an hp <| an (ixD hi) <| an (rfl : (1 : Nat) = 1) <| an (allK_D [gd l i]) <| an (appD0 (gd l i)) <| an (d_in hi (by omega)) trivial) (by kernel_rfl) ih
      | some m => exact loop_more mixed (fuel := 9) (n := 3) (keep := [0, 1, 5, 6]) (ext := []) (im := [2]) (orc := [.bool true, duT (gd l i), .bool true, duT (gd l i), rowD (m ++ [gd l i])]) (an (d_lt hi) <| an (ixD hi) <| an hp <| an (ixD hi) <| an (rfl : (1 : Nat) = 1) <| an (allK_D [gd l i]) <| an (lenD m) <| an (appD (m := m) (gd l i) (by have : m.length ≤ i + 20 := hl; omega)) <| an (d_in hi (by omega)) trivial) (by kernel_rfl) ih)
    l.length 0 none rfl (by omega) (by simp [listO])
set_option maxRecDepth 100000 in
theorem ac_rwithout (l : List Du) (j : Int) (hm : l.length ≤ 1000) : AC Tryz.prog 74 [rowD l, .int .i64 j] (rowD (without l j)) := by
  have hL := wo_lp (l := l) j hm
  have e : without l j = listO (tkO (fun e => e.id != j) l none) := (tkO_is _ l none).symm
  rw [e]
  revert hL
  generalize tkO (fun e => e.id != j) l none = o
  intro hL
  cases o with
  | none => exact ac_path mixed (ext := []) (fuel := 9) (n := 3) (orc := [oL [] [0, 1, 5, 6] 0 [(0, rowD l), (1, .int .i64 j), (5, .slice none 0 0), (6, .int .i64 l.length)] []]) (an hL trivial) (by kernel_rfl)
  | some m => exact ac_path mixed (ext := []) (fuel := 9) (n := 3) (orc := [oL [] [0, 1, 5, 6] 0 [(0, rowD l), (1, .int .i64 j), (5, oV 0 (some m)), (6, .int .i64 l.length)] (oB (some m))]) (an hL <| an (len_map (f := duT) m) trivial) (by kernel_rfl)
/-! ### Check -/
set_option maxRecDepth 100000 in
theorem ac_rahead {a b : Du} {r : Bool} (h : dahB a b = r) : AC Tryz.prog 75 [duT a, duT b] (.bool r) := by
  subst h
  unfold dahB
  cases h0 : decide (a.tm < b.tm)
  · cases h1 : a.tm == b.tm
    · exact ac_path mixed (ext := []) (fuel := 9) (n := 3) (orc := [.bool false, .bool false]) (an h0 <| an h1 trivial) (by kernel_rfl)
    · exact ac_path mixed (ext := []) (fuel := 9) (n := 3) (orc := [.bool false, .bool true]) (an h0 <| an h1 trivial) (by kernel_rfl)
  · exact ac_path mixed (ext := []) (fuel := 9) (n := 3) (orc := [.bool true]) (an h0 trivial) (by kernel_rfl)
def hdDc (l : List Du) (i : Int) : Sg := ⟨mkT 74 [(0, rowD l), (3, .int .i64 i)], []⟩
def hdDk (l : List Du) (i k : Int) : Sg := ⟨mkT 74 [(0, rowD l), (3, .int .i64 i), (4, .int .i64 k)], []⟩
section
variable {l : List Du}
theorem gd_sorted (h : okB l = true) {k i : Nat} (hk : k < i) (hi : i < l.length) : dahB (gd l k) (gd l i) = true ∧ (gd l k).id ≠ (gd l i).id := by
  obtain ⟨-, h1, h2⟩ := dok_iff.1 h
  rw [gd_eq hi, gd_eq (by omega)]
  exact ⟨List.pairwise_iff_getElem.1 h1 k i (by omega) hi hk, List.pairwise_iff_getElem.1 h2 k i (by omega) hi hk⟩
set_option maxRecDepth 100000 in
theorem dk_lp (h : okB l = true) (hm : l.length ≤ 1000) {i : Nat} (hi : i < l.length) : ∀ (j k : Nat), i - k = j → k ≤ i → LoopP Tryz.prog (loopOf Tryz.prog 73 1) (hdDk l i k) (.exit 2) (hdDk l i i)
  | 0, k, hj, hk => by
    rw [show k = i by omega]
    exact loop_end mixed (fuel := 9) (n := 3) (im := []) (ext := [75]) (keep := [0, 3, 4]) (orc := [.bool false]) (an (d_nlt i) trivial) (by intro e; cases e) (by kernel_rfl)
  | j + 1, k, hj, hk => by
    have hk' : k < i := by omega
    have := (gd_sorted h hk' hi).2
    exact loop_more mixed (fuel := 9) (n := 3) (im := []) (ext := [75]) (keep := [0, 3, 4]) (orc := [.bool true, duT (gd l k), duT (gd l i), .bool false]) (an (d_lt hk') <| an (ixD (show k < l.length by omega)) <| an (ixD hi) <| an (show ((gd l k).id == (gd l i).id) = false by simpa using this) <| an (d_in hk' (by omega)) trivial) (by kernel_rfl) (dk_lp h hm hi j (k + 1) (by omega) (by omega))
set_option maxRecDepth 100000 in
theorem dc_more (h : okB l = true) (hm : l.length ≤ 1000) {i : Nat} (hi : i < l.length) {x : Exit} {S : Sg} (ih : LoopP Tryz.prog (loopOf Tryz.prog 73 0) (hdDc l (i + 1 : Nat)) x S) : LoopP Tryz.prog (loopOf Tryz.prog 73 0) (hdDc l i) x S := by
  have ho := (dok_iff.1 h).1 (gd l i) (by rw [gd_eq hi]; exact List.getElem_mem hi)
  have h1 := inT_iff.1 ho.1
  have h2 : 0 ≤ (gd l i).id ∧ (gd l i).id < 16 := by simpa [ofTB] using ho.2
  have hd := dk_lp h hm hi i 0 rfl (by omega)
  have a0 : decide ((gd l i).tm < 0) = false := by simp; omega
  have a1 : decide (1099511627776 < (gd l i).tm) = false := by simp; omega
  have a2 : decide ((gd l i).id < 0) = false := by simp; omega
  have a3 : decide (15 < (gd l i).id) = false := by simp; omega
  rcases Nat.eq_zero_or_pos i with h0 | h0
  · subst h0
    exact loop_more mixed (fuel := 9) (n := 3) (im := []) (ext := [75]) (keep := [0, 3]) (orc := [.bool true, duT (gd l 0), .bool false, duT (gd l 0), .bool false, duT (gd l 0), .bool false, duT (gd l 0), .bool false, .bool false, oL [] [0, 3, 4] 2 [(0, rowD l), (3, .int .i64 (0 : Nat)), (4, .int .i64 (0 : Nat))] []])
      (an (d_lt hi) <| an (ixD hi) <| an a0 <| an (ixD hi) <| an a1 <| an (ixD hi) <| an a2 <| an (ixD hi) <| an a3 <| an (show decide ((0 : Int) < (0 : Nat)) = false by simp) <| an hd <| an (d_in hi (by omega)) trivial) (by kernel_rfl) ih
  · obtain ⟨k, rfl⟩ : ∃ k, i = k + 1 := ⟨i - 1, by omega⟩
    exact loop_more mixed (fuel := 9) (n := 3) (im := []) (ext := [75]) (keep := [0, 3]) (orc := [.bool true, duT (gd l (k + 1)), .bool false, duT (gd l (k + 1)), .bool false, duT (gd l (k + 1)), .bool false, duT (gd l (k + 1)), .bool false, .bool true, duT (gd l k), duT (gd l (k + 1)), vD true, oL [] [0, 3, 4] 2 [(0, rowD l), (3, .int .i64 (k + 1 : Nat)), (4, .int .i64 (k + 1 : Nat))] []])
      (an (d_lt hi) <| an (ixD hi) <| an a0 <| an (ixD hi) <| an a1 <| an (ixD hi) <| an a2 <| an (ixD hi) <| an a3 <| an (show decide ((0 : Int) < ((k + 1 : Nat) : Int)) = true by simp) <| an (show In64 (((k + 1 : Nat) : Int) - 1) by constructor <;> omega) <| an (show IxP ((l.map duT).toArray) (((k + 1 : Nat) : Int) - 1) (duT (gd l k)) by rw [show ((k + 1 : Nat) : Int) - 1 = (k : Int) by omega]; exact ixD (by omega)) <| an (ixD hi) <| an (ac_rahead (gd_sorted h (show k < k + 1 by omega) hi).1) <| an hd <| an (d_in hi (by omega)) trivial) (by kernel_rfl) ih
set_option maxRecDepth 100000 in
theorem dc_lp (h : okB l = true) (hm : l.length ≤ 1000) : ∀ (k i : Nat), l.length - i = k → i ≤ l.length → LoopP Tryz.prog (loopOf Tryz.prog 73 0) (hdDc l i) (.exit 0) (hdDc l l.length)
  | 0, i, hk, hi => by
    have : i = l.length := by omega
    subst this
    exact loop_end mixed (fuel := 9) (n := 3) (im := []) (ext := [75]) (keep := [0, 3]) (orc := [.bool false]) (an (d_nlt l.length) trivial) (by intro e; cases e) (by kernel_rfl)
  | k + 1, i, hk, hi => dc_more h hm (by omega) (dc_lp h hm k (i + 1) (by omega) (by omega))
set_option maxRecDepth 100000 in
theorem ac_rdcheck (h : okB l = true) (hm : l.length ≤ 1000) : AC Tryz.prog 73 [rowD l] (.bool true) :=
  ac_path mixed (ext := []) (fuel := 9) (n := 3) (orc := [oL [] [0, 3] 0 [(0, rowD l), (3, .int .i64 l.length)] []]) (an (dc_lp h hm l.length 0 rfl (by omega)) trivial) (by kernel_rfl)
/-! ### Put -/
def hdP (q : Nat) (l : List Du) (d : Du) (i : Nat) (o : Option (List Du)) : Sg := ⟨mkT 85 [(0, rowD l), (3, pt 0), (7, oV 1 o), (q, .int .i64 i)], some ⟨true, false, 2, 1, [duT d]⟩ :: oB o⟩
set_option maxRecDepth 100000 in
theorem pa_lp (d : Du) (hm : l.length ≤ 1000) : LoopP Tryz.prog (loopOf Tryz.prog 38 0) (hdP 8 l d 0 none) (.exit 0) (hdP 8 l d l.length (tkO (fun e => dahB e d) l none)) :=
  tk_loop (Hd := hdP 8 l d) (l := l) (p := fun e => dahB e d)
    (fun o => by cases o with
      | none => exact loop_end mixed (fuel := 9) (n := 3) (ext := [75]) (keep := [0, 3, 7, 8]) (im := [0]) (orc := [.bool false]) (an (d_nlt l.length) trivial) (by intro e; cases e) (by kernel_rfl)
      | some m => exact loop_end mixed (fuel := 9) (n := 3) (ext := [75]) (keep := [0, 3, 7, 8]) (im := [0, 1]) (orc := [.bool false]) (an (d_nlt l.length) trivial) (by intro e; cases e) (by kernel_rfl))
    (fun i hi o hp S ih => by cases o with
      | none => exact loop_more mixed (fuel := 9) (n := 3) (ext := [75]) (keep := [0, 3, 7, 8]) (im := [0]) (orc := [.bool true, duT (gd l i), vD false]) (an (d_lt hi) <| an (ixD hi) <| an (ac_rahead hp) <| an (d_in hi (by omega)) trivial) (by kernel_rfl) ih
      | some m => exact loop_more mixed (fuel := 9) (n := 3) (ext := [75]) (keep := [0, 3, 7, 8]) (im := [0, 1]) (orc := [.bool true, duT (gd l i), vD false]) (an (d_lt hi) <| an (ixD hi) <| an (ac_rahead hp) <| an (d_in hi (by omega)) trivial) (by kernel_rfl) ih)
    (fun i hi o hl hp S ih => by cases o with
      | none => exact loop_more mixed (fuel := 9) (n := 3) (ext := [75]) (keep := [0, 3, 7, 8]) (im := [0, 2]) (orc := [.bool true, duT (gd l i), vD true, duT (gd l i), rowD [gd l i]]) (an (d_lt hi) <| an (ixD hi) <| an (ac_rahead hp) <| an (ixD hi) <| an (rfl : (1 : Nat) = 1) <| an (allK_D [gd l i]) <| an (appD0 (gd l i)) <| an (d_in hi (by omega)) trivial) (by kernel_rfl) ih
      | some m => exact loop_more mixed (fuel := 9) (n := 3) (ext := [75]) (keep := [0, 3, 7, 8]) (im := [0, 3]) (orc := [.bool true, duT (gd l i), vD true, duT (gd l i), rowD (m ++ [gd l i])]) (an (d_lt hi) <| an (ixD hi) <| an (ac_rahead hp) <| an (ixD hi) <| an (rfl : (1 : Nat) = 1) <| an (allK_D [gd l i]) <| an (lenD m) <| an (appD (m := m) (gd l i) (by have : m.length ≤ i + 20 := hl; omega)) <| an (d_in hi (by omega)) trivial) (by kernel_rfl) ih)
    l.length 0 none rfl (by omega) (by simp [listO])
set_option maxRecDepth 100000 in
theorem pb_lp (d : Du) (hm : l.length ≤ 1000) : ∀ (k i : Nat) (m : List Du), l.length - i = k → i ≤ l.length → m.length ≤ l.length + i + 1 → LoopP Tryz.prog (loopOf Tryz.prog 38 1) (hdP 9 l d i (some m)) (.exit 2) (hdP 9 l d l.length (some (m ++ (l.drop i).filter (fun e => dahB d e))))
  | 0, i, m, hk, hi, _ => by
    have : i = l.length := by omega
    subst this
    rw [List.drop_length, List.filter_nil, List.append_nil]
    exact loop_end mixed (fuel := 9) (n := 3) (ext := [75]) (keep := [0, 3, 7, 9]) (im := [0, 1]) (orc := [.bool false]) (an (d_nlt l.length) trivial) (by intro e; cases e) (by kernel_rfl)
  | k + 1, i, m, hk, hi', hl => by
    have hi : i < l.length := by omega
    rw [List.drop_eq_getElem_cons hi, ← gd_eq hi]
    cases hp : dahB d (gd l i)
    · rw [List.filter_cons_of_neg (by simp [hp])]
      exact loop_more mixed (fuel := 9) (n := 3) (ext := [75]) (keep := [0, 3, 7, 9]) (im := [0, 1]) (orc := [.bool true, duT (gd l i), vD false]) (an (d_lt hi) <| an (ixD hi) <| an (ac_rahead hp) <| an (d_in hi (by omega)) trivial) (by kernel_rfl) (pb_lp d hm k (i + 1) m (by omega) (by omega) (by omega))
    · rw [List.filter_cons_of_pos hp, List.append_cons]
      exact loop_more mixed (fuel := 9) (n := 3) (ext := [75]) (keep := [0, 3, 7, 9]) (im := [0, 3]) (orc := [.bool true, duT (gd l i), vD true, duT (gd l i), rowD (m ++ [gd l i])]) (an (d_lt hi) <| an (ixD hi) <| an (ac_rahead hp) <| an (ixD hi) <| an (rfl : (1 : Nat) = 1) <| an (allK_D [gd l i]) <| an (lenD m) <| an (appD (m := m) (gd l i) (by omega)) <| an (d_in hi (by omega)) trivial) (by kernel_rfl) (pb_lp d hm k (i + 1) _ (by omega) (by omega) (by simp; omega))
def dpE : List FuncId := [73, 74]
def dpO (l : List Du) (d : Du) : List Value := [vD true, .bool false, .bool false, .bool false, .bool false, rowD (without l d.id), .bool false]
set_option maxRecDepth 100000 in
theorem ac_rdput {d : Du} (h : codeI l d = 0) (hm : l.length ≤ 1000) : AC Tryz.prog 38 [rowD l, duT d] (.tuple #[rowD (putL l d), .int .i64 0]) := by
  obtain ⟨h1, h2, h3, h4, h5⟩ := ok_put h
  have b3 := inT_iff.1 h3
  have b4 : 0 ≤ d.id ∧ d.id < 16 := by simpa [ofTB] using h4
  have a0 : decide (d.tm < 0) = false := by simp; omega
  have a1 : decide (1099511627776 < d.tm) = false := by simp; omega
  have a2 : decide (d.id < 0) = false := by simp; omega
  have a3 : decide (15 < d.id) = false := by simp; omega
  have a4 : decide (((without l d.id).length : Int) < l.length) = false := by
    simp only [decide_eq_false_iff_not]
    rw [without_lt, h5]; simp
  have hL := pa_lp (l := l) d hm
  have e : putL l d = listO (tkO (fun e => dahB e d) l none) ++ d :: l.filter (fun e => dahB d e) := by rw [tkO_is]; exact put_parts h
  have hlen : (listO (tkO (fun e => dahB e d) l none)).length ≤ l.length := by rw [tkO_is]; simp [listO]; exact List.length_filter_le _ _
  rw [e]
  revert hL hlen
  generalize tkO (fun e => dahB e d) l none = o
  intro hL hlen
  rw [show listO o ++ d :: l.filter (fun e => dahB d e) = (listO o ++ [d]) ++ l.filter (fun e => dahB d e) by simp]
  have hB := pb_lp (l := l) d hm l.length 0 (listO o ++ [d]) rfl (by omega) (by simp; omega)
  rw [List.drop_zero] at hB
  generalize hr : (listO o ++ [d]) ++ l.filter (fun e => dahB d e) = r at hB ⊢
  cases o with
  | none =>
    exact ac_path mixed (ext := dpE) (fuel := 9) (n := 3) (orc := dpO l d ++ [oL [0] [0, 3, 7, 8] 0 [(0, rowD l), (3, pt 0), (7, .slice none 0 0), (8, .int .i64 l.length)] (hdP 8 l d l.length none).H, rowD [d], oL [1, 3] [0, 3, 7, 9] 2 [(0, rowD l), (3, pt 0), (7, oV 1 (some r)), (9, .int .i64 l.length)] (hdP 9 l d l.length (some r)).H])
      (an (ac_rdcheck h2 hm) <| an a0 <| an a1 <| an a2 <| an a3 <| an (ac_rwithout l d.id hm) <| an a4 <| an hL <| an (rfl : (1 : Nat) = 1) <| an (allK_D [d]) <| an (appD0 d) <| an hB <| an (len_map (f := duT) r) trivial) (by kernel_rfl)
  | some m =>
    have hml : m.length ≤ l.length := hlen
    exact ac_path mixed (ext := dpE) (fuel := 9) (n := 3) (orc := dpO l d ++ [oL [0] [0, 3, 7, 8] 0 [(0, rowD l), (3, pt 0), (7, oV 1 (some m)), (8, .int .i64 l.length)] (hdP 8 l d l.length (some m)).H, rowD (m ++ [d]), oL [1, 4] [0, 3, 7, 9] 2 [(0, rowD l), (3, pt 0), (7, oV 1 (some r)), (9, .int .i64 l.length)] (hdP 9 l d l.length (some r)).H])
      (an (ac_rdcheck h2 hm) <| an a0 <| an a1 <| an a2 <| an a3 <| an (ac_rwithout l d.id hm) <| an a4 <| an hL <| an (rfl : (1 : Nat) = 1) <| an (allK_D [d]) <| an (lenD m) <| an (appD (m := m) d (by omega)) <| an hB <| an (len_map (f := duT) r) trivial) (by kernel_rfl)
end
end Go.Proofs.YtfhjllchbgclaaaGreat

/- Layer 18, plain: what the laws say of a tick. -/
namespace Go.Proofs.YtfhjllchbgclaaaGreat
set_option linter.unusedVariables false
set_option linter.unusedSimpArgs false
/-! ### What stays -/
theorem tickE_cfg (s : St) (n : Int) : (tickE s n = 20 ↔ stB s = false) := by
  unfold tickE
  constructor
  · intro h
    split at h
    · next e => exact e
    · split at h <;> cases h
  · intro h; rw [if_pos h]
/-! ### Who is late -/
theorem lateT_la (t : Th) : (lateT t).la = true := rfl
/-- Thread j, behind a tick: it became late, or is as it was. -/
theorem tick_one {s : St} {n : Int} (h : tickE s n = 0) {j : Nat} (hj : j < s.th.length) :
    ((j : Int) ∈ tickI s n ∧ tdB (gth s.th j) = true ∧ (gth s.th j).un ≤ s.nw + n ∧ gth (tickS s n).th j = lateT (gth s.th j)) ∨ ((j : Int) ∉ tickI s n ∧ ¬ (tdB (gth s.th j) = true ∧ (gth s.th j).un ≤ s.nw + n) ∧ gth (tickS s n).th j = gth s.th j) := by
  have e := gth_tick h j
  by_cases hm : (j : Int) ∈ tickI s n
  · rw [if_pos hm] at e
    obtain ⟨i, hi, -, h1, h2⟩ := (mem_tick h).1 hm
    obtain rfl : i = j := by omega
    exact .inl ⟨hm, h1, h2, e⟩
  · rw [if_neg hm] at e
    exact .inr ⟨hm, fun ⟨h1, h2⟩ => hm ((mem_tick h).2 ⟨j, rfl, hj, h1, h2⟩), e⟩
/-! ### When -/
/-! ### Two ticks -/
theorem mem_rest {l : List Du} {lo : Int} (h : okB l = true) (d : Du) : d ∈ restL l lo ↔ d ∈ l ∧ lo < d.tm := by
  constructor
  · intro hd; exact ⟨(rest_sub l lo).subset hd, rest_late h d hd⟩
  · rintro ⟨hd, hlt⟩
    unfold restL
    rw [if_pos h]
    rw [← List.takeWhile_append_dropWhile (p := lateB lo) (l := l), List.mem_append] at hd
    rcases hd with hd | hd
    · have h1 : ∀ {l : List Du}, d ∈ l.takeWhile (lateB lo) → lateB lo d = true := fun {l} => by
        induction l with
        | nil => intro h; exact (List.not_mem_nil h).elim
        | cons e l ih =>
          intro h
          by_cases he : lateB lo e = true
          · rw [List.takeWhile_cons_of_pos he] at h
            rcases List.mem_cons.1 h with rfl | h
            · exact he
            · exact ih h
          · rw [List.takeWhile_cons_of_neg he] at h; exact (List.not_mem_nil h).elim
      have := late_iff.1 (h1 hd); omega
    · exact hd
theorem dues_tick {s : St} {n : Int} (h : tickE s n = 0) : duesS (tickS s n) = restL (duesS s) (s.nw + n) := by
  obtain ⟨hB, h0, h1⟩ := tickE_ok h
  have hA : stB (tickS s n) = true := (tick_stB s n).trans hB
  refine dues_uniq (dues_ok _) (ok_sub (dues_ok s) (rest_sub _ _)) fun d => ?_
  rw [mem_rest (dues_ok s), mem_dues hA, mem_dues hB, tick_len]
  constructor
  · rintro ⟨i, hi, ht, rfl⟩
    rcases tick_one h hi with ⟨-, -, -, e⟩ | ⟨-, h3, e⟩
    · rw [e] at ht; have := (td_is.1 ht).2.2; rw [lateT_la] at this; cases this
    · have e2 : tdDu (tickS s n) i = tdDu s i := by unfold tdDu; rw [e]
      rw [e] at ht
      rw [e2]
      exact ⟨⟨i, hi, ht, rfl⟩, by show s.nw + n < (gth s.th i).un; exact Int.lt_of_not_ge fun hle => h3 ⟨ht, hle⟩⟩
  · rintro ⟨⟨i, hi, ht, rfl⟩, hlt⟩
    have hlt' : s.nw + n < (gth s.th i).un := hlt
    rcases tick_one h hi with ⟨-, -, h2, -⟩ | ⟨-, -, e⟩
    · omega
    · exact ⟨i, hi, by rw [e]; exact ht, by unfold tdDu; rw [e]⟩
end Go.Proofs.YtfhjllchbgclaaaGreat

/- Layer 9: '==' on two slots. -/
namespace Go.Proofs.YtfhjllchbgclaaaGreat
set_option linter.unusedVariables false
set_option linter.unusedSimpArgs false
open Go.ChangeShapes Go.WideShapes Go.ChangeAt Go.RowKit
theorem slo_equal (a b : Slo) (w : World) : (Op.equal 104 (.agg #[.int .i64 a.st, .int .i64 a.vl]) (.agg #[.int .i64 b.st, .int .i64 b.vl])).run Tryz.prog w = .ok (decide (a = b)) w := by
  have hu := Tryz.underlying104
  have h3 := Tryz.underlying3
  have hp : Tryz.prog.stoodInHeld 104 = false := by kernel_rfl
  have hc : Tryz.prog.info? 3 = _ := rfl
  have e : decide (a = b) = (a.st == b.st && a.vl == b.vl) := by
    rw [Bool.eq_iff_iff]; cases a; cases b; simp
  rw [e]
  unfold Op.equal Op.maxDepth
  rw [run_equalIn_struct w 9999 _ _ _ (by unfold Program.fieldsOf; rw [hu]) hp]
  unfold Program.fieldsOf
  rw [hu]
  cases h : (a.st == b.st) <;> cases h2 : (a.vl == b.vl)
  all_goals simp [Op.eqFields, part, isAgg, run_underlying h3, run_equalIn_int _ _ _ _ _ _ _ h3, h, h2]
theorem slo_neq (a b : Slo) (w : World) : (binOp .neq 104 (.agg #[.int .i64 a.st, .int .i64 a.vl]) (.agg #[.int .i64 b.st, .int .i64 b.vl])).run Tryz.prog w = .ok (.bool (!decide (a = b))) w := by
  have h := slo_equal a b w
  have hu := Tryz.underlying104
  simp [binOp, h, run_underlying hu, Result.andThen]
end Go.Proofs.YtfhjllchbgclaaaGreat

/- Contracts told by abstract values: whether two states are one. -/
namespace Go.Proofs.YtfhjllchbgclaaaGreat
set_option linter.unusedVariables false
set_option linter.unusedSimpArgs false
open Go.RowKit
theorem ask_th (t : Th) (x y : Operand) : AskP Tryz.prog (.binOp .neq 51 x y 51) [thT t, thT t] (.bool false) :=
  ask_bin (fun x y W => (guard_agg (by kernel_rfl) x y _ _ W).1) (fun W => by simpa using th_neq t t W) x y
theorem ask_en (t : En) (x y : Operand) : AskP Tryz.prog (.binOp .neq 106 x y 106) [enT t, enT t] (.bool false) :=
  ask_bin (fun x y W => (guard_agg (by kernel_rfl) x y _ _ W).1) (fun W => by simpa using en_neq t t W) x y
theorem ask_cf (c : Cf) (x y : Operand) : AskP Tryz.prog (.binOp .eql 23 x y 23) [cfT c, cfT c] (.bool true) :=
  ask_bin (fun x y W => (guard_agg (by kernel_rfl) x y _ _ W).2) (fun W => by simpa using cf_eql c c W) x y
theorem ask_wd (h t m : Int) (x y : Operand) : AskP Tryz.prog (.binOp .eql 25 x y 25) [wdT h t m, wdT h t m] (.bool true) :=
  ask_bin (fun x y W => (guard_agg (by kernel_rfl) x y _ _ W).2) (fun W => by simpa using wo_eql ⟨h, t, m⟩ ⟨h, t, m⟩ W) x y
def hdTh (l : List Th) (i : Int) : Sg := ⟨mkT 26 [(0, rowT l), (1, rowT l), (5, .int .i64 i)], []⟩
def hdEn (l : List En) (i : Int) : Sg := ⟨mkT 26 [(0, rowE l), (1, rowE l), (5, .int .i64 i)], []⟩
def gle (l : List En) (i : Nat) : En := l.getD i ⟨0, 0, 0, 0, 0⟩
theorem ixEn {l : List En} {i : Nat} (h : i < l.length) : IxP ((l.map enT).toArray) (i : Int) (enT (gle l i)) := ⟨by omega, by simp [gle, h]⟩
set_option maxRecDepth 100000 in
theorem th_lp (l : List Th) (hm : l.length ≤ 1000000) : ∀ (k i : Nat), l.length - i = k → i ≤ l.length → LoopP Tryz.prog (loopOf Tryz.prog 33 0) (hdTh l i) (.exit 0) (hdTh l l.length)
  | 0, i, hk, hi => by
    have : i = l.length := by omega
    subst this
    exact loop_end mixed (fuel := 9) (n := 3) (im := []) (keep := [0, 1, 5]) (ext := []) (orc := [.bool false]) (an (show decide ((l.length : Int) < l.length) = false by simp) trivial) (by intro e; cases e) (by kernel_rfl)
  | k + 1, i, hk, hi => by
    have ih := th_lp l hm k (i + 1) (by omega) (by omega)
    rw [show ((i + 1 : Nat) : Int) = (i : Int) + 1 by omega] at ih
    exact loop_more mixed (fuel := 9) (n := 3) (im := []) (keep := [0, 1, 5]) (ext := []) (orc := [.bool true, thT (gth l i), thT (gth l i), .bool false, .bool false])
      (an (show decide ((i : Int) < l.length) = true by simp; omega) <| an (ixT (l := l) (n := i) (by omega)) <| an (ixT (l := l) (n := i) (by omega)) <| an (ask_th (gth l i) (.tmp 20) (.tmp 24)) <| an (rfl : false = false) <| an (show In64 ((i : Int) + 1) by constructor <;> omega) trivial) (by kernel_rfl) ih
set_option maxRecDepth 100000 in
theorem en_lp (l : List En) (hm : l.length ≤ 1000000) : ∀ (k i : Nat), l.length - i = k → i ≤ l.length → LoopP Tryz.prog (loopOf Tryz.prog 34 0) (hdEn l i) (.exit 0) (hdEn l l.length)
  | 0, i, hk, hi => by
    have : i = l.length := by omega
    subst this
    exact loop_end mixed (fuel := 9) (n := 3) (im := []) (keep := [0, 1, 5]) (ext := []) (orc := [.bool false]) (an (show decide ((l.length : Int) < l.length) = false by simp) trivial) (by intro e; cases e) (by kernel_rfl)
  | k + 1, i, hk, hi => by
    have ih := en_lp l hm k (i + 1) (by omega) (by omega)
    rw [show ((i + 1 : Nat) : Int) = (i : Int) + 1 by omega] at ih
    exact loop_more mixed (fuel := 9) (n := 3) (im := []) (keep := [0, 1, 5]) (ext := []) (orc := [.bool true, enT (gle l i), enT (gle l i), .bool false, .bool false])
      (an (show decide ((i : Int) < l.length) = true by simp; omega) <| an (ixEn (l := l) (i := i) (by omega)) <| an (ixEn (l := l) (i := i) (by omega)) <| an (ask_en (gle l i) (.tmp 20) (.tmp 24)) <| an (rfl : false = false) <| an (show In64 ((i : Int) + 1) by constructor <;> omega) trivial) (by kernel_rfl) ih
set_option maxRecDepth 100000 in
theorem ac_rthreads (l : List Th) (hm : l.length ≤ 1000000) : AC Tryz.prog 33 [rowT l, rowT l] (.bool true) :=
  ac_path mixed (ext := []) (fuel := 9) (n := 3) (orc := [.bool false, oL [] [0, 1, 5] 0 [(0, rowT l), (1, rowT l), (5, .int .i64 l.length)] []])
    (an (show ((l.length : Int) != l.length) = false by simp) <| an (th_lp l hm l.length 0 rfl (by omega)) trivial) (by kernel_rfl)
set_option maxRecDepth 100000 in
theorem ac_rlogs (l : List En) (hm : l.length ≤ 1000000) : AC Tryz.prog 34 [rowE l, rowE l] (.bool true) :=
  ac_path mixed (ext := []) (fuel := 9) (n := 3) (orc := [.bool false, oL [] [0, 1, 5] 0 [(0, rowE l), (1, rowE l), (5, .int .i64 l.length)] []])
    (an (show ((l.length : Int) != l.length) = false by simp) <| an (en_lp l hm l.length 0 rfl (by omega)) trivial) (by kernel_rfl)
theorem ask_slv (t : Slo) (x y : Operand) : AskP Tryz.prog (.binOp .neq 104 x y 104) [slT t, slT t] (.bool false) :=
  ask_bin (fun x y W => (guard_agg (by kernel_rfl) x y _ _ W).1) (fun W => by simpa using slo_neq t t W) x y
def hdRw (r : Value) (n i : Int) : Sg := ⟨mkT 26 [(0, r), (1, r), (5, .int .i64 i)], []⟩
set_option maxRecDepth 100000 in
theorem rin_lp (l : List Int) (hm : l.length ≤ 1000000) : ∀ (k i : Nat), l.length - i = k → i ≤ l.length → LoopP Tryz.prog (loopOf Tryz.prog 18 0) (hdRw (rowI l) 0 i) (.exit 0) (hdRw (rowI l) 0 l.length)
  | 0, i, hk, hi => by
    have : i = l.length := by omega
    subst this
    exact loop_end mixed (fuel := 9) (n := 3) (im := []) (keep := [0, 1, 5]) (ext := []) (orc := [.bool false]) (an (lt_noV l.length) trivial) (by intro e; cases e) (by kernel_rfl)
  | k + 1, i, hk, hi => by
    have hi' : i < l.length := by omega
    exact loop_more mixed (fuel := 9) (n := 3) (im := []) (keep := [0, 1, 5]) (ext := []) (orc := [.bool true, .int .i64 l[i], .int .i64 l[i], .bool false]) (an (lt_yesV hi') <| an (ixV hi') <| an (ixV hi') <| an (show (l[i] != l[i]) = false by simp) <| an (show In64 ((i : Int) + 1) by constructor <;> omega) trivial) (by kernel_rfl) (rin_lp l hm k (i + 1) (by omega) (by omega))
set_option maxRecDepth 100000 in
theorem rsl_lp (l : List Slo) (hm : l.length ≤ 1000) : ∀ (k i : Nat), l.length - i = k → i ≤ l.length → LoopP Tryz.prog (loopOf Tryz.prog 31 0) (hdRw (rowS l) 0 i) (.exit 0) (hdRw (rowS l) 0 l.length)
  | 0, i, hk, hi => by
    have : i = l.length := by omega
    subst this
    exact loop_end mixed (fuel := 9) (n := 3) (im := []) (keep := [0, 1, 5]) (ext := []) (orc := [.bool false]) (an (lt_noV l.length) trivial) (by intro e; cases e) (by kernel_rfl)
  | k + 1, i, hk, hi => by
    have hi' : i < l.length := by omega
    exact loop_more mixed (fuel := 9) (n := 3) (im := []) (keep := [0, 1, 5]) (ext := []) (orc := [.bool true, slT (gs l i), slT (gs l i), .bool false, .bool false]) (an (lt_yesV hi') <| an (ixSv hi') <| an (ixSv hi') <| an (ask_slv (gs l i) (.tmp 20) (.tmp 24)) <| an (rfl : false = false) <| an (show In64 ((i : Int) + 1) by constructor <;> omega) trivial) (by kernel_rfl) (rsl_lp l hm k (i + 1) (by omega) (by omega))
set_option maxRecDepth 100000 in
theorem ac_rints (l : List Int) (hm : l.length ≤ 1000000) : AC Tryz.prog 18 [rowI l, rowI l] (.bool true) :=
  ac_path mixed (ext := []) (fuel := 9) (n := 3) (orc := [.bool false, oL [] [0, 1, 5] 0 [(0, rowI l), (1, rowI l), (5, .int .i64 l.length)] []]) (an (show ((l.length : Int) != l.length) = false by simp) <| an (rin_lp l hm l.length 0 rfl (by omega)) trivial) (by kernel_rfl)
set_option maxRecDepth 100000 in
theorem ac_rssame (l : List Slo) (hm : l.length ≤ 1000) : AC Tryz.prog 31 [rowS l, rowS l] (.bool true) :=
  ac_path mixed (ext := []) (fuel := 9) (n := 3) (orc := [.bool false, oL [] [0, 1, 5] 0 [(0, rowS l), (1, rowS l), (5, .int .i64 l.length)] []]) (an (show ((l.length : Int) != l.length) = false by simp) <| an (rsl_lp l hm l.length 0 rfl (by omega)) trivial) (by kernel_rfl)
set_option maxRecDepth 100000 in
theorem ac_resame (ep : Int) (l : List Int) (hm : l.length ≤ 1000000) : AC Tryz.prog 32 [evT ep l, evT ep l] (.bool true) := by
  rw [show (true : Bool) = (ep == ep) by simp]
  exact ac_path mixed (ext := [18]) (fuel := 9) (n := 3) (orc := [vD true]) (an (ac_rints l hm) trivial) (by kernel_rfl)
set_option maxRecDepth 100000 in
/-- A state is the same as itself. -/
theorem ac_rsame {s : St} (hw : s.few) (hl : s.lg.length ≤ 1000000) : AC Tryz.prog 17 [stT s, stT s] (.bool true) :=
  ac_path mixed (ext := [31, 18, 32, 33, 34]) (fuel := 9) (n := 3)
    (orc := [.bool true, .nilFunc, .bool true, .nilFunc, vD true, vD true, vD true, vD true, vD true, vD true, vD true, .bool true])
    (an (ask_cf s.cf (.tmp 10) (.tmp 12)) <| an (ask_wd s.hd s.tl s.md (.tmp 16) (.tmp 18)) <| an (ac_rssame s.sl hw.sl) <| an (ac_rints s.sn (by have := hw.sn; omega)) <| an (ac_rints s.rc (by have := hw.rc; omega)) <| an (ac_resame s.fe s.fl (by have := hw.fl; omega)) <| an (ac_resame s.ee s.el (by have := hw.el; omega)) <|
      an (ac_rthreads s.th (by have := hw.th; omega)) <| an (ac_rlogs s.lg hl) <| an (show (s.nw == s.nw) = true by simp) trivial) (by kernel_rfl)
end Go.Proofs.YtfhjllchbgclaaaGreat

/- Layer 18, the document's side told by plain functions, by the engine. -/
namespace Go.Proofs.YtfhjllchbgclaaaGreat
set_option linter.unusedVariables false
set_option linter.unusedSimpArgs false
open Go.RowKit
set_option maxRecDepth 100000 in
theorem ac_rtimed {k : Int} {b : Bool} (h : opTimed k = b) : AC Tryz.prog 37 [.int .i64 k] (.bool b) := by
  subst h
  unfold opTimed
  cases e : k == 3
  · exact ac_path mixed (ext := []) (fuel := 9) (n := 3) (orc := [.bool false]) (an e trivial) (by kernel_rfl)
  · exact ac_path mixed (ext := []) (fuel := 9) (n := 3) (orc := [.bool true]) (an e trivial) (by kernel_rfl)
def cnE : List FuncId := [61, 111]
set_option maxRecDepth 100000 in
theorem ac_rcancel {ep : Int} {l : List Int} (i : Int) (hok : okE ep l = true) : AC Tryz.prog 63 [evT ep l, .int .i64 i] (.tuple #[evT ep (cnL ep l i), .bool (lvE l i == 0)]) := by
  rw [show cnL ep l i = lvL l i by simp [cnL, hok]]
  by_cases h : lvE l i = 0
  · rw [show (lvE l i == 0) = true by simp [h]]
    exact ac_path mixed (ext := cnE) (fuel := 9) (n := 3) (orc := [vD true, .tuple #[rowI (lvL l i), .int .i64 (lvE l i)], .bool false]) (an (ac_recheck hok) <| an (ac_rleave (i := i) (okE_ln hok)) <| an (show (lvE l i != 0) = false by simp [h]) trivial) (by kernel_rfl)
  · rw [show (lvE l i == 0) = false by simp [h], (lv_no h).2]
    exact ac_path mixed (ext := cnE) (fuel := 9) (n := 3) (orc := [vD true, .tuple #[rowI (lvL l i), .int .i64 (lvE l i)], .bool true]) (an (ac_recheck hok) <| an (ac_rleave (i := i) (okE_ln hok)) <| an (show (lvE l i != 0) = true by simp [h]) trivial) (by kernel_rfl)
/-! ### Who is to be late -/
theorem td_code {s : St} (h : stB s = true) {k : Nat} (hk : k < s.th.length) (ht : tdB (gth s.th k) = true) : codeI (tdS s k) (tdDu s k) = 0 := by
  obtain ⟨h1, h2⟩ := td_ok h (k := k) (by omega)
  have hth := (th_len h).2.2
  have hu := td_time (gth_ok h hk) ht
  refine code_mk h1 (inT_iff.2 hu) (by unfold ofTB; rw [Bool.and_eq_true]; exact ⟨decide_eq_true (show (0 : Int) ≤ (k : Int) by omega), decide_eq_true (show (k : Int) < 16 by omega)⟩) (nhas_iff.2 fun d hd => ?_)
  obtain ⟨i, hi, -, rfl⟩ := (h2 d).1 hd
  show ((i : Int)) ≠ (k : Int)
  omega
theorem putL_le (l : List Du) (d : Du) : (putL l d).length ≤ l.length + 1 := by
  unfold putL; split
  · rw [srt_len]; simp
  · omega
theorem td_len (s : St) : ∀ k, (tdS s k).length ≤ k
  | 0 => by simp [tdS]
  | k + 1 => by
    have := td_len s k
    have := putL_le (tdS s k) (tdDu s k)
    simp only [tdS]; split <;> omega
def tdO (s : St) : Nat → Option (List Du)
  | 0 => none
  | k + 1 => if tdB (gth s.th k) then some (putL (listO (tdO s k)) (tdDu s k)) else tdO s k
theorem tdO_is (s : St) : ∀ k, listO (tdO s k) = tdS s k
  | 0 => rfl
  | k + 1 => by
    simp only [tdO, tdS, tdO_is s k]
    split
    · rfl
    · exact tdO_is s k
def oRw : Option (List Du) → Value
  | none => .slice none 0 0
  | some m => rowD m
def hdDu (s : St) (i : Nat) (o : Option (List Du)) : Sg := ⟨mkT 48 [(1, pt 0), (4, oRw o), (5, .int .i64 i)], [bS s]⟩
set_option maxRecDepth 100000 in
theorem du_more {s : St} (h : stB s = true) {i : Nat} (hi : i < s.th.length) {S : Sg} (ih : LoopP Tryz.prog (loopOf Tryz.prog 21 0) (hdDu s (i + 1) (tdO s (i + 1))) (.exit 0) S) : LoopP Tryz.prog (loopOf Tryz.prog 21 0) (hdDu s i (tdO s i)) (.exit 0) S := by
  have hm := (th_len h).2.2
  have hc := td_code h hi
  have hln := td_len s i
  rw [← tdO_is] at hc hln
  have d0 := d_lt hi
  have dn := d_in hi (by omega)
  simp only [tdO] at ih
  generalize tdO s i = o at ih hc hln ⊢
  cases ht : opTimed (gth s.th i).ki
  · rw [show tdB (gth s.th i) = false by simp [tdB, ht]] at ih
    cases o with
    | none => exact loop_more mixed (fuel := 9) (n := 3) (im := [0]) (keep := [1, 4, 5]) (ext := [37, 38]) (orc := [.bool true, thT (gth s.th i), vD false]) (an d0 <| an (ixT hi) <| an (ac_rtimed ht) <| an dn trivial) (by kernel_rfl) ih
    | some m => exact loop_more mixed (fuel := 9) (n := 3) (im := [0]) (keep := [1, 4, 5]) (ext := [37, 38]) (orc := [.bool true, thT (gth s.th i), vD false]) (an d0 <| an (ixT hi) <| an (ac_rtimed ht) <| an dn trivial) (by kernel_rfl) ih
  · cases hs : (gth s.th i).st != 0
    · rw [show tdB (gth s.th i) = false by simp [tdB]; intro _ h0; simp [h0] at hs] at ih
      cases o with
      | none => exact loop_more mixed (fuel := 9) (n := 3) (im := [0]) (keep := [1, 4, 5]) (ext := [37, 38]) (orc := [.bool true, thT (gth s.th i), vD true, .bool false]) (an d0 <| an (ixT hi) <| an (ac_rtimed ht) <| an hs <| an dn trivial) (by kernel_rfl) ih
      | some m => exact loop_more mixed (fuel := 9) (n := 3) (im := [0]) (keep := [1, 4, 5]) (ext := [37, 38]) (orc := [.bool true, thT (gth s.th i), vD true, .bool false]) (an d0 <| an (ixT hi) <| an (ac_rtimed ht) <| an hs <| an dn trivial) (by kernel_rfl) ih
    · cases hl : !(gth s.th i).la
      · rw [show tdB (gth s.th i) = false by simp [tdB, hl]] at ih
        cases o with
        | none => exact loop_more mixed (fuel := 9) (n := 3) (im := [0]) (keep := [1, 4, 5]) (ext := [37, 38]) (orc := [.bool true, thT (gth s.th i), vD true, .bool true, .bool false]) (an d0 <| an (ixT hi) <| an (ac_rtimed ht) <| an hs <| an hl <| an dn trivial) (by kernel_rfl) ih
        | some m => exact loop_more mixed (fuel := 9) (n := 3) (im := [0]) (keep := [1, 4, 5]) (ext := [37, 38]) (orc := [.bool true, thT (gth s.th i), vD true, .bool true, .bool false]) (an d0 <| an (ixT hi) <| an (ac_rtimed ht) <| an hs <| an hl <| an dn trivial) (by kernel_rfl) ih
      · have hB : tdB (gth s.th i) = true := by
          have : (gth s.th i).st ≠ 0 := by simpa using hs
          simp [tdB, ht, hl, this]
        rw [hB] at ih
        have hp := ac_rdput (hc hB) (by omega)
        cases o with
        | none => exact loop_more mixed (fuel := 9) (n := 3) (im := [0]) (keep := [1, 4, 5]) (ext := [37, 38]) (orc := [.bool true, thT (gth s.th i), vD true, .bool true, .bool true, .tuple #[rowD (putL [] (tdDu s i)), .int .i64 0]]) (an d0 <| an (ixT hi) <| an (ac_rtimed ht) <| an hs <| an hl <| an hp <| an dn trivial) (by kernel_rfl) ih
        | some m => exact loop_more mixed (fuel := 9) (n := 3) (im := [0]) (keep := [1, 4, 5]) (ext := [37, 38]) (orc := [.bool true, thT (gth s.th i), vD true, .bool true, .bool true, .tuple #[rowD (putL m (tdDu s i)), .int .i64 0]]) (an d0 <| an (ixT hi) <| an (ac_rtimed ht) <| an hs <| an hl <| an hp <| an dn trivial) (by kernel_rfl) ih
set_option maxRecDepth 100000 in
theorem du_lp {s : St} (h : stB s = true) : ∀ (k i : Nat), s.th.length - i = k → i ≤ s.th.length → LoopP Tryz.prog (loopOf Tryz.prog 21 0) (hdDu s i (tdO s i)) (.exit 0) (hdDu s s.th.length (tdO s s.th.length))
  | 0, i, hk, hi => by
    have : i = s.th.length := by omega
    subst this
    generalize tdO s s.th.length = o
    cases o with
    | none => exact loop_end mixed (fuel := 9) (n := 3) (im := [0]) (keep := [1, 4, 5]) (ext := [37, 38]) (orc := [.bool false]) (an (d_nlt s.th.length) trivial) (by intro e; cases e) (by kernel_rfl)
    | some m => exact loop_end mixed (fuel := 9) (n := 3) (im := [0]) (keep := [1, 4, 5]) (ext := [37, 38]) (orc := [.bool false]) (an (d_nlt s.th.length) trivial) (by intro e; cases e) (by kernel_rfl)
  | k + 1, i, hk, hi => du_more h (by omega) (du_lp h k (i + 1) (by omega) (by omega))
set_option maxRecDepth 100000 in
theorem ac_rdues {s : St} (ho : s.ok) (hw : s.few) : AC Tryz.prog 21 [stT s] (rowD (duesS s)) := by
  cases h : stB s
  · rw [show duesS s = [] by simp [duesS, h]]
    exact ac_path mixed (fuel := 9) (n := 3) (ext := [28]) (orc := [vD false]) (an (ac_rcheck h ho hw) trivial) (by kernel_rfl)
  · rw [show duesS s = tdS s s.th.length by simp [duesS, h], ← tdO_is]
    have hL := du_lp h s.th.length 0 rfl (by omega)
    rw [show tdO s 0 = none from rfl] at hL
    generalize tdO s s.th.length = o at hL ⊢
    cases o with
    | none => exact ac_path mixed (fuel := 9) (n := 3) (ext := [28]) (orc := [vD true, oL [0] [1, 4, 5] 0 [(1, pt 0), (4, .slice none 0 0), (5, .int .i64 s.th.length)] [bS s]]) (an (ac_rcheck h ho hw) <| an hL trivial) (by kernel_rfl)
    | some m => exact ac_path mixed (fuel := 9) (n := 3) (ext := [28]) (orc := [vD true, oL [0] [1, 4, 5] 0 [(1, pt 0), (4, rowD m), (5, .int .i64 s.th.length)] [bS s]]) (an (ac_rcheck h ho hw) <| an hL trivial) (by kernel_rfl)
set_option maxRecDepth 100000 in
theorem ac_rtnext {s : St} (ho : s.ok) (hw : s.few) : AC Tryz.prog 16 [stT s] (.tuple #[.int .i64 (nextT s), .bool (nextB s)]) := by
  have hd := ac_rdues ho hw
  unfold nextT nextB
  generalize duesS s = l at hd ⊢
  cases l with
  | nil => exact ac_path mixed (fuel := 9) (n := 3) (ext := [21]) (orc := [rowD [], .bool true]) (an hd <| an (rfl : (((([] : List Du).length : Nat) : Int) == 0) = true) trivial) (by kernel_rfl)
  | cons d r => exact ac_path mixed (fuel := 9) (n := 3) (ext := [21]) (orc := [rowD (d :: r), .bool false, duT d]) (an hd <| an (show ((((d :: r).length : Nat) : Int) == 0) = false by simp; omega) <| an (ixD (l := d :: r) (i := 0) (by simp)) trivial) (by kernel_rfl)
/-! ### A tick -/
def laT (t : Th) (x : Int) : Th := ⟨x, t.ki, t.va, t.un, t.pc, t.re, t.se, t.tr, true, t.rs, t.go⟩
def ccS (s : St) (n : Nat) : St := ⟨s.cf, s.hd, s.tl, s.md, s.sl, s.sn, s.rc, s.fe, cnL s.fe s.fl n, s.ee, cnL s.ee s.el n, s.nw, s.th, s.lg⟩
set_option maxRecDepth 100000 in
theorem ac_rlate {s : St} (hB : stB s = true) {i : Int} (h : 0 ≤ i ∧ i.toNat < s.th.length) : AC Tryz.prog 29 [stT s, .int .i64 i] (stT (lateS s i.toNat)) := by
  obtain ⟨n, rfl⟩ : ∃ n : Nat, i = n := ⟨i.toNat, by omega⟩
  rw [Int.toNat_natCast] at h ⊢
  have hn := h.2
  have hm := (th_len hB).2.2
  obtain ⟨-, -, -, -, hf, he⟩ := full_lines hB
  by_cases h2 : (gth s.th n).st = 2
  · have e : lateS s n = (ccS s n).setTh n (laT (gth s.th n) 1) := by unfold lateS lateT; rw [if_pos h2, if_pos h2]; rfl
    rw [e]
    exact ac_path mixed (fuel := 9) (n := 3) (ext := [63, 64]) (orc := [thT (gth s.th n), .bool true, .tuple #[evT s.fe (cnL s.fe s.fl n), .bool (lvE s.fl n == 0)], .tuple #[evT s.ee (cnL s.ee s.el n), .bool (lvE s.el n == 0)], stT ((ccS s n).setTh n (laT (gth s.th n) 1))])
      (an (ixT hn) <| an (show ((gth s.th n).st == 2) = true by simp [h2]) <| an (ac_rcancel (n : Int) hf) <| an (ac_rcancel (n : Int) he) <| an (ac_rwith (ccS s n) n (laT (gth s.th n) 1) hn (by show s.th.length ≤ 1000; omega)) trivial) (by kernel_rfl)
  · have e : lateS s n = s.setTh n (laT (gth s.th n) (gth s.th n).st) := by unfold lateS lateT; rw [if_neg h2, if_neg h2]; rfl
    rw [e]
    exact ac_path mixed (fuel := 9) (n := 3) (ext := [63, 64]) (orc := [thT (gth s.th n), .bool false, stT (s.setTh n (laT (gth s.th n) (gth s.th n).st))])
      (an (ixT hn) <| an (show ((gth s.th n).st == 2) = false by simpa using h2) <| an (ac_rwith s n (laT (gth s.th n) (gth s.th n).st) hn (by omega)) trivial) (by kernel_rfl)
def adI : Option (List Int) → Int → Option (List Int)
  | none, d => some [d]
  | some m, d => some (m ++ [d])
def listI : Option (List Int) → List Int
  | none => []
  | some m => m
def lsO : List Int → Option (List Int) → Option (List Int)
  | [], o => o
  | x :: r, o => lsO r (adI o x)
theorem lsO_is : ∀ (l : List Int) (o : Option (List Int)), listI (lsO l o) = listI o ++ l
  | [], o => by simp [lsO]
  | x :: r, o => by
    show listI (lsO r (adI o x)) = _
    rw [lsO_is r]
    cases o <;> simp [adI, listI]
theorem listI_ad (o : Option (List Int)) (d : Int) : (listI (adI o d)).length = (listI o).length + 1 := by cases o <;> simp [adI, listI]
def iB : Option (List Int) → List (Option Blk)
  | none => []
  | some m => [some ⟨true, true, 1, m.length, m.map (Value.int .i64 ·)⟩]
def iV (b : Nat) : Option (List Int) → Value
  | none => .slice none 0 0
  | some m => .slice (some ⟨b, 0, some 0⟩) m.length 0
def hdTk (s : St) (l : List Du) (i : Nat) (o : Option (List Int)) : Sg := ⟨mkT 64 [(2, pt 0), (4, pt 1), (8, rowD l), (9, iV 2 o), (10, .int .i64 i)], bS s :: bZ :: iB o⟩
theorem appI {m : List Int} (d : Int) (h : m.length ≤ 1000000) : AppP (m ++ [d]).length ((m ++ [d]).map (Value.int .i64 ·)) m.length (m.map (Value.int .i64 ·)) 1 [.int .i64 d] := ⟨by simp, by simp, by omega⟩
theorem appI0 (d : Int) : 0 < 1 ∧ AppP [d].length ([d].map (Value.int .i64 ·)) 0 [] 1 [.int .i64 d] := ⟨by omega, by simp, by simp, by omega⟩
theorem lateIds_cons (d : Du) (l : List Du) (now : Int) : lateIds (d :: l) now = if lateB now d then d.id :: lateIds l now else lateIds l now := by
  unfold lateIds
  cases h : lateB now d <;> simp [h]
/-- Who may become late. -/
def TdOk (s : St) (i : Int) : Prop := 0 ≤ i ∧ i.toNat < s.th.length ∧ opTimed (gth s.th i.toNat).ki = true ∧ (gth s.th i.toNat).st ≠ 0
theorem TdOk.late {s : St} {i j : Int} (h : TdOk s i) (hj : TdOk s j) : TdOk (lateS s j.toNat) i := by
  obtain ⟨h0, h1, h2, h3⟩ := h
  refine ⟨h0, by rw [late_len]; exact h1, ?_, ?_⟩
  · rw [gth_late hj.2.1]; split
    · exact h2
    · exact h2
  · rw [gth_late hj.2.1]; split
    · unfold lateT; simp only; split <;> omega
    · exact h3
set_option maxRecDepth 100000 in
theorem tk_more {s : St} {l : List Du} {o : Option (List Int)} {i : Nat} (hB : stB s = true) (hm : l.length ≤ 1000) (hi : i < l.length) (hd : TdOk s (gd l i).id) (ho : (listI o).length ≤ i) {S : Sg}
    (ih : LoopP Tryz.prog (loopOf Tryz.prog 12 0) (if lateB s.nw (gd l i) then hdTk (lateS s (gd l i).id.toNat) l (i + 1) (adI o (gd l i).id) else hdTk s l (i + 1) o) (.exit 0) S) : LoopP Tryz.prog (loopOf Tryz.prog 12 0) (hdTk s l i o) (.exit 0) S := by
  cases hl : lateB s.nw (gd l i)
  · rw [hl] at ih
    cases o with
    | none => exact loop_more mixed (fuel := 9) (n := 3) (keep := [2, 4, 8, 9, 10]) (ext := [29]) (im := [0, 1]) (orc := [.bool true, duT (gd l i), .bool false]) (an (d_lt hi) <| an (ixD hi) <| an hl <| an (d_in hi (by omega)) trivial) (by kernel_rfl) ih
    | some m => exact loop_more mixed (fuel := 9) (n := 3) (keep := [2, 4, 8, 9, 10]) (ext := [29]) (im := [0, 1, 2]) (orc := [.bool true, duT (gd l i), .bool false]) (an (d_lt hi) <| an (ixD hi) <| an hl <| an (d_in hi (by omega)) trivial) (by kernel_rfl) ih
  · rw [hl] at ih
    have hc := ac_rlate hB ⟨hd.1, hd.2.1⟩
    cases o with
    | none => exact loop_more mixed (fuel := 9) (n := 3) (keep := [2, 4, 8, 9, 10]) (ext := [29]) (im := [0, 1, 3]) (orc := [.bool true, duT (gd l i), .bool true, duT (gd l i), rowI [(gd l i).id], duT (gd l i), stT (lateS s (gd l i).id.toNat)]) (an (d_lt hi) <| an (ixD hi) <| an hl <| an (ixD hi) <| an (rfl : (1 : Nat) = 1) <| an (allK_I [(gd l i).id]) <| an (appI0 (gd l i).id) <| an (ixD hi) <| an hc <| an (d_in hi (by omega)) trivial) (by kernel_rfl) ih
    | some m => exact loop_more mixed (fuel := 9) (n := 3) (keep := [2, 4, 8, 9, 10]) (ext := [29]) (im := [0, 1, 4]) (orc := [.bool true, duT (gd l i), .bool true, duT (gd l i), rowI (m ++ [(gd l i).id]), duT (gd l i), stT (lateS s (gd l i).id.toNat)]) (an (d_lt hi) <| an (ixD hi) <| an hl <| an (ixD hi) <| an (rfl : (1 : Nat) = 1) <| an (allK_I [(gd l i).id]) <| an (lenIs m) <| an (appI (m := m) (gd l i).id (by have : m.length ≤ i := ho; omega)) <| an (ixD hi) <| an hc <| an (d_in hi (by omega)) trivial) (by kernel_rfl) ih
set_option maxRecDepth 100000 in
theorem tick_lp {l : List Du} (hm : l.length ≤ 1000) : ∀ (k i : Nat) {s : St} {o : Option (List Int)}, l.length - i = k → i ≤ l.length → stB s = true → (∀ d ∈ l, TdOk s d.id) → (listI o).length ≤ i →
    LoopP Tryz.prog (loopOf Tryz.prog 12 0) (hdTk s l i o) (.exit 0) (hdTk (lateK (lateIds (l.drop i) s.nw) s) l l.length (lsO (lateIds (l.drop i) s.nw) o))
  | 0, i, s, o, hk, hi, _, _, _ => by
    have : i = l.length := by omega
    subst this
    rw [List.drop_length]
    cases o with
    | none => exact loop_end mixed (fuel := 9) (n := 3) (keep := [2, 4, 8, 9, 10]) (ext := [29]) (im := [0, 1]) (orc := [.bool false]) (an (d_nlt l.length) trivial) (by intro e; cases e) (by kernel_rfl)
    | some m => exact loop_end mixed (fuel := 9) (n := 3) (keep := [2, 4, 8, 9, 10]) (ext := [29]) (im := [0, 1, 2]) (orc := [.bool false]) (an (d_nlt l.length) trivial) (by intro e; cases e) (by kernel_rfl)
  | k + 1, i, s, o, hk, hi', hB, hd, ho => by
    have hi : i < l.length := by omega
    have hdi := hd (gd l i) (by rw [gd_eq hi]; exact List.getElem_mem hi)
    refine tk_more hB hm hi hdi ho ?_
    rw [List.drop_eq_getElem_cons hi, ← gd_eq hi, lateIds_cons]
    cases hl : lateB s.nw (gd l i)
    · exact tick_lp hm k (i + 1) (by omega) (by omega) hB hd (by omega)
    · have hs := late_stB hB hdi.2.1 hdi.2.2.1 hdi.2.2.2
      have := tick_lp hm k (i + 1) (s := lateS s (gd l i).id.toNat) (o := adI o (gd l i).id) (by omega) (by omega) hs (fun d h => (hd d h).late hdi) (by rw [listI_ad]; omega)
      rw [(lateS_rest s _).2.2.2.2.2.2.2.1] at this
      exact this
set_option maxRecDepth 100000 in
theorem ac_rtick {s : St} {n : Int} (ho : s.ok) (hw : s.few) (hn : In64 n) : AC Tryz.prog 12 [stT s, .int .i64 n] (.tuple #[stT (tickS s n), rowI (tickI s n), .int .i64 (tickE s n)]) := by
  cases hB : stB s
  · have e : tickE s n = 20 := by simp [tickE, hB]
    obtain ⟨h1, h2⟩ := tick_no (s := s) (n := n) (by omega)
    rw [h1, h2, e]
    exact ac_path mixed (fuel := 9) (n := 3) (ext := [28, 21]) (orc := [vD false]) (an (ac_rcheck hB ho hw) trivial) (by kernel_rfl)
  · have hb := nw_bd hB
    have hsub : In64 (1099511627776 - s.nw) := by constructor <;> omega
    by_cases h0 : n < 0
    · have e : tickE s n = 50 := by simp [tickE, hB, h0]
      obtain ⟨h1, h2⟩ := tick_no (s := s) (n := n) (by omega)
      rw [h1, h2, e]
      exact ac_path mixed (fuel := 9) (n := 3) (ext := [28, 21]) (orc := [vD true, .bool true]) (an (ac_rcheck hB ho hw) <| an (show decide (n < 0) = true by simpa using h0) trivial) (by kernel_rfl)
    · by_cases h1 : 1099511627776 - s.nw < n
      · have e : tickE s n = 50 := by simp [tickE, hB, h1]
        obtain ⟨h3, h2⟩ := tick_no (s := s) (n := n) (by omega)
        rw [h3, h2, e]
        exact ac_path mixed (fuel := 9) (n := 3) (ext := [28, 21]) (orc := [vD true, .bool false, .bool true]) (an (ac_rcheck hB ho hw) <| an (show decide (n < 0) = false by simpa using h0) <| an hsub <| an (show decide (1099511627776 - s.nw < n) = true by simpa using h1) trivial) (by kernel_rfl)
      · have e : tickE s n = 0 := tickE_mk hB (by omega) (by omega)
        obtain ⟨e1, e2⟩ := tick_yes e
        have hL := tick_lp (l := duesS s) (by have := td_len s s.th.length; have := (th_len hB).2.2; simp only [duesS, hB, if_true]; omega) (duesS s).length 0 (s := s.toNow (s.nw + n)) (o := none) rfl (by omega) (now_stB hB (by omega)) (fun d hd => by
          obtain ⟨j, hj, ht, rfl⟩ := (mem_dues hB).1 hd
          obtain ⟨a, b, -⟩ := td_is.1 ht
          exact ⟨by show (0 : Int) ≤ (j : Int); omega, by show ((j : Int)).toNat < _; rw [Int.toNat_natCast]; exact hj, by show opTimed (gth s.th ((j : Int)).toNat).ki = true; rw [Int.toNat_natCast]; exact a, by show (gth s.th ((j : Int)).toNat).st ≠ 0; rw [Int.toNat_natCast]; exact b⟩) (by simp [listI])
        rw [List.drop_zero, show (s.toNow (s.nw + n)).nw = s.nw + n from rfl, ← e2, ← e1] at hL
        rw [e, show rowI (tickI s n) = rowI (listI (lsO (tickI s n) none)) by rw [lsO_is]; rfl]
        have hd := ac_rdues ho hw
        generalize lsO (tickI s n) none = o at hL ⊢
        generalize duesS s = l at hL hd ⊢
        generalize tickS s n = r at hL ⊢
        cases o with
        | none => exact ac_path mixed (fuel := 9) (n := 3) (ext := [28, 21]) (orc := [vD true, .bool false, .bool false, rowD l, oL [0, 1] [2, 4, 8, 9, 10] 0 [(2, pt 0), (4, pt 1), (8, rowD l), (9, .slice none 0 0), (10, .int .i64 l.length)] [bS r, bZ]]) (an (ac_rcheck hB ho hw) <| an (show decide (n < 0) = false by simpa using h0) <| an hsub <| an (show decide (1099511627776 - s.nw < n) = false by simpa using h1) <| an hd <| an (show In64 (s.nw + n) by constructor <;> omega) <| an hL trivial) (by kernel_rfl)
        | some m => exact ac_path mixed (fuel := 9) (n := 3) (ext := [28, 21]) (orc := [vD true, .bool false, .bool false, rowD l, oL [0, 1] [2, 4, 8, 9, 10] 0 [(2, pt 0), (4, pt 1), (8, rowD l), (9, iV 2 (some m)), (10, .int .i64 l.length)] (bS r :: bZ :: iB (some m))]) (an (ac_rcheck hB ho hw) <| an (show decide (n < 0) = false by simpa using h0) <| an hsub <| an (show decide (1099511627776 - s.nw < n) = false by simpa using h1) <| an hd <| an (show In64 (s.nw + n) by constructor <;> omega) <| an hL <| an (len_map (f := (Value.int .i64 ·)) m) trivial) (by kernel_rfl)
end Go.Proofs.YtfhjllchbgclaaaGreat

/- Layer 18, the document's ticks, and whether two lists of dues are one, by the engine. -/
namespace Go.Proofs.YtfhjllchbgclaaaGreat
set_option linter.unusedVariables false
set_option linter.unusedSimpArgs false
open Go.RowKit
/-- A state whose numbers are an int's, not too large. -/
structure TkK (s : St) : Prop where
  ok : s.ok
  few : s.few
theorem TkK.tick {s : St} (h : TkK s) (n : Int) : TkK (tickS s n) := by
  cases hB : stB s
  · rw [show tickS s n = s from (tick_no (by simp [tickE, hB])).1]; exact h
  · have w := tick_wk (N := 1000) ⟨hB, Vk.of h.ok, h.few.lg⟩ n
    exact ⟨w.ok (by omega), w.few (by omega)⟩
theorem tickI_len {s : St} (h : TkK s) (n : Int) : (tickI s n).length ≤ 16 := by
  by_cases e : tickE s n = 0
  · obtain ⟨hB, -⟩ := tickE_ok e
    have := td_len s s.th.length
    have := (th_len hB).2.2
    rw [(tick_yes e).2]
    unfold lateIds
    rw [List.length_map]
    refine Nat.le_trans (List.length_filter_le _ _) ?_
    simp only [duesS, hB, if_true]; omega
  · rw [(tick_no e).2]; simp
def hdTs (s : St) (l : List Int) (i : Nat) (c : Nat) : Sg := ⟨mkT 34 [(1, rowI l), (2, pt 0), (4, pt 1), (6, .int .i64 c), (7, .int .i64 i)], [bS s, bZ]⟩
set_option maxRecDepth 100000 in
theorem ticks_lp {l : List Int} (hl : ∀ x ∈ l, In64 x) (hm : l.length ≤ 1000000) : ∀ (k i : Nat) {s : St} {c : Nat}, l.length - i = k → i ≤ l.length → TkK s → c ≤ 16 * i → LoopP Tryz.prog (loopOf Tryz.prog 14 0) (hdTs s l i c) (.exit 0) (hdTs (ticksS s (l.drop i)).1 l l.length (c + (ticksS s (l.drop i)).2))
  | 0, i, s, c, hk, hi, _, _ => by
    have : i = l.length := by omega
    subst this
    rw [List.drop_length]
    exact loop_end mixed (fuel := 9) (n := 3) (im := [0, 1]) (keep := [1, 2, 4, 6, 7]) (ext := [12]) (orc := [.bool false]) (an (d_nlt l.length) trivial) (by intro e; cases e) (by kernel_rfl)
  | k + 1, i, s, c, hk, hi', h, hc => by
    have hi : i < l.length := by omega
    have ht := tickI_len h l[i]
    have ih := ticks_lp hl hm k (i + 1) (c := c + (tickI s l[i]).length) (by omega) (by omega) (h.tick l[i]) (by omega)
    rw [List.drop_eq_getElem_cons hi, show (ticksS s (l[i] :: l.drop (i + 1))).1 = (ticksS (tickS s l[i]) (l.drop (i + 1))).1 from rfl, show c + (ticksS s (l[i] :: l.drop (i + 1))).2 = c + (tickI s l[i]).length + (ticksS (tickS s l[i]) (l.drop (i + 1))).2 from (Nat.add_assoc _ _ _).symm]
    exact loop_more mixed (fuel := 9) (n := 3) (im := [0, 1]) (keep := [1, 2, 4, 6, 7]) (ext := [12]) (orc := [.bool true, .int .i64 l[i], .tuple #[stT (tickS s l[i]), rowI (tickI s l[i]), .int .i64 (tickE s l[i])]])
      (an (d_lt hi) <| an (ixIl hi) <| an (ac_rtick h.ok h.few (hl _ (List.getElem_mem hi))) <| an (show In64 ((c : Int) + (tickI s l[i]).length) by constructor <;> omega) <| an (d_in hi (by omega)) trivial) (by kernel_rfl) ih
set_option maxRecDepth 100000 in
theorem ac_rticks {s : St} {l : List Int} (h : TkK s) (hl : ∀ x ∈ l, In64 x) (hm : l.length ≤ 1000000) : AC Tryz.prog 14 [stT s, rowI l] (.tuple #[stT (ticksS s l).1, .int .i64 (ticksS s l).2]) := by
  have hL := ticks_lp hl hm l.length 0 (c := 0) rfl (by omega) h (by omega)
  rw [List.drop_zero, Nat.zero_add] at hL
  generalize (ticksS s l).1 = r at hL ⊢
  generalize (ticksS s l).2 = c at hL ⊢
  exact ac_path mixed (fuel := 9) (n := 3) (ext := []) (orc := [oL [0, 1] [1, 2, 4, 6, 7] 0 [(1, rowI l), (2, pt 0), (4, pt 1), (6, .int .i64 c), (7, .int .i64 l.length)] [bS r, bZ]]) (an hL trivial) (by kernel_rfl)
theorem dv_equal (a : Du) (w : World) : (Op.equal 55 (duT a) (duT a)).run Tryz.prog w = .ok true w := by
  have hu := Tryz.underlying55
  have h3 := Tryz.underlying3
  have hp : Tryz.prog.stoodInHeld 55 = false := by kernel_rfl
  unfold duT Op.equal Op.maxDepth
  rw [run_equalIn_struct w 9999 _ _ _ (by unfold Program.fieldsOf; rw [hu]) hp]
  unfold Program.fieldsOf
  rw [hu]
  simp [Op.eqFields, part, isAgg, run_underlying h3, run_equalIn_int _ _ _ _ _ _ _ h3]
theorem dv_neq (a : Du) (w : World) : (binOp .neq 55 (duT a) (duT a)).run Tryz.prog w = .ok (.bool false) w := by
  have h := dv_equal a w
  have hu := Tryz.underlying55
  unfold duT at h ⊢
  simp [binOp, h, run_underlying hu, Result.andThen]
theorem ask_du (t : Du) (x y : Operand) : AskP Tryz.prog (.binOp .neq 55 x y 55) [duT t, duT t] (.bool false) :=
  ask_bin (fun x y W => (guard_agg (by kernel_rfl) x y _ _ W).1) (fun W => dv_neq t W) x y
def hdDs (l : List Du) (i : Int) : Sg := ⟨mkT 26 [(0, rowD l), (1, rowD l), (5, .int .i64 i)], []⟩
set_option maxRecDepth 100000 in
theorem ds_lp (l : List Du) (hm : l.length ≤ 1000000) : ∀ (k i : Nat), l.length - i = k → i ≤ l.length → LoopP Tryz.prog (loopOf Tryz.prog 19 0) (hdDs l i) (.exit 0) (hdDs l l.length)
  | 0, i, hk, hi => by
    have : i = l.length := by omega
    subst this
    exact loop_end mixed (fuel := 9) (n := 3) (im := []) (keep := [0, 1, 5]) (ext := []) (orc := [.bool false]) (an (d_nlt l.length) trivial) (by intro e; cases e) (by kernel_rfl)
  | k + 1, i, hk, hi' => by
    have hi : i < l.length := by omega
    exact loop_more mixed (fuel := 9) (n := 3) (im := []) (keep := [0, 1, 5]) (ext := []) (orc := [.bool true, duT (gd l i), duT (gd l i), .bool false, .bool false]) (an (d_lt hi) <| an (ixD hi) <| an (ixD hi) <| an (ask_du (gd l i) (.tmp 20) (.tmp 24)) <| an (rfl : false = false) <| an (d_in hi hm) trivial) (by kernel_rfl) (ds_lp l hm k (i + 1) (by omega) (by omega))
set_option maxRecDepth 100000 in
theorem ac_rdsame (l : List Du) (hm : l.length ≤ 1000000) : AC Tryz.prog 19 [rowD l, rowD l] (.bool true) :=
  ac_path mixed (fuel := 9) (n := 3) (ext := []) (orc := [.bool false, oL [] [0, 1, 5] 0 [(0, rowD l), (1, rowD l), (5, .int .i64 l.length)] []]) (an (show ((l.length : Int) != l.length) = false by simp) <| an (ds_lp l hm l.length 0 rfl (by omega)) trivial) (by kernel_rfl)
end Go.Proofs.YtfhjllchbgclaaaGreat
