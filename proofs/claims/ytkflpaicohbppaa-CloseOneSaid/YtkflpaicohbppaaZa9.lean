/- Texts merged: AcJQ, ConfEQ, ThGQ, AcXQ, AcKQ, SdPQ, SdQQ, CloseFQ, CcAQ, AcLQ, AcMQ, AcNQ, CloseAQ, CcBQ. -/
import Derived.Test.YtkflpaicohbppaaZa8
import Derived.Test.YtkflpaicohbppaaZa7
import Derived.Test.YtkflpaicohbppaaZa6
import Derived.Test.YtkflpaicohbppaaZa4
import Derived.LoopTactic
import Derived.Lib.Hide
import Derived.Test.YtkflpaicohbppaaZa5
/- Contracts told by abstract values: what a step of the document's calls. -/
namespace Go.Proofs.Ytkflpaicohbppaa
set_option linter.unusedVariables false
set_option linter.unusedSimpArgs false
open Go.RowKit
/-! ### Lists -/
end Go.Proofs.Ytkflpaicohbppaa

/- Contracts of layer 2's functions over lists, and the document's room. -/
namespace Go.Proofs.Ytkflpaicohbppaa
set_option linter.unusedVariables false
set_option linter.unusedSimpArgs false
open Go.ChangeShapes Go.WideShapes Go.ChangeAt Go.RowKit

def Cf.may (c : Cf) : Bool := mayB c.lg c.th c.po c.wt c.sp c.yi
def Cf.room (c : Cf) : Int := roomI c.lg c.th c.po c.wt c.sp c.yi
def p2 (k : Nat) : Int := if k = 0 then 1 else pw k
end Go.Proofs.Ytkflpaicohbppaa

/- Layer 12: whether a thread may be: the document's. -/
namespace Go.Proofs.Ytkflpaicohbppaa
set_option linter.unusedVariables false
set_option linter.unusedSimpArgs false
open Go.ChangeShapes Go.WideShapes Go.ChangeAt Go.RowKit
end Go.Proofs.Ytkflpaicohbppaa

/- Contracts told by abstract values: the document's Check of a state, by the engine (in place of the walk of XFabQ). -/
namespace Go.Proofs.Ytkflpaicohbppaa
set_option linter.unusedVariables false
set_option linter.unusedSimpArgs false
open Go.RowKit
/-! ### Lines -/
section
variable {l : List Int} {m : Int}
end
/-! ### Threads -/
section
variable {s : St} {R : Int}
end
section
variable {s : St} {R : Int} (hR : cfR s.cf = R)
include hR
variable (h0 : (R == 0) = false)
include h0
variable (h1 : ((s.sl.length : Int) != R) = false)
include h1
variable (h2 : ((s.th.length : Int) != s.cf.th) = false)
include h2
variable (h3 : decide (s.nw < 0) = false)
include h3
variable (h4 : decide (1099511627776 < s.nw) = false) (hm : s.th.length ≤ 1000000)
include h4 hm
end
end Go.Proofs.Ytkflpaicohbppaa

/- Contracts told by abstract values: the document's slots, Is, Tell, Wake, Value, Runs. -/
namespace Go.Proofs.Ytkflpaicohbppaa
set_option linter.unusedVariables false
set_option linter.unusedSimpArgs false
open Go.RowKit
/-! ### States -/
end Go.Proofs.Ytkflpaicohbppaa

/- Layer 14, plain: what some steps of who sends are, and what they change. -/
namespace Go.Proofs.Ytkflpaicohbppaa
set_option linter.unusedVariables false
set_option linter.unusedSimpArgs false
/-! ### What threads share -/
/-- The word, the slots, Sends, Recvs, Full, Empty. -/
def shr (s : St) : (Int × Int × Int) × List Slo × List Int × List Int × (Int × List Int) × (Int × List Int) := ((s.hd, s.tl, s.md), s.sl, s.sn, s.rc, (s.fe, s.fl), (s.ee, s.el))
/-- In how many places two lists differ. -/
def diffL : List Slo → List Slo → Nat
  | a :: l, b :: m => (if a = b then 0 else 1) + diffL l m
  | _, _ => 0
def oneI (p : Prop) [Decidable p] : Nat := if p then 0 else 1
/-- In how many things two states differ. -/
def thingsN (a b : St) : Nat :=
  oneI ((a.hd, a.tl, a.md) = (b.hd, b.tl, b.md)) + diffL a.sl b.sl + oneI (a.sn = b.sn) + oneI (a.rc = b.rc) + oneI (a.fe = b.fe ∧ a.fl = b.fl) + oneI (a.ee = b.ee ∧ a.el = b.el)
theorem diffL_self : ∀ l : List Slo, diffL l l = 0
  | [] => rfl
  | a :: l => by simp [diffL, diffL_self l]
theorem oneI_le (p : Prop) [Decidable p] : oneI p ≤ 1 := by unfold oneI; split <;> omega
theorem oneI_t [Decidable True] : oneI True = 0 := if_pos trivial
theorem things_shr {a b c : St} (h : shr b = shr c) : thingsN a b = thingsN a c := by
  simp only [shr, Prod.mk.injEq] at h
  obtain ⟨⟨h1, h2, h3⟩, h4, h5, h6, ⟨h7, h8⟩, h9, h10⟩ := h
  simp only [thingsN, h1, h2, h3, h4, h5, h6, h7, h8, h9, h10]
theorem things_self (s : St) : thingsN s s = 0 := by simp [thingsN, diffL_self, oneI]
theorem things_word (s : St) (x y z : Int) : thingsN s (s.toWord x y z) ≤ 1 := by
  simp only [thingsN, St.toWord, diffL_self, and_self, oneI_t, Nat.add_zero, Nat.zero_add]; exact oneI_le _
theorem things_full (s : St) (e : Int) (l : List Int) : thingsN s (s.toFull e l) ≤ 1 := by
  simp only [thingsN, St.toFull, diffL_self, and_self, oneI_t, Nat.add_zero, Nat.zero_add]; exact oneI_le _
theorem things_empty (s : St) (e : Int) (l : List Int) : thingsN s (s.toEmpty e l) ≤ 1 := by
  simp only [thingsN, St.toEmpty, diffL_self, and_self, oneI_t, Nat.add_zero, Nat.zero_add]; exact oneI_le _
theorem shr_on (s : St) (n : Nat) (f : Th → Th) : shr (s.onTh n f) = shr s := rfl
theorem shr_tell (s : St) (i k r g : Int) : shr (tellS s i k r g) = shr s := by unfold tellS; split <;> rfl
theorem shr_told (s : St) (n : Nat) (k r g p : Int) : shr (toldS s n k r g p) = shr s := by unfold toldS; rw [shr_on, shr_tell]
theorem shr_wake (s : St) (i : Int) : shr (wakeS s i) = shr s := by unfold wakeS; split <;> rfl
/-! ### What becomes of the other threads -/
/-- Of two lists of threads, all but one are as they were, but for one who is woken. -/
structure Oth (l m : List Th) (i : Int) : Prop where
  len : m.length = l.length
  one : ∃ w : Nat, ∀ j : Nat, j < l.length → (j : Int) ≠ i → gth m j = gth l j ∨ (j = w ∧ (gth l j).st = 2 ∧ gth m j = wakeT (gth l j))
theorem Oth.refl (l : List Th) (i : Int) : Oth l l i := ⟨rfl, 0, fun _ _ _ => .inl rfl⟩
theorem Oth.set {l : List Th} {n : Nat} (t : Th) : Oth l (l.set n t) n := ⟨by simp, 0, fun j hj hne => .inl (by
  by_cases hn : n < l.length
  · rw [gth_set hn, if_neg (by omega)]
  · rw [List.set_eq_of_length_le (by omega)])⟩
theorem Oth.wake {l : List Th} {n w : Nat} (t : Th) (hw : w < l.length) : Oth l ((l.set n t).set w (wakeT (gth (l.set n t) w))) n := ⟨by simp, w, fun j hj hne => by
  have e1 : gth (l.set n t) j = gth l j := by
    by_cases hn : n < l.length
    · rw [gth_set hn, if_neg (by omega)]
    · rw [List.set_eq_of_length_le (by omega)]
  rw [gth_set (by simpa using hw)]
  split
  · next e =>
    subst e
    rw [e1]
    by_cases h2 : (gth l w).st = 2
    · exact .inr ⟨rfl, h2, rfl⟩
    · left; unfold wakeT; rw [if_neg h2]
  · exact .inl e1⟩
theorem th_tell (s : St) (n : Nat) (k r g : Int) : ∃ t, (tellS s n k r g).th = s.th.set n t := by
  unfold tellS; split
  · exact ⟨_, by simp [St.setTh, St.addLg]; rfl⟩
  · exact ⟨gth s.th n, gth_set_self.symm⟩
theorem th_told (s : St) (n : Nat) (k r g p : Int) : ∃ t, (toldS s n k r g p).th = s.th.set n t := by
  obtain ⟨t, ht⟩ := th_tell s n k r g
  exact ⟨pcT (gth (tellS s n k r g).th n) p, by show (tellS s n k r g).th.set n _ = _; rw [ht, List.set_set]⟩
/-! ### What is told, and what stays -/
/-- What is told is told behind all that was, at most once. -/
def LgOk (a b : List En) : Prop := b = a ∨ ∃ x, b = a ++ [x]
theorem lg_tell (s : St) (i k r g : Int) : LgOk s.lg (tellS s i k r g).lg := by
  unfold tellS; split
  · exact .inr ⟨_, rfl⟩
  · exact .inl rfl
theorem lg_told (s : St) (n : Nat) (k r g p : Int) : LgOk s.lg (toldS s n k r g p).lg := lg_tell s n k r g
theorem cf_tell (s : St) (i k r g : Int) : (tellS s i k r g).cf = s.cf ∧ (tellS s i k r g).nw = s.nw := by unfold tellS; split <;> exact ⟨rfl, rfl⟩
end Go.Proofs.Ytkflpaicohbppaa

/- Layer 14, plain: what a step of who sends tells is what the queue may be told of. -/
namespace Go.Proofs.Ytkflpaicohbppaa
set_option linter.unusedVariables false
set_option linter.unusedSimpArgs false
theorem lg_is {s : St} (h : stB s = true) {n : Nat} (hn : n < s.th.length) (k r g p : Int) : (toldS s n k r g p).lg = s.lg ++ [⟨n, k, (gth s.th n).va, r, g⟩] := by
  show (tellS s n k r g).lg = _; rw [tell_th h hn]; rfl
end Go.Proofs.Ytkflpaicohbppaa

/- Layer 16: a step of who closes, as a plain function; what may be stays so; what it changes; what it tells. -/
namespace Go.Proofs.Ytkflpaicohbppaa
set_option linter.unusedVariables false
set_option linter.unusedSimpArgs false
def modeI (k : Int) : Int := if k = 7 then 1 else if k = 8 then 2 else 0
/-- Some are woken, in order. -/
def wakesS : List Int → St → St
  | [], s => s
  | i :: l, s => wakesS l (wakeS s i)
def shutC (s : St) (n : Nat) : St := toldS (s.toWord s.hd s.tl (clM s.md (modeI (gth s.th n).ki))) n (gth s.th n).ki 1 0 1
def fullC (s : St) (n : Nat) : St := wakesS (ntT s.fl.length s.fe s.fl) ((s.toFull (ntE s.fe s.fl) (ntL s.fl.length s.fe s.fl)).onTh n (pcT · 2))
def emptyC (s : St) (n : Nat) : St := wakesS (ntT s.el.length s.ee s.el) ((s.toEmpty (ntE s.ee s.el) (ntL s.el.length s.ee s.el)).onTh n doneT)
/-- A step of thread n, which closes. -/
def closeN (s : St) (n : Nat) : St := if (gth s.th n).pc = 0 then shutC s n else if (gth s.th n).pc = 1 then fullC s n else emptyC s n
def closeS (s : St) (i : Int) : St := if runsB s i 3 = true then closeN s i.toNat else s
/-- Some steps of who closes, and how many there were. -/
def closeK (s : St) (i : Int) : Nat → St × Nat
  | 0 => (s, 0)
  | k + 1 => if runsB s i 3 = true then ((closeK (closeS s i) i k).1, (closeK (closeS s i) i k).2 + 1) else (s, 0)
theorem closeN_ind {P : St → Prop} {s : St} {n : Nat} (h0 : P (shutC s n)) (h1 : P (fullC s n)) (h2 : P (emptyC s n)) : P (closeN s n) := by
  unfold closeN; split
  · exact h0
  · split
    · exact h1
    · exact h2

/-! ### Who are woken -/
theorem wake_wake (t : Th) : wakeT (wakeT t) = wakeT t := by unfold wakeT; split <;> simp_all
theorem shr_wakes : ∀ (l : List Int) (s : St), shr (wakesS l s) = shr s
  | [], s => rfl
  | i :: l, s => by show shr (wakesS l (wakeS s i)) = _; rw [shr_wakes l, shr_wake]
theorem wake_rest (s : St) (i : Int) : (wakeS s i).lg = s.lg ∧ (wakeS s i).cf = s.cf ∧ (wakeS s i).nw = s.nw ∧ (wakeS s i).th.length = s.th.length := by
  unfold wakeS; split
  · exact ⟨rfl, rfl, rfl, by simp [St.onTh, St.setTh]⟩
  · exact ⟨rfl, rfl, rfl, rfl⟩
theorem wakes_rest : ∀ (l : List Int) (s : St), (wakesS l s).lg = s.lg ∧ (wakesS l s).cf = s.cf ∧ (wakesS l s).nw = s.nw ∧ (wakesS l s).th.length = s.th.length
  | [], s => ⟨rfl, rfl, rfl, rfl⟩
  | i :: l, s => by
    obtain ⟨a, b, c, d⟩ := wakes_rest l (wakeS s i)
    obtain ⟨a', b', c', d'⟩ := wake_rest s i
    exact ⟨a.trans a', b.trans b', c.trans c', d.trans d'⟩
theorem wakes_stB : ∀ (l : List Int) {s : St}, stB s = true → stB (wakesS l s) = true
  | [], _, h => h
  | i :: l, _, h => wakes_stB l (wake_stB h i)
theorem wake_th {s : St} (h : stB s = true) (i : Int) {j : Nat} (hj : j < s.th.length) : gth (wakeS s i).th j = if (j : Int) = i then wakeT (gth s.th j) else gth s.th j := by
  unfold wakeS
  split
  · next hh =>
    have hi := has_iff.1 hh
    show gth (s.th.set i.toNat (wakeT (gth s.th i.toNat))) j = _
    rw [gth_set (by omega)]
    by_cases e : i.toNat = j
    · rw [if_pos e, if_pos (by omega), e]
    · rw [if_neg e, if_neg (by omega)]
  · next hh =>
    rw [if_neg]
    rintro rfl
    exact hh (has_of h hj)
theorem wakes_th : ∀ (l : List Int) {s : St}, stB s = true → ∀ {j : Nat}, j < s.th.length → gth (wakesS l s).th j = if (j : Int) ∈ l then wakeT (gth s.th j) else gth s.th j
  | [], s, h, j, hj => by simp [wakesS]
  | i :: l, s, h, j, hj => by
    show gth (wakesS l (wakeS s i)).th j = _
    rw [wakes_th l (wake_stB h i) (by rw [(wake_rest s i).2.2.2]; exact hj), wake_th h i hj]
    by_cases e : (j : Int) = i
    · subst e
      simp [wake_wake]
    · simp [e]

/-! ### What may be stays so -/
theorem mode_is (k : Int) : modeI k = 0 ∨ modeI k = 1 ∨ modeI k = 2 := by unfold modeI; (repeat' split) <;> simp
theorem clM_bd {m d : Int} (h : 0 ≤ m ∧ m ≤ 2) : 0 ≤ clM m d ∧ clM m d ≤ 2 := by unfold clM; split <;> omega
theorem shut_word {s : St} (h : stB s = true) (d : Int) : stB (s.toWord s.hd s.tl (clM s.md d)) = true := by
  have c := check_iff.1 (word_ok h).1
  have := clM_bd (m := s.md) (d := d) (by omega)
  exact word_stB h (check_iff.2 (by omega))
theorem nt_all {ep : Int} {l : List Int} (h : okE ep l = true) : ntE ep l = nxE ep ∧ ntL l.length ep l = [] ∧ ntT l.length ep l = l := by simp [ntE, ntL, ntT, h]
theorem nil_stn (m : Int) : stnB m [] = true := rfl
theorem full_off {s : St} (h : stB s = true) : stB (s.toFull (ntE s.fe s.fl) (ntL s.fl.length s.fe s.fl)) = true := by
  obtain ⟨-, -, -, -, e, -⟩ := full_lines h
  obtain ⟨e1, e2, -⟩ := nt_all e
  rw [e1, e2]
  exact full_stB h (okE_nx e rfl) (nil_stn _)
theorem empty_off {s : St} (h : stB s = true) : stB (s.toEmpty (ntE s.ee s.el) (ntL s.el.length s.ee s.el)) = true := by
  obtain ⟨-, -, -, -, -, e⟩ := full_lines h
  obtain ⟨e1, e2, -⟩ := nt_all e
  rw [e1, e2]
  exact empty_stB h (okE_nx e rfl) (nil_stn _)
theorem full_on {s : St} (h : stB s = true) {n : Nat} (hn : n < s.th.length) (h1 : (gth s.th n).st ≠ 0) : stB ((s.toFull (ntE s.fe s.fl) (ntL s.fl.length s.fe s.fl)).onTh n (pcT · 2)) = true :=
  onTh_stB (full_off h) (pcT_ok (gth_ok h hn) h1 (by decide))
theorem empty_on {s : St} (h : stB s = true) {n : Nat} (hn : n < s.th.length) (h1 : (gth s.th n).st ≠ 0) : stB ((s.toEmpty (ntE s.ee s.el) (ntL s.el.length s.ee s.el)).onTh n doneT) = true :=
  onTh_stB (empty_off h) (doneT_ok (gth_ok h hn) h1)
theorem closeN_stB {s : St} (h : stB s = true) {n : Nat} (hn : n < s.th.length) (h1 : (gth s.th n).st ≠ 0) : stB (closeN s n) = true :=
  closeN_ind (P := fun u => stB u = true) (told_stB (shut_word h _) hn h1 (by decide) (by decide)) (wakes_stB _ (full_on h hn h1)) (wakes_stB _ (empty_on h hn h1))
theorem closeS_no {s : St} (h : stB s = false) (i : Int) : closeS s i = s := by simp [closeS, runsB, hasB, h]

/-! ### Some steps -/
theorem closeK_off {s : St} {i : Int} (h : runsB s i 3 = false) (k : Nat) : closeK s i k = (s, 0) := by
  cases k with
  | zero => rfl
  | succ k => simp [closeK, h]
theorem closeK_on {s : St} {i : Int} (h : runsB s i 3 = true) (k : Nat) : closeK s i (k + 1) = ((closeK (closeS s i) i k).1, (closeK (closeS s i) i k).2 + 1) := by simp [closeK, h]
theorem closeK_le (i : Int) : ∀ (k : Nat) (s : St), (closeK s i k).2 ≤ k
  | 0, s => by simp [closeK]
  | k + 1, s => by
    cases h : runsB s i 3
    · simp [closeK_off h]
    · rw [closeK_on h]; have := closeK_le i k (closeS s i); show _ + 1 ≤ _; omega

/-! ### What changes -/
theorem closeN_things {s : St} {n : Nat} : thingsN s (closeN s n) ≤ 1 := by
  refine closeN_ind (P := fun u => thingsN s u ≤ 1) ?_ ?_ ?_
  · unfold shutC; rw [things_shr (shr_told _ _ _ _ _ _)]; exact things_word _ _ _ _
  · unfold fullC; rw [things_shr (shr_wakes _ _), things_shr (shr_on _ _ _)]; exact things_full _ _ _
  · unfold emptyC; rw [things_shr (shr_wakes _ _), things_shr (shr_on _ _ _)]; exact things_empty _ _ _
theorem closeS_things (s : St) (i : Int) : thingsN s (closeS s i) ≤ 1 := by
  unfold closeS; split
  · exact closeN_things
  · rw [things_self]; omega
/-- Of two lists of threads, all but one are as they were, but for those who are woken. -/
structure OthM (l m : List Th) (i : Int) : Prop where
  len : m.length = l.length
  one : ∀ j : Nat, j < l.length → (j : Int) ≠ i → gth m j = gth l j ∨ ((gth l j).st = 2 ∧ gth m j = wakeT (gth l j))
theorem OthM.refl (l : List Th) (i : Int) : OthM l l i := ⟨rfl, fun _ _ _ => .inl rfl⟩
theorem OthM.set {l : List Th} {n : Nat} (t : Th) : OthM l (l.set n t) n := ⟨by simp, fun j hj hne => .inl (by
  by_cases hn : n < l.length
  · rw [gth_set hn, if_neg (by omega)]
  · rw [List.set_eq_of_length_le (by omega)])⟩
theorem OthM.wakes {l : List Th} {i : Int} {s : St} (h : OthM l s.th i) (hs : stB s = true) (k : List Int) : OthM l (wakesS k s).th i := ⟨(wakes_rest k s).2.2.2.trans h.len, fun j hj hne => by
  rw [wakes_th k hs (by rw [h.len]; exact hj)]
  have key : ∀ t : Th, wakeT t = t ∨ (t.st = 2 ∧ wakeT t = wakeT t) := fun t => by
    by_cases h2 : t.st = 2
    · exact .inr ⟨h2, rfl⟩
    · left; unfold wakeT; rw [if_neg h2]
  split
  · rcases h.one j hj hne with e | ⟨e1, e2⟩
    · rw [e]; exact key _
    · rw [e2, wake_wake]; exact .inr ⟨e1, rfl⟩
  · exact h.one j hj hne⟩
theorem closeN_oth {s : St} (h : stB s = true) {n : Nat} (hn : n < s.th.length) (h1 : (gth s.th n).st ≠ 0) : OthM s.th (closeN s n).th n := by
  refine closeN_ind (P := fun u => OthM s.th u.th n) ?_ ?_ ?_
  · unfold shutC
    obtain ⟨t, ht⟩ := th_told (s.toWord s.hd s.tl (clM s.md (modeI (gth s.th n).ki))) n (gth s.th n).ki 1 0 1
    rw [ht]; exact OthM.set t
  · exact OthM.wakes (s := (s.toFull (ntE s.fe s.fl) (ntL s.fl.length s.fe s.fl)).onTh n (pcT · 2)) (OthM.set _) (full_on h hn h1) _
  · exact OthM.wakes (s := (s.toEmpty (ntE s.ee s.el) (ntL s.el.length s.ee s.el)).onTh n doneT) (OthM.set _) (empty_on h hn h1) _
theorem closeS_oth {s : St} {i : Int} : OthM s.th (closeS s i).th i := by
  unfold closeS; split
  · next hr =>
    obtain ⟨hh, h1, -⟩ := runs_iff.1 hr
    obtain ⟨h, h2, h3⟩ := has_iff.1 hh
    have h4 := closeN_oth h (n := i.toNat) (by omega) (by omega)
    rwa [Int.toNat_of_nonneg h2] at h4
  · exact OthM.refl _ _
theorem closeN_lgOk {s : St} {n : Nat} : LgOk s.lg (closeN s n).lg ∧ (closeN s n).cf = s.cf ∧ (closeN s n).nw = s.nw := by
  refine closeN_ind (P := fun u => LgOk s.lg u.lg ∧ u.cf = s.cf ∧ u.nw = s.nw) ?_ ?_ ?_
  · unfold shutC
    exact ⟨lg_told _ n _ _ _ _, cf_tell _ n _ _ _⟩
  · unfold fullC
    obtain ⟨a, b, c, -⟩ := wakes_rest (ntT s.fl.length s.fe s.fl) ((s.toFull (ntE s.fe s.fl) (ntL s.fl.length s.fe s.fl)).onTh n (pcT · 2))
    exact ⟨.inl a, b, c⟩
  · unfold emptyC
    obtain ⟨a, b, c, -⟩ := wakes_rest (ntT s.el.length s.ee s.el) ((s.toEmpty (ntE s.ee s.el) (ntL s.el.length s.ee s.el)).onTh n doneT)
    exact ⟨.inl a, b, c⟩
theorem closeS_lgOk (s : St) (i : Int) : LgOk s.lg (closeS s i).lg ∧ (closeS s i).cf = s.cf ∧ (closeS s i).nw = s.nw := by
  unfold closeS; split
  · exact closeN_lgOk
  · exact ⟨.inl rfl, rfl, rfl⟩
/-- What it leaves: the slots, Sends, Recvs, and both ends. -/
theorem closeN_left {s : St} {n : Nat} : (closeN s n).hd = s.hd ∧ (closeN s n).tl = s.tl ∧ (closeN s n).sl = s.sl ∧ (closeN s n).sn = s.sn ∧ (closeN s n).rc = s.rc := by
  refine closeN_ind (P := fun u => u.hd = s.hd ∧ u.tl = s.tl ∧ u.sl = s.sl ∧ u.sn = s.sn ∧ u.rc = s.rc) ?_ ?_ ?_
  · have := shr_told (s.toWord s.hd s.tl (clM s.md (modeI (gth s.th n).ki))) n (gth s.th n).ki 1 0 1
    simp only [shr, Prod.mk.injEq] at this
    obtain ⟨⟨a, b, -⟩, c, d, e, -⟩ := this
    exact ⟨a, b, c, d, e⟩
  · have := shr_wakes (ntT s.fl.length s.fe s.fl) ((s.toFull (ntE s.fe s.fl) (ntL s.fl.length s.fe s.fl)).onTh n (pcT · 2))
    simp only [shr, Prod.mk.injEq] at this
    obtain ⟨⟨a, b, -⟩, c, d, e, -⟩ := this
    exact ⟨a, b, c, d, e⟩
  · have := shr_wakes (ntT s.el.length s.ee s.el) ((s.toEmpty (ntE s.ee s.el) (ntL s.el.length s.ee s.el)).onTh n doneT)
    simp only [shr, Prod.mk.injEq] at this
    obtain ⟨⟨a, b, -⟩, c, d, e, -⟩ := this
    exact ⟨a, b, c, d, e⟩
theorem closeS_left (s : St) (i : Int) : (closeS s i).hd = s.hd ∧ (closeS s i).tl = s.tl ∧ (closeS s i).sl = s.sl ∧ (closeS s i).sn = s.sn ∧ (closeS s i).rc = s.rc := by
  unfold closeS; split
  · exact closeN_left
  · exact ⟨rfl, rfl, rfl, rfl, rfl⟩

/-! ### What is told -/
end Go.Proofs.Ytkflpaicohbppaa

/- Layer 16, by the engine: modes, the word closed, both; how far it is to a notice; all who wait are told. -/
namespace Go.Proofs.Ytkflpaicohbppaa
set_option linter.unusedVariables false
set_option linter.unusedSimpArgs false
open Go.RowKit
section
variable {k h t m d : Int}
set_option maxRecDepth 100000 in
theorem ac_pmode (k : Int) : AC Try.prog 16 [.int .i64 k] (.int .i64 (modeI k)) := by
  by_cases h7 : k = 7
  · subst h7; exact ac_path mixed (ext := []) (fuel := 9) (n := 3) (orc := [.nilFunc]) trivial (by kernel_rfl)
  · by_cases h8 : k = 8
    · subst h8; exact ac_path mixed (ext := []) (fuel := 9) (n := 3) (orc := [.nilFunc, .nilFunc]) trivial (by kernel_rfl)
    · rw [show modeI k = 0 by simp [modeI, h7, h8]]
      exact ac_path mixed (ext := []) (fuel := 9) (n := 3) (orc := [.bool false, .bool false]) (an (show (k == 7) = false by simp [h7]) <| an (show (k == 8) = false by simp [h8]) trivial) (by kernel_rfl)
theorem cl_of (h : m < d) (hd : d = 1 ∨ d = 2) : clM m d = d := by unfold clM; rw [if_pos ⟨hd, h⟩]
theorem cl_no (h : ¬ m < d) : clM m d = m := by unfold clM; rw [if_neg (fun e => h e.2)]
set_option maxRecDepth 100000 in
theorem ac_pclose (hd : d = 0 ∨ d = 1 ∨ d = 2) : AC Try.prog 70 [wdT h t m, .int .i64 d] (wdT h t (clM m d)) := by
  rcases hd with rfl | rfl | rfl
  · rw [show clM m 0 = m by simp [clM]]
    exact ac_path mixed (ext := []) (fuel := 9) (n := 3) (orc := [.nilFunc, .nilFunc]) trivial (by kernel_rfl)
  · by_cases hm : m < 1
    · rw [cl_of hm (.inl rfl)]
      exact ac_path mixed (ext := []) (fuel := 9) (n := 3) (orc := [.nilFunc, .bool false]) (an (show decide ((1 : Int) ≤ m) = false by simp; omega) trivial) (by kernel_rfl)
    · rw [cl_no hm]
      exact ac_path mixed (ext := []) (fuel := 9) (n := 3) (orc := [.nilFunc, .bool true]) (an (show decide ((1 : Int) ≤ m) = true by simp; omega) trivial) (by kernel_rfl)
  · by_cases hm : m < 2
    · rw [cl_of hm (.inr rfl)]
      exact ac_path mixed (ext := []) (fuel := 9) (n := 3) (orc := [.nilFunc, .nilFunc, .bool false]) (an (show decide ((2 : Int) ≤ m) = false by simp; omega) trivial) (by kernel_rfl)
    · rw [cl_no hm]
      exact ac_path mixed (ext := []) (fuel := 9) (n := 3) (orc := [.nilFunc, .nilFunc, .bool true]) (an (show decide ((2 : Int) ≤ m) = true by simp; omega) trivial) (by kernel_rfl)
end
end Go.Proofs.Ytkflpaicohbppaa

/- The document's Step, case by case, told by plain states. -/
namespace Go.Proofs.Ytkflpaicohbppaa
set_option linter.unusedVariables false
set_option linter.unusedSimpArgs false
open Go.RowKit
/-- What is true of a state in which thread n, at step c, sends. -/
structure Dn (s : St) (n : Nat) (c : Int) : Prop where
  ck : stB s = true
  ok : s.ok
  few : s.few
  hn : n < s.th.length
  st : (gth s.th n).st = 1
  sd : opSide (gth s.th n).ki = 1
  pc : (gth s.th n).pc = c
section
variable {s : St} {n : Nat} {c : Int}
theorem Dn.ht (h : Dn s n c) : gth s.th n = pcT (gth s.th n) c := by rw [← h.pc]; rfl
theorem Dn.ix (h : Dn s n c) : IxP ((s.th.map thT).toArray) (n : Int) (thT (pcT (gth s.th n) c)) := by
  have := ixT h.hn
  rw [h.ht] at this
  exact this
theorem Dn.has (h : Dn s n c) : hasB s n = true := has_of h.ck h.hn
theorem Dn.ru (h : Dn s n c) : runsB s n 1 = true := runs_iff.2 ⟨h.has, by simpa using h.st, by simpa using h.sd⟩
theorem Dn.rs (h : Dn s n c) : thRuns (gth s.th n).st = 0 := by rw [h.st]; rfl
theorem Dn.sl (h : Dn s n c) : okSl s.sl = true := (word_ok h.ck).2.1
theorem Dn.bd (h : Dn s n c) : 0 ≤ (gth s.th n).re ∧ (gth s.th n).re ≤ 1099511627776 ∧ 0 ≤ (gth s.th n).tr ∧ (gth s.th n).tr ≤ 1099511627776 := by
  have h1 := gth_ok h.ck h.hn
  generalize gth s.th n = t at h1
  obtain ⟨st, ki, va, un, pc, re, se, tr, la, rs, go⟩ := t
  rw [thB_iff] at h1
  simp only
  omega
theorem Dn.len (h : Dn s n c) : In64 (s.sl.length : Int) := by have := h.few.sl; constructor <;> omega
end
end Go.Proofs.Ytkflpaicohbppaa

/- The document's Step is the step of plain states; Steps as many as there are. -/
namespace Go.Proofs.Ytkflpaicohbppaa
set_option linter.unusedVariables false
set_option linter.unusedSimpArgs false
open Go.RowKit
section
variable {s : St} {n : Nat} {c : Int}
theorem Dn.sp (h : Dn s n c) (hl : s.lg.length ≤ 999999) : Sp s n 1 0 := ⟨by decide, h.ck, h.ok, h.hn, h.st, h.sd, hl, by constructor <;> omega⟩
end
end Go.Proofs.Ytkflpaicohbppaa

/- The document's Steps: as many steps as there are, told by plain states. -/
namespace Go.Proofs.Ytkflpaicohbppaa
set_option linter.unusedVariables false
set_option linter.unusedSimpArgs false
open Go.RowKit
def bS (s : St) : Option Blk := some ⟨true, false, 20, 1, [stT s]⟩
theorem few_of {s : St} (h : stB s = true) (hl : s.lg.length ≤ 1000) : s.few := by
  obtain ⟨a, b, c, d, -, -⟩ := full_lines h
  have h1 := th_len h
  have h2 := ok_len (stn_iff.1 a).1
  have h3 := ok_len (stn_iff.1 b).1
  have h4 := ok_len (stn_iff.1 c).1
  have h5 := ok_len (stn_iff.1 d).1
  have h6 := (ok_iff.1 (word_ok h).2.1).1
  exact ⟨by omega, by omega, by omega, by omega, by omega, by omega, hl⟩
section
variable {s : St} {i m o : Int} {b : Bool}
end
end Go.Proofs.Ytkflpaicohbppaa

/- Layer 16, plain: who begins to close is done after three steps, and behind them nobody waits. -/
namespace Go.Proofs.Ytkflpaicohbppaa
set_option linter.unusedVariables false
set_option linter.unusedSimpArgs false
theorem closeS_is {s : St} {i : Int} (h : runsB s i 3 = true) : closeS s i = closeN s i.toNat := by unfold closeS; rw [if_pos h]
theorem closeN_0 {s : St} {n : Nat} (h : (gth s.th n).pc = 0) : closeN s n = shutC s n := by unfold closeN; rw [if_pos h]
theorem closeN_1 {s : St} {n : Nat} (h : (gth s.th n).pc = 1) : closeN s n = fullC s n := by unfold closeN; rw [if_neg (by omega), if_pos h]
theorem closeN_2 {s : St} {n : Nat} (h0 : (gth s.th n).pc ≠ 0) (h1 : (gth s.th n).pc ≠ 1) : closeN s n = emptyC s n := by unfold closeN; rw [if_neg h0, if_neg h1]
theorem wkT_not {t : Th} (h : t.st ≠ 2) : wakeT t = t := by unfold wakeT; rw [if_neg h]
theorem wake_st (t : Th) : (wakeT t).st ≠ 2 := by
  unfold wakeT
  split
  · show (1 : Int) ≠ 2; decide
  · assumption
section
variable {s : St} (h : stB s = true) {n : Nat} (hn : n < s.th.length) (h1 : (gth s.th n).st = 1)
include h hn
theorem gth_shut (j : Nat) : gth (shutC s n).th j = if j = n then pcT (tellT (gth s.th n) (gth s.th n).ki 1 0) 1 else gth s.th j := by
  have hw := shut_word h (modeI (gth s.th n).ki)
  unfold shutC toldS
  rw [tell_th (n := n) hw hn]
  show gth ((s.th.set n (tellT (gth s.th n) (gth s.th n).ki 1 0)).set n (pcT (gth (s.th.set n (tellT (gth s.th n) (gth s.th n).ki 1 0)) n) 1)) j = _
  rw [List.set_set, gth_set hn, gth_set hn, if_pos rfl]
  by_cases e : n = j
  · rw [if_pos e, if_pos e.symm]
  · rw [if_neg e, if_neg (fun x => e x.symm)]
include h1
theorem gth_full {j : Nat} (hj : j < s.th.length) : gth (fullC s n).th j = if j = n then pcT (gth s.th n) 2 else if (j : Int) ∈ s.fl then wakeT (gth s.th j) else gth s.th j := by
  have hb := full_on h hn (by omega)
  have e3 := (nt_all (full_lines h).2.2.2.2.1).2.2
  unfold fullC
  rw [wakes_th _ hb (by show j < (s.th.set n _).length; simpa using hj), e3]
  have e : gth ((s.toFull (ntE s.fe s.fl) (ntL s.fl.length s.fe s.fl)).onTh n (pcT · 2)).th j = if n = j then pcT (gth s.th n) 2 else gth s.th j := gth_set hn
  rw [e]
  by_cases c : j = n
  · subst c
    rw [if_pos rfl, if_pos rfl, wkT_not (show (pcT (gth s.th j) 2).st ≠ 2 by show (gth s.th j).st ≠ 2; omega)]
    simp
  · have c' : ¬ n = j := fun x => c x.symm
    simp only [if_neg c, if_neg c']
theorem gth_empty {j : Nat} (hj : j < s.th.length) : gth (emptyC s n).th j = if j = n then doneT (gth s.th n) else if (j : Int) ∈ s.el then wakeT (gth s.th j) else gth s.th j := by
  have hb := empty_on h hn (by omega)
  have e3 := (nt_all (full_lines h).2.2.2.2.2).2.2
  unfold emptyC
  rw [wakes_th _ hb (by show j < (s.th.set n _).length; simpa using hj), e3]
  have e : gth ((s.toEmpty (ntE s.ee s.el) (ntL s.el.length s.ee s.el)).onTh n doneT).th j = if n = j then doneT (gth s.th n) else gth s.th j := gth_set hn
  rw [e]
  by_cases c : j = n
  · subst c
    rw [if_pos rfl, if_pos rfl, wkT_not (show (doneT (gth s.th j)).st ≠ 2 by show (0 : Int) ≠ 2; decide)]
    simp
  · have c' : ¬ n = j := fun x => c x.symm
    simp only [if_neg c, if_neg c']
end
/-- What threads share behind each step. -/
theorem shr_shut (s : St) (n : Nat) : shr (shutC s n) = shr (s.toWord s.hd s.tl (clM s.md (modeI (gth s.th n).ki))) := shr_told _ _ _ _ _ _
theorem shr_full (s : St) (n : Nat) : shr (fullC s n) = shr (s.toFull (ntE s.fe s.fl) (ntL s.fl.length s.fe s.fl)) := shr_wakes _ _
theorem shr_empty (s : St) (n : Nat) : shr (emptyC s n) = shr (s.toEmpty (ntE s.ee s.el) (ntL s.el.length s.ee s.el)) := shr_wakes _ _
theorem runs_of {s : St} (h : stB s = true) {n : Nat} (hn : n < s.th.length) (h1 : (gth s.th n).st = 1) (h2 : opSide (gth s.th n).ki = 3) : runsB s n 3 = true := by
  refine runs_iff.2 ⟨has_of h hn, ?_, ?_⟩ <;> rw [Int.toNat_natCast] <;> assumption
theorem runs_no {s : St} {n : Nat} (h1 : (gth s.th n).st ≠ 1) : runsB s n 3 = false := by
  cases h : runsB s n 3
  · rfl
  · have := (runs_iff.1 h).2.1; rw [Int.toNat_natCast] at this; exact absurd this h1
/-- Who begins to close is done after three steps. -/
theorem three {s : St} (h : stB s = true) {n : Nat} (hn : n < s.th.length) (h1 : (gth s.th n).st = 1) (hk : opSide (gth s.th n).ki = 3) (hp : (gth s.th n).pc = 0) (m : Nat) :
    ∃ u : St, closeK s n (m + 3) = (u, 3) ∧ stB u = true ∧ u.md = clM s.md (modeI (gth s.th n).ki) ∧ u.hd = s.hd ∧ u.tl = s.tl ∧ u.fl = [] ∧ u.el = [] ∧ u.fe = nxE s.fe ∧ u.ee = nxE s.ee ∧ u.cf = s.cf ∧ u.nw = s.nw ∧ u.sl = s.sl ∧ u.sn = s.sn ∧ u.rc = s.rc ∧
      u.lg = s.lg ++ [⟨n, (gth s.th n).ki, (gth s.th n).va, 1, 0⟩] ∧ u.th.length = s.th.length ∧ gth u.th n = doneT (tellT (gth s.th n) (gth s.th n).ki 1 0) ∧
      ∀ j : Nat, j < s.th.length → j ≠ n → (gth u.th j = gth s.th j ∨ gth u.th j = wakeT (gth s.th j)) ∧ ((j : Int) ∈ s.fl ∨ (j : Int) ∈ s.el → gth u.th j = wakeT (gth s.th j)) := by
  have ki9 : (gth s.th n).ki ≠ 9 := fun e => by rw [e] at hk; exact absurd hk (by decide)
  have e9 : ∀ t : Th, tellT t (gth s.th n).ki 1 0 = ⟨t.st, t.ki, t.va, t.un, t.pc, t.re, t.se, t.tr, t.la, 1, 0⟩ := fun t => by unfold tellT; rw [if_neg ki9]
  have r0 := runs_of h hn h1 hk
  have b1 := closeN_stB h hn (by omega)
  have l1 := (closeN_oth h hn (by omega)).len
  have q1 := shr_shut s n
  have g1 := gth_shut h hn
  have o1 := closeN_lgOk (s := s) (n := n)
  have lg1 : (shutC s n).lg = s.lg ++ [⟨n, (gth s.th n).ki, (gth s.th n).va, 1, 0⟩] := lg_is (shut_word h (modeI (gth s.th n).ki)) (n := n) hn (gth s.th n).ki 1 0 1
  rw [closeN_0 hp] at b1 l1 o1
  simp only [shr, Prod.mk.injEq] at q1
  have s0 : closeS s n = shutC s n := by rw [closeS_is r0, Int.toNat_natCast, closeN_0 hp]
  obtain ⟨⟨w1, w2, w3⟩, w4, w5, w6, ⟨w7, w8⟩, w9, w10⟩ := q1
  generalize shutC s n = a at *
  have ga := g1 n
  rw [if_pos rfl, e9] at ga
  have na : n < a.th.length := by omega
  have a1 : (gth a.th n).st = 1 := by rw [ga]; exact h1
  have ak : opSide (gth a.th n).ki = 3 := by rw [ga]; exact hk
  have ap : (gth a.th n).pc = 1 := by rw [ga]; rfl
  have r1 := runs_of b1 na a1 ak
  have b2 := closeN_stB b1 na (by omega)
  have l2 := (closeN_oth b1 na (by omega)).len
  have q2 := shr_full a n
  have g2 := fun (j : Nat) (hj : j < a.th.length) => gth_full b1 na a1 hj
  have o2 := closeN_lgOk (s := a) (n := n)
  have lg2 : (fullC a n).lg = a.lg := (wakes_rest _ _).1
  rw [closeN_1 ap] at b2 l2 o2
  obtain ⟨f1, f2, -⟩ := nt_all (full_lines b1).2.2.2.2.1
  simp only [shr, Prod.mk.injEq, f1, f2] at q2
  have s1 : closeS a n = fullC a n := by rw [closeS_is r1, Int.toNat_natCast, closeN_1 ap]
  obtain ⟨⟨x1, x2, x3⟩, x4, x5, x6, ⟨x7, x8⟩, x9, x10⟩ := q2
  generalize fullC a n = b at *
  have gb := g2 n na
  rw [if_pos rfl, ga] at gb
  have nb : n < b.th.length := by omega
  have b1' : (gth b.th n).st = 1 := by rw [gb]; exact h1
  have bk : opSide (gth b.th n).ki = 3 := by rw [gb]; exact hk
  have bp : (gth b.th n).pc = 2 := by rw [gb]; rfl
  have r2 := runs_of b2 nb b1' bk
  have b3 := closeN_stB b2 nb (by omega)
  have l3 := (closeN_oth b2 nb (by omega)).len
  have q3 := shr_empty b n
  have g3 := fun (j : Nat) (hj : j < b.th.length) => gth_empty b2 nb b1' hj
  have o3 := closeN_lgOk (s := b) (n := n)
  have lg3 : (emptyC b n).lg = b.lg := (wakes_rest _ _).1
  rw [closeN_2 (by omega) (by omega)] at b3 l3 o3
  obtain ⟨f3, f4, -⟩ := nt_all (full_lines b2).2.2.2.2.2
  simp only [shr, Prod.mk.injEq, f3, f4] at q3
  have s2 : closeS b n = emptyC b n := by rw [closeS_is r2, Int.toNat_natCast, closeN_2 (by omega) (by omega)]
  obtain ⟨⟨y1, y2, y3⟩, y4, y5, y6, ⟨y7, y8⟩, y9, y10⟩ := q3
  generalize emptyC b n = u at *
  have gu := g3 n nb
  rw [if_pos rfl, gb] at gu
  have r3 : runsB u n 3 = false := runs_no (by rw [gu]; show (0 : Int) ≠ 1; decide)
  refine ⟨u, ?_, b3, ?_, ?_, ?_, ?_, ?_, ?_, ?_, ?_, ?_, ?_, ?_, ?_, ?_, ?_, ?_, ?_⟩
  · rw [closeK_on r0, s0, closeK_on r1, s1, closeK_on r2, s2, closeK_off r3]
  · rw [y3]; exact x3.trans w3
  · rw [y1]; exact x1.trans w1
  · rw [y2]; exact x2.trans w2
  · rw [y8]; exact x8
  · exact y10
  · rw [y7]; show b.fe = _; rw [x7]; show nxE a.fe = _; rw [w7]; rfl
  · rw [y9]; show nxE b.ee = _; rw [x9]; show nxE a.ee = _; rw [w9]; rfl
  · exact o3.2.1.trans (o2.2.1.trans o1.2.1)
  · exact o3.2.2.trans (o2.2.2.trans o1.2.2)
  · rw [y4]; exact x4.trans w4
  · rw [y5]; exact x5.trans w5
  · rw [y6]; exact x6.trans w6
  · rw [lg3, lg2, lg1]
  · omega
  · rw [gu, e9]; rfl
  · intro j hj hne
    have e1 := g1 j
    have e2 := g2 j (by omega)
    have e3 := g3 j (by omega)
    rw [if_neg hne] at e1 e2 e3
    have hfl : a.fl = s.fl := w8
    have hel : b.el = s.el := x10.trans w10
    rw [hfl, e1] at e2
    rw [hel, e2] at e3
    rw [e3]
    by_cases c1 : (j : Int) ∈ s.fl
    · rw [if_pos c1, wake_wake]
      refine ⟨?_, fun _ => ?_⟩
      · right; split <;> rfl
      · split <;> rfl
    · rw [if_neg c1]
      by_cases c2 : (j : Int) ∈ s.el
      · rw [if_pos c2]; exact ⟨.inr rfl, fun _ => rfl⟩
      · rw [if_neg c2]; exact ⟨.inl rfl, fun x => absurd x (by simp [c1, c2])⟩
/-- There are at most three steps. -/
theorem closeK_three {s : St} {n : Nat} (m : Nat) : (closeK s n m).2 ≤ 3 := by
  cases h0 : runsB s n 3
  · rw [closeK_off h0]; omega
  obtain ⟨hh, h1, hk⟩ := runs_iff.1 h0
  obtain ⟨h, -, hi⟩ := has_iff.1 hh
  rw [Int.toNat_natCast] at h1 hk
  have hn : n < s.th.length := by omega
  have two : ∀ {b : St}, stB b = true → n < b.th.length → (gth b.th n).st = 1 → (gth b.th n).pc ≠ 0 → (gth b.th n).pc ≠ 1 → ∀ k, (closeK b n k).2 ≤ 1 := fun {b} hb nb h1 p0 p1 k => by
    cases k with
    | zero => simp [closeK]
    | succ k =>
      cases hr : runsB b n 3
      · rw [closeK_off hr]; omega
      · rw [closeK_on hr, closeS_is hr, Int.toNat_natCast, closeN_2 p0 p1]
        have := gth_empty hb nb h1 nb
        rw [if_pos rfl] at this
        rw [closeK_off (runs_no (by rw [this]; show (0 : Int) ≠ 1; decide))]
        show 0 + 1 ≤ 1; omega
  have one : ∀ {b : St}, stB b = true → n < b.th.length → (gth b.th n).st = 1 → (gth b.th n).pc ≠ 0 → ∀ k, (closeK b n k).2 ≤ 2 := fun {b} hb nb h1 p0 k => by
    by_cases p1 : (gth b.th n).pc = 1
    · cases k with
      | zero => simp [closeK]
      | succ k =>
        cases hr : runsB b n 3
        · rw [closeK_off hr]; omega
        · rw [closeK_on hr, closeS_is hr, Int.toNat_natCast, closeN_1 p1]
          have hg := gth_full hb nb h1 nb
          rw [if_pos rfl] at hg
          have hb' := closeN_stB hb nb (by omega)
          have hl := (closeN_oth hb nb (by omega)).len
          rw [closeN_1 p1] at hb' hl
          have := two hb' (by omega) (by rw [hg]; exact h1) (by rw [hg]; show (2 : Int) ≠ 0; decide) (by rw [hg]; show (2 : Int) ≠ 1; decide) k
          show _ + 1 ≤ 2; omega
    · have := two hb nb h1 p0 p1 k; omega
  by_cases p0 : (gth s.th n).pc = 0
  · cases m with
    | zero => simp [closeK]
    | succ k =>
      rw [closeK_on h0, closeS_is h0, Int.toNat_natCast, closeN_0 p0]
      have hg := gth_shut h hn n
      rw [if_pos rfl] at hg
      have hb' := closeN_stB h hn (by omega)
      have hl := (closeN_oth h hn (by omega)).len
      rw [closeN_0 p0] at hb' hl
      have hst : (tellT (gth s.th n) (gth s.th n).ki 1 0).st = 1 := by rw [tellT_st]; exact h1
      have := one hb' (by omega) (by rw [hg]; exact hst) (by rw [hg]; show (1 : Int) ≠ 0; decide) k
      show _ + 1 ≤ 3; omega
  · have := one h hn h1 p0 m; omega
end Go.Proofs.Ytkflpaicohbppaa

/- The document's Step of who closes, and Steps, told by plain states. -/
namespace Go.Proofs.Ytkflpaicohbppaa
set_option linter.unusedVariables false
set_option linter.unusedSimpArgs false
open Go.RowKit
/-- A state that may be, whose numbers are those of an int, with not too long a log. -/
structure Wk (s : St) (N : Nat) : Prop where
  b : stB s = true
  v : Vk s
  l : s.lg.length ≤ N
theorem Wk.ok {s : St} {N : Nat} (h : Wk s N) (hN : N ≤ 1000000) : s.ok := ok_of h.b h.v (by have := h.l; omega)
theorem Wk.few {s : St} {N : Nat} (h : Wk s N) (hN : N ≤ 1000) : s.few := few_of h.b (by have := h.l; omega)
theorem Wk.fit {s : St} {N : Nat} (h : Wk s N) (hN : N ≤ 1000000) : s.fit := fit_of h.b (by have := h.l; omega)
theorem Wk.wake {s : St} {N : Nat} (h : Wk s N) (i : Int) : Wk (wakeS s i) N := ⟨wake_stB h.b i, h.v.wake i, by rw [(wake_rest s i).1]; exact h.l⟩
theorem Wk.wakes {N : Nat} : ∀ (l : List Int) {s : St}, Wk s N → Wk (wakesS l s) N
  | [], _, h => h
  | i :: l, _, h => Wk.wakes l (h.wake i)
/-- What is true of a state in which thread n, at step c, closes. -/
structure Dc (s : St) (n : Nat) (c : Int) : Prop where
  w : Wk s 999
  hn : n < s.th.length
  st : (gth s.th n).st = 1
  sd : opSide (gth s.th n).ki = 3
  pc : (gth s.th n).pc = c
section
variable {s : St} {n : Nat} {c : Int}
theorem Dc.ok (h : Dc s n c) : s.ok := h.w.ok (by omega)
theorem Dc.few (h : Dc s n c) : s.few := h.w.few (by omega)
theorem Dc.ht (h : Dc s n c) : gth s.th n = pcT (gth s.th n) c := by rw [← h.pc]; rfl
theorem Dc.ix (h : Dc s n c) : IxP ((s.th.map thT).toArray) (n : Int) (thT (pcT (gth s.th n) c)) := by
  have := ixT h.hn
  rw [h.ht] at this
  exact this
theorem Dc.has (h : Dc s n c) : hasB s n = true := has_of h.w.b h.hn
theorem Dc.ru (h : Dc s n c) : runsB s n 3 = true := runs_iff.2 ⟨h.has, by simpa using h.st, by simpa using h.sd⟩
theorem Dc.rs (h : Dc s n c) : thRuns (gth s.th n).st = 0 := by rw [h.st]; rfl
theorem wk_full {s : St} {N n : Nat} (h : Wk s N) (hn : n < s.th.length) (h1 : (gth s.th n).st ≠ 0) : Wk ((s.toFull (nxE s.fe) []).onTh n (pcT · 2)) N := by
  obtain ⟨e1, e2, -⟩ := nt_all (full_lines h.b).2.2.2.2.1
  refine ⟨?_, Vk.on (s := s.toFull (nxE s.fe) []) (f := (pcT · 2)) ⟨h.v.cf, h.v.sl, h.v.th⟩ hn fun _ => ⟨rfl, rfl⟩, h.l⟩
  have := full_on h.b hn h1
  rwa [e1, e2] at this
theorem wk_empty {s : St} {N n : Nat} (h : Wk s N) (hn : n < s.th.length) (h1 : (gth s.th n).st ≠ 0) : Wk ((s.toEmpty (nxE s.ee) []).onTh n doneT) N := by
  obtain ⟨e1, e2, -⟩ := nt_all (full_lines h.b).2.2.2.2.2
  refine ⟨?_, Vk.on (s := s.toEmpty (nxE s.ee) []) (f := doneT) ⟨h.v.cf, h.v.sl, h.v.th⟩ hn fun _ => ⟨rfl, rfl⟩, h.l⟩
  have := empty_on h.b hn h1
  rwa [e1, e2] at this
theorem fullC_is {s : St} (h : stB s = true) (n : Nat) : fullC s n = wakesS s.fl ((s.toFull (nxE s.fe) []).onTh n (pcT · 2)) := by
  obtain ⟨e1, e2, e3⟩ := nt_all (full_lines h).2.2.2.2.1
  unfold fullC; rw [e1, e2, e3]
theorem emptyC_is {s : St} (h : stB s = true) (n : Nat) : emptyC s n = wakesS s.el ((s.toEmpty (nxE s.ee) []).onTh n doneT) := by
  obtain ⟨e1, e2, e3⟩ := nt_all (full_lines h).2.2.2.2.2
  unfold emptyC; rw [e1, e2, e3]
theorem Wk.shut {s : St} {N : Nat} (h : Wk s N) (d : Int) : Wk (s.toWord s.hd s.tl (clM s.md d)) N := ⟨shut_word h.b d, ⟨h.v.cf, h.v.sl, h.v.th⟩, h.l⟩
theorem closeN_wk {s : St} {N n : Nat} (h : Wk s N) (hn : n < s.th.length) (h1 : (gth s.th n).st ≠ 0) : Wk (closeN s n) (N + 1) := by
  have up : ∀ {u : St}, Wk u N → Wk u (N + 1) := fun w => ⟨w.b, w.v, by have := w.l; omega⟩
  refine closeN_ind (P := fun u => Wk u (N + 1)) ?_ ?_ ?_
  · have hw := h.shut (modeI (gth s.th n).ki)
    refine ⟨told_stB hw.b hn h1 (by decide) (by decide), hw.v.told hw.b hn (.inr (by constructor <;> omega)), ?_⟩
    have := told_lg hw.b (n := n) hn (k := (gth s.th n).ki) (r := 1) (g := 0) (p := 1)
    have hl : (s.toWord s.hd s.tl (clM s.md (modeI (gth s.th n).ki))).lg.length = s.lg.length := rfl
    have := h.l
    show (toldS _ n _ 1 0 1).lg.length ≤ _
    omega
  · rw [fullC_is h.b]; exact up (Wk.wakes _ (wk_full h hn h1))
  · rw [emptyC_is h.b]; exact up (Wk.wakes _ (wk_empty h hn h1))
theorem line_le {m : Int} {l : List Int} (h : stnB m l = true) : l.length ≤ 16 := ok_len (stn_iff.1 h).1
end
section
variable {s : St} {i m o : Int} {b : Bool}
end
end Go.Proofs.Ytkflpaicohbppaa
