/- Layer 9, plain: the places of a ring. -/
import Derived.Test.YtbfmnlniabldbaaPosC
import Derived.Test.YtbfmnlniabldbaaRow
namespace Go.Proofs.Ytbfmnlniabldbaa
set_option linter.unusedVariables false
set_option linter.unusedSimpArgs false

/-- A slot: its stamp, its value. -/
structure Slo where
  st : Int
  vl : Int
def Slo.cells (s : Slo) : List Value := [.int .i64 s.st, .int .i64 s.vl]
theorem Slo.enc : Enc 2 Slo.cells := ⟨fun _ => rfl, fun x c hc => by simp [Slo.cells] at hc; rcases hc with rfl | rfl <;> rfl⟩
instance sloEq : DecidableEq Slo := fun a b => decidable_of_iff (a.st = b.st ∧ a.vl = b.vl) (by cases a; cases b; simp)
def gs (l : List Slo) (i : Nat) : Slo := l.getD i ⟨0, 0⟩
theorem gs_some {l : List Slo} {i : Nat} (h : i < l.length) : l[i]? = some (gs l i) := by simp [gs, h]
theorem gs_eq {l : List Slo} {i : Nat} (h : i < l.length) : gs l i = l[i] := by simp [gs, h]
theorem gs_set {l : List Slo} {i j : Nat} {s : Slo} (h : i < l.length) : gs (l.set i s) j = if i = j then s else gs l j := by
  simp only [gs, List.getD_eq_getElem?_getD, List.getElem?_set]
  by_cases e : i = j
  · subst e; simp [h]
  · simp [e]
theorem gs_take {l : List Slo} {j : Nat} (h : j < l.length) : l.take (j + 1) = l.take j ++ [gs l j] := by
  rw [List.take_succ_eq_append_getElem h, gs_eq h]

def ringB (r : Int) : Bool := decide (1 ≤ r) && decide (r ≤ 64)
def newL (r : Int) : List Slo := if ringB r = true then (List.range r.toNat).map fun (i : Nat) => (⟨(i : Int), 0⟩ : Slo) else []
/-- Whether a slot may lie at place i of n. -/
def slotB (n i : Nat) (s : Slo) : Bool := decide (0 ≤ s.st) && decide (s.st ≤ 2199023255552) && placeI s.st n == i
def okSl (l : List Slo) : Bool := ringB l.length && (List.range l.length).all fun i => slotB l.length i (gs l i)
def liesS (l : List Slo) (p : Int) : Bool := decide (0 ≤ p) && okSl l
def plc (l : List Slo) (p : Int) : Nat := (placeI p l.length).toNat
def rdyB (l : List Slo) (p : Int) : Bool := liesS l p && (gs l (plc l p)).st == p
def wrE (l : List Slo) (p : Int) : Int := if liesS l p = false then 40 else if rdyB l p = false then 30 else 0
def wrL (l : List Slo) (p v : Int) : List Slo := if rdyB l p = true then l.set (plc l p) ⟨p, v⟩ else l
def rdE (l : List Slo) (p : Int) : Int := if rdyB l p = true then 0 else 40
def rdV (l : List Slo) (p : Int) : Int := if rdyB l p = true then (gs l (plc l p)).vl else 0
def rlB (l : List Slo) (p : Int) : Bool := rdyB l p && decide (p ≤ 1099511627776)
def rlE (l : List Slo) (p : Int) : Int := if rlB l p = true then 0 else 40
def rlL (l : List Slo) (p : Int) : List Slo := if rlB l p = true then l.set (plc l p) ⟨p + l.length, (gs l (plc l p)).vl⟩ else l

theorem ring_iff {r : Int} : ringB r = true ↔ 1 ≤ r ∧ r ≤ 64 := by simp [ringB]
theorem slot_iff {n i : Nat} {s : Slo} : slotB n i s = true ↔ 0 ≤ s.st ∧ s.st ≤ 2199023255552 ∧ placeI s.st n = i := by simp [slotB, and_assoc]
theorem ok_iff {l : List Slo} : okSl l = true ↔ (1 ≤ l.length ∧ l.length ≤ 64) ∧ ∀ i, i < l.length → slotB l.length i (gs l i) = true := by
  unfold okSl
  rw [Bool.and_eq_true, ring_iff, List.all_eq_true]
  simp only [List.mem_range]
  constructor
  · rintro ⟨h1, h2⟩; exact ⟨by omega, h2⟩
  · rintro ⟨h1, h2⟩; exact ⟨by omega, h2⟩
theorem lies_iff {l : List Slo} {p : Int} : liesS l p = true ↔ 0 ≤ p ∧ okSl l = true := by simp [liesS]
theorem plc_lt {l : List Slo} {p : Int} (h : liesS l p = true) : plc l p < l.length ∧ placeI p l.length = (plc l p : Int) := by
  obtain ⟨h1, h2⟩ := lies_iff.1 h
  have := (ok_iff.1 h2).1
  have := place_bd h1 (show (1 : Int) ≤ (l.length : Int) by omega)
  unfold plc
  omega
theorem rdy_lies {l : List Slo} {p : Int} (h : rdyB l p = true) : liesS l p = true ∧ (gs l (plc l p)).st = p := by
  simpa [rdyB] using h
theorem rdy_iff {l : List Slo} {p : Int} : rdyB l p = true ↔ liesS l p = true ∧ (gs l (plc l p)).st = p := by simp [rdyB]

/-! ### What stamps alone tell -/
abbrev sts (l : List Slo) : List Int := l.map Slo.st
theorem sts_len {l m : List Slo} (h : sts l = sts m) : l.length = m.length := by simpa using congrArg List.length h
theorem sts_gs {l m : List Slo} (h : sts l = sts m) (i : Nat) : (gs l i).st = (gs m i).st := by
  have hl := sts_len h
  by_cases hi : i < l.length
  · rw [gs_eq hi, gs_eq (by omega)]
    have h1 := congrArg (·[i]?) h
    simp only [sts, List.getElem?_map, List.getElem?_eq_getElem hi, List.getElem?_eq_getElem (show i < m.length by omega), Option.map_some, Option.some.injEq] at h1
    exact h1
  · simp [gs, List.getElem?_eq_none (show l.length ≤ i by omega), List.getElem?_eq_none (show m.length ≤ i by omega)]
theorem ok_sts {l m : List Slo} (h : sts l = sts m) : okSl l = okSl m := by
  rw [Bool.eq_iff_iff, ok_iff, ok_iff, sts_len h]
  refine and_congr_right fun _ => forall₂_congr fun i _ => ?_
  rw [slot_iff, slot_iff, sts_gs h]
theorem plc_sts {l m : List Slo} (h : sts l = sts m) (p : Int) : plc l p = plc m p := by unfold plc; rw [sts_len h]
theorem lies_sts {l m : List Slo} (h : sts l = sts m) (p : Int) : liesS l p = liesS m p := by unfold liesS; rw [ok_sts h]
theorem rdy_sts {l m : List Slo} (h : sts l = sts m) (p : Int) : rdyB l p = rdyB m p := by unfold rdyB; rw [lies_sts h, plc_sts h, sts_gs h]
theorem wrE_sts {l m : List Slo} (h : sts l = sts m) (p : Int) : wrE l p = wrE m p := by unfold wrE; rw [lies_sts h, rdy_sts h]
theorem rdE_sts {l m : List Slo} (h : sts l = sts m) (p : Int) : rdE l p = rdE m p := by unfold rdE; rw [rdy_sts h]
theorem wr_sts (l : List Slo) (p v : Int) : sts (wrL l p v) = sts l := by
  unfold wrL
  split
  · rename_i h
    obtain ⟨h1, h2⟩ := rdy_lies h
    have h3 := (plc_lt h1).1
    apply List.ext_getElem?
    intro j
    simp only [sts, List.getElem?_map, List.getElem?_set]
    by_cases e : plc l p = j
    · subst e
      rw [if_pos rfl, if_pos h3, List.getElem?_eq_getElem h3, ← gs_eq h3]
      simp [h2]
    · rw [if_neg e]
  · rfl
theorem wr_len (l : List Slo) (p v : Int) : (wrL l p v).length = l.length := sts_len (wr_sts l p v)
theorem rl_len (l : List Slo) (p : Int) : (rlL l p).length = l.length := by unfold rlL; split <;> simp

/-! ### What the statements ask -/
theorem wr_or (l : List Slo) (p v : Int) : (wrE l p = 0 ∧ rdyB l p = true ∧ liesS l p = true) ∨ (wrE l p = 30 ∧ wrL l p v = l ∧ liesS l p = true) ∨ (wrE l p = 40 ∧ wrL l p v = l ∧ liesS l p = false) := by
  unfold wrE wrL
  cases h : liesS l p
  · have : rdyB l p = false := by simp [rdyB, h]
    simp [this]
  · cases h2 : rdyB l p <;> simp
theorem wr_read {l : List Slo} {p v : Int} (h : rdyB l p = true) : rdV (wrL l p v) p = v ∧ rdE (wrL l p v) p = 0 := by
  have hs := wr_sts l p v
  unfold rdV rdE
  rw [rdy_sts hs, h, plc_sts hs]
  simp only [if_true, and_true]
  obtain ⟨h1, _⟩ := rdy_lies h
  unfold wrL
  rw [if_pos h, gs_set (plc_lt h1).1, if_pos rfl]
theorem plc_apart {l : List Slo} {p q : Int} (h : rdyB l p = true) (k : rdyB l q = true) (hne : p ≠ q) : plc l p ≠ plc l q := by
  intro e
  have h1 := (rdy_lies h).2
  have h2 := (rdy_lies k).2
  rw [e, h2] at h1
  exact hne h1.symm
theorem wr_other {l : List Slo} {p q v : Int} (h : rdyB l p = true) (hne : q ≠ p) : rdV (wrL l p v) q = rdV l q := by
  have hs := wr_sts l p v
  unfold rdV
  rw [rdy_sts hs, plc_sts hs]
  split
  · rename_i k
    unfold wrL
    rw [if_pos h, gs_set (plc_lt (rdy_lies h).1).1, if_neg (plc_apart h k (Ne.symm hne))]
  · rfl
theorem wr_comm (l : List Slo) {p q : Int} (a b : Int) (hne : p ≠ q) : wrL (wrL l p a) q b = wrL (wrL l q b) p a := by
  have h1 := wr_sts l p a
  have h2 := wr_sts l q b
  have e1 : wrL (wrL l p a) q b = if rdyB l q = true then (wrL l p a).set (plc l q) ⟨q, b⟩ else wrL l p a := by
    conv => lhs; unfold wrL
    rw [rdy_sts (show sts (if rdyB l p = true then l.set (plc l p) ⟨p, a⟩ else l) = sts l from h1), plc_sts (show sts (if rdyB l p = true then l.set (plc l p) ⟨p, a⟩ else l) = sts l from h1)]
    rfl
  have e2 : wrL (wrL l q b) p a = if rdyB l p = true then (wrL l q b).set (plc l p) ⟨p, a⟩ else wrL l q b := by
    conv => lhs; unfold wrL
    rw [rdy_sts (show sts (if rdyB l q = true then l.set (plc l q) ⟨q, b⟩ else l) = sts l from h2), plc_sts (show sts (if rdyB l q = true then l.set (plc l q) ⟨q, b⟩ else l) = sts l from h2)]
    rfl
  rw [e1, e2]
  unfold wrL
  cases hp : rdyB l p <;> cases hq : rdyB l q <;> simp
  exact List.set_comm _ _ (plc_apart hp hq hne)
/-- A lap later a position lies at the same place. -/
theorem place_lap {p n : Int} (h : 0 ≤ p) (hn : 1 ≤ n) : placeI (p + n) n = placeI p n := by
  have := (laps_later h hn (show (0 : Int) ≤ 1 by omega)).2
  rwa [Int.one_mul] at this
/-- Who is released. -/
theorem rl_laid {a : List Slo} {p : Int} (h : rdyB a p = true) (hp : p ≤ 1099511627776) :
    okSl (rlL a p) = true ∧ rlE a p = 0 ∧ rdyB (rlL a p) p = false ∧ rdyB (rlL a p) (p + a.length) = true ∧ rlL a p = a.set (plc a p) ⟨p + a.length, (gs a (plc a p)).vl⟩ := by
  obtain ⟨h1, h2⟩ := rdy_lies h
  obtain ⟨h3, h4⟩ := plc_lt h1
  obtain ⟨h5, h6⟩ := lies_iff.1 h1
  obtain ⟨h7, h8⟩ := ok_iff.1 h6
  have hB : rlB a p = true := by simp [rlB, h, hp]
  have hL : rlL a p = a.set (plc a p) ⟨p + a.length, (gs a (plc a p)).vl⟩ := by unfold rlL; rw [if_pos hB]
  have hlap : placeI (p + a.length) a.length = (plc a p : Int) := by rw [place_lap h5 (by omega)]; exact h4
  have hok : okSl (rlL a p) = true := by
    rw [ok_iff, rl_len]
    refine ⟨h7, fun i hi => ?_⟩
    rw [hL, gs_set h3]
    split
    · rename_i e
      subst e
      exact slot_iff.2 ⟨by simp only; omega, by simp only; omega, hlap⟩
    · exact h8 i hi
  have hg : ∀ q : Int, placeI q a.length = (plc a p : Int) → gs (rlL a p) (plc (rlL a p) q) = ⟨p + a.length, (gs a (plc a p)).vl⟩ := by
    intro q hq
    have : plc (rlL a p) q = plc a p := by unfold plc at *; rw [rl_len, hq]; omega
    rw [this, hL, gs_set h3, if_pos rfl]
  refine ⟨hok, by simp [rlE, hB], ?_, ?_, hL⟩
  · unfold rdyB
    rw [hg p h4]
    simp; intro _; omega
  · rw [rdy_iff, hg _ hlap]
    exact ⟨lies_iff.2 ⟨by omega, hok⟩, rfl⟩
theorem rl_far {a : List Slo} {p : Int} (hp : 1099511627776 < p) : rlE a p = 40 := by
  have : rlB a p = false := by simp [rlB]; intro _; omega
  simp [rlE, this]
/-- Each slot's own position has its turn. -/
theorem own_turn {l : List Slo} (h : okSl l = true) {i : Nat} (hi : i < l.length) : 0 ≤ (gs l i).st ∧ (gs l i).st ≤ 2199023255552 ∧ rdyB l (gs l i).st = true := by
  obtain ⟨h1, h2, h3⟩ := slot_iff.1 ((ok_iff.1 h).2 i hi)
  refine ⟨h1, h2, rdy_iff.2 ⟨lies_iff.2 ⟨h1, h⟩, ?_⟩⟩
  have : plc l (gs l i).st = i := by unfold plc; rw [h3]; omega
  rw [this]
/-- How many of the first j positions, a lap apart, lie at the stamp. -/
def tn (s p n : Int) : Nat → Int
  | 0 => 0
  | j + 1 => tn s p n j + if s = p + j * n then 1 else 0
theorem tn_or {s p n : Int} (hn : 1 ≤ n) : ∀ j : Nat, tn s p n j = 0 ∨ tn s p n j = 1 ∧ s < p + j * n
  | 0 => .inl rfl
  | j + 1 => by
    have ih := tn_or (s := s) (p := p) hn j
    have e : ((j + 1 : Nat) : Int) * n = j * n + n := by rw [Int.natCast_add, Int.add_mul]; omega
    unfold tn
    rw [e]
    by_cases h : s = p + j * n
    · rw [if_pos h]; rcases ih with ih | ⟨_, ih⟩
      · right; omega
      · omega
    · rw [if_neg h]; rcases ih with ih | ih
      · left; omega
      · right; omega
theorem turn_at {l : List Slo} (h : okSl l = true) {p : Int} (hp : 0 ≤ p) (j : Nat) : rdyB l (p + j * l.length) = decide ((gs l (plc l p)).st = p + j * l.length) := by
  have h1 := (ok_iff.1 h).1
  have hj : 0 ≤ (j : Int) * l.length := Int.mul_nonneg (by omega) (by omega)
  have h2 := (laps_later hp (show (1 : Int) ≤ (l.length : Int) by omega) (show (0 : Int) ≤ (j : Int) by omega)).2
  have h3 : plc l (p + j * l.length) = plc l p := by unfold plc; rw [h2]
  have h4 : liesS l (p + j * l.length) = true := lies_iff.2 ⟨by omega, h⟩
  unfold rdyB
  rw [h3, h4]
  rw [Bool.eq_iff_iff]; simp

/-! ### Lap by lap -/
/-- At p it is each position's turn, up to a lap. -/
structure Lap (k : Nat) (p : Nat) (l : List Slo) : Prop where
  len : l.length = k
  ok : okSl l = true
  its : ∀ q : Nat, p ≤ q → q < p + k → rdyB l q = true
theorem new_len {k : Nat} (h : 1 ≤ k ∧ k ≤ 64) : (newL k).length = k := by
  unfold newL; rw [if_pos (ring_iff.2 (by omega))]; simp
theorem new_gs {k : Nat} (h : 1 ≤ k ∧ k ≤ 64) {i : Nat} (hi : i < k) : gs (newL k) i = ⟨i, 0⟩ := by
  unfold newL; rw [if_pos (ring_iff.2 (by omega))]; simp [gs, hi]
theorem place_small {i k : Nat} (hi : i < k) : placeI i k = i := by
  rw [place_of (by omega) (by omega)]
  exact Int.emod_eq_of_lt (by omega) (by omega)
theorem new_ok {k : Nat} (h : 1 ≤ k ∧ k ≤ 64) : okSl (newL k) = true := by
  rw [ok_iff, new_len h]
  refine ⟨h, fun i hi => ?_⟩
  rw [new_gs h hi]
  exact slot_iff.2 ⟨by simp only; omega, by simp only; omega, place_small hi⟩
theorem lap_new {k : Nat} (h : 1 ≤ k ∧ k ≤ 64) : Lap k 0 (newL k) := by
  refine ⟨new_len h, new_ok h, fun q _ hq => rdy_iff.2 ⟨lies_iff.2 ⟨by omega, new_ok h⟩, ?_⟩⟩
  have : plc (newL k) q = q := by unfold plc; rw [new_len h, place_small (by omega)]; omega
  rw [this, new_gs h (by omega)]
theorem lap_step {k p : Nat} {l : List Slo} (h : Lap k p l) (hp : p ≤ 300) : let a := wrL l p (3 * (p : Int)); wrE l p = 0 ∧ wrE a ((p : Int) + k) = 30 ∧ rdV a p = 3 * (p : Int) ∧ rdE a p = 0 ∧ rlE a p = 0 ∧ okSl (rlL a p) = true ∧ Lap k (p + 1) (rlL a p) := by
  intro a
  have hk := (ok_iff.1 h.ok).1
  rw [h.len] at hk
  have hr := h.its p (Nat.le_refl _) (by omega)
  have hs : sts a = sts l := wr_sts l _ _
  have hl : a.length = k := (sts_len hs).trans h.len
  have hra : rdyB a p = true := by rw [rdy_sts hs]; exact hr
  obtain ⟨h1, h2, h3, h4, h5⟩ := rl_laid hra (by omega)
  obtain ⟨h6, h7⟩ := rdy_lies hra
  have hoka := (lies_iff.1 h6).2
  have hw : wrE l p = 0 := by unfold wrE; rw [(rdy_lies hr).1, hr]; rfl
  have hf : wrE a ((p : Int) + k) = 30 := by
    have e1 : liesS a ((p : Int) + k) = true := lies_iff.2 ⟨by omega, hoka⟩
    have e2 : rdyB a ((p : Int) + k) = false := by
      have := turn_at hoka (p := (p : Int)) (by omega) 1
      rw [hl, h7] at this
      simp only [Int.natCast_one, Int.one_mul] at this
      rw [this, decide_eq_false_iff_not]; omega
    unfold wrE; rw [e1, e2]; rfl
  obtain ⟨h8, h9⟩ := wr_read (v := 3 * (p : Int)) hr
  refine ⟨hw, hf, h8, h9, h2, h1, ⟨(rl_len _ _).trans hl, h1, fun q hq hq' => ?_⟩⟩
  by_cases e : q = p + k
  · subst e
    rw [hl] at h4
    rw [Int.natCast_add]; exact h4
  · have hrq : rdyB a q = true := by rw [rdy_sts hs]; exact h.its q (by omega) (by omega)
    obtain ⟨g1, g2⟩ := rdy_lies hrq
    refine rdy_iff.2 ⟨lies_iff.2 ⟨by omega, h1⟩, ?_⟩
    have e1 : plc (rlL a p) q = plc a q := by unfold plc; rw [rl_len]
    rw [e1, h5, gs_set (plc_lt h6).1, if_neg (plc_apart hra hrq (by omega))]
    exact g2
end Go.Proofs.Ytbfmnlniabldbaa
