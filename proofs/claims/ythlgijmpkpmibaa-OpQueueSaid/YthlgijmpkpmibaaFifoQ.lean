/- Contracts of the program's own functions of layer 3 that turn the queue. -/
import Derived.Test.YthlgijmpkpmibaaFifoP
namespace Go.Proofs.Ythlgijmpkpmibaa
set_option linter.unusedVariables false
set_option linter.unusedSimpArgs false
open Go.ChangeShapes Go.WideShapes Go.ChangeAt Go.RowKit

theorem Ov.head {w : World} {base : Nat} {v : Int} {r : List Int} {g o k : Nat} (h : Ov w base (v :: r) (some ⟨g, o, none⟩) k) : w.cell? ⟨g, o, none⟩ = some (.int .i64 v) := by
  obtain ⟨g, o, cur, hp, h1, h2, h3, h4, h5, h6⟩ := h
  cases hp
  have := h6 0 v rfl
  simp [World.cell?, h2, ← this]

set_option maxHeartbeats 1000000 in
theorem ptake_any (base qb : Nat) (a : Qu) (p : Option Addr) (k : Nat) (w : World) (hA : At w base qb a p k) (n : Int) : Calls Try.prog 48 #[.pointer (some ⟨qb, 0, none⟩), .int .i64 n] w (Told base qb p (a.gone n) w) := by
  have hz := hA.lt
  obtain ⟨⟨c0, c1, c2, c3⟩, hf⟩ := hA.cells
  obtain ⟨l, qc, qp, qm⟩ := a
  have hf0 := hf 0
  have hlen := hA.own.len
  have hmx := hA.own.max
  unfold maxLen at hmx
  clear hf
  simp only at *
  cases l with
  | nil =>
    have hq : Hid (Qu.gone ⟨[], qc, qp, qm⟩ n = (⟨[], qc, qp, qm⟩, false)) := Lib.hid rfl
    go_enter Try.func48, Try.ntmps48
    go_wp2
    go_ret
    rw [hq.out]
    exact told_of_kept hA ⟨rfl, by repeat' (first | (with_reducible exact Below.refl _ _) | (with_reducible assumption) | (with_reducible refine kept_alloc ?_ _) | (with_reducible refine kept_drewN ?_ _) | (with_reducible refine Below.drew ?_) | (with_reducible refine Below.setCell ?_ (by first | omega | (simp; omega) | (simp; done)) _) | (refine kept_trans ?_ (by with_reducible assumption)))⟩
  | cons v r =>
    obtain ⟨g, o, hp⟩ : ∃ g o, p = some ⟨g, o, none⟩ := by obtain ⟨g, o, _, h, _⟩ := hA.own; exact ⟨g, o, h⟩
    subst hp
    have ch := hA.own.head
    have hne : g ≠ qb := hA.ne _ rfl
    obtain ⟨N, hN⟩ : ∃ N, (v :: r).length = N := ⟨_, rfl⟩
    have hNr : r.length + 1 = N := hN
    rw [hN] at c0 hlen
    have h0 : ((N : Int) == 0) = false := by simp; omega
    have h1 : (0 : Int) < (N : Int) := by omega
    have h2 : (1 : Int) ≤ (N : Int) := by omega
    have h3 : (N : Int) ≤ (k : Int) := by omega
    have hNh := Lib.hid hN
    have hNr' := Lib.hid hNr
    clear hN hNr
    cases hv : (v != n)
    · obtain rfl : v = n := by simpa using hv
      have hq : Hid (Qu.gone ⟨v :: r, qc, qp, qm⟩ v = (⟨r, qc, qp, qm⟩, true)) := Lib.hid (by simp [Qu.gone, Qu.with])
      by_cases hk3 : k = 1
      · subst hk3
        obtain rfl : N = 1 := by omega
        go_enter Try.func48, Try.ntmps48
        go_wp2
        go_ret
        rw [hq.out]
        have hrl : r.length = 0 := by have := hNr'.out; omega
        have hT : Ov w base r (some ⟨g, o, none⟩) 0 := hA.own.tail (x := ⟨g, o, none⟩) (fun h => absurd h (by omega)) (fun _ => rfl)
        have hS := At.setVals (a := ⟨v :: r, qc, qp, qm⟩) hA.obj hA.ge hT hA.ne
        rw [hrl] at hS
        exact ⟨rfl, _, _, hS, (Chg.refl qb _ w).set (x := ⟨qb, 0, none⟩) rfl _, fun x hx => .inl ⟨_, rfl, by cases hx; rfl⟩⟩
      · have hk4 : ((1 : Int) == (k : Int)) = false := by simp; omega
        go_enter Try.func48, Try.ntmps48
        go_wp2
        go_ret
        rw [hq.out]
        have hrl : r.length = N - 1 := by have := hNr'.out; omega
        have hT : Ov w base r (some ⟨g, o + 1, none⟩) (k - 1) := hA.own.tail (x := ⟨g, o + 1, none⟩) (fun _ => rfl) (fun h => absurd h (by omega))
        have hS := At.setVals (a := ⟨v :: r, qc, qp, qm⟩) hA.obj hA.ge hT (fun x hx => by cases hx; exact hne)
        rw [hrl] at hS
        exact ⟨rfl, _, _, hS, (Chg.refl qb _ w).set (x := ⟨qb, 0, none⟩) rfl _, fun x hx => .inl ⟨_, rfl, by cases hx; rfl⟩⟩
    · have hn : v ≠ n := by simpa using hv
      have hq : Hid (Qu.gone ⟨v :: r, qc, qp, qm⟩ n = (⟨v :: r, qc, qp, qm⟩, false)) := Lib.hid (by simp [Qu.gone, hn])
      clear hn
      go_enter Try.func48, Try.ntmps48
      go_wp2
      go_ret
      rw [hq.out]
      exact told_of_kept hA ⟨rfl, by repeat' (first | (with_reducible exact Below.refl _ _) | (with_reducible assumption) | (with_reducible refine kept_alloc ?_ _) | (with_reducible refine kept_drewN ?_ _) | (with_reducible refine Below.drew ?_) | (with_reducible refine Below.setCell ?_ (by first | omega | (simp; omega) | (simp; done)) _) | (refine kept_trans ?_ (by with_reducible assumption)))⟩

theorem Told.after {base qb : Nat} {p : Option Addr} {r : Qu × Bool} {w w1 : World} {e : Ending} {w' : World} (hk : Below w.heap.size w w1) (h : Told base qb p r w1 e w') : Told base qb p r w e w' := by
  obtain ⟨he, p', k', h1, h2, h3⟩ := h
  exact ⟨he, p', k', h1, Chg.after hk h2, fun x hx => (h3 x hx).imp id (fun h => Nat.le_trans hk.size h)⟩

set_option maxHeartbeats 1000000 in
theorem pgive_any (base qb : Nat) (a : Qu) (p : Option Addr) (k : Nat) (w : World) (hA : At w base qb a p k) (th ki va re go : Int) : Calls Try.prog 40 #[.pointer (some ⟨qb, 0, none⟩), .agg #[.int .i64 th, .int .i64 ki, .int .i64 va, .int .i64 re, .int .i64 go]] w (Told base qb p (if a.mode = 2 then (a, false) else a.gone go) w) := by
  have hz := hA.lt
  obtain ⟨⟨c0, c1, c2, c3⟩, -⟩ := hA.cells
  cases b0 : (a.mode != 2)
  · have h2 : a.mode = 2 := by simpa using b0
    have hq : Hid ((if a.mode = 2 then (a, false) else a.gone go) = (a, false)) := Lib.hid (by rw [if_pos h2])
    clear h2
    rw [hq.out]
    go_enter Try.func40, Try.ntmps40
    go_wp2
    go_ret
    exact told_of_kept hA ⟨rfl, by repeat' (first | (with_reducible exact Below.refl _ _) | (with_reducible assumption) | (with_reducible refine kept_alloc ?_ _) | (with_reducible refine kept_drewN ?_ _) | (with_reducible refine Below.drew ?_) | (with_reducible refine Below.setCell ?_ (by first | omega | (simp; omega) | (simp; done)) _) | (refine kept_trans ?_ (by with_reducible assumption)))⟩
  · have h2 : a.mode ≠ 2 := by simpa using b0
    have hq : Hid ((if a.mode = 2 then (a, false) else a.gone go) = a.gone go) := Lib.hid (by rw [if_neg h2])
    clear h2
    rw [hq.out]
    go_enter Try.func40, Try.ntmps40
    go_wp2_with ((go_at_call 48; refine (ptake_any base qb a p k _ (hA.kept (by repeat' (first | (with_reducible exact Below.refl _ _) | (with_reducible assumption) | (with_reducible refine kept_alloc ?_ _) | (with_reducible refine kept_drewN ?_ _) | (with_reducible refine Below.drew ?_) | (with_reducible refine Below.setCell ?_ (by first | omega | (simp; omega) | (simp; done)) _) | (refine kept_trans ?_ (by with_reducible assumption))))) _).mono ?_; rintro e wx hT; obtain ⟨rfl, hT2⟩ := hT))
    go_ret
    exact Told.after (by repeat' (first | (with_reducible exact Below.refl _ _) | (with_reducible assumption) | (with_reducible refine kept_alloc ?_ _) | (with_reducible refine kept_drewN ?_ _) | (with_reducible refine Below.drew ?_) | (with_reducible refine Below.setCell ?_ (by first | omega | (simp; omega) | (simp; done)) _) | (refine kept_trans ?_ (by with_reducible assumption)))) ⟨rfl, hT2⟩

set_option maxHeartbeats 1000000 in
theorem pevict_any (base qb : Nat) (a : Qu) (p : Option Addr) (k : Nat) (w : World) (hA : At w base qb a p k) (th ki va re go : Int) : Calls Try.prog 43 #[.pointer (some ⟨qb, 0, none⟩), .agg #[.int .i64 th, .int .i64 ki, .int .i64 va, .int .i64 re, .int .i64 go]] w (Told base qb p (if decide (a.mode = 0) && decide (a.cap ≤ (a.vals.length : Int)) && decide (a.pol = 2) then a.gone go else (a, false)) w) := by
  have hz := hA.lt
  obtain ⟨⟨c0, c1, c2, c3⟩, -⟩ := hA.cells
  cases b0 : (decide (a.mode = 0) && decide (a.cap ≤ (a.vals.length : Int)) && decide (a.pol = 2))
  · go_enter Try.func43, Try.ntmps43
    go_wp2_with ((go_at_call 47; refine (pturns_any qb a.vals a.cap a.pol a.mode p k _ (by first | assumption | (simp; omega)) (by first | assumption | (refine (World.cell?_alloc_past _ _ _ (by first | assumption | (simp; omega))).trans ?_; assumption)) (by first | assumption | (refine (World.cell?_alloc_past _ _ _ (by first | assumption | (simp; omega))).trans ?_; assumption)) (by first | assumption | (refine (World.cell?_alloc_past _ _ _ (by first | assumption | (simp; omega))).trans ?_; assumption)) (by first | assumption | (refine (World.cell?_alloc_past _ _ _ (by first | assumption | (simp; omega))).trans ?_; assumption)) _).mono ?_; rintro e wx ⟨rfl, hgx⟩; rw [b0]; obtain ⟨hcx, hfx⟩ := bcell hgx; have hz0 : w.heap.size < wx.heap.size := (by have := hgx.size; simp at this; omega)))
    go_ret
    exact told_of_kept hA ⟨rfl, by repeat' (first | (with_reducible exact Below.refl _ _) | (with_reducible assumption) | (with_reducible refine kept_alloc ?_ _) | (with_reducible refine kept_drewN ?_ _) | (with_reducible refine Below.drew ?_) | (with_reducible refine Below.setCell ?_ (by first | omega | (simp; omega) | (simp; done)) _) | (refine kept_trans ?_ (by with_reducible assumption)))⟩
  · go_enter Try.func43, Try.ntmps43
    go_wp2_with (first | (go_at_call 47; refine (pturns_any qb a.vals a.cap a.pol a.mode p k _ (by first | assumption | (simp; omega)) (by first | assumption | (refine (World.cell?_alloc_past _ _ _ (by first | assumption | (simp; omega))).trans ?_; assumption)) (by first | assumption | (refine (World.cell?_alloc_past _ _ _ (by first | assumption | (simp; omega))).trans ?_; assumption)) (by first | assumption | (refine (World.cell?_alloc_past _ _ _ (by first | assumption | (simp; omega))).trans ?_; assumption)) (by first | assumption | (refine (World.cell?_alloc_past _ _ _ (by first | assumption | (simp; omega))).trans ?_; assumption)) _).mono ?_; rintro e wx ⟨rfl, hgx⟩; rw [b0]; obtain ⟨hcx, hfx⟩ := bcell hgx; have hz0 : w.heap.size < wx.heap.size := (by have := hgx.size; simp at this; omega)) | (go_at_call 48; refine (ptake_any base qb a p k _ (hA.kept (by repeat' (first | (with_reducible exact Below.refl _ _) | (with_reducible assumption) | (with_reducible refine kept_alloc ?_ _) | (with_reducible refine kept_drewN ?_ _) | (with_reducible refine Below.drew ?_) | (with_reducible refine Below.setCell ?_ (by first | omega | (simp; omega) | (simp; done)) _) | (refine kept_trans ?_ (by with_reducible assumption))))) _).mono ?_; rintro e wy hT; obtain ⟨rfl, hT2⟩ := hT))
    go_ret
    exact Told.after (by repeat' (first | (with_reducible exact Below.refl _ _) | (with_reducible assumption) | (with_reducible refine kept_alloc ?_ _) | (with_reducible refine kept_drewN ?_ _) | (with_reducible refine Below.drew ?_) | (with_reducible refine Below.setCell ?_ (by first | omega | (simp; omega) | (simp; done)) _) | (refine kept_trans ?_ (by with_reducible assumption)))) ⟨rfl, hT2⟩

set_option maxHeartbeats 1000000 in
theorem pdrain_any (base qb : Nat) (a : Qu) (p : Option Addr) (k : Nat) (w : World) (hA : At w base qb a p k) (th ki va re go : Int) : Calls Try.prog 44 #[.pointer (some ⟨qb, 0, none⟩), .agg #[.int .i64 th, .int .i64 ki, .int .i64 va, .int .i64 re, .int .i64 go]] w (Told base qb p (⟨a.vals, a.cap, a.pol, drainI a.mode⟩, true) w) := by
  have hz := hA.lt
  obtain ⟨⟨c0, c1, c2, c3⟩, hf⟩ := hA.cells
  have hf3 := hf 3
  clear hf
  obtain ⟨l, qc, qp, qm⟩ := a
  simp only at *
  cases b0 : (qm == 0)
  · have h2 : qm ≠ 0 := by simpa using b0
    have hq : Hid (drainI qm = qm) := Lib.hid (by simp [drainI, h2])
    clear h2
    go_enter Try.func44, Try.ntmps44
    go_wp2
    go_ret
    rw [hq.out]
    exact told_of_kept hA ⟨rfl, by repeat' (first | (with_reducible exact Below.refl _ _) | (with_reducible assumption) | (with_reducible refine kept_alloc ?_ _) | (with_reducible refine kept_drewN ?_ _) | (with_reducible refine Below.drew ?_) | (with_reducible refine Below.setCell ?_ (by first | omega | (simp; omega) | (simp; done)) _) | (refine kept_trans ?_ (by with_reducible assumption)))⟩
  · have h2 : qm = 0 := by simpa using b0
    have hq : Hid (drainI qm = 1) := Lib.hid (by simp [drainI, h2])
    clear h2
    go_enter Try.func44, Try.ntmps44
    go_wp2
    go_ret
    rw [hq.out]
    exact ⟨rfl, _, _, (hA.setMode 1).kept ((Below.refl _ _).alloc (Nat.le_refl _) _), ((Chg.refl qb p w).set (x := ⟨qb, 3, none⟩) rfl _).then ((Below.refl _ _).alloc (Nat.le_refl _) _), fun x hx => .inl ⟨_, hx, rfl⟩⟩

set_option maxHeartbeats 1000000 in
theorem phalt_any (base qb : Nat) (a : Qu) (p : Option Addr) (k : Nat) (w : World) (hA : At w base qb a p k) (th ki va re go : Int) : Calls Try.prog 45 #[.pointer (some ⟨qb, 0, none⟩), .agg #[.int .i64 th, .int .i64 ki, .int .i64 va, .int .i64 re, .int .i64 go]] w (Told base qb p (⟨a.vals, a.cap, a.pol, 2⟩, true) w) := by
  have hz := hA.lt
  obtain ⟨⟨c0, c1, c2, c3⟩, hf⟩ := hA.cells
  have hf3 := hf 3
  clear hf
  obtain ⟨l, qc, qp, qm⟩ := a
  simp only at *
  go_enter Try.func45, Try.ntmps45
  go_wp2
  go_ret
  exact ⟨rfl, _, _, (hA.setMode 2).kept ((Below.refl _ _).alloc (Nat.le_refl _) _), ((Chg.refl qb p w).set (x := ⟨qb, 3, none⟩) rfl _).then ((Below.refl _ _).alloc (Nat.le_refl _) _), fun x hx => .inl ⟨_, hx, rfl⟩⟩
end Go.Proofs.Ythlgijmpkpmibaa
