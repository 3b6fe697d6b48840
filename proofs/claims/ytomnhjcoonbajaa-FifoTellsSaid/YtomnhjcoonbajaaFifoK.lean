/- Contracts of the document's functions of layer 3: what a queue may be told of one who receives. -/
import Derived.Test.YtomnhjcoonbajaaFifoG
import Derived.Test.YtomnhjcoonbajaaFifoH
import Derived.RegionTactic
import Derived.ChangeAlike
namespace Go.Proofs.Ytomnhjcoonbajaa
set_option linter.unusedVariables false
set_option linter.unusedSimpArgs false
open Go.ChangeShapes Go.WideShapes Go.ChangeAt Go.RowKit

theorem Sl.setCell {W : World} {l : List Int} {p : Option Addr} {n k : Nat} (h : Sl W 1 intC l (.slice p n k)) {c : Addr} (hc : l ≠ [] → ∀ x, p = some x → x.block ≠ c.block) (u : Value) : Sl (W.setCell c u) 1 intC l (.slice p n k) := by
  obtain ⟨p, cap, hv, h1, h2, h3, h4⟩ := h.is
  cases hv
  refine ⟨p, k, rfl, h1, h2, h3, fun hne => ?_⟩
  obtain ⟨b, o, hp, hb, hcell⟩ := h4 hne
  subst hp
  refine ⟨b, o, rfl, by simpa using hb, fun i x hx j hj => ?_⟩
  have hbk : b ≠ c.block := hc hne _ rfl
  rw [World.cell?_of_block (w := W) (Below.heap_setCell _ _ _ _ hbk)]
  exact hcell i x hx j hj
theorem far_of {w : World} {l : List Int} {p0 : Option Addr} {n k : Nat} (hs : Sl w 1 intC l (.slice p0 n k)) {L : List Int} {p : Option Addr} {m : Nat} (h : L ≠ [] → ∀ x, p = some x → (l ≠ [] ∧ ∃ y, p0 = some y ∧ x.block = y.block) ∨ m ≤ x.block) :
    L ≠ [] → ∀ x, p = some x → x.block < w.heap.size ∨ m ≤ x.block := fun hL x hx => by
  rcases h hL x hx with ⟨hl, y, hy, e⟩ | h
  · obtain ⟨p', cap, hv, _, _, _, h4⟩ := hs.is
    cases hv
    obtain ⟨b, o, hp, hb, _⟩ := h4 hl
    rw [hy] at hp
    cases hp
    left; rw [e]; exact hb
  · exact .inr h

set_option maxHeartbeats 4000000 in
theorem rrecv_r4 (l : List Int) (qc qp qm : Int) (th ki va go : Int) (p : Option Addr) (k : Nat) (w : World) (hs : Sl w 1 intC l (.slice p l.length k)) : Calls Try.prog 25 #[.agg #[.slice p l.length k, .int .i64 qc, .int .i64 qp, .int .i64 qm], .agg #[.int .i64 th, .int .i64 ki, .int .i64 va, .int .i64 4, .int .i64 go]] w (RetQ w l p (Qu.recv ⟨l, qc, qp, qm⟩ ⟨th, ki, va, 4, go⟩)) := by
  have hq : Hid (Qu.recv ⟨l, qc, qp, qm⟩ ⟨th, ki, va, 4, go⟩ = (⟨l, qc, qp, qm⟩, decide (qm = 0) && decide (l.length = 0) && decide (ki = 5))) := Lib.hid (by simp [Qu.recv])
  have d4 : decide (l.length = 0) = ((l.length : Int) == 0) := by rw [Bool.eq_iff_iff]; simp
  rw [d4] at hq
  clear d4
  cases b0 : (qm == 0) <;> cases b2 : ((l.length : Int) == 0)
  all_goals
    have d0 : decide (qm = 0) = _ := b0
    go_enter Try.func25, Try.ntmps25
    go_wp2
    go_region
    all_goals go_wp2
    all_goals (refine bodyPost_ret (v := .tuple #[.agg #[.slice p l.length k, .int .i64 qc, .int .i64 qp, .int .i64 qm], .bool (decide (qm = 0) && ((l.length : Int) == 0) && decide (ki = 5))]) (by simp [results, Try.results25, go_sem, *] <;> rfl) rfl ?_; rw [hq.out]; exact ⟨p, k, rfl, hs.kept (by repeat' (first | (with_reducible exact Below.refl _ _) | (with_reducible assumption) | (with_reducible refine kept_alloc ?_ _) | (with_reducible refine kept_drewN ?_ _) | (with_reducible refine Below.drew ?_) | (with_reducible refine Below.setCell ?_ (by first | omega | (simp; omega) | (simp; done)) _) | (refine kept_trans ?_ (by with_reducible assumption)))), (by repeat' (first | (with_reducible exact Below.refl _ _) | (with_reducible assumption) | (with_reducible refine kept_alloc ?_ _) | (with_reducible refine kept_drewN ?_ _) | (with_reducible refine Below.drew ?_) | (with_reducible refine Below.setCell ?_ (by first | omega | (simp; omega) | (simp; done)) _) | (refine kept_trans ?_ (by with_reducible assumption)))), fun h x hx => .inl ⟨h, x, hx, rfl⟩⟩)

set_option maxHeartbeats 4000000 in
theorem rrecv_r5 (l : List Int) (qc qp qm : Int) (th ki va go : Int) (p : Option Addr) (k : Nat) (w : World) (hs : Sl w 1 intC l (.slice p l.length k)) : Calls Try.prog 25 #[.agg #[.slice p l.length k, .int .i64 qc, .int .i64 qp, .int .i64 qm], .agg #[.int .i64 th, .int .i64 ki, .int .i64 va, .int .i64 5, .int .i64 go]] w (RetQ w l p (Qu.recv ⟨l, qc, qp, qm⟩ ⟨th, ki, va, 5, go⟩)) := by
  have hq : Hid (Qu.recv ⟨l, qc, qp, qm⟩ ⟨th, ki, va, 5, go⟩ = (⟨l, qc, qp, qm⟩, decide (ki = 6))) := Lib.hid (by simp [Qu.recv])
  go_enter Try.func25, Try.ntmps25
  go_wp2
  go_region
  all_goals go_wp2
  all_goals (refine bodyPost_ret (v := .tuple #[.agg #[.slice p l.length k, .int .i64 qc, .int .i64 qp, .int .i64 qm], .bool (decide (ki = 6))]) (by simp [results, Try.results25, go_sem, *] <;> rfl) rfl ?_; rw [hq.out]; exact ⟨p, k, rfl, hs.kept (by repeat' (first | (with_reducible exact Below.refl _ _) | (with_reducible assumption) | (with_reducible refine kept_alloc ?_ _) | (with_reducible refine kept_drewN ?_ _) | (with_reducible refine Below.drew ?_) | (with_reducible refine Below.setCell ?_ (by first | omega | (simp; omega) | (simp; done)) _) | (refine kept_trans ?_ (by with_reducible assumption)))), (by repeat' (first | (with_reducible exact Below.refl _ _) | (with_reducible assumption) | (with_reducible refine kept_alloc ?_ _) | (with_reducible refine kept_drewN ?_ _) | (with_reducible refine Below.drew ?_) | (with_reducible refine Below.setCell ?_ (by first | omega | (simp; omega) | (simp; done)) _) | (refine kept_trans ?_ (by with_reducible assumption)))), fun h x hx => .inl ⟨h, x, hx, rfl⟩⟩)

set_option maxHeartbeats 4000000 in
theorem rrecv_r6 (l : List Int) (qc qp qm : Int) (th ki va go : Int) (p : Option Addr) (k : Nat) (w : World) (hs : Sl w 1 intC l (.slice p l.length k)) : Calls Try.prog 25 #[.agg #[.slice p l.length k, .int .i64 qc, .int .i64 qp, .int .i64 qm], .agg #[.int .i64 th, .int .i64 ki, .int .i64 va, .int .i64 6, .int .i64 go]] w (RetQ w l p (Qu.recv ⟨l, qc, qp, qm⟩ ⟨th, ki, va, 6, go⟩)) := by
  have hq : Hid (Qu.recv ⟨l, qc, qp, qm⟩ ⟨th, ki, va, 6, go⟩ = (⟨l, qc, qp, qm⟩, decide (qm = 1) && decide (l.length = 0))) := Lib.hid (by simp [Qu.recv])
  have d4 : decide (l.length = 0) = ((l.length : Int) == 0) := by rw [Bool.eq_iff_iff]; simp
  rw [d4] at hq
  clear d4
  cases b0 : (qm == 1)
  all_goals
    have d0 : decide (qm = 1) = _ := b0
    go_enter Try.func25, Try.ntmps25
    go_wp2
    go_region
    all_goals go_wp2
    all_goals (refine bodyPost_ret (v := .tuple #[.agg #[.slice p l.length k, .int .i64 qc, .int .i64 qp, .int .i64 qm], .bool (decide (qm = 1) && ((l.length : Int) == 0))]) (by simp [results, Try.results25, go_sem, *] <;> rfl) rfl ?_; rw [hq.out]; exact ⟨p, k, rfl, hs.kept (by repeat' (first | (with_reducible exact Below.refl _ _) | (with_reducible assumption) | (with_reducible refine kept_alloc ?_ _) | (with_reducible refine kept_drewN ?_ _) | (with_reducible refine Below.drew ?_) | (with_reducible refine Below.setCell ?_ (by first | omega | (simp; omega) | (simp; done)) _) | (refine kept_trans ?_ (by with_reducible assumption)))), (by repeat' (first | (with_reducible exact Below.refl _ _) | (with_reducible assumption) | (with_reducible refine kept_alloc ?_ _) | (with_reducible refine kept_drewN ?_ _) | (with_reducible refine Below.drew ?_) | (with_reducible refine Below.setCell ?_ (by first | omega | (simp; omega) | (simp; done)) _) | (refine kept_trans ?_ (by with_reducible assumption)))), fun h x hx => .inl ⟨h, x, hx, rfl⟩⟩)

set_option maxHeartbeats 4000000 in
theorem rrecv_r7 (l : List Int) (qc qp qm : Int) (th ki va go : Int) (p : Option Addr) (k : Nat) (w : World) (hs : Sl w 1 intC l (.slice p l.length k)) : Calls Try.prog 25 #[.agg #[.slice p l.length k, .int .i64 qc, .int .i64 qp, .int .i64 qm], .agg #[.int .i64 th, .int .i64 ki, .int .i64 va, .int .i64 7, .int .i64 go]] w (RetQ w l p (Qu.recv ⟨l, qc, qp, qm⟩ ⟨th, ki, va, 7, go⟩)) := by
  have hq : Hid (Qu.recv ⟨l, qc, qp, qm⟩ ⟨th, ki, va, 7, go⟩ = (⟨l, qc, qp, qm⟩, decide (qm = 2))) := Lib.hid (by simp [Qu.recv])
  go_enter Try.func25, Try.ntmps25
  go_wp2
  go_region
  all_goals go_wp2
  all_goals (refine bodyPost_ret (v := .tuple #[.agg #[.slice p l.length k, .int .i64 qc, .int .i64 qp, .int .i64 qm], .bool (decide (qm = 2))]) (by simp [results, Try.results25, go_sem, *] <;> rfl) rfl ?_; rw [hq.out]; exact ⟨p, k, rfl, hs.kept (by repeat' (first | (with_reducible exact Below.refl _ _) | (with_reducible assumption) | (with_reducible refine kept_alloc ?_ _) | (with_reducible refine kept_drewN ?_ _) | (with_reducible refine Below.drew ?_) | (with_reducible refine Below.setCell ?_ (by first | omega | (simp; omega) | (simp; done)) _) | (refine kept_trans ?_ (by with_reducible assumption)))), (by repeat' (first | (with_reducible exact Below.refl _ _) | (with_reducible assumption) | (with_reducible refine kept_alloc ?_ _) | (with_reducible refine kept_drewN ?_ _) | (with_reducible refine Below.drew ?_) | (with_reducible refine Below.setCell ?_ (by first | omega | (simp; omega) | (simp; done)) _) | (refine kept_trans ?_ (by with_reducible assumption)))), fun h x hx => .inl ⟨h, x, hx, rfl⟩⟩)

set_option maxHeartbeats 4000000 in
theorem rrecv_else (l : List Int) (qc qp qm : Int) (th ki va go : Int) (p : Option Addr) (k : Nat) (w : World) (hs : Sl w 1 intC l (.slice p l.length k)) (re : Int) (h1 : re ≠ 1) (h2 : re ≠ 4) (h5 : re ≠ 5) (h6 : re ≠ 6) (h7 : re ≠ 7) : Calls Try.prog 25 #[.agg #[.slice p l.length k, .int .i64 qc, .int .i64 qp, .int .i64 qm], .agg #[.int .i64 th, .int .i64 ki, .int .i64 va, .int .i64 re, .int .i64 go]] w (RetQ w l p (Qu.recv ⟨l, qc, qp, qm⟩ ⟨th, ki, va, re, go⟩)) := by
  have hq : Hid (Qu.recv ⟨l, qc, qp, qm⟩ ⟨th, ki, va, re, go⟩ = (⟨l, qc, qp, qm⟩, false)) := Lib.hid (by simp [Qu.recv, *])
  have e1 : (re == 1) = false := by simpa using h1
  have e2 : (re == 4) = false := by simpa using h2
  have e5 : (re == 5) = false := by simpa using h5
  have e6 : (re == 6) = false := by simpa using h6
  have e7 : (re == 7) = false := by simpa using h7
  clear h1 h2 h5 h6 h7
  go_enter Try.func25, Try.ntmps25
  go_wp2
  (refine bodyPost_ret (v := .tuple #[.agg #[.slice p l.length k, .int .i64 qc, .int .i64 qp, .int .i64 qm], .bool (false)]) (by simp [results, Try.results25, go_sem, *] <;> rfl) rfl ?_; rw [hq.out]; exact ⟨p, k, rfl, hs.kept (by repeat' (first | (with_reducible exact Below.refl _ _) | (with_reducible assumption) | (with_reducible refine kept_alloc ?_ _) | (with_reducible refine kept_drewN ?_ _) | (with_reducible refine Below.drew ?_) | (with_reducible refine Below.setCell ?_ (by first | omega | (simp; omega) | (simp; done)) _) | (refine kept_trans ?_ (by with_reducible assumption)))), (by repeat' (first | (with_reducible exact Below.refl _ _) | (with_reducible assumption) | (with_reducible refine kept_alloc ?_ _) | (with_reducible refine kept_drewN ?_ _) | (with_reducible refine Below.drew ?_) | (with_reducible refine Below.setCell ?_ (by first | omega | (simp; omega) | (simp; done)) _) | (refine kept_trans ?_ (by with_reducible assumption)))), fun h x hx => .inl ⟨h, x, hx, rfl⟩⟩)

set_option maxHeartbeats 4000000 in
theorem rrecv_no (l : List Int) (qc qp qm : Int) (th ki va go : Int) (p : Option Addr) (k : Nat) (w : World) (hs : Sl w 1 intC l (.slice p l.length k)) (h : qm = 2) : Calls Try.prog 25 #[.agg #[.slice p l.length k, .int .i64 qc, .int .i64 qp, .int .i64 qm], .agg #[.int .i64 th, .int .i64 ki, .int .i64 va, .int .i64 1, .int .i64 go]] w (RetQ w l p (Qu.recv ⟨l, qc, qp, qm⟩ ⟨th, ki, va, 1, go⟩)) := by
  subst h
  have hq : Hid (Qu.recv ⟨l, qc, qp, 2⟩ ⟨th, ki, va, 1, go⟩ = (⟨l, qc, qp, 2⟩, false)) := Lib.hid (by simp [Qu.recv])
  go_enter Try.func25, Try.ntmps25
  go_wp2
  refine bodyPost_ret (v := .tuple #[.agg #[.slice p l.length k, .int .i64 qc, .int .i64 qp, .int .i64 2], .bool false]) (by simp [results, Try.results25, go_sem, *] <;> rfl) rfl ?_
  rw [hq.out]
  exact ⟨p, k, rfl, hs.kept (by repeat' (first | (with_reducible exact Below.refl _ _) | (with_reducible assumption) | (with_reducible refine kept_alloc ?_ _) | (with_reducible refine kept_drewN ?_ _) | (with_reducible refine Below.drew ?_) | (with_reducible refine Below.setCell ?_ (by first | omega | (simp; omega) | (simp; done)) _) | (refine kept_trans ?_ (by with_reducible assumption)))), (by repeat' (first | (with_reducible exact Below.refl _ _) | (with_reducible assumption) | (with_reducible refine kept_alloc ?_ _) | (with_reducible refine kept_drewN ?_ _) | (with_reducible refine Below.drew ?_) | (with_reducible refine Below.setCell ?_ (by first | omega | (simp; omega) | (simp; done)) _) | (refine kept_trans ?_ (by with_reducible assumption)))), fun h x hx => .inl ⟨h, x, hx, rfl⟩⟩

set_option maxHeartbeats 4000000 in
theorem rrecv_out (l : List Int) (qc qp qm : Int) (th ki va go : Int) (p : Option Addr) (k : Nat) (w : World) (hs : Sl w 1 intC l (.slice p l.length k)) (hm : l.length ≤ 1000) (h : qm ≠ 2) : Calls Try.prog 25 #[.agg #[.slice p l.length k, .int .i64 qc, .int .i64 qp, .int .i64 qm], .agg #[.int .i64 th, .int .i64 ki, .int .i64 va, .int .i64 1, .int .i64 go]] w (RetQ w l p (Qu.recv ⟨l, qc, qp, qm⟩ ⟨th, ki, va, 1, go⟩)) := by
  have hq : Hid (Qu.recv ⟨l, qc, qp, qm⟩ ⟨th, ki, va, 1, go⟩ = Qu.gone ⟨l, qc, qp, qm⟩ go) := Lib.hid (by simp [Qu.recv, h])
  have b2 : (qm == 2) = false := by simpa using h
  clear h
  go_enter Try.func25, Try.ntmps25
  go_wp2_with ((go_at_call 27; refine (rgone_any ⟨l, qc, qp, qm⟩ go p k _ (hs.kept (by repeat' (first | (with_reducible exact Below.refl _ _) | (with_reducible assumption) | (with_reducible refine kept_alloc ?_ _) | (with_reducible refine kept_drewN ?_ _) | (with_reducible refine Below.drew ?_) | (with_reducible refine Below.setCell ?_ (by first | omega | (simp; omega) | (simp; done)) _) | (refine kept_trans ?_ (by with_reducible assumption))))) hm).mono ?_; rintro e wx hT; obtain ⟨p', k', rfl, hS, hgx, hfar⟩ := hT; obtain ⟨hcx, hfx⟩ := bcell hgx; have hz0 : w.heap.size + 1 + 1 < wx.heap.size := (by have := hgx.size; simp at this; omega)))
  have hff := far_of hs hfar
  have hBx : Below w.heap.size w wx := kept_trans (by repeat' (first | (with_reducible exact Below.refl _ _) | (with_reducible assumption) | (with_reducible refine kept_alloc ?_ _) | (with_reducible refine kept_drewN ?_ _) | (with_reducible refine Below.drew ?_) | (with_reducible refine Below.setCell ?_ (by first | omega | (simp; omega) | (simp; done)) _) | (refine kept_trans ?_ (by with_reducible assumption)))) hgx
  rw [hq.out]
  generalize hrr : Qu.gone ⟨l, qc, qp, qm⟩ go = rr at *
  have hfarh := Lib.hid hfar
  have hffh := Lib.hid hff
  clear hfar hff hrr hq
  refine bodyPost_ret (v := .tuple #[.agg #[.slice p' rr.1.vals.length k', .int .i64 rr.1.cap, .int .i64 rr.1.pol, .int .i64 rr.1.mode], .bool rr.2]) (by simp [results, Try.results25, go_sem, *]) rfl ?_
  have hne : rr.1.vals ≠ [] → ∀ x, p' = some x → x.block ≠ w.heap.size + 1 + 1 := fun h x hx => by rcases hffh.out h x hx with h | h <;> ((try simp at h); omega)
  refine ⟨p', k', rfl, Sl.setCell (Sl.setCell (Sl.setCell (Sl.setCell hS hne _) hne _) hne _) hne _, by repeat' (first | (with_reducible exact Below.refl _ _) | (with_reducible assumption) | (with_reducible refine kept_alloc ?_ _) | (with_reducible refine kept_drewN ?_ _) | (with_reducible refine Below.drew ?_) | (with_reducible refine Below.setCell ?_ (by first | omega | (simp; omega) | (simp; done)) _) | (refine kept_trans ?_ (by with_reducible assumption))), fun h x hx => ?_⟩
  rcases hfarh.out h x hx with h | h
  · exact .inl h
  · exact .inr (by (try simp at h); omega)

theorem rrecv_any (a : Qu) (e : En) (p : Option Addr) (k : Nat) (w : World) (hs : Sl w 1 intC a.vals (.slice p a.vals.length k)) (hm : a.vals.length ≤ 1000) :
    Calls Try.prog 25 #[.agg #[.slice p a.vals.length k, .int .i64 a.cap, .int .i64 a.pol, .int .i64 a.mode], .agg #[.int .i64 e.th, .int .i64 e.ki, .int .i64 e.va, .int .i64 e.re, .int .i64 e.go]] w (RetQ w a.vals p (a.recv e)) := by
  obtain ⟨l, qc, qp, qm⟩ := a
  obtain ⟨th, ki, va, re, go⟩ := e
  simp only at *
  by_cases h1 : re = 1
  · subst h1
    by_cases h2 : qm = 2
    · exact rrecv_no l qc qp qm th ki va go p k w hs h2
    · exact rrecv_out l qc qp qm th ki va go p k w hs hm h2
  by_cases h4 : re = 4
  · subst h4; exact rrecv_r4 l qc qp qm th ki va go p k w hs
  by_cases h5 : re = 5
  · subst h5; exact rrecv_r5 l qc qp qm th ki va go p k w hs
  by_cases h6 : re = 6
  · subst h6; exact rrecv_r6 l qc qp qm th ki va go p k w hs
  by_cases h7 : re = 7
  · subst h7; exact rrecv_r7 l qc qp qm th ki va go p k w hs
  exact rrecv_else l qc qp qm th ki va go p k w hs re h1 h4 h5 h6 h7
end Go.Proofs.Ytomnhjcoonbajaa
