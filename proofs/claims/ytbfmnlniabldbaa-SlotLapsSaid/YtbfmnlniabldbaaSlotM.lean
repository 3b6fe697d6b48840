/- Layer 9: values given; what every statement asks first; arguments opened. -/
import Derived.Test.YtbfmnlniabldbaaSlotI
namespace Go.Proofs.Ytbfmnlniabldbaa
set_option linter.unusedVariables false
set_option linter.unusedSimpArgs false
open Go.ChangeShapes Go.WideShapes Go.ChangeAt Go.RowKit

theorem swrite_val {l r : List Slo} {q v c : Int} (hr : wrL l q v = r) (hc : wrE l q = c) (p : Option Addr) (k : Nat) (w : World) (hl : Sl w 2 Slo.cells l (.slice p l.length k)) (hm : l.length ≤ 1000) (hq : In64 q) :
    Calls Try.prog 9 #[.slice p l.length k, .int .i64 q, .int .i64 v] w (RetSE w r c) := hr ▸ hc ▸ swrite_any l q v p k w hl hm hq
theorem srelease_val {l r : List Slo} {q c : Int} (hr : rlL l q = r) (hc : rlE l q = c) (p : Option Addr) (k : Nat) (w : World) (hl : Sl w 2 Slo.cells l (.slice p l.length k)) (hm : l.length ≤ 1000) (hq : In64 q) :
    Calls Try.prog 13 #[.slice p l.length k, .int .i64 q] w (RetSE w r c) := hr ▸ hc ▸ srelease_any l q p k w hl hm hq
theorem rswrite_val {l r : List Slo} {q v c : Int} (hr : wrL l q v = r) (hc : wrE l q = c) (p : Option Addr) (k : Nat) (w : World) (hl : Sl w 2 Slo.cells l (.slice p l.length k)) (hm : l.length ≤ 1000) (hq : In64 q) :
    Calls Try.prog 10 #[.slice p l.length k, .int .i64 q, .int .i64 v] w (RetRE w r c) := hr ▸ hc ▸ rswrite_any l q v p k w hl hm hq
theorem rsrelease_val {l r : List Slo} {q c : Int} (hr : rlL l q = r) (hc : rlE l q = c) (p : Option Addr) (k : Nat) (w : World) (hl : Sl w 2 Slo.cells l (.slice p l.length k)) (hm : l.length ≤ 1000) (hq : In64 q) :
    Calls Try.prog 14 #[.slice p l.length k, .int .i64 q] w (RetRE w r c) := hr ▸ hc ▸ rsrelease_any l q p k w hl hm hq
theorem snew_val {r : Int} {l : List Slo} (hl : newL r = l) (hr : In64 r) (w : World) : Calls Try.prog 16 #[.int .i64 r] w (RetN w l) := hl ▸ snew_any r hr w
theorem rsnew_val {r : Int} {l : List Slo} (hl : newL r = l) (hr : In64 r) (w : World) : Calls Try.prog 17 #[.int .i64 r] w (RetN w l) := hl ▸ rsnew_any r hr w
theorem newL_le (r : Int) : (newL r).length ≤ 64 := by
  unfold newL; split
  · rename_i h; have := ring_iff.1 h; simp; omega
  · simp

theorem sa0 : newL 2 = [⟨0, 0⟩, ⟨1, 0⟩] ∧ newL 65 = [] ∧ newL 0 = [] := by decide
theorem sa1 : wrL [⟨0, 0⟩, ⟨1, 0⟩] 1 7 = [⟨0, 0⟩, ⟨1, 7⟩] ∧ wrE [⟨0, 0⟩, ⟨1, 0⟩] 1 = 0 := by decide
theorem sa2 : rdV [⟨0, 0⟩, ⟨1, 7⟩] 1 = 7 ∧ rdE [⟨0, 0⟩, ⟨1, 7⟩] 1 = 0 := by decide
theorem sa3 : wrL [⟨0, 0⟩, ⟨1, 7⟩] 3 8 = [⟨0, 0⟩, ⟨1, 7⟩] ∧ wrE [⟨0, 0⟩, ⟨1, 7⟩] 3 = 30 := by decide
theorem sa4 : rlL [⟨0, 0⟩, ⟨1, 7⟩] 1 = [⟨0, 0⟩, ⟨3, 7⟩] ∧ rlE [⟨0, 0⟩, ⟨1, 7⟩] 1 = 0 := by decide
theorem sa5 : wrL [⟨0, 0⟩, ⟨3, 7⟩] 3 8 = [⟨0, 0⟩, ⟨3, 8⟩] ∧ wrE [⟨0, 0⟩, ⟨3, 7⟩] 3 = 0 := by decide
theorem sa6 : rdV [⟨0, 0⟩, ⟨3, 7⟩] 1 = 0 ∧ rdE [⟨0, 0⟩, ⟨3, 7⟩] 1 = 40 := by decide
theorem sa7 : rlL [⟨0, 0⟩, ⟨3, 7⟩] 1 = [⟨0, 0⟩, ⟨3, 7⟩] ∧ rlE [⟨0, 0⟩, ⟨3, 7⟩] 1 = 40 := by decide
theorem sa8 : rdyB [⟨0, 0⟩, ⟨3, 7⟩] 3 = true ∧ rdyB [⟨0, 0⟩, ⟨3, 7⟩] 1 = false ∧ okSl [⟨0, 0⟩, ⟨3, 8⟩] = true ∧ okSl [⟨1, 0⟩, ⟨0, 0⟩] = false := by decide

set_option maxHeartbeats 4000000 in
set_option maxRecDepth 100000 in
theorem slotawake_any (w : World) : Calls Try.prog 8 #[] w fun e w' => e = .returned (.bool true) ∧ Kept w w' := by
  go_enter Try.func8, Try.ntmps8
  go_wp2_with fail
  refine (snew_val sa0.1 (by decide) _).mono ?_
  rintro e w1 ⟨p1, k1, rfl, s1, hg1⟩
  have S1 := Ow.sl Slo.enc s1
  clear s1
  go_wp2_with fail; refine (swrite_val sa1.1 sa1.2 _ _ _ (S1.kept (by repeat' (first | (with_reducible exact Below.refl _ _) | (with_reducible assumption) | (with_reducible refine kept_alloc ?_ _) | (with_reducible refine kept_drewN ?_ _) | (with_reducible refine Below.drew ?_) | (with_reducible refine Below.setCell ?_ (by first | omega | (simp; omega) | (simp; done)) _) | (refine kept_trans ?_ (by with_reducible assumption))))) (by decide) (by decide)).mono ?_; rintro e w2 ⟨gw2, rfl, sw2, hw2⟩; have Sw2 := Ow.sl Slo.enc sw2; clear sw2
  go_wp2_with fail; refine (sread_val sa2.1 sa2.2 _ _ _ (Sw2.kept (by repeat' (first | (with_reducible exact Below.refl _ _) | (with_reducible assumption) | (with_reducible refine kept_alloc ?_ _) | (with_reducible refine kept_drewN ?_ _) | (with_reducible refine Below.drew ?_) | (with_reducible refine Below.setCell ?_ (by first | omega | (simp; omega) | (simp; done)) _) | (refine kept_trans ?_ (by with_reducible assumption))))) (by decide) (by decide)).mono ?_; rintro e w3 ⟨rfl, hw3⟩
  go_wp2_with fail; refine (swrite_val sa3.1 sa3.2 _ _ _ (Sw2.kept (by repeat' (first | (with_reducible exact Below.refl _ _) | (with_reducible assumption) | (with_reducible refine kept_alloc ?_ _) | (with_reducible refine kept_drewN ?_ _) | (with_reducible refine Below.drew ?_) | (with_reducible refine Below.setCell ?_ (by first | omega | (simp; omega) | (simp; done)) _) | (refine kept_trans ?_ (by with_reducible assumption))))) (by decide) (by decide)).mono ?_; rintro e w4 ⟨gw4, rfl, sw4, hw4⟩; have Sw4 := Ow.sl Slo.enc sw4; clear sw4
  go_wp2_with fail; refine (srelease_val sa4.1 sa4.2 _ _ _ (Sw2.kept (by repeat' (first | (with_reducible exact Below.refl _ _) | (with_reducible assumption) | (with_reducible refine kept_alloc ?_ _) | (with_reducible refine kept_drewN ?_ _) | (with_reducible refine Below.drew ?_) | (with_reducible refine Below.setCell ?_ (by first | omega | (simp; omega) | (simp; done)) _) | (refine kept_trans ?_ (by with_reducible assumption))))) (by decide) (by decide)).mono ?_; rintro e w5 ⟨gw5, rfl, sw5, hw5⟩; have Sw5 := Ow.sl Slo.enc sw5; clear sw5
  go_wp2_with fail; refine (swrite_val sa5.1 sa5.2 _ _ _ (Sw5.kept (by repeat' (first | (with_reducible exact Below.refl _ _) | (with_reducible assumption) | (with_reducible refine kept_alloc ?_ _) | (with_reducible refine kept_drewN ?_ _) | (with_reducible refine Below.drew ?_) | (with_reducible refine Below.setCell ?_ (by first | omega | (simp; omega) | (simp; done)) _) | (refine kept_trans ?_ (by with_reducible assumption))))) (by decide) (by decide)).mono ?_; rintro e w6 ⟨gw6, rfl, sw6, hw6⟩; have Sw6 := Ow.sl Slo.enc sw6; clear sw6
  go_wp2_with fail; refine (sread_val sa6.1 sa6.2 _ _ _ (Sw5.kept (by repeat' (first | (with_reducible exact Below.refl _ _) | (with_reducible assumption) | (with_reducible refine kept_alloc ?_ _) | (with_reducible refine kept_drewN ?_ _) | (with_reducible refine Below.drew ?_) | (with_reducible refine Below.setCell ?_ (by first | omega | (simp; omega) | (simp; done)) _) | (refine kept_trans ?_ (by with_reducible assumption))))) (by decide) (by decide)).mono ?_; rintro e w7 ⟨rfl, hw7⟩
  go_wp2_with fail; refine (srelease_val sa7.1 sa7.2 _ _ _ (Sw5.kept (by repeat' (first | (with_reducible exact Below.refl _ _) | (with_reducible assumption) | (with_reducible refine kept_alloc ?_ _) | (with_reducible refine kept_drewN ?_ _) | (with_reducible refine Below.drew ?_) | (with_reducible refine Below.setCell ?_ (by first | omega | (simp; omega) | (simp; done)) _) | (refine kept_trans ?_ (by with_reducible assumption))))) (by decide) (by decide)).mono ?_; rintro e w8 ⟨gw8, rfl, sw8, hw8⟩; have Sw8 := Ow.sl Slo.enc sw8; clear sw8
  go_wp2_with fail; refine (sready_val sa8.1 _ _ _ (Sw5.kept (by repeat' (first | (with_reducible exact Below.refl _ _) | (with_reducible assumption) | (with_reducible refine kept_alloc ?_ _) | (with_reducible refine kept_drewN ?_ _) | (with_reducible refine Below.drew ?_) | (with_reducible refine Below.setCell ?_ (by first | omega | (simp; omega) | (simp; done)) _) | (refine kept_trans ?_ (by with_reducible assumption))))) (by decide) (by decide)).mono ?_; rintro e w9 ⟨rfl, hw9⟩
  go_wp2_with fail; refine (sready_val sa8.2.1 _ _ _ (Sw5.kept (by repeat' (first | (with_reducible exact Below.refl _ _) | (with_reducible assumption) | (with_reducible refine kept_alloc ?_ _) | (with_reducible refine kept_drewN ?_ _) | (with_reducible refine Below.drew ?_) | (with_reducible refine Below.setCell ?_ (by first | omega | (simp; omega) | (simp; done)) _) | (refine kept_trans ?_ (by with_reducible assumption))))) (by decide) (by decide)).mono ?_; rintro e w10 ⟨rfl, hw10⟩
  go_wp2_with fail
  refine (rssame_val (b := true) (by decide) _ _ _ 2 _ (Sw6.kept (by repeat' (first | (with_reducible exact Below.refl _ _) | (with_reducible assumption) | (with_reducible refine kept_alloc ?_ _) | (with_reducible refine kept_drewN ?_ _) | (with_reducible refine Below.drew ?_) | (with_reducible refine Below.setCell ?_ (by first | omega | (simp; omega) | (simp; done)) _) | (refine kept_trans ?_ (by with_reducible assumption))))) (ss_two _ ⟨0, 0⟩ ⟨3, 8⟩ (by first | rfl | simp)) (by decide)).mono ?_
  rintro e w11 ⟨rfl, hw11⟩
  go_wp2_with fail
  refine (snew_val sa0.2.1 (by decide) _).mono ?_
  rintro e w12 ⟨p12, k12, rfl, -, hg12⟩
  go_wp2_with fail
  refine (snew_val sa0.2.2 (by decide) _).mono ?_
  rintro e w13 ⟨p13, k13, rfl, -, hg13⟩
  go_wp2_with fail; refine (scheck_val sa8.2.2.1 _ _ _ (Sw6.kept (by repeat' (first | (with_reducible exact Below.refl _ _) | (with_reducible assumption) | (with_reducible refine kept_alloc ?_ _) | (with_reducible refine kept_drewN ?_ _) | (with_reducible refine Below.drew ?_) | (with_reducible refine Below.setCell ?_ (by first | omega | (simp; omega) | (simp; done)) _) | (refine kept_trans ?_ (by with_reducible assumption))))) (by decide)).mono ?_; rintro e w14 ⟨rfl, hw14⟩
  go_wp2_with fail
  refine (scheck_val sa8.2.2.2 _ 2 _ (ss_two _ ⟨1, 0⟩ ⟨0, 0⟩ (by first | rfl | simp)) (by decide)).mono ?_
  rintro e w15 ⟨rfl, hw15⟩
  go_wp2
  all_goals (go_ret; exact ⟨rfl, by repeat' (first | (with_reducible exact Below.refl _ _) | (with_reducible assumption) | (with_reducible refine kept_alloc ?_ _) | (with_reducible refine kept_drewN ?_ _) | (with_reducible refine Below.drew ?_) | (with_reducible refine Below.setCell ?_ (by first | omega | (simp; omega) | (simp; done)) _) | (refine kept_trans ?_ (by with_reducible assumption)))⟩)

def Slo.shape : List (Ck 0) := [.int .i64, .int .i64]
abbrev Slo.size : Nat := 2
def Slo.ok (d : Slo) : Prop := In64 d.st ∧ In64 d.vl
def Slo.zero : List Value := [.int .i64 0, .int .i64 0]
theorem Slo.of_read {W : World} {vs : List Value} (h : ReadL W Slo.shape vs) : ∃ d : Slo, vs = d.cells ∧ d.ok := by
  simp only [Slo.shape, read_nil, read_cons, read_int, read_bool, read_str] at h
  obtain ⟨_, _, rfl, ⟨a, rfl, h0⟩, _, _, rfl, ⟨b, rfl, h1⟩, rfl⟩ := h
  exact ⟨⟨a, b⟩, rfl, in64_of_wf h0, in64_of_wf h1⟩
end Go.Proofs.Ytbfmnlniabldbaa
