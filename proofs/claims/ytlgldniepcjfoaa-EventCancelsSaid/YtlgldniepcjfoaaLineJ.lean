/- Layer 5: Next. -/
import Derived.Test.YtlgldniepcjfoaaLineI
namespace Go.Proofs.Ytlgldniepcjfoaa
set_option linter.unusedVariables false
set_option linter.unusedSimpArgs false
open Go.ChangeShapes Go.WideShapes Go.ChangeAt Go.RowKit

/-- What 'Next' leaves: the others are in a slice of the call's own. -/
def RetNO (w : World) (x : Int) (r : List Int) (b : Bool) (e : Ending) (w' : World) : Prop :=
  ∃ (p : Option Addr) (k : Nat), e = .returned (.tuple #[.int .i64 x, .slice p r.length k, .bool b]) ∧ Ow w' w.heap.size 3 1 intC r (.slice p r.length k) ∧ Kept w w'
/-- What 'Next' leaves. -/
def RetN (w : World) (x : Int) (r : List Int) (b : Bool) (e : Ending) (w' : World) : Prop :=
  ∃ (p : Option Addr) (k : Nat), e = .returned (.tuple #[.int .i64 x, .slice p r.length k, .bool b]) ∧ Sl w' 1 intC r (.slice p r.length k) ∧ Kept w w'
theorem nx_no {l : List Int} (h : nxB l = false) : nxI l = 0 ∧ nxL l = l := by simp [nxI, nxL, h]
theorem nx_yes {l : List Int} (h : nxB l = true) : ∃ hl : 0 < l.length, nxI l = l[0] ∧ nxL l = l.drop 1 ∧ okLn l = true := by
  cases l with
  | nil => simp [nxB] at h
  | cons x r => exact ⟨by simp, by simp [nxI, h], by simp [nxL, h], by simpa [nxB] using h⟩

theorem lcheck_n {l : List Int} {N : Nat} (hN : l.length = N) (p : Option Addr) (k : Nat) (w : World) (hl : Sl w 1 intC l (.slice p N k)) : Calls Try.prog 17 #[.slice p N k] w fun e w' => e = .returned (.bool (okLn l)) ∧ Kept w w' := by
  subst hN; exact lcheck_any l p k w hl
def RetOn (w : World) (r : List Int) (N : Nat) (e : Ending) (w' : World) : Prop :=
  ∃ (p : Option Addr) (k : Nat), e = .returned (.slice p N k) ∧ Ow w' w.heap.size 3 1 intC r (.slice p N k) ∧ Kept w w'
theorem lkept_n {l : List Int} {N : Nat} (hN : l.length = N) (p : Option Addr) (k : Nat) (w : World) (hl : Sl w 1 intC l (.slice p N k)) (hm : N ≤ 1000000) : Calls Try.prog 27 #[.slice p N k] w (RetOn w l N) := by
  subst hN
  refine (lkept_any l p k w hl hm).mono ?_
  rintro e w' ⟨p1, k1, rfl, h1, h2⟩
  exact ⟨p1, k1, rfl, h1, h2⟩

set_option maxHeartbeats 2000000 in
theorem lnext_own (l : List Int) (p : Option Addr) (k : Nat) (w : World) (hl : Sl w 1 intC l (.slice p l.length k)) (hm : l.length ≤ 999999) :
    Calls Try.prog 35 #[.slice p l.length k] w (RetNO w (nxI l) (nxL l) (nxB l)) := by
  have H := Lib.hid hl
  cases hb : nxB l
  · obtain ⟨e1, e2⟩ := nx_no hb
    rw [e1, e2]
    cases l with
    | nil =>
      go_enter Try.func35, Try.ntmps35
      go_wp2_with fail
      refine (lkept_any [] p k _ (H.out.kept (by repeat' (first | (with_reducible exact Below.refl _ _) | (with_reducible assumption) | (with_reducible refine kept_alloc ?_ _) | (with_reducible refine kept_drewN ?_ _) | (with_reducible refine Below.drew ?_) | (with_reducible refine Below.setCell ?_ (by first | omega | (simp; omega) | (simp; done)) _) | (refine kept_trans ?_ (by with_reducible assumption))))) (by simp)).mono ?_
      rintro e w3 ⟨p3, k3, rfl, hO3, hg3⟩
      have hS3 := hO3
      clear hO3
      go_wp2
      refine bodyPost_ret (v := .tuple #[.int .i64 0, .slice p3 ([] : List Int).length k3, .bool false]) (by simp [results, Try.results35, go_sem]) rfl ⟨p3, k3, rfl, hS3, by repeat' (first | (with_reducible exact Below.refl _ _) | (with_reducible assumption) | (with_reducible refine kept_alloc ?_ _) | (with_reducible refine kept_drewN ?_ _) | (with_reducible refine Below.drew ?_) | (with_reducible refine Below.setCell ?_ (by first | omega | (simp; omega) | (simp; done)) _) | (refine kept_trans ?_ (by with_reducible assumption)))⟩
    | cons x r =>
      have hok : okLn (x :: r) = false := by simpa [nxB] using hb
      have HO := Lib.hid hok
      obtain ⟨N, hN⟩ : ∃ N, (x :: r).length = N := ⟨_, rfl⟩
      have HN := Lib.hid hN
      have hN0 : 0 < N := by rw [← hN]; simp
      generalize x :: r = l at *
      clear hl hb e1 e2 hok
      rw [hN] at hm ⊢
      have i1 : ((N : Int) == 0) = false := by simp; omega
      have HS : Hid (Sl w 1 intC l (.slice p N k)) := HN.out ▸ H
      clear H hN
      go_enter Try.func35, Try.ntmps35
      go_wp2_with fail
      refine (lcheck_n HN.out p k _ (HS.out.kept (by repeat' (first | (with_reducible exact Below.refl _ _) | (with_reducible assumption) | (with_reducible refine kept_alloc ?_ _) | (with_reducible refine kept_drewN ?_ _) | (with_reducible refine Below.drew ?_) | (with_reducible refine Below.setCell ?_ (by first | omega | (simp; omega) | (simp; done)) _) | (refine kept_trans ?_ (by with_reducible assumption)))))).mono ?_
      rintro e w1 ⟨rfl, hg1⟩
      rw [HO.out]
      go_wp2_with fail
      refine (lkept_n HN.out p k _ (HS.out.kept (by repeat' (first | (with_reducible exact Below.refl _ _) | (with_reducible assumption) | (with_reducible refine kept_alloc ?_ _) | (with_reducible refine kept_drewN ?_ _) | (with_reducible refine Below.drew ?_) | (with_reducible refine Below.setCell ?_ (by first | omega | (simp; omega) | (simp; done)) _) | (refine kept_trans ?_ (by with_reducible assumption))))) (by omega)).mono ?_
      rintro e w3 ⟨p3, k3, rfl, hO3, hg3⟩
      have hS3 := Ow.mono hO3 hg1.size
      clear hO3
      go_wp2
      refine bodyPost_ret (v := .tuple #[.int .i64 0, .slice p3 N k3, .bool false]) (by simp [results, Try.results35, go_sem]) rfl ⟨p3, k3, by rw [HN.out], HN.out.symm ▸ hS3, by repeat' (first | (with_reducible exact Below.refl _ _) | (with_reducible assumption) | (with_reducible refine kept_alloc ?_ _) | (with_reducible refine kept_drewN ?_ _) | (with_reducible refine Below.drew ?_) | (with_reducible refine Below.setCell ?_ (by first | omega | (simp; omega) | (simp; done)) _) | (refine kept_trans ?_ (by with_reducible assumption)))⟩
  · obtain ⟨h0, e1, e2, hok⟩ := nx_yes hb
    rw [e1, e2]
    have HO := Lib.hid hok
    obtain ⟨N, hN⟩ : ∃ N, l.length = N := ⟨_, rfl⟩
    have HN := Lib.hid hN
    obtain ⟨p', k', e3, hk1, hk2, _, hne⟩ := hl.is
    cases e3
    obtain ⟨b, o, rfl, hb, -⟩ := hne (by intro h; subst h; simp at h0)
    have hc := sli_at hl h0
    rw [Nat.add_zero] at hc
    have hdl : (l.drop 1).length = N - 1 := by simp [hN]
    have HL := Lib.hid hdl
    rw [hN] at hl hm hk1 h0 ⊢
    obtain ⟨a, ha, hTa⟩ : ∃ a, (if k = 1 then (some ⟨b, o, none⟩ : Option Addr) else some ⟨b, o + 1, none⟩) = some a ∧ Sl w 1 intC (l.drop 1) (.slice (some a) (N - 1) (k - 1)) := by
      by_cases hk : k = 1
      · exact ⟨⟨b, o, none⟩, by simp [hk], Sl.drop 1 hl (by omega) (by omega) rfl rfl⟩
      · exact ⟨⟨b, o + 1, none⟩, by simp [hk], Sl.drop 1 hl (by omega) (fun _ => rfl) rfl rfl⟩
    have HT := Lib.hid hTa
    have HS := Lib.hid hl
    generalize hy : l[0] = y at *
    clear hl hne hok e1 e2 hy hdl hTa hN
    have i1 : ((N : Int) == 0) = false := by simp; omega
    have i2 : (1 : Int) ≤ (N : Int) := by omega
    by_cases hk : k = 1
    · have ha' : a = ⟨b, o, none⟩ := by simpa [hk] using ha.symm
      subst ha'
      subst hk
      have hN1 : N = 1 := by omega
      subst hN1
      clear ha
      have HL' : Hid ((l.drop 1).length = 0) := HL
      have HT' : Hid (Sl w 1 intC (l.drop 1) (.slice (some ⟨b, o, none⟩) 0 0)) := HT
      go_enter Try.func35, Try.ntmps35; go_wp2_with fail; refine (lcheck_n HN.out (some ⟨b, o, none⟩) 1 _ (HS.out.kept (by repeat' (first | (with_reducible exact Below.refl _ _) | (with_reducible assumption) | (with_reducible refine kept_alloc ?_ _) | (with_reducible refine kept_drewN ?_ _) | (with_reducible refine Below.drew ?_) | (with_reducible refine Below.setCell ?_ (by first | omega | (simp; omega) | (simp; done)) _) | (refine kept_trans ?_ (by with_reducible assumption)))))).mono ?_; rintro e w1 ⟨rfl, hg1⟩; rw [HO.out]; have c1 := ((bcell hg1).1 b o hb).trans hc; have hb1 : b < w1.heap.size := Nat.lt_of_lt_of_le hb hg1.size; have HT1 := Lib.hid (HT'.out.kept hg1); clear hc; go_wp2_with fail; go_region_held3 (fun w' => w'.cell? ⟨b, o, none⟩ = some (.int .i64 y)) (first | ((refine (hgy.cell (p := ⟨_, _, none⟩) (by show b < w1.heap.size; omega)).trans ?_); assumption) | go_keep) ((first | (go_at_call 27; refine (lkept_n HL'.out _ _ _ (HT1.out.kept (by repeat' (first | (with_reducible exact Below.refl _ _) | (with_reducible assumption) | (with_reducible refine kept_alloc ?_ _) | (with_reducible refine kept_drewN ?_ _) | (with_reducible refine Below.drew ?_) | (with_reducible refine Below.setCell ?_ (by first | omega | (simp; omega) | (simp; done)) _) | (refine kept_trans ?_ (by with_reducible assumption))))) (by omega)).mono ?_; rintro e wy ⟨p4, k4, rfl, hS4, hgy⟩)))
      have hS4' := Ow.mono hS4 (base' := w.heap.size) (by have := hg1.size; simp; omega)
      have hB : Below w.heap.size w wy := kept_trans hg1 (kept_trans (A := w1) (B := w1.drew) (by repeat' (first | (with_reducible exact Below.refl _ _) | (with_reducible assumption) | (with_reducible refine kept_alloc ?_ _) | (with_reducible refine kept_drewN ?_ _) | (with_reducible refine Below.drew ?_) | (with_reducible refine Below.setCell ?_ (by first | omega | (simp; omega) | (simp; done)) _) | (refine kept_trans ?_ (by with_reducible assumption)))) hgy)
      go_wp2
      go_ret3
      exact ⟨p4, k4, by rw [HL'.out]; rfl, HL'.out.symm ▸ hS4', hB⟩
    · have ha' : a = ⟨b, o + 1, none⟩ := by simpa [hk] using ha.symm
      subst ha'
      clear ha
      go_enter Try.func35, Try.ntmps35; go_wp2_with fail; refine (lcheck_n HN.out (some ⟨b, o, none⟩) k _ (HS.out.kept (by repeat' (first | (with_reducible exact Below.refl _ _) | (with_reducible assumption) | (with_reducible refine kept_alloc ?_ _) | (with_reducible refine kept_drewN ?_ _) | (with_reducible refine Below.drew ?_) | (with_reducible refine Below.setCell ?_ (by first | omega | (simp; omega) | (simp; done)) _) | (refine kept_trans ?_ (by with_reducible assumption)))))).mono ?_; rintro e w1 ⟨rfl, hg1⟩; rw [HO.out]; have c1 := ((bcell hg1).1 b o hb).trans hc; have hb1 : b < w1.heap.size := Nat.lt_of_lt_of_le hb hg1.size; have HT1 := Lib.hid (HT.out.kept hg1); clear hc; go_wp2_with fail; go_region_held3 (fun w' => w'.cell? ⟨b, o, none⟩ = some (.int .i64 y)) (first | ((refine (hgy.cell (p := ⟨_, _, none⟩) (by show b < w1.heap.size; omega)).trans ?_); assumption) | go_keep) ((first | (go_at_call 27; refine (lkept_n HL.out _ _ _ (HT1.out.kept (by repeat' (first | (with_reducible exact Below.refl _ _) | (with_reducible assumption) | (with_reducible refine kept_alloc ?_ _) | (with_reducible refine kept_drewN ?_ _) | (with_reducible refine Below.drew ?_) | (with_reducible refine Below.setCell ?_ (by first | omega | (simp; omega) | (simp; done)) _) | (refine kept_trans ?_ (by with_reducible assumption))))) (by omega)).mono ?_; rintro e wy ⟨p4, k4, rfl, hS4, hgy⟩)))
      have hS4' := Ow.mono hS4 (base' := w.heap.size) (by have := hg1.size; simp; omega)
      have hB : Below w.heap.size w wy := kept_trans hg1 (kept_trans (A := w1) (B := w1.drew) (by repeat' (first | (with_reducible exact Below.refl _ _) | (with_reducible assumption) | (with_reducible refine kept_alloc ?_ _) | (with_reducible refine kept_drewN ?_ _) | (with_reducible refine Below.drew ?_) | (with_reducible refine Below.setCell ?_ (by first | omega | (simp; omega) | (simp; done)) _) | (refine kept_trans ?_ (by with_reducible assumption)))) hgy)
      go_wp2
      go_ret3
      exact ⟨p4, k4, by rw [HL.out]; rfl, HL.out.symm ▸ hS4', hB⟩
theorem lnext_any (l : List Int) (p : Option Addr) (k : Nat) (w : World) (hl : Sl w 1 intC l (.slice p l.length k)) (hm : l.length ≤ 999999) :
    Calls Try.prog 35 #[.slice p l.length k] w (RetN w (nxI l) (nxL l) (nxB l)) := by
  refine (lnext_own l p k w hl hm).mono ?_
  rintro e w' ⟨p1, k1, rfl, h1, h2⟩
  exact ⟨p1, k1, rfl, Ow.sl intEnc h1, h2⟩
end Go.Proofs.Ytlgldniepcjfoaa
