/- Layer 7: the ways to wait, their table; the way of a configuration; what may be done, and how often something is. -/
import Derived.Test.YtmdpgaihbkjjgaaWaitF
import Derived.Test.YtmdpgaihbkjjgaaMap
import Derived.Test.YtmdpgaihbkjjgaaInts
namespace Go.Proofs.Ytmdpgaihbkjjgaa
set_option linter.unusedVariables false
set_option linter.unusedSimpArgs false
open Go.ChangeShapes Go.WideShapes Go.ChangeAt Go.RowKit

theorem wbusy_any (lg th po wt sp yi n : Int) (si : Bool) (w : World) : Calls Try.prog 29 #[.agg #[.int .i64 lg, .int .i64 th, .int .i64 po, .int .i64 wt, .int .i64 sp, .int .i64 yi, .bool si], .int .i64 n] w fun e w' => e = .returned (.int .i64 0) ∧ Kept w w' := by
  go_enter Try.func29, Try.ntmps29
  go_wp2
  go_ret
  exact ⟨rfl, by repeat' (first | (with_reducible exact Below.refl _ _) | (with_reducible assumption) | (with_reducible refine kept_alloc ?_ _) | (with_reducible refine kept_drewN ?_ _) | (with_reducible refine Below.drew ?_) | (with_reducible refine Below.setCell ?_ (by first | omega | (simp; omega) | (simp; done)) _) | (refine kept_trans ?_ (by with_reducible assumption)))⟩
theorem wyielding_any (lg th po wt sp yi n : Int) (si : Bool) (w : World) : Calls Try.prog 30 #[.agg #[.int .i64 lg, .int .i64 th, .int .i64 po, .int .i64 wt, .int .i64 sp, .int .i64 yi, .bool si], .int .i64 n] w fun e w' => e = .returned (.int .i64 1) ∧ Kept w w' := by
  go_enter Try.func30, Try.ntmps30
  go_wp2
  go_ret
  exact ⟨rfl, by repeat' (first | (with_reducible exact Below.refl _ _) | (with_reducible assumption) | (with_reducible refine kept_alloc ?_ _) | (with_reducible refine kept_drewN ?_ _) | (with_reducible refine Below.drew ?_) | (with_reducible refine Below.setCell ?_ (by first | omega | (simp; omega) | (simp; done)) _) | (refine kept_trans ?_ (by with_reducible assumption)))⟩
theorem wparking_any (lg th po wt sp yi n : Int) (si : Bool) (w : World) : Calls Try.prog 32 #[.agg #[.int .i64 lg, .int .i64 th, .int .i64 po, .int .i64 wt, .int .i64 sp, .int .i64 yi, .bool si], .int .i64 n] w fun e w' => e = .returned (.int .i64 2) ∧ Kept w w' := by
  go_enter Try.func32, Try.ntmps32
  go_wp2
  go_ret
  exact ⟨rfl, by repeat' (first | (with_reducible exact Below.refl _ _) | (with_reducible assumption) | (with_reducible refine kept_alloc ?_ _) | (with_reducible refine kept_drewN ?_ _) | (with_reducible refine Below.drew ?_) | (with_reducible refine Below.setCell ?_ (by first | omega | (simp; omega) | (simp; done)) _) | (refine kept_trans ?_ (by with_reducible assumption)))⟩
def phI (sp yi n : Int) : Int := if n < sp then 0 else if n < sp + yi then 1 else 2
theorem wphased_any (lg th po wt sp yi n : Int) (si : Bool) (w : World) (h1 : 0 ≤ sp ∧ sp ≤ 8) (h2 : 0 ≤ yi ∧ yi ≤ 8) : Calls Try.prog 31 #[.agg #[.int .i64 lg, .int .i64 th, .int .i64 po, .int .i64 wt, .int .i64 sp, .int .i64 yi, .bool si], .int .i64 n] w fun e w' => e = .returned (.int .i64 (phI sp yi n)) ∧ Kept w w' := by
  have hw : IntKind.i64.wrap (sp + yi) = sp + yi := IntWalk.i64_in _ (by omega)
  by_cases c1 : n < sp
  · have hk : phI sp yi n = 0 := if_pos c1
    rw [hk]
    clear hk
    go_enter Try.func31, Try.ntmps31
    go_wp2
    all_goals (go_ret; exact ⟨rfl, by repeat' (first | (with_reducible exact Below.refl _ _) | (with_reducible assumption) | (with_reducible refine kept_alloc ?_ _) | (with_reducible refine kept_drewN ?_ _) | (with_reducible refine Below.drew ?_) | (with_reducible refine Below.setCell ?_ (by first | omega | (simp; omega) | (simp; done)) _) | (refine kept_trans ?_ (by with_reducible assumption)))⟩)
  · by_cases c2 : n < sp + yi
    · have hk : phI sp yi n = 1 := by unfold phI; rw [if_neg c1, if_pos c2]
      rw [hk]
      clear hk
      go_enter Try.func31, Try.ntmps31
      go_wp2
      all_goals (go_ret; exact ⟨rfl, by repeat' (first | (with_reducible exact Below.refl _ _) | (with_reducible assumption) | (with_reducible refine kept_alloc ?_ _) | (with_reducible refine kept_drewN ?_ _) | (with_reducible refine Below.drew ?_) | (with_reducible refine Below.setCell ?_ (by first | omega | (simp; omega) | (simp; done)) _) | (refine kept_trans ?_ (by with_reducible assumption)))⟩)
    · have hk : phI sp yi n = 2 := by unfold phI; rw [if_neg c1, if_neg c2]
      rw [hk]
      clear hk
      go_enter Try.func31, Try.ntmps31
      go_wp2
      all_goals (go_ret; exact ⟨rfl, by repeat' (first | (with_reducible exact Below.refl _ _) | (with_reducible assumption) | (with_reducible refine kept_alloc ?_ _) | (with_reducible refine kept_drewN ?_ _) | (with_reducible refine Below.drew ?_) | (with_reducible refine Below.setCell ?_ (by first | omega | (simp; omega) | (simp; done)) _) | (refine kept_trans ?_ (by with_reducible assumption)))⟩)

/-- The table of the ways. -/
def wfn (f : Nat) : Value := .func (.func f) #[] #[]
def waysL : List (Int × Value) := [(0, .func (.func 29) #[] #[]), (1, .func (.func 30) #[] #[]), (2, .func (.func 31) #[] #[]), (3, .func (.func 32) #[] #[])]
def RetM (L : List (Int × Value)) (w : World) (e : Ending) (w' : World) : Prop := ∃ mb, e = .returned (.map (some mb)) ∧ IMap w' mb L ∧ w.heap.size ≤ mb ∧ Kept w w'
theorem wways_any (w : World) : Calls Try.prog 24 #[] w (RetM waysL w) := by
  have hmm := @run_makeMap Try.prog
  have hu := Try.underlying49
  have hd := Try.underlying3
  obtain ⟨w1, u1, m1, s1, b1⟩ := imap_put hu hd (IMap.made w) 0 (.func (.func 29) #[] #[]) (by simp)
  obtain ⟨w2, u2, m2, s2, b2⟩ := imap_put hu hd m1 1 (.func (.func 30) #[] #[]) (by simp)
  obtain ⟨w3, u3, m3, s3, b3⟩ := imap_put hu hd m2 2 (.func (.func 31) #[] #[]) (by simp)
  obtain ⟨w4, u4, m4, s4, b4⟩ := imap_put hu hd m3 3 (.func (.func 32) #[] #[]) (by simp)
  have hB : Below w.heap.size w w4 := ((((Below.refl _ _).alloc (Nat.le_refl _) _).trans (b1 _ (Nat.le_refl _))).trans (b2 _ (Nat.le_refl _))).trans ((b3 _ (Nat.le_refl _)).trans (b4 _ (Nat.le_refl _)))
  have HE := Lib.hid (And.intro m4 hB)
  clear m1 m2 m3 m4 s1 s2 s3 s4 b1 b2 b3 b4 hB hu hd
  go_enter Try.func24, Try.ntmps24
  go_wp2
  go_ret
  exact ⟨_, rfl, HE.out.1, Nat.le_refl _, HE.out.2⟩

/-- What may be done, each with its place. -/
def cntL : List (Int × Value) := [(0, .int .i64 0), (1, .int .i64 1), (2, .int .i64 2)]
theorem wcounted_any (w : World) : Calls Try.prog 21 #[] w (RetM cntL w) := by
  have hmm := @run_makeMap Try.prog
  have hu := Try.underlying44
  have hd := Try.underlying3
  obtain ⟨w1, u1, m1, s1, b1⟩ := imap_put hu hd (IMap.made w) 0 (.int .i64 0) (by simp)
  obtain ⟨w2, u2, m2, s2, b2⟩ := imap_put hu hd m1 1 (.int .i64 1) (by simp)
  obtain ⟨w3, u3, m3, s3, b3⟩ := imap_put hu hd m2 2 (.int .i64 2) (by simp)
  have hB : Below w.heap.size w w3 := ((((Below.refl _ _).alloc (Nat.le_refl _) _).trans (b1 _ (Nat.le_refl _))).trans (b2 _ (Nat.le_refl _))).trans (b3 _ (Nat.le_refl _))
  have HE := Lib.hid (And.intro m3 hB)
  clear m1 m2 m3 s1 s2 s3 b1 b2 b3 hB hu hd
  go_enter Try.func21, Try.ntmps21
  go_wp2
  go_ret
  exact ⟨_, rfl, HE.out.1, Nat.le_refl _, HE.out.2⟩

/-- The way of a configuration; of one that may not be: busy. -/
theorem wayof_yes (lg th po wt sp yi : Int) (si : Bool) (w : World) (hm : mayB lg th po wt sp yi = true) : Calls Try.prog 23 #[.agg #[.int .i64 lg, .int .i64 th, .int .i64 po, .int .i64 wt, .int .i64 sp, .int .i64 yi, .bool si]] w fun e w' => e = .returned (.agg #[.int .i64 lg, .int .i64 th, .int .i64 po, .int .i64 wt, .int .i64 sp, .int .i64 yi, .bool si]) ∧ Kept w w' := by
  have hk := ck_yes hm
  go_enter Try.func23, Try.ntmps23
  go_wp2_with (first | (go_at_call 20; refine (ccheck_any _ _ _ _ _ _ _ _).mono ?_; rintro e wx ⟨rfl, hgx⟩; obtain ⟨hcx, hfx⟩ := bcell hgx; have hz0 : w.heap.size < wx.heap.size := (by have := hgx.size; (try simp at this); omega); have hz1 : w.heap.size + 1 < wx.heap.size := (by have := hgx.size; (try simp at this); omega)))
  refine bodyPost_ret (v := .agg #[.int .i64 lg, .int .i64 th, .int .i64 po, .int .i64 wt, .int .i64 sp, .int .i64 yi, .bool si]) (by simp [results, Try.results23, go_sem, *]) rfl ?_
  exact ⟨rfl, by repeat' (first | (with_reducible exact Below.refl _ _) | (with_reducible assumption) | (with_reducible refine kept_alloc ?_ _) | (with_reducible refine kept_drewN ?_ _) | (with_reducible refine Below.drew ?_) | (with_reducible refine Below.setCell ?_ (by first | omega | (simp; omega) | (simp; done)) _) | (refine kept_trans ?_ (by with_reducible assumption)))⟩
theorem wayof_no (lg th po wt sp yi : Int) (si : Bool) (w : World) (hm : mayB lg th po wt sp yi = false) : Calls Try.prog 23 #[.agg #[.int .i64 lg, .int .i64 th, .int .i64 po, .int .i64 wt, .int .i64 sp, .int .i64 yi, .bool si]] w fun e w' => e = .returned (.agg #[.int .i64 0, .int .i64 0, .int .i64 0, .int .i64 0, .int .i64 0, .int .i64 0, .bool false]) ∧ Kept w w' := by
  have hk := ck_no hm
  go_enter Try.func23, Try.ntmps23
  go_wp2_with (first | (go_at_call 20; refine (ccheck_any _ _ _ _ _ _ _ _).mono ?_; rintro e wx ⟨rfl, hgx⟩; obtain ⟨hcx, hfx⟩ := bcell hgx; have hz0 : w.heap.size < wx.heap.size := (by have := hgx.size; (try simp at this); omega); have hz1 : w.heap.size + 1 < wx.heap.size := (by have := hgx.size; (try simp at this); omega)))
  refine bodyPost_ret (v := .agg #[.int .i64 0, .int .i64 0, .int .i64 0, .int .i64 0, .int .i64 0, .int .i64 0, .bool false]) (by simp [results, Try.results23, go_sem, *]) rfl ?_
  exact ⟨rfl, by repeat' (first | (with_reducible exact Below.refl _ _) | (with_reducible assumption) | (with_reducible refine kept_alloc ?_ _) | (with_reducible refine kept_drewN ?_ _) | (with_reducible refine Below.drew ?_) | (with_reducible refine Below.setCell ?_ (by first | omega | (simp; omega) | (simp; done)) _) | (refine kept_trans ?_ (by with_reducible assumption)))⟩
end Go.Proofs.Ytmdpgaihbkjjgaa
