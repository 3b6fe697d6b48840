/- Layer 10: Count; the closures by which gaps are found. -/
import Derived.Test.YtlmiedgpibollaaTurnC
namespace Go.Proofs.Ytlmiedgpibollaa
set_option linter.unusedVariables false
set_option linter.unusedSimpArgs false
open Go.ChangeShapes Go.WideShapes Go.ChangeAt Go.RowKit

theorem count1_enters : ∀ args w, (callFunc 22 args).run Try.prog w = .ok (.enter 22 args) w := enters_of Try.func22 (by kernel_rfl) rfl
theorem count2_enters : ∀ args w, (callFunc 23 args).run Try.prog w = .ok (.enter 23 args) w := enters_of Try.func23 (by kernel_rfl) rfl
theorem count3_enters : ∀ args w, (callFunc 24 args).run Try.prog w = .ok (.enter 24 args) w := enters_of Try.func24 (by kernel_rfl) rfl
theorem widest1_enters : ∀ args w, (callFunc 26 args).run Try.prog w = .ok (.enter 26 args) w := enters_of Try.func26 (by kernel_rfl) rfl
theorem widest2_enters : ∀ args w, (callFunc 27 args).run Try.prog w = .ok (.enter 27 args) w := enters_of Try.func27 (by kernel_rfl) rfl
theorem widest3_enters : ∀ args w, (callFunc 28 args).run Try.prog w = .ok (.enter 28 args) w := enters_of Try.func28 (by kernel_rfl) rfl

theorem count1_any (y who : Int) (b : Nat) (w : World) (hb : b < w.heap.size) (hc : w.cell? ⟨b, 0, none⟩ = some (.int .i64 who)) :
    Calls Try.prog 22 #[.int .i64 y, .pointer (some ⟨b, 0, none⟩)] w fun e w' => e = .returned (.bool (y == who)) ∧ Kept w w' := by
  go_enter Try.func22, Try.ntmps22
  go_wp2
  go_ret
  exact ⟨rfl, by repeat' (first | (with_reducible exact Below.refl _ _) | (with_reducible assumption) | (with_reducible refine kept_alloc ?_ _) | (with_reducible refine kept_drewN ?_ _) | (with_reducible refine Below.drew ?_) | (with_reducible refine Below.setCell ?_ (by first | omega | (simp; omega) | (simp; done)) _) | (refine kept_trans ?_ (by with_reducible assumption)))⟩
theorem count2_any (s j y : Int) (hs : 0 ≤ s ∧ s ≤ 9223372036854775806) (w : World) :
    Calls Try.prog 23 #[.int .i64 s, .int .i64 j, .int .i64 y] w fun e w' => e = .returned (.int .i64 (s + 1)) ∧ Kept w w' := by
  have hw : IntKind.i64.wrap (s + 1) = s + 1 := IntWalk.i64_in _ (by omega)
  go_enter Try.func23, Try.ntmps23
  go_wp2
  go_ret
  exact ⟨rfl, by repeat' (first | (with_reducible exact Below.refl _ _) | (with_reducible assumption) | (with_reducible refine kept_alloc ?_ _) | (with_reducible refine kept_drewN ?_ _) | (with_reducible refine Below.drew ?_) | (with_reducible refine Below.setCell ?_ (by first | omega | (simp; omega) | (simp; done)) _) | (refine kept_trans ?_ (by with_reducible assumption)))⟩
theorem count3_any (s : Int) (w : World) : Calls Try.prog 24 #[.int .i64 s] w fun e w' => e = .returned (.bool false) ∧ Kept w w' := by
  go_enter Try.func24, Try.ntmps24
  go_wp2
  go_ret
  exact ⟨rfl, by repeat' (first | (with_reducible exact Below.refl _ _) | (with_reducible assumption) | (with_reducible refine kept_alloc ?_ _) | (with_reducible refine kept_drewN ?_ _) | (with_reducible refine Below.drew ?_) | (with_reducible refine Below.setCell ?_ (by first | omega | (simp; omega) | (simp; done)) _) | (refine kept_trans ?_ (by with_reducible assumption)))⟩

def ICt (l : List Int) (who : Int) (b : Nat) (j : Nat) (s : Int) (W : World) : Prop := s = (ctO (l.take j) who : Nat) ∧ j ≤ l.length ∧ b < W.heap.size ∧ W.cell? ⟨b, 0, none⟩ = some (.int .i64 who)
theorem ict_kept {l : List Int} {who : Int} {b j : Nat} {s : Int} {W W' : World} (h : ICt l who b j s W) (hk : Below W.heap.size W W') : ICt l who b j s W' :=
  ⟨h.1, h.2.1, Nat.lt_of_lt_of_le h.2.2.1 hk.size, (hk.cell (p := ⟨b, 0, none⟩) h.2.2.1).trans h.2.2.2⟩
theorem ict_next {l : List Int} {who : Int} {j : Nat} {y : Int} (hy : l[j]? = some y) : ctO (l.take (j + 1)) who = ctO (l.take j) who + if y = who then 1 else 0 := by
  obtain ⟨h1, h2⟩ := List.getElem?_eq_some_iff.1 hy
  rw [List.take_succ_eq_append_getElem h1, h2, ct_snoc]

theorem tcount_any (l : List Int) (who : Int) (p : Option Addr) (k : Nat) (w : World) (hl : Sl w 1 intC l (.slice p l.length k)) :
    Calls Try.prog 15 #[.slice p l.length k, .int .i64 who] w fun e w' => e = .returned (.int .i64 (ctO l who : Nat)) ∧ Kept w w' := by
  have H := Lib.hid hl
  obtain ⟨_, _, e1, hlk, hkm, _, _⟩ := hl.is
  cases e1
  have hbig : l.length ≤ 9223372036854775807 := by unfold maxLen at hkm; omega
  clear hl hkm
  have HB := Lib.hid hbig
  clear hbig hlk
  go_enter Try.func15, Try.ntmps15
  go_wp2_with fail
  refine (tof_any l p k 22 23 24 #[.pointer (some ⟨w.heap.size, 0, none⟩)] #[] #[] [] (ICt l who w.heap.size) (fun y => y == who) (fun _ => false) w _ count1_enters count2_enters count3_enters (by repeat' (first | (with_reducible exact Below.refl _ _) | (with_reducible assumption) | (with_reducible refine kept_alloc ?_ _) | (with_reducible refine kept_drewN ?_ _) | (with_reducible refine Below.drew ?_) | (with_reducible refine Below.setCell ?_ (by first | omega | (simp; omega) | (simp; done)) _) | (refine kept_trans ?_ (by with_reducible assumption)))) (by simp) H.out
    (fun j s W W' h hk => ict_kept h hk) ⟨rfl, Nat.zero_le _, by simp, by simp⟩
    (fun j s W _ => count3_any s W) (fun j s W y h => count1_any y who w.heap.size W h.2.2.1 h.2.2.2)
    (fun j s W y h hy ha => (count2_any s j y ⟨by rw [h.1]; omega, by
      have := ct_le (l.take j) who
      rw [List.length_take] at this
      have h2 := (List.getElem?_eq_some_iff.1 hy).1
      have := HB.out
      rw [h.1]; omega⟩ W).mono fun e W' hr => ⟨s + 1, hr.1, ⟨by
        have he : y = who := by simpa using ha
        rw [ict_next hy, if_pos he, h.1]; simp, (List.getElem?_eq_some_iff.1 hy).1, (ict_kept h hr.2).2.2⟩, Out.of_kept hr.2⟩)
    (fun j s W y h hy ha => ⟨by
        have he : y ≠ who := by simpa using ha
        rw [ict_next hy, if_neg he, h.1]; simp, (List.getElem?_eq_some_iff.1 hy).1, h.2.2⟩)).mono ?_
  rintro e w1 ⟨s, j, rfl, hI, hj, hd, hB⟩
  have hs : s = (ctO l who : Nat) := by
    rcases hd with hd | hd
    · cases hd
    · rw [hI.1, hd, List.take_length]
  subst hs
  clear hI hd
  go_wp2
  go_ret
  exact ⟨rfl, hB⟩

/-! ### Gaps -/
def IGap (l who : List Int) (mb eb bb : Nat) (E : Nat) (j : Nat) (s : Int) (W : World) : Prop :=
  ∃ (n : Nat) (m : Int → Option Nat), s = (n : Int) ∧ Knows l who j n m ∧ j ≤ l.length ∧ MapI W mb m ∧ CellsAt W [(bb, 0, .map (some mb)), (eb, 0, .int .i64 E)]
theorem igap_kept {l who : List Int} {mb eb bb E j : Nat} {s : Int} {W W' : World} (h : IGap l who mb eb bb E j s W) (hk : Below W.heap.size W W') : IGap l who mb eb bb E j s W' := by
  obtain ⟨n, m, h1, h2, h3, h4, h5⟩ := h
  exact ⟨n, m, h1, h2, h3, h4.kept hk, cells_keep hk h5⟩
theorem knows_is {l who : List Int} {j s : Nat} {m : Int → Option Nat} (h : Knows l who j s m) (y : Int) : (m y).isSome = decide (y ∈ who) := by
  cases hm : m y with
  | none =>
    have : y ∉ who := fun hy => by obtain ⟨v, hv⟩ := (h.1 y).2 hy; rw [hm] at hv; cases hv
    simp [this]
  | some v => have := (h.1 y).1 ⟨v, hm⟩; simp [this]

theorem widest1_any (y : Int) (m : Int → Option Nat) (mb bb : Nat) (w : World) (hM : MapI w mb m) (hb : bb < w.heap.size) (hc : w.cell? ⟨bb, 0, none⟩ = some (.map (some mb))) :
    Calls Try.prog 26 #[.int .i64 y, .pointer (some ⟨bb, 0, none⟩)] w fun e w' => e = .returned (.bool (m y).isSome) ∧ Kept w w' := by
  have hlk := mapi_is hM y
  have hmb := hM.lt
  clear hM
  go_enter Try.func26, Try.ntmps26
  go_wp2
  go_ret
  exact ⟨rfl, by repeat' (first | (with_reducible exact Below.refl _ _) | (with_reducible assumption) | (with_reducible refine kept_alloc ?_ _) | (with_reducible refine kept_drewN ?_ _) | (with_reducible refine Below.drew ?_) | (with_reducible refine Below.setCell ?_ (by first | omega | (simp; omega) | (simp; done)) _) | (refine kept_trans ?_ (by with_reducible assumption)))⟩
theorem widest3_any (s : Int) (E : Int) (eb : Nat) (w : World) (hb : eb < w.heap.size) (hc : w.cell? ⟨eb, 0, none⟩ = some (.int .i64 E)) :
    Calls Try.prog 28 #[.int .i64 s, .pointer (some ⟨eb, 0, none⟩)] w fun e w' => e = .returned (.bool (decide (E ≤ s))) ∧ Kept w w' := by
  go_enter Try.func28, Try.ntmps28
  go_wp2
  go_ret
  exact ⟨ret_bool (by first | rfl | simp), by repeat' (first | (with_reducible exact Below.refl _ _) | (with_reducible assumption) | (with_reducible refine kept_alloc ?_ _) | (with_reducible refine kept_drewN ?_ _) | (with_reducible refine Below.drew ?_) | (with_reducible refine Below.setCell ?_ (by first | omega | (simp; omega) | (simp; done)) _) | (refine kept_trans ?_ (by with_reducible assumption)))⟩
theorem widest2_any (s j : Nat) (y : Int) (v : Nat) (m : Int → Option Nat) (mb bb : Nat) (w : World) (hM : MapI w mb m) (hv : m y = some v) (hvj : v ≤ j) (hj : j ≤ 9223372036854775806) (hb : bb < w.heap.size) (hc : w.cell? ⟨bb, 0, none⟩ = some (.map (some mb))) (hne : bb ≠ mb) :
    Calls Try.prog 27 #[.int .i64 s, .int .i64 j, .int .i64 y, .pointer (some ⟨bb, 0, none⟩)] w fun e w' => e = .returned (.int .i64 (max s (j - v) : Nat)) ∧ MapI w' mb (withI m y (j + 1)) ∧ Out [mb] w w' := by
  have hlk := mapi_look hM y
  rw [hv] at hlk
  simp only [Option.getD_some] at hlk
  obtain ⟨w1, hu, hM1, hO1, hs1⟩ := mapi_put hM y (j + 1)
  have hc1 := (cell_of_block (o := 0) (hO1.block bb hb (by simp [hne]))).trans hc
  have hmb := hM.lt
  have hmb1 := hM1.lt
  have HE := Lib.hid (And.intro hM1 hO1)
  have hw1 : IntKind.i64.wrap ((j : Int) - (v : Int)) = (j : Int) - (v : Int) := IntWalk.i64_in _ (by omega)
  have hw2 : IntKind.i64.wrap ((j : Int) + 1) = (j : Int) + 1 := IntWalk.i64_in _ (by omega)
  have hu' : (Instr.mapUpdate 40 (.map (some mb)) (.int .i64 y) (.int .i64 ((j : Int) + 1))).run Try.prog w = .ok () w1 := hu
  have hbw : bb < w1.heap.size := by rw [hs1]; exact hb
  clear hM hM1 hO1 hu hs1
  clear hv
  go_enter Try.func27, Try.ntmps27
  go_wp2
  all_goals
    go_ret
    exact ⟨ret_int (by omega), HE.out.1, HE.out.2⟩
end Go.Proofs.Ytlmiedgpibollaa
