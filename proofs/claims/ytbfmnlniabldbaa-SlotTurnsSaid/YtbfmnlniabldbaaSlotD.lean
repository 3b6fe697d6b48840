/- Layer 9: what a closure does to a slot; one changed; whether slots may be; places at first. -/
import Derived.Test.YtbfmnlniabldbaaSlotC
import Derived.Shelf.Abstract
namespace Go.Proofs.Ytbfmnlniabldbaa
set_option linter.unusedVariables false
set_option linter.unusedSimpArgs false
open Go.ChangeShapes Go.WideShapes Go.ChangeAt Go.RowKit

theorem ow_mono {α : Type} {W : World} {a b k : Nat} {e : TypeId} {enc : α → List Value} {xs : List α} {v : Value} (h : Ow W b e k enc xs v) (hab : a ≤ b) : Ow W a e k enc xs v := by
  obtain ⟨h0, h1 | ⟨g, cap, cur, hv, hb, hg, hl, hm, hs, ht⟩⟩ := h
  · exact ⟨h0, .inl h1⟩
  · exact ⟨h0, .inr ⟨g, cap, cur, hv, by omega, hg, hl, hm, hs, ht⟩⟩
theorem place_val {p r c : Int} (hc : placeI p r = c) (hp : In64 p) (hr : In64 r) (w : World) :
    Calls Try.prog 31 #[.int .i64 p, .int .i64 r] w fun e w' => e = .returned (.int .i64 c) ∧ Kept w w' := hc ▸ place_any p r hp hr w
theorem rplace_val {p r c : Int} (hc : placeI p r = c) (hp : In64 p) (hr : In64 r) (w : World) :
    Calls Try.prog 28 #[.int .i64 p, .int .i64 r] w fun e w' => e = .returned (.int .i64 c) ∧ Kept w w' := hc ▸ place_ref ▸ rplace_any p r hp hr w

/-- What a function value does to the slot that it is handed, in each world that keeps w. -/
def Pokes (fn : Nat) (lb : Array Value) (f : Slo → Slo) (w : World) : Prop :=
  ∀ (W : World) (g n cap : Nat) (l : List Slo) (i : Nat), Below w.heap.size w W → i < l.length → Ow W w.heap.size 36 2 Slo.cells l (.slice (some ⟨g, 0, none⟩) n cap) →
    Calls Try.prog fn (#[.pointer (some ⟨g, i * 2, none⟩)] ++ lb) W fun e W' => e = .returned (.tuple #[]) ∧ Ow W' w.heap.size 36 2 Slo.cells (l.set i (f (gs l i))) (.slice (some ⟨g, 0, none⟩) n cap) ∧ Below w.heap.size w W'

theorem write1_pokes (v : Int) (b : Nat) (w : World) (hb : b < w.heap.size) (hc : w.cell? ⟨b, 0, none⟩ = some (.int .i64 v)) : Pokes 25 #[.pointer (some ⟨b, 0, none⟩)] (fun s => ⟨s.st, v⟩) w := by
  intro W g n cap l i hW hi hO
  have c1 := (hW.cell (p := ⟨b, 0, none⟩) hb).trans hc
  obtain ⟨-, c2, -, f2⟩ := Ow.slots hO hi
  have hg := (Ow.lt hO g rfl).1
  have HO := Lib.hid (Ow.setVl hO i v)
  clear hO
  show Calls Try.prog 25 #[.pointer (some ⟨g, i * 2, none⟩), .pointer (some ⟨b, 0, none⟩)] W _
  go_enter Try.func25, Try.ntmps25
  go_wp2
  go_end0
  exact ⟨rfl, HO.out, hW.setCell (p := ⟨_, _, none⟩) hg _⟩
theorem release1_pokes (q : Int) (N : Nat) (b c : Nat) (p : Option Addr) (k : Nat) (w : World) (hq : 0 ≤ q ∧ q ≤ 1099511627776) (hN : N ≤ 1000) (hb : b < w.heap.size) (hc : c < w.heap.size) (h1 : w.cell? ⟨b, 0, none⟩ = some (.int .i64 q)) (h2 : w.cell? ⟨c, 0, none⟩ = some (.slice p N k)) :
    Pokes 29 #[.pointer (some ⟨b, 0, none⟩), .pointer (some ⟨c, 0, none⟩)] (fun s => ⟨q + N, s.vl⟩) w := by
  intro W g n cap l i hW hi hO
  have c1 := (hW.cell (p := ⟨b, 0, none⟩) hb).trans h1
  have c3 := (hW.cell (p := ⟨c, 0, none⟩) hc).trans h2
  obtain ⟨c2, -, f2, -⟩ := Ow.slots hO hi
  have hg := (Ow.lt hO g rfl).1
  have hw : IntKind.i64.wrap (q + (N : Int)) = q + N := IntWalk.i64_in _ (by omega)
  have HO := Lib.hid (Ow.setSt hO i (q + N))
  clear hO
  show Calls Try.prog 29 #[.pointer (some ⟨g, i * 2, none⟩), .pointer (some ⟨b, 0, none⟩), .pointer (some ⟨c, 0, none⟩)] W _
  go_enter Try.func29, Try.ntmps29
  go_wp2
  go_end0
  exact ⟨rfl, HO.out, hW.setCell (p := ⟨_, _, none⟩) hg _⟩

set_option maxHeartbeats 1000000 in
theorem schanged_any (l : List Slo) (p : Int) (i : Nat) (fn : Nat) (lb : Array Value) (f : Slo → Slo) (a : Option Addr) (k : Nat) (w : World) (eg : ∀ args w, (callFunc fn args).run Try.prog w = .ok (.enter fn args) w)
    (hl : Sl w 2 Slo.cells l (.slice a l.length k)) (hm : l.length ≤ 1000) (hp : In64 p) (hpl : placeI p l.length = i) (hi : i < l.length) (hP : Pokes fn lb f w) :
    Calls Try.prog 24 #[.slice a l.length k, .int .i64 p, .func (.func fn) #[] lb] w (RetS w (l.set i (f (gs l i)))) := by
  have H := Lib.hid hl
  have HP := Lib.hid hP
  obtain ⟨N, hN⟩ : ∃ N, l.length = N := ⟨_, rfl⟩
  have HI := Lib.hid hi
  rw [hN] at hl hm hpl hi ⊢
  have HM := Lib.hid hpl
  have HN := Lib.hid hN
  unfold RetS
  rw [List.length_set, hN]
  have b1 : (0 : Int) ≤ (i : Int) := by omega
  have b2 : (i : Int) < (N : Int) := by omega
  clear hN hl hP hpl
  go_enter Try.func24, Try.ntmps24
  go_wp2_with fail
  have h0 := slaid_any l a k w H.out (by rw [HN.out]; exact hm)
  unfold RetS at h0
  rw [HN.out] at h0
  refine h0.mono ?_
  rintro e w1 ⟨g, rfl, hg, ho, hb1⟩
  have HO := Lib.hid ho
  clear ho h0
  go_wp2_with fail
  refine (place_val HM.out (by omega) (by omega) _).mono ?_
  rintro e w2 ⟨rfl, hb2⟩
  have hB : Below w.heap.size w w2 := kept_trans hb1 hb2
  have hcall := HP.out w2 g N N l i hB HI.out (Ow.kept HO.out hb2)
  clear HP
  go_wp2_with (go_at_fn fn; refine hcall.mono ?_; rintro e w3 ⟨rfl, ho3, hb3⟩; have HO3 := Lib.hid ho3; clear ho3)
  go_ret
  exact ⟨g, rfl, hg, HO3.out, hb3⟩

theorem sring_any (r : Int) (hr : In64 r) (w : World) : Calls Try.prog 30 #[.int .i64 r] w fun e w' => e = .returned (.bool (ringB r)) ∧ Kept w w' := by
  unfold ringB
  cases h1 : decide (1 ≤ r)
  · go_enter Try.func30, Try.ntmps30
    go_wp2
    go_ret
    exact ⟨rfl, by repeat' (first | (with_reducible exact Below.refl _ _) | (with_reducible assumption) | (with_reducible refine kept_alloc ?_ _) | (with_reducible refine kept_drewN ?_ _) | (with_reducible refine Below.drew ?_) | (with_reducible refine Below.setCell ?_ (by first | omega | (simp; omega) | (simp; done)) _) | (refine kept_trans ?_ (by with_reducible assumption)))⟩
  · go_enter Try.func30, Try.ntmps30
    go_wp2
    go_ret
    exact ⟨rfl, by repeat' (first | (with_reducible exact Below.refl _ _) | (with_reducible assumption) | (with_reducible refine kept_alloc ?_ _) | (with_reducible refine kept_drewN ?_ _) | (with_reducible refine Below.drew ?_) | (with_reducible refine Below.setCell ?_ (by first | omega | (simp; omega) | (simp; done)) _) | (refine kept_trans ?_ (by with_reducible assumption)))⟩
theorem sring_val {r : Int} {b : Bool} (hb : ringB r = b) (hr : In64 r) (w : World) : Calls Try.prog 30 #[.int .i64 r] w fun e w' => e = .returned (.bool b) ∧ Kept w w' := hb ▸ sring_any r hr w

/-- Stamps laid as far as place j. -/
def soFarS (k j : Nat) : List Slo := (List.range k).map fun (i : Nat) => (⟨if i < j then (i : Int) else 0, 0⟩ : Slo)
theorem soFarS_len (k j : Nat) : (soFarS k j).length = k := by simp [soFarS]
theorem soFarS_zero (k : Nat) : soFarS k 0 = List.replicate k ⟨0, 0⟩ := by
  apply List.ext_getElem
  · simp [soFarS]
  · intro i h1 h2; simp [soFarS]
theorem soFarS_all (k : Nat) : soFarS k k = (List.range k).map fun (i : Nat) => (⟨(i : Int), 0⟩ : Slo) := by
  unfold soFarS
  apply List.map_congr_left
  intro i hi
  rw [if_pos (List.mem_range.1 hi)]
theorem soFarS_set (k j : Nat) (hj : j < k) : (soFarS k j).set j ⟨(j : Int), (gs (soFarS k j) j).vl⟩ = soFarS k (j + 1) := by
  have hv : (gs (soFarS k j) j).vl = 0 := by rw [gs_eq (by rw [soFarS_len]; exact hj)]; simp [soFarS]
  rw [hv]
  apply List.ext_getElem
  · simp [soFarS]
  · intro i h1 h2
    simp only [soFarS, List.getElem_set, List.getElem_map, List.getElem_range]
    by_cases h : j = i
    · subst h; simp
    · rw [if_neg h]
      by_cases h3 : i < j
      · rw [if_pos h3, if_pos (by omega)]
      · rw [if_neg h3, if_neg (by omega)]

end Go.Proofs.Ytbfmnlniabldbaa
