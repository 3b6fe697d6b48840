/- The document's look whether two lists of integers are one (sakiaref03.Ints). -/
import Derived.Test.YtlmiedgpibollaaInt
import Derived.LoopTactic
import Derived.Lib.Hide
namespace Go.Proofs.Ytlmiedgpibollaa
set_option linter.unusedVariables false
set_option linter.unusedSimpArgs false
open Go.ChangeShapes Go.WideShapes Go.ChangeAt Go.RowKit

set_option maxHeartbeats 1000000 in
theorem rints_any (l m : List Int) (p q : Option Addr) (k k' : Nat) (w : World) (hl : Sl w 1 intC l (.slice p l.length k)) (hm : Sl w 1 intC m (.slice q m.length k')) (hlm : l.length ≤ 9223372036854775806) :
    Calls Try.prog 12 #[.slice p l.length k, .slice q m.length k'] w fun e w' => e = .returned (.bool (decide (l = m))) ∧ Kept w w' := by
  obtain ⟨_, _, e1, _, _, _, hlc⟩ := hl.is
  obtain ⟨_, _, e2, _, _, _, hmc⟩ := hm.is
  cases e1
  cases e2
  clear hl hm
  by_cases hlen : l.length = m.length
  · have hbe : ((l.length : Int) == (m.length : Int)) = true := by simp [hlen]
    have hbn : ((l.length : Int) != (m.length : Int)) = false := by simp [hlen]
    have hL := Lib.hid hlen
    clear hlen
    go_enter Try.func12, Try.ntmps12
    go_wp2
    go_loopw [5] (fun i wr => ∃ j : Nat, j ≤ l.length ∧ i = .int .i64 j ∧ l.take j = m.take j ∧ Below w.heap.size w wr) (fun i _ => l.length - (intOf i).toNat)
    case atStart => exact ⟨0, by omega, rfl, rfl, Below.refl _ _⟩
    case round =>
      obtain ⟨j, hj, rfl, ht, hB⟩ := hrel
      have hT := Lib.hid ht
      clear ht
      by_cases hlt : j < l.length
      · have hlt' : j < m.length := by rw [← hL.out]; exact hlt
        obtain ⟨b, o, rfl, hb, hc⟩ := hlc (by intro h; subst h; simp at hlt)
        obtain ⟨b', o', rfl, hb', hc'⟩ := hmc (by intro h; subst h; simp at hlt')
        have c1 := (hB.cell (p := ⟨b, _, none⟩) hb).trans (hc j l[j] (List.getElem?_eq_getElem hlt) 0 (by omega))
        have c2 := (hB.cell (p := ⟨b', _, none⟩) hb').trans (hc' j m[j] (List.getElem?_eq_getElem hlt') 0 (by omega))
        simp only [intC, Nat.mul_one, Nat.add_zero, List.getElem?_cons_zero] at c1 c2
        clear hc hc' hlc hmc
        have hbw : b < wr.heap.size := Nat.lt_of_lt_of_le hb hB.size
        have hbw' : b' < wr.heap.size := Nat.lt_of_lt_of_le hb' hB.size
        have hts := fun h => Lib.hid (take_snoc_eq hL.out hlt hT.out h)
        have hne : Hid (l[j] ≠ m[j] → l ≠ m) := fun h h' => h (by subst h'; rfl)
        generalize l[j] = x at *
        generalize m[j] = y at *
        have i1 : (0 : Int) ≤ (j : Int) := by omega
        have i2 : (j : Int) < (l.length : Int) := by omega
        have i3 : (j : Int) < (m.length : Int) := by omega
        cases hxy : (x != y)
        · have he : x = y := by simpa using hxy
          have hn := hts he
          clear hts hne he
          go_wp2
          (refine wp_region_kept (w := w) [(b, o + j, .int .i64 x), (b', o' + j, .int .i64 y)] (by kernel_rfl) (by kernel_rfl) (by repeat' (first | (with_reducible exact Below.refl _ _) | (with_reducible assumption) | (with_reducible refine kept_alloc ?_ _) | (with_reducible refine kept_drewN ?_ _) | (with_reducible refine Below.drew ?_) | (with_reducible refine Below.setCell ?_ (by first | omega | (simp; omega) | (simp; done)) _) | (refine kept_trans ?_ (by with_reducible assumption)))) (by first | (simp [CellsAt, *, World.cell?_alloc_past, World.cell?_alloc_at]; done) | (simp [CellsAt, *, World.cell?_alloc_past, World.cell?_alloc_at]; omega)) (fun hne => ?_); (have hq0 : ∀ xwd : Wd w [(b, o + j, .int .i64 x), (b', o' + j, .int .i64 y)], xwd.at.cell? ⟨b, o + j, none⟩ = some (.int .i64 x) := fun xwd => xwd.cells.1.2; have hq1 : ∀ xwd : Wd w [(b, o + j, .int .i64 x), (b', o' + j, .int .i64 y)], xwd.at.cell? ⟨b', o' + j, none⟩ = some (.int .i64 y) := fun xwd => xwd.cells.2.1.2); (try simp only [List.append_eq, List.cons_append, List.nil_append]); (repeat (go_big_quiet_step ((first | fail)))); (refine wpQuiet_nil ?_); intro wq hwq; obtain ⟨xwd, hxwd⟩ := hwq; have hgx : Below w.heap.size w wq := (by rw [hxwd]; exact xwd.kept); have hcs := (show CellsAt wq [(b, o + j, .int .i64 x), (b', o' + j, .int .i64 y)] by rw [hxwd]; exact xwd.cells); clear hxwd xwd hne)
          go_wp2
          exact ⟨⟨j + 1, by omega, by go_num, hn.out, by repeat' (first | (with_reducible exact Below.refl _ _) | (with_reducible assumption) | (with_reducible refine kept_alloc ?_ _) | (with_reducible refine kept_drewN ?_ _) | (with_reducible refine Below.drew ?_) | (with_reducible refine Below.setCell ?_ (by first | omega | (simp; omega) | (simp; done)) _) | (refine kept_trans ?_ (by with_reducible assumption)))⟩, by simp [intOf]; omega⟩
        · have he : x ≠ y := by simpa using hxy
          have hn := Lib.hid (hne.out he)
          clear hts hne he
          go_wp2
          (refine wp_region_kept (w := w) [(b, o + j, .int .i64 x), (b', o' + j, .int .i64 y)] (by kernel_rfl) (by kernel_rfl) (by repeat' (first | (with_reducible exact Below.refl _ _) | (with_reducible assumption) | (with_reducible refine kept_alloc ?_ _) | (with_reducible refine kept_drewN ?_ _) | (with_reducible refine Below.drew ?_) | (with_reducible refine Below.setCell ?_ (by first | omega | (simp; omega) | (simp; done)) _) | (refine kept_trans ?_ (by with_reducible assumption)))) (by first | (simp [CellsAt, *, World.cell?_alloc_past, World.cell?_alloc_at]; done) | (simp [CellsAt, *, World.cell?_alloc_past, World.cell?_alloc_at]; omega)) (fun hne => ?_); (have hq0 : ∀ xwd : Wd w [(b, o + j, .int .i64 x), (b', o' + j, .int .i64 y)], xwd.at.cell? ⟨b, o + j, none⟩ = some (.int .i64 x) := fun xwd => xwd.cells.1.2; have hq1 : ∀ xwd : Wd w [(b, o + j, .int .i64 x), (b', o' + j, .int .i64 y)], xwd.at.cell? ⟨b', o' + j, none⟩ = some (.int .i64 y) := fun xwd => xwd.cells.2.1.2); (try simp only [List.append_eq, List.cons_append, List.nil_append]); (repeat (go_big_quiet_step ((first | fail)))); (refine wpQuiet_nil ?_); intro wq hwq; obtain ⟨xwd, hxwd⟩ := hwq; have hgx : Below w.heap.size w wq := (by rw [hxwd]; exact xwd.kept); have hcs := (show CellsAt wq [(b, o + j, .int .i64 x), (b', o' + j, .int .i64 y)] by rw [hxwd]; exact xwd.cells); clear hxwd xwd hne)
          go_wp2
          go_ret
          exact ⟨ret_bool (by simp [hn.out]), by repeat' (first | (with_reducible exact Below.refl _ _) | (with_reducible assumption) | (with_reducible refine kept_alloc ?_ _) | (with_reducible refine kept_drewN ?_ _) | (with_reducible refine Below.drew ?_) | (with_reducible refine Below.setCell ?_ (by first | omega | (simp; omega) | (simp; done)) _) | (refine kept_trans ?_ (by with_reducible assumption)))⟩
      · have : j = l.length := by omega
        subst this
        have he : Hid (l = m) := Lib.hid (by have := hT.out; rw [List.take_length, hL.out, List.take_length] at this; exact this)
        clear hT hlc hmc
        go_wp2
        go_ret
        exact ⟨ret_bool (by simp [he.out]), by repeat' (first | (with_reducible exact Below.refl _ _) | (with_reducible assumption) | (with_reducible refine kept_alloc ?_ _) | (with_reducible refine kept_drewN ?_ _) | (with_reducible refine Below.drew ?_) | (with_reducible refine Below.setCell ?_ (by first | omega | (simp; omega) | (simp; done)) _) | (refine kept_trans ?_ (by with_reducible assumption)))⟩
  · have hn : Hid (l ≠ m) := Lib.hid (fun h => hlen (by rw [h]))
    have hbn : ((l.length : Int) != (m.length : Int)) = true := by simp; omega
    clear hlen hlc hmc
    go_enter Try.func12, Try.ntmps12
    go_wp2
    go_ret
    exact ⟨ret_bool (by simp [hn.out]), by repeat' (first | (with_reducible exact Below.refl _ _) | (with_reducible assumption) | (with_reducible refine kept_alloc ?_ _) | (with_reducible refine kept_drewN ?_ _) | (with_reducible refine Below.drew ?_) | (with_reducible refine Below.setCell ?_ (by first | omega | (simp; omega) | (simp; done)) _) | (refine kept_trans ?_ (by with_reducible assumption)))⟩
end Go.Proofs.Ytlmiedgpibollaa
