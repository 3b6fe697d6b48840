/- Layer 4: the document's look whether two lists of dues are one. -/
import Derived.Test.YthlpjlcadcgoeaaDueT
import Derived.Test.YthlpjlcadcgoeaaInts
import Derived.Laws.StructEq
namespace Go.Proofs.Ythlpjlcadcgoeaa
set_option linter.unusedVariables false
set_option linter.unusedSimpArgs false
open Go.ChangeShapes Go.WideShapes Go.ChangeAt Go.RowKit

instance duEq : DecidableEq Du := fun a b => decidable_of_iff (a.tm = b.tm ∧ a.id = b.id) (by cases a; cases b; simp)
theorem du_equal (a b : Du) (w : World) : (Op.equal 24 (.agg #[.int .i64 a.tm, .int .i64 a.id]) (.agg #[.int .i64 b.tm, .int .i64 b.id])).run Try.prog w = .ok (decide (a = b)) w := by
  have hu := Try.underlying24
  have h3 := Try.underlying3
  have hp : Try.prog.stoodInHeld 24 = false := by kernel_rfl
  have hc : Try.prog.info? 3 = _ := rfl
  have e : decide (a = b) = (a.tm == b.tm && a.id == b.id) := by
    rw [Bool.eq_iff_iff]; cases a; cases b; simp
  rw [e]
  unfold Op.equal Op.maxDepth
  rw [run_equalIn_struct w 9999 _ _ _ (by unfold Program.fieldsOf; rw [hu]) hp]
  unfold Program.fieldsOf
  rw [hu]
  cases h : (a.tm == b.tm) <;> cases h2 : (a.id == b.id)
  all_goals simp [Op.eqFields, part, isAgg, run_underlying h3, run_equalIn_int _ _ _ _ _ _ _ h3, h, h2]
theorem du_neq (a b : Du) (w : World) : (binOp .neq 24 (.agg #[.int .i64 a.tm, .int .i64 a.id]) (.agg #[.int .i64 b.tm, .int .i64 b.id])).run Try.prog w = .ok (.bool (!decide (a = b))) w := by
  have h := du_equal a b w
  have hu := Try.underlying24
  simp [binOp, h, run_underlying hu, Result.andThen]
theorem du_eql (a b : Du) (w : World) : (binOp .eql 24 (.agg #[.int .i64 a.tm, .int .i64 a.id]) (.agg #[.int .i64 b.tm, .int .i64 b.id])).run Try.prog w = .ok (.bool (decide (a = b))) w := by
  have h := du_equal a b w
  have hu := Try.underlying24
  simp [binOp, h, run_underlying hu, Result.andThen]

theorem gt_take {l m : List Du} {j : Nat} (hL : l.length = m.length) (hj : j < l.length) (ht : l.take j = m.take j) (h : gt l j = gt m j) : l.take (j + 1) = m.take (j + 1) := by
  rw [take_gt hj, take_gt (by omega), ht, h]

set_option maxHeartbeats 1000000 in
theorem rdsame_any (l m : List Du) (p q : Option Addr) (k k' : Nat) (w : World) (hl : Sl w 2 Du.cells l (.slice p l.length k)) (hm : Sl w 2 Du.cells m (.slice q m.length k')) (hlm : l.length ≤ 1000) :
    Calls Try.prog 11 #[.slice p l.length k, .slice q m.length k'] w fun e w' => e = .returned (.bool (decide (l = m))) ∧ Kept w w' := by
  obtain ⟨_, _, e1, k1, _, _, hlc⟩ := hl.is
  obtain ⟨_, _, e2, k2, _, _, hmc⟩ := hm.is
  cases e1
  cases e2
  have HL := Lib.hid hl
  have HM := Lib.hid hm
  clear hl hm
  by_cases hlen : l.length = m.length
  · have hbe : ((l.length : Int) == (m.length : Int)) = true := by simp [hlen]
    have hbn : ((l.length : Int) != (m.length : Int)) = false := by simp [hlen]
    have hL := Lib.hid hlen
    clear hlen
    go_enter Try.func11, Try.ntmps11
    go_wp2
    go_loopw [5] (fun i wr => ∃ j : Nat, j ≤ l.length ∧ i = .int .i64 j ∧ l.take j = m.take j ∧ Below w.heap.size w wr) (fun i _ => l.length - (intOf i).toNat)
    case atStart => exact ⟨0, by omega, rfl, rfl, Below.refl _ _⟩
    case round =>
      obtain ⟨j, hj, rfl, ht, hB⟩ := hrel
      have hT := Lib.hid ht
      clear ht
      by_cases hlt : j < l.length
      · have hlt' : j < m.length := by rw [← hL.out]; exact hlt
        obtain ⟨b, o, rfl, hb, -⟩ := hlc (by intro h; subst h; simp at hlt)
        obtain ⟨b', o', rfl, hb', -⟩ := hmc (by intro h; subst h; simp at hlt')
        obtain ⟨c1, c2⟩ := sl_gt (HL.out.kept hB) hlt
        obtain ⟨c3, c4⟩ := sl_gt (HM.out.kept hB) hlt'
        clear hlc hmc
        have hbw : b < wr.heap.size := Nat.lt_of_lt_of_le hb hB.size
        have hbw' : b' < wr.heap.size := Nat.lt_of_lt_of_le hb' hB.size
        have hts := fun h => Lib.hid (gt_take hL.out hlt hT.out h)
        have hne : Hid (gt l j ≠ gt m j → l ≠ m) := fun h h' => h (by subst h'; rfl)
        have hcmp := du_neq (gt l j) (gt m j)
        generalize gt l j = x at *
        generalize gt m j = y at *
        have i1 : (0 : Int) ≤ (j : Int) := by omega
        have i2 : (j : Int) < (l.length : Int) := by omega
        have i3 : (j : Int) < (m.length : Int) := by omega
        cases hxy : decide (x = y)
        · have he : x ≠ y := by simpa using hxy
          rw [hxy] at hcmp
          simp only [Bool.not_false] at hcmp
          have hn := Lib.hid (hne.out he)
          clear hts hne he hxy
          go_wp2
          (refine wp_region_kept (w := w) [(b, o + j * 2, .int .i64 x.tm), (b, o + j * 2 + 1, .int .i64 x.id), (b', o' + j * 2, .int .i64 y.tm), (b', o' + j * 2 + 1, .int .i64 y.id)] (by kernel_rfl) (by kernel_rfl) (by repeat' (first | (with_reducible exact Below.refl _ _) | (with_reducible assumption) | (with_reducible refine kept_alloc ?_ _) | (with_reducible refine kept_drewN ?_ _) | (with_reducible refine Below.drew ?_) | (with_reducible refine Below.setCell ?_ (by first | omega | (simp; omega) | (simp; done)) _) | (refine kept_trans ?_ (by with_reducible assumption)))) (by first | (simp [CellsAt, *, World.cell?_alloc_past, World.cell?_alloc_at]; done) | (simp [CellsAt, *, World.cell?_alloc_past, World.cell?_alloc_at]; omega)) (fun hne => ?_); (have hq0 : ∀ xwd : Wd w [(b, o + j * 2, .int .i64 x.tm), (b, o + j * 2 + 1, .int .i64 x.id), (b', o' + j * 2, .int .i64 y.tm), (b', o' + j * 2 + 1, .int .i64 y.id)], xwd.at.cell? ⟨b, o + j * 2, none⟩ = some (.int .i64 x.tm) := fun xwd => xwd.cells.1.2; have hq1 : ∀ xwd : Wd w [(b, o + j * 2, .int .i64 x.tm), (b, o + j * 2 + 1, .int .i64 x.id), (b', o' + j * 2, .int .i64 y.tm), (b', o' + j * 2 + 1, .int .i64 y.id)], xwd.at.cell? ⟨b, o + j * 2 + 1, none⟩ = some (.int .i64 x.id) := fun xwd => xwd.cells.2.1.2; have hq2 : ∀ xwd : Wd w [(b, o + j * 2, .int .i64 x.tm), (b, o + j * 2 + 1, .int .i64 x.id), (b', o' + j * 2, .int .i64 y.tm), (b', o' + j * 2 + 1, .int .i64 y.id)], xwd.at.cell? ⟨b', o' + j * 2, none⟩ = some (.int .i64 y.tm) := fun xwd => xwd.cells.2.2.1.2; have hq3 : ∀ xwd : Wd w [(b, o + j * 2, .int .i64 x.tm), (b, o + j * 2 + 1, .int .i64 x.id), (b', o' + j * 2, .int .i64 y.tm), (b', o' + j * 2 + 1, .int .i64 y.id)], xwd.at.cell? ⟨b', o' + j * 2 + 1, none⟩ = some (.int .i64 y.id) := fun xwd => xwd.cells.2.2.2.1.2); (repeat (go_big_quiet_step ((first | fail)))); (refine wpQuiet_nil ?_); intro wq hwq; obtain ⟨xwd, hxwd⟩ := hwq; have hgx : Below w.heap.size w wq := (by rw [hxwd]; exact xwd.kept); have hcs := (show CellsAt wq [(b, o + j * 2, .int .i64 x.tm), (b, o + j * 2 + 1, .int .i64 x.id), (b', o' + j * 2, .int .i64 y.tm), (b', o' + j * 2 + 1, .int .i64 y.id)] by rw [hxwd]; exact xwd.cells); clear hxwd xwd hne)
          go_wp2
          go_ret
          exact ⟨ret_bool (by simp [hn.out]), by repeat' (first | (with_reducible exact Below.refl _ _) | (with_reducible assumption) | (with_reducible refine kept_alloc ?_ _) | (with_reducible refine kept_drewN ?_ _) | (with_reducible refine Below.drew ?_) | (with_reducible refine Below.setCell ?_ (by first | omega | (simp; omega) | (simp; done)) _) | (refine kept_trans ?_ (by with_reducible assumption)))⟩
        · have he : x = y := by simpa using hxy
          rw [hxy] at hcmp
          simp only [Bool.not_true] at hcmp
          have hn := hts he
          clear hts hne he hxy
          go_wp2
          (refine wp_region_kept (w := w) [(b, o + j * 2, .int .i64 x.tm), (b, o + j * 2 + 1, .int .i64 x.id), (b', o' + j * 2, .int .i64 y.tm), (b', o' + j * 2 + 1, .int .i64 y.id)] (by kernel_rfl) (by kernel_rfl) (by repeat' (first | (with_reducible exact Below.refl _ _) | (with_reducible assumption) | (with_reducible refine kept_alloc ?_ _) | (with_reducible refine kept_drewN ?_ _) | (with_reducible refine Below.drew ?_) | (with_reducible refine Below.setCell ?_ (by first | omega | (simp; omega) | (simp; done)) _) | (refine kept_trans ?_ (by with_reducible assumption)))) (by first | (simp [CellsAt, *, World.cell?_alloc_past, World.cell?_alloc_at]; done) | (simp [CellsAt, *, World.cell?_alloc_past, World.cell?_alloc_at]; omega)) (fun hne => ?_); (have hq0 : ∀ xwd : Wd w [(b, o + j * 2, .int .i64 x.tm), (b, o + j * 2 + 1, .int .i64 x.id), (b', o' + j * 2, .int .i64 y.tm), (b', o' + j * 2 + 1, .int .i64 y.id)], xwd.at.cell? ⟨b, o + j * 2, none⟩ = some (.int .i64 x.tm) := fun xwd => xwd.cells.1.2; have hq1 : ∀ xwd : Wd w [(b, o + j * 2, .int .i64 x.tm), (b, o + j * 2 + 1, .int .i64 x.id), (b', o' + j * 2, .int .i64 y.tm), (b', o' + j * 2 + 1, .int .i64 y.id)], xwd.at.cell? ⟨b, o + j * 2 + 1, none⟩ = some (.int .i64 x.id) := fun xwd => xwd.cells.2.1.2; have hq2 : ∀ xwd : Wd w [(b, o + j * 2, .int .i64 x.tm), (b, o + j * 2 + 1, .int .i64 x.id), (b', o' + j * 2, .int .i64 y.tm), (b', o' + j * 2 + 1, .int .i64 y.id)], xwd.at.cell? ⟨b', o' + j * 2, none⟩ = some (.int .i64 y.tm) := fun xwd => xwd.cells.2.2.1.2; have hq3 : ∀ xwd : Wd w [(b, o + j * 2, .int .i64 x.tm), (b, o + j * 2 + 1, .int .i64 x.id), (b', o' + j * 2, .int .i64 y.tm), (b', o' + j * 2 + 1, .int .i64 y.id)], xwd.at.cell? ⟨b', o' + j * 2 + 1, none⟩ = some (.int .i64 y.id) := fun xwd => xwd.cells.2.2.2.1.2); (repeat (go_big_quiet_step ((first | fail)))); (refine wpQuiet_nil ?_); intro wq hwq; obtain ⟨xwd, hxwd⟩ := hwq; have hgx : Below w.heap.size w wq := (by rw [hxwd]; exact xwd.kept); have hcs := (show CellsAt wq [(b, o + j * 2, .int .i64 x.tm), (b, o + j * 2 + 1, .int .i64 x.id), (b', o' + j * 2, .int .i64 y.tm), (b', o' + j * 2 + 1, .int .i64 y.id)] by rw [hxwd]; exact xwd.cells); clear hxwd xwd hne)
          go_wp2
          exact ⟨⟨j + 1, by omega, by go_num, hn.out, by repeat' (first | (with_reducible exact Below.refl _ _) | (with_reducible assumption) | (with_reducible refine kept_alloc ?_ _) | (with_reducible refine kept_drewN ?_ _) | (with_reducible refine Below.drew ?_) | (with_reducible refine Below.setCell ?_ (by first | omega | (simp; omega) | (simp; done)) _) | (refine kept_trans ?_ (by with_reducible assumption)))⟩, by simp [intOf]; omega⟩
      · have : j = l.length := by omega
        subst this
        have he : Hid (l = m) := Lib.hid (by have := hT.out; rw [List.take_length, hL.out, List.take_length] at this; exact this)
        clear hT hlc hmc
        go_wp2
        go_ret
        exact ⟨ret_bool (by simp [he.out]), by repeat' (first | (with_reducible exact Below.refl _ _) | (with_reducible assumption) | (with_reducible refine kept_alloc ?_ _) | (with_reducible refine kept_drewN ?_ _) | (with_reducible refine Below.drew ?_) | (with_reducible refine Below.setCell ?_ (by first | omega | (simp; omega) | (simp; done)) _) | (refine kept_trans ?_ (by with_reducible assumption)))⟩
  · have hn : Hid (l ≠ m) := Lib.hid (fun h => hlen (by rw [h]))
    have hbn : ((l.length : Int) != (m.length : Int)) = true := by simp; omega
    clear hlen hlc hmc
    go_enter Try.func11, Try.ntmps11
    go_wp2
    go_ret
    exact ⟨ret_bool (by simp [hn.out]), by repeat' (first | (with_reducible exact Below.refl _ _) | (with_reducible assumption) | (with_reducible refine kept_alloc ?_ _) | (with_reducible refine kept_drewN ?_ _) | (with_reducible refine Below.drew ?_) | (with_reducible refine Below.setCell ?_ (by first | omega | (simp; omega) | (simp; done)) _) | (refine kept_trans ?_ (by with_reducible assumption)))⟩
end Go.Proofs.Ythlpjlcadcgoeaa
