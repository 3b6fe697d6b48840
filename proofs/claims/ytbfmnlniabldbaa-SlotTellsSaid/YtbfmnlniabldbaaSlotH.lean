/- Layer 9: the document's answers. -/
import Derived.Test.YtbfmnlniabldbaaSlotG
import Derived.Laws.StructEq
namespace Go.Proofs.Ytbfmnlniabldbaa
set_option linter.unusedVariables false
set_option linter.unusedSimpArgs false
open Go.ChangeShapes Go.WideShapes Go.ChangeAt Go.RowKit

theorem slo_equal (a b : Slo) (w : World) : (Op.equal 36 (.agg #[.int .i64 a.st, .int .i64 a.vl]) (.agg #[.int .i64 b.st, .int .i64 b.vl])).run Try.prog w = .ok (decide (a = b)) w := by
  have hu := Try.underlying36
  have h3 := Try.underlying3
  have hp : Try.prog.stoodInHeld 36 = false := by kernel_rfl
  have hc : Try.prog.info? 3 = _ := rfl
  have e : decide (a = b) = (a.st == b.st && a.vl == b.vl) := by
    rw [Bool.eq_iff_iff]; cases a; cases b; simp
  rw [e]
  unfold Op.equal Op.maxDepth
  rw [run_equalIn_struct w 9999 _ _ _ (by unfold Program.fieldsOf; rw [hu]) hp]
  unfold Program.fieldsOf
  rw [hu]
  cases h : (a.st == b.st) <;> cases h2 : (a.vl == b.vl)
  all_goals simp [Op.eqFields, part, isAgg, run_underlying h3, run_equalIn_int _ _ _ _ _ _ _ h3, h, h2]
theorem slo_neq (a b : Slo) (w : World) : (binOp .neq 36 (.agg #[.int .i64 a.st, .int .i64 a.vl]) (.agg #[.int .i64 b.st, .int .i64 b.vl])).run Try.prog w = .ok (.bool (!decide (a = b))) w := by
  have h := slo_equal a b w
  have hu := Try.underlying36
  simp [binOp, h, run_underlying hu, Result.andThen]
theorem gs_take_eq {l m : List Slo} {j : Nat} (hL : l.length = m.length) (hj : j < l.length) (ht : l.take j = m.take j) (h : gs l j = gs m j) : l.take (j + 1) = m.take (j + 1) := by
  rw [gs_take hj, gs_take (by omega), ht, h]

set_option maxHeartbeats 1000000 in
theorem rssame_any (l m : List Slo) (p q : Option Addr) (k k' : Nat) (w : World) (hl : Sl w 2 Slo.cells l (.slice p l.length k)) (hm : Sl w 2 Slo.cells m (.slice q m.length k')) (hlm : l.length ≤ 1000) :
    Calls Try.prog 15 #[.slice p l.length k, .slice q m.length k'] w fun e w' => e = .returned (.bool (decide (l = m))) ∧ Kept w w' := by
  obtain ⟨_, _, e1, k1, _, _, hlc⟩ := hl.is
  obtain ⟨_, _, e2, k2, _, _, hmc⟩ := hm.is
  cases e1
  cases e2
  have HL := Lib.hid hl
  have HM := Lib.hid hm
  clear hl hm
  by_cases hlen : l.length = m.length
  · have hbe : ((l.length : Int) == (m.length : Int)) = true := by simp [hlen]
    have hbn : ((l.length : Int) != (m.length : Int)) = false := by simp [hlen]
    have hL := Lib.hid hlen
    clear hlen
    go_enter Try.func15, Try.ntmps15
    go_wp2
    go_loopw [5] (fun i wr => ∃ j : Nat, j ≤ l.length ∧ i = .int .i64 j ∧ l.take j = m.take j ∧ Below w.heap.size w wr) (fun i _ => l.length - (intOf i).toNat)
    case atStart => exact ⟨0, by omega, rfl, rfl, Below.refl _ _⟩
    case round =>
      obtain ⟨j, hj, rfl, ht, hB⟩ := hrel
      have hT := Lib.hid ht
      clear ht
      by_cases hlt : j < l.length
      · have hlt' : j < m.length := by rw [← hL.out]; exact hlt
        obtain ⟨b, o, rfl, hb, -⟩ := hlc (by intro h; subst h; simp at hlt)
        obtain ⟨b', o', rfl, hb', -⟩ := hmc (by intro h; subst h; simp at hlt')
        obtain ⟨c1, c2⟩ := ss_at (HL.out.kept hB) hlt
        obtain ⟨c3, c4⟩ := ss_at (HM.out.kept hB) hlt'
        clear hlc hmc
        have hbw : b < wr.heap.size := Nat.lt_of_lt_of_le hb hB.size
        have hbw' : b' < wr.heap.size := Nat.lt_of_lt_of_le hb' hB.size
        have hts := fun h => Lib.hid (gs_take_eq hL.out hlt hT.out h)
        have hne : Hid (gs l j ≠ gs m j → l ≠ m) := fun h h' => h (by subst h'; rfl)
        have hcmp := slo_neq (gs l j) (gs m j)
        generalize gs l j = x at *
        generalize gs m j = y at *
        have i1 : (0 : Int) ≤ (j : Int) := by omega
        have i2 : (j : Int) < (l.length : Int) := by omega
        have i3 : (j : Int) < (m.length : Int) := by omega
        cases hxy : decide (x = y)
        · have he : x ≠ y := by simpa using hxy
          rw [hxy] at hcmp
          simp only [Bool.not_false] at hcmp
          have hn := Lib.hid (hne.out he)
          clear hts hne he hxy
          go_wp2
          (refine wp_region_kept (w := w) [(b, o + j * 2, .int .i64 x.st), (b, o + j * 2 + 1, .int .i64 x.vl), (b', o' + j * 2, .int .i64 y.st), (b', o' + j * 2 + 1, .int .i64 y.vl)] (by kernel_rfl) (by kernel_rfl) (by repeat' (first | (with_reducible exact Below.refl _ _) | (with_reducible assumption) | (with_reducible refine kept_alloc ?_ _) | (with_reducible refine kept_drewN ?_ _) | (with_reducible refine Below.drew ?_) | (with_reducible refine Below.setCell ?_ (by first | omega | (simp; omega) | (simp; done)) _) | (refine kept_trans ?_ (by with_reducible assumption)))) (by first | (simp [CellsAt, *, World.cell?_alloc_past, World.cell?_alloc_at]; done) | (simp [CellsAt, *, World.cell?_alloc_past, World.cell?_alloc_at]; omega)) (fun hne => ?_); (have hq0 : ∀ xwd : Wd w [(b, o + j * 2, .int .i64 x.st), (b, o + j * 2 + 1, .int .i64 x.vl), (b', o' + j * 2, .int .i64 y.st), (b', o' + j * 2 + 1, .int .i64 y.vl)], xwd.at.cell? ⟨b, o + j * 2, none⟩ = some (.int .i64 x.st) := fun xwd => xwd.cells.1.2; have hq1 : ∀ xwd : Wd w [(b, o + j * 2, .int .i64 x.st), (b, o + j * 2 + 1, .int .i64 x.vl), (b', o' + j * 2, .int .i64 y.st), (b', o' + j * 2 + 1, .int .i64 y.vl)], xwd.at.cell? ⟨b, o + j * 2 + 1, none⟩ = some (.int .i64 x.vl) := fun xwd => xwd.cells.2.1.2; have hq2 : ∀ xwd : Wd w [(b, o + j * 2, .int .i64 x.st), (b, o + j * 2 + 1, .int .i64 x.vl), (b', o' + j * 2, .int .i64 y.st), (b', o' + j * 2 + 1, .int .i64 y.vl)], xwd.at.cell? ⟨b', o' + j * 2, none⟩ = some (.int .i64 y.st) := fun xwd => xwd.cells.2.2.1.2; have hq3 : ∀ xwd : Wd w [(b, o + j * 2, .int .i64 x.st), (b, o + j * 2 + 1, .int .i64 x.vl), (b', o' + j * 2, .int .i64 y.st), (b', o' + j * 2 + 1, .int .i64 y.vl)], xwd.at.cell? ⟨b', o' + j * 2 + 1, none⟩ = some (.int .i64 y.vl) := fun xwd => xwd.cells.2.2.2.1.2); (try simp only [List.append_eq, List.cons_append, List.nil_append]); (repeat (go_big_quiet_step ((first | fail)))); (refine wpQuiet_nil ?_); intro wq hwq; obtain ⟨xwd, hxwd⟩ := hwq; have hgx : Below w.heap.size w wq := (by rw [hxwd]; exact xwd.kept); have hcs := (show CellsAt wq [(b, o + j * 2, .int .i64 x.st), (b, o + j * 2 + 1, .int .i64 x.vl), (b', o' + j * 2, .int .i64 y.st), (b', o' + j * 2 + 1, .int .i64 y.vl)] by rw [hxwd]; exact xwd.cells); clear hxwd xwd hne)
          go_wp2
          go_ret
          exact ⟨ret_bool (by simp [hn.out]), by repeat' (first | (with_reducible exact Below.refl _ _) | (with_reducible assumption) | (with_reducible refine kept_alloc ?_ _) | (with_reducible refine kept_drewN ?_ _) | (with_reducible refine Below.drew ?_) | (with_reducible refine Below.setCell ?_ (by first | omega | (simp; omega) | (simp; done)) _) | (refine kept_trans ?_ (by with_reducible assumption)))⟩
        · have he : x = y := by simpa using hxy
          rw [hxy] at hcmp
          simp only [Bool.not_true] at hcmp
          have hn := hts he
          clear hts hne he hxy
          go_wp2
          (refine wp_region_kept (w := w) [(b, o + j * 2, .int .i64 x.st), (b, o + j * 2 + 1, .int .i64 x.vl), (b', o' + j * 2, .int .i64 y.st), (b', o' + j * 2 + 1, .int .i64 y.vl)] (by kernel_rfl) (by kernel_rfl) (by repeat' (first | (with_reducible exact Below.refl _ _) | (with_reducible assumption) | (with_reducible refine kept_alloc ?_ _) | (with_reducible refine kept_drewN ?_ _) | (with_reducible refine Below.drew ?_) | (with_reducible refine Below.setCell ?_ (by first | omega | (simp; omega) | (simp; done)) _) | (refine kept_trans ?_ (by with_reducible assumption)))) (by first | (simp [CellsAt, *, World.cell?_alloc_past, World.cell?_alloc_at]; done) | (simp [CellsAt, *, World.cell?_alloc_past, World.cell?_alloc_at]; omega)) (fun hne => ?_); (have hq0 : ∀ xwd : Wd w [(b, o + j * 2, .int .i64 x.st), (b, o + j * 2 + 1, .int .i64 x.vl), (b', o' + j * 2, .int .i64 y.st), (b', o' + j * 2 + 1, .int .i64 y.vl)], xwd.at.cell? ⟨b, o + j * 2, none⟩ = some (.int .i64 x.st) := fun xwd => xwd.cells.1.2; have hq1 : ∀ xwd : Wd w [(b, o + j * 2, .int .i64 x.st), (b, o + j * 2 + 1, .int .i64 x.vl), (b', o' + j * 2, .int .i64 y.st), (b', o' + j * 2 + 1, .int .i64 y.vl)], xwd.at.cell? ⟨b, o + j * 2 + 1, none⟩ = some (.int .i64 x.vl) := fun xwd => xwd.cells.2.1.2; have hq2 : ∀ xwd : Wd w [(b, o + j * 2, .int .i64 x.st), (b, o + j * 2 + 1, .int .i64 x.vl), (b', o' + j * 2, .int .i64 y.st), (b', o' + j * 2 + 1, .int .i64 y.vl)], xwd.at.cell? ⟨b', o' + j * 2, none⟩ = some (.int .i64 y.st) := fun xwd => xwd.cells.2.2.1.2; have hq3 : ∀ xwd : Wd w [(b, o + j * 2, .int .i64 x.st), (b, o + j * 2 + 1, .int .i64 x.vl), (b', o' + j * 2, .int .i64 y.st), (b', o' + j * 2 + 1, .int .i64 y.vl)], xwd.at.cell? ⟨b', o' + j * 2 + 1, none⟩ = some (.int .i64 y.vl) := fun xwd => xwd.cells.2.2.2.1.2); (try simp only [List.append_eq, List.cons_append, List.nil_append]); (repeat (go_big_quiet_step ((first | fail)))); (refine wpQuiet_nil ?_); intro wq hwq; obtain ⟨xwd, hxwd⟩ := hwq; have hgx : Below w.heap.size w wq := (by rw [hxwd]; exact xwd.kept); have hcs := (show CellsAt wq [(b, o + j * 2, .int .i64 x.st), (b, o + j * 2 + 1, .int .i64 x.vl), (b', o' + j * 2, .int .i64 y.st), (b', o' + j * 2 + 1, .int .i64 y.vl)] by rw [hxwd]; exact xwd.cells); clear hxwd xwd hne)
          go_wp2
          exact ⟨⟨j + 1, by omega, by go_num, hn.out, by repeat' (first | (with_reducible exact Below.refl _ _) | (with_reducible assumption) | (with_reducible refine kept_alloc ?_ _) | (with_reducible refine kept_drewN ?_ _) | (with_reducible refine Below.drew ?_) | (with_reducible refine Below.setCell ?_ (by first | omega | (simp; omega) | (simp; done)) _) | (refine kept_trans ?_ (by with_reducible assumption)))⟩, by simp [intOf]; omega⟩
      · have : j = l.length := by omega
        subst this
        have he : Hid (l = m) := Lib.hid (by have := hT.out; rw [List.take_length, hL.out, List.take_length] at this; exact this)
        clear hT hlc hmc
        go_wp2
        go_ret
        exact ⟨ret_bool (by simp [he.out]), by repeat' (first | (with_reducible exact Below.refl _ _) | (with_reducible assumption) | (with_reducible refine kept_alloc ?_ _) | (with_reducible refine kept_drewN ?_ _) | (with_reducible refine Below.drew ?_) | (with_reducible refine Below.setCell ?_ (by first | omega | (simp; omega) | (simp; done)) _) | (refine kept_trans ?_ (by with_reducible assumption)))⟩
  · have hn : Hid (l ≠ m) := Lib.hid (fun h => hlen (by rw [h]))
    have hbn : ((l.length : Int) != (m.length : Int)) = true := by simp; omega
    clear hlen hlc hmc
    go_enter Try.func15, Try.ntmps15
    go_wp2
    go_ret
    exact ⟨ret_bool (by simp [hn.out]), by repeat' (first | (with_reducible exact Below.refl _ _) | (with_reducible assumption) | (with_reducible refine kept_alloc ?_ _) | (with_reducible refine kept_drewN ?_ _) | (with_reducible refine Below.drew ?_) | (with_reducible refine Below.setCell ?_ (by first | omega | (simp; omega) | (simp; done)) _) | (refine kept_trans ?_ (by with_reducible assumption)))⟩
theorem rssame_val {l m : List Slo} {b : Bool} (hb : decide (l = m) = b) (p q : Option Addr) (k k' : Nat) (w : World) (hl : Sl w 2 Slo.cells l (.slice p l.length k)) (hm : Sl w 2 Slo.cells m (.slice q m.length k')) (hlm : l.length ≤ 1000) :
    Calls Try.prog 15 #[.slice p l.length k, .slice q m.length k'] w fun e w' => e = .returned (.bool b) ∧ Kept w w' := hb ▸ rssame_any l m p q k k' w hl hm hlm

set_option maxHeartbeats 2000000 in
theorem rscheck_any (l : List Slo) (p : Option Addr) (k : Nat) (w : World) (hl : Sl w 2 Slo.cells l (.slice p l.length k)) (hm : l.length ≤ 1000) :
    Calls Try.prog 19 #[.slice p l.length k] w fun e w' => e = .returned (.bool (okSl l)) ∧ Kept w w' := by
  have H := Lib.hid hl
  obtain ⟨_, _, e1, _, _, _, hne⟩ := hl.is
  cases e1
  have HNE := Lib.hid hne
  cases hb1 : decide ((l.length : Int) < 1)
  · cases hb2 : decide ((64 : Int) < l.length)
    · have HB : Hid (ringB l.length = true) := Lib.hid (by rw [ring_iff]; simp at hb1 hb2; omega)
      clear hl hne
      obtain ⟨N, hN⟩ : ∃ N, l.length = N := ⟨_, rfl⟩
      have HN := Lib.hid hN
      rw [hN] at hm hb1 hb2 ⊢
      clear hN
      go_enter Try.func19, Try.ntmps19
      go_wp2
      clear hb1 hb2
      go_loopw [3] (fun i wr => ∃ j : Nat, j ≤ N ∧ i = .int .i64 j ∧ Hid (∀ i, i < j → slotB N i (gs l i) = true) ∧ Below w.heap.size w wr) (fun i _ => N - (intOf i).toNat)
      case atStart => exact ⟨0, by omega, rfl, Lib.hid (fun i hi => by omega), by repeat' (first | (with_reducible exact Below.refl _ _) | (with_reducible assumption) | (with_reducible refine kept_alloc ?_ _) | (with_reducible refine kept_drewN ?_ _) | (with_reducible refine Below.drew ?_) | (with_reducible refine Below.setCell ?_ (by first | omega | (simp; omega) | (simp; done)) _) | (refine kept_trans ?_ (by with_reducible assumption)))⟩
      case round =>
        obtain ⟨j, hj, rfl, T, hB⟩ := hrel
        by_cases hlt : j < N
        · have hlt' : j < l.length := by rw [HN.out]; exact hlt
          have HX := Lib.hid hlt'
          obtain ⟨b, o, rfl, hb, -⟩ := HNE.out (by intro h; subst h; simp at hlt')
          obtain ⟨c1, c2⟩ := ss_at (H.out.kept hB) hlt'
          have hbw : b < wr.heap.size := Nat.lt_of_lt_of_le hb hB.size
          have i1 : (0 : Int) ≤ (j : Int) := by omega
          have i2 : (j : Int) < (N : Int) := by omega
          obtain ⟨z, hz⟩ : ∃ z, gs l j = z := ⟨_, rfl⟩
          rw [hz] at c1 c2
          have HZ := Lib.hid hz
          clear hz hlt'
          cases b1 : decide (z.st < 0)
          · cases b2 : decide (2199023255552 < z.st)
            · obtain ⟨P, hP⟩ : ∃ P, placeI z.st N = P := ⟨_, rfl⟩
              have HP := Lib.hid hP
              clear hP
              cases b3 : (P != (j : Int))
              · have hs : Hid (slotB N j (gs l j) = true) := Lib.hid (by
                  rw [HZ.out, slot_iff, HP.out]; simp at b1 b2 b3; omega)
                go_wp2_with fail
                refine (rplace_val HP.out (by simp at b1 b2; omega) (by omega) _).mono ?_
                rintro e w2 ⟨rfl, hg2⟩
                go_wp2
                exact ⟨⟨j + 1, by omega, by go_num, Lib.hid (below_succ T.out hs.out), by repeat' (first | (with_reducible exact Below.refl _ _) | (with_reducible assumption) | (with_reducible refine kept_alloc ?_ _) | (with_reducible refine kept_drewN ?_ _) | (with_reducible refine Below.drew ?_) | (with_reducible refine Below.setCell ?_ (by first | omega | (simp; omega) | (simp; done)) _) | (refine kept_trans ?_ (by with_reducible assumption)))⟩, by simp [intOf]; omega⟩
              · have hs : Hid (slotB N j (gs l j) = false) := Lib.hid (by
                  rw [← Bool.not_eq_true, HZ.out, slot_iff, HP.out]; simp at b3; omega)
                go_wp2_with fail
                refine (rplace_val HP.out (by simp at b1 b2; omega) (by omega) _).mono ?_
                rintro e w2 ⟨rfl, hg2⟩
                go_wp2; go_ret; exact ⟨ret_bool (ok_falseS HX.out (by rw [HN.out]; exact hs.out)).symm, by repeat' (first | (with_reducible exact Below.refl _ _) | (with_reducible assumption) | (with_reducible refine kept_alloc ?_ _) | (with_reducible refine kept_drewN ?_ _) | (with_reducible refine Below.drew ?_) | (with_reducible refine Below.setCell ?_ (by first | omega | (simp; omega) | (simp; done)) _) | (refine kept_trans ?_ (by with_reducible assumption)))⟩
            · have hs : Hid (slotB N j (gs l j) = false) := Lib.hid (by rw [← Bool.not_eq_true, HZ.out, slot_iff]; simp at b2; omega)
              go_wp2; go_ret; exact ⟨ret_bool (ok_falseS HX.out (by rw [HN.out]; exact hs.out)).symm, by repeat' (first | (with_reducible exact Below.refl _ _) | (with_reducible assumption) | (with_reducible refine kept_alloc ?_ _) | (with_reducible refine kept_drewN ?_ _) | (with_reducible refine Below.drew ?_) | (with_reducible refine Below.setCell ?_ (by first | omega | (simp; omega) | (simp; done)) _) | (refine kept_trans ?_ (by with_reducible assumption)))⟩
          · have hs : Hid (slotB N j (gs l j) = false) := Lib.hid (by rw [← Bool.not_eq_true, HZ.out, slot_iff]; simp at b1; omega)
            go_wp2; go_ret; exact ⟨ret_bool (ok_falseS HX.out (by rw [HN.out]; exact hs.out)).symm, by repeat' (first | (with_reducible exact Below.refl _ _) | (with_reducible assumption) | (with_reducible refine kept_alloc ?_ _) | (with_reducible refine kept_drewN ?_ _) | (with_reducible refine Below.drew ?_) | (with_reducible refine Below.setCell ?_ (by first | omega | (simp; omega) | (simp; done)) _) | (refine kept_trans ?_ (by with_reducible assumption)))⟩
        · have hjk : j = N := by omega
          subst hjk
          go_wp2
          go_ret
          exact ⟨ret_bool (ok_trueS HB.out (fun i hi => by rw [HN.out]; exact T.out i (by rw [← HN.out]; exact hi))).symm, by repeat' (first | (with_reducible exact Below.refl _ _) | (with_reducible assumption) | (with_reducible refine kept_alloc ?_ _) | (with_reducible refine kept_drewN ?_ _) | (with_reducible refine Below.drew ?_) | (with_reducible refine Below.setCell ?_ (by first | omega | (simp; omega) | (simp; done)) _) | (refine kept_trans ?_ (by with_reducible assumption)))⟩
    · have hr : ringB l.length = false := by rw [← Bool.not_eq_true, ring_iff]; simp at hb2; omega
      rw [ok_ring hr]
      clear hl hne hr
      go_enter Try.func19, Try.ntmps19
      go_wp2
      go_ret
      exact ⟨rfl, by repeat' (first | (with_reducible exact Below.refl _ _) | (with_reducible assumption) | (with_reducible refine kept_alloc ?_ _) | (with_reducible refine kept_drewN ?_ _) | (with_reducible refine Below.drew ?_) | (with_reducible refine Below.setCell ?_ (by first | omega | (simp; omega) | (simp; done)) _) | (refine kept_trans ?_ (by with_reducible assumption)))⟩
  · have hr : ringB l.length = false := by rw [← Bool.not_eq_true, ring_iff]; simp at hb1; omega
    rw [ok_ring hr]
    clear hl hne hr
    go_enter Try.func19, Try.ntmps19
    go_wp2
    go_ret
    exact ⟨rfl, by repeat' (first | (with_reducible exact Below.refl _ _) | (with_reducible assumption) | (with_reducible refine kept_alloc ?_ _) | (with_reducible refine kept_drewN ?_ _) | (with_reducible refine Below.drew ?_) | (with_reducible refine Below.setCell ?_ (by first | omega | (simp; omega) | (simp; done)) _) | (refine kept_trans ?_ (by with_reducible assumption)))⟩
theorem rscheck_val {l : List Slo} {b : Bool} (hb : okSl l = b) (p : Option Addr) (k : Nat) (w : World) (hl : Sl w 2 Slo.cells l (.slice p l.length k)) (hm : l.length ≤ 1000) :
    Calls Try.prog 19 #[.slice p l.length k] w fun e w' => e = .returned (.bool b) ∧ Kept w w' := hb ▸ rscheck_any l p k w hl hm

theorem rdy_of {l : List Slo} {q : Int} (hb : okSl l = true) (h2 : decide (q < 0) = false) : rdyB l q = ((gs l (plc l q)).st == q) := by
  have : 0 ≤ q := by simpa using h2
  simp [rdyB, liesS, hb, this]
set_option maxHeartbeats 1000000 in
theorem rsready_any (l : List Slo) (q : Int) (p : Option Addr) (k : Nat) (w : World) (hl : Sl w 2 Slo.cells l (.slice p l.length k)) (hm : l.length ≤ 1000) (hq : In64 q) :
    Calls Try.prog 21 #[.slice p l.length k, .int .i64 q] w fun e w' => e = .returned (.bool (rdyB l q)) ∧ Kept w w' := by
  have H := Lib.hid hl
  cases hb : okSl l
  · have HB := Lib.hid hb
    have : rdyB l q = false := by simp [rdyB, liesS, hb]
    rw [this]
    clear hl hb this
    go_enter Try.func21, Try.ntmps21
    go_wp2_with fail
    refine (rscheck_val HB.out p k _ H.out hm).mono ?_
    rintro e w1 ⟨rfl, hg1⟩
    go_wp2
    go_ret
    exact ⟨rfl, by repeat' (first | (with_reducible exact Below.refl _ _) | (with_reducible assumption) | (with_reducible refine kept_alloc ?_ _) | (with_reducible refine kept_drewN ?_ _) | (with_reducible refine Below.drew ?_) | (with_reducible refine Below.setCell ?_ (by first | omega | (simp; omega) | (simp; done)) _) | (refine kept_trans ?_ (by with_reducible assumption)))⟩
  · have HB := Lib.hid hb
    cases h2 : decide (q < 0)
    · rw [rdy_of hb h2]
      have hli : liesS l q = true := lies_iff.2 ⟨by simpa using h2, hb⟩
      obtain ⟨h3, h4⟩ := plc_lt hli
      have H3 := Lib.hid h3
      have H4 := Lib.hid h4
      obtain ⟨_, _, e1, _, _, _, hne⟩ := hl.is
      cases e1
      obtain ⟨b, o, rfl, hbs, -⟩ := hne (by intro h; subst h; simp at h3)
      obtain ⟨c1, c2⟩ := ss_at hl h3
      clear hl hb hne h3 h4 hli
      generalize plc l q = i at *
      have b1 : (0 : Int) ≤ (i : Int) := by omega
      have b2 : (i : Int) < (l.length : Int) := by have := H3.out; omega
      go_enter Try.func21, Try.ntmps21
      go_wp2_with fail
      refine (rscheck_val HB.out _ k _ H.out hm).mono ?_
      rintro e w1 ⟨rfl, hg1⟩
      go_wp2_with fail
      refine (rplace_val H4.out hq (by omega) _).mono ?_
      rintro e w2 ⟨rfl, hg2⟩
      have hB := kept_trans hg1 hg2
      have q1 := ((bcell hB).1 _ (o + i * 2) hbs).trans c1
      go_wp2
      go_ret
      exact ⟨rfl, by repeat' (first | (with_reducible exact Below.refl _ _) | (with_reducible assumption) | (with_reducible refine kept_alloc ?_ _) | (with_reducible refine kept_drewN ?_ _) | (with_reducible refine Below.drew ?_) | (with_reducible refine Below.setCell ?_ (by first | omega | (simp; omega) | (simp; done)) _) | (refine kept_trans ?_ (by with_reducible assumption)))⟩
    · have : rdyB l q = false := by simp [rdyB, liesS]; simp at h2; omega
      rw [this]
      clear hl hb this
      go_enter Try.func21, Try.ntmps21
      go_wp2_with fail
      refine (rscheck_val HB.out p k _ H.out hm).mono ?_
      rintro e w1 ⟨rfl, hg1⟩
      go_wp2
      go_ret
      exact ⟨rfl, by repeat' (first | (with_reducible exact Below.refl _ _) | (with_reducible assumption) | (with_reducible refine kept_alloc ?_ _) | (with_reducible refine kept_drewN ?_ _) | (with_reducible refine Below.drew ?_) | (with_reducible refine Below.setCell ?_ (by first | omega | (simp; omega) | (simp; done)) _) | (refine kept_trans ?_ (by with_reducible assumption)))⟩
theorem rsready_val {l : List Slo} {q : Int} {b : Bool} (hb : rdyB l q = b) (p : Option Addr) (k : Nat) (w : World) (hl : Sl w 2 Slo.cells l (.slice p l.length k)) (hm : l.length ≤ 1000) (hq : In64 q) :
    Calls Try.prog 21 #[.slice p l.length k, .int .i64 q] w fun e w' => e = .returned (.bool b) ∧ Kept w w' := hb ▸ rsready_any l q p k w hl hm hq

set_option maxHeartbeats 1000000 in
theorem rsread_any (l : List Slo) (q : Int) (p : Option Addr) (k : Nat) (w : World) (hl : Sl w 2 Slo.cells l (.slice p l.length k)) (hm : l.length ≤ 1000) (hq : In64 q) :
    Calls Try.prog 12 #[.slice p l.length k, .int .i64 q] w fun e w' => e = .returned (.tuple #[.int .i64 (rdV l q), .int .i64 (rdE l q)]) ∧ Kept w w' := by
  have H := Lib.hid hl
  unfold rdV rdE
  cases h1 : rdyB l q
  · have H1 := Lib.hid h1
    clear h1 hl
    go_enter Try.func12, Try.ntmps12
    go_wp2_with fail
    refine (rsready_val H1.out p k _ H.out hm hq).mono ?_
    rintro e w1 ⟨rfl, hg1⟩
    go_wp2
    go_ret2
    exact ⟨rfl, by repeat' (first | (with_reducible exact Below.refl _ _) | (with_reducible assumption) | (with_reducible refine kept_alloc ?_ _) | (with_reducible refine kept_drewN ?_ _) | (with_reducible refine Below.drew ?_) | (with_reducible refine Below.setCell ?_ (by first | omega | (simp; omega) | (simp; done)) _) | (refine kept_trans ?_ (by with_reducible assumption)))⟩
  · have H1 := Lib.hid h1
    obtain ⟨h3, h4⟩ := plc_lt (rdy_lies h1).1
    have H3 := Lib.hid h3
    have H4 := Lib.hid h4
    obtain ⟨_, _, e1, _, _, _, hne⟩ := hl.is
    cases e1
    obtain ⟨b, o, rfl, hbs, -⟩ := hne (by intro h; subst h; simp at h3)
    obtain ⟨c1, c2⟩ := ss_at hl h3
    clear hl hne h1 h3 h4
    generalize plc l q = i at *
    have b1 : (0 : Int) ≤ (i : Int) := by omega
    have b2 : (i : Int) < (l.length : Int) := by have := H3.out; omega
    go_enter Try.func12, Try.ntmps12
    go_wp2_with fail
    refine (rsready_val H1.out _ k _ H.out hm hq).mono ?_
    rintro e w1 ⟨rfl, hg1⟩
    go_wp2_with fail
    refine (rplace_val H4.out hq (by omega) _).mono ?_
    rintro e w2 ⟨rfl, hg2⟩
    have hB := kept_trans hg1 hg2
    have q1 := ((bcell hB).1 _ (o + i * 2 + 1) hbs).trans c2
    go_wp2
    go_ret2
    exact ⟨rfl, by repeat' (first | (with_reducible exact Below.refl _ _) | (with_reducible assumption) | (with_reducible refine kept_alloc ?_ _) | (with_reducible refine kept_drewN ?_ _) | (with_reducible refine Below.drew ?_) | (with_reducible refine Below.setCell ?_ (by first | omega | (simp; omega) | (simp; done)) _) | (refine kept_trans ?_ (by with_reducible assumption)))⟩
theorem rsread_val {l : List Slo} {q v c : Int} (hv : rdV l q = v) (hc : rdE l q = c) (p : Option Addr) (k : Nat) (w : World) (hl : Sl w 2 Slo.cells l (.slice p l.length k)) (hm : l.length ≤ 1000) (hq : In64 q) :
    Calls Try.prog 12 #[.slice p l.length k, .int .i64 q] w fun e w' => e = .returned (.tuple #[.int .i64 v, .int .i64 c]) ∧ Kept w w' := hv ▸ hc ▸ rsread_any l q p k w hl hm hq
end Go.Proofs.Ytbfmnlniabldbaa
