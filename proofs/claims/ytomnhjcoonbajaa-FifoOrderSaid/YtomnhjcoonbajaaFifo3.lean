/- Layer 3: FifoOrder holds for every input. -/
import Derived.Test.YtomnhjcoonbajaaFifo4
import Derived.Test.YtomnhjcoonbajaaApp
namespace Go.Proofs.Ytomnhjcoonbajaa
set_option linter.unusedVariables false
set_option linter.unusedSimpArgs false
open Go.ChangeShapes Go.WideShapes Go.ChangeAt Go.RowKit

theorem inL_len (es : List En) : (inL es).length ≤ es.length := List.length_filterMap_le _ _
theorem outL_len (es : List En) : (outL es).length ≤ es.length := List.length_filterMap_le _ _

/-- What stands at the head of a round. -/
def Ord (V : World) (q : Qu) (l : List En) (n : Nat) (vi vo i : Value) (wr : World) : Prop :=
  ∃ j : Nat, j ≤ n ∧ i = .int .i64 j ∧ Ow wr V.heap.size 3 1 intC (q.vals ++ inL (l.take j)) vi ∧ Ow wr V.heap.size 3 1 intC (outL (l.take j)) vo ∧ (∀ g, vi.ownBlock = some g → vo.ownBlock ≠ some g) ∧ Below V.heap.size V wr

theorem take_snoc (l : List En) (j : Nat) (h : j < l.length) : l.take (j + 1) = l.take j ++ [l[j]] := by rw [List.take_succ_eq_append_getElem h]
theorem one_row {W : World} (x : Int) {g : Nat} (hg : W.heap.size = g) : Sl (W.alloc (.cells #[.int .i64 x] 3)) 1 intC [x] (.slice (some ⟨g, 0, none⟩) 1 1) :=
  Ow.sl (base := 0) (e := 3) intEnc (Ow.made (W := W) intEnc [x] #[.int .i64 x] rfl (Nat.zero_le _) (by show 1 ≤ maxLen; decide) hg rfl)

set_option maxRecDepth 100000 in
set_option maxHeartbeats 8000000 in
theorem fifoOrder_walk (q : Qu) (qp : Option Addr) (qk : Nat) (hq : q.ok) (hqm : q.vals.length ≤ maxLen) (l : List En) (lv : Value) (hl : ∀ x ∈ l, x.ok) (hlm : l.length ≤ maxLen) (w : World) (hqs : Sl w 1 intC q.vals (.slice qp q.vals.length qk)) (hls : Sl w En.size En.cells l lv) :
    Calls Try.prog 4 #[.agg #[.slice qp q.vals.length qk, .int .i64 q.cap, .int .i64 q.pol, .int .i64 q.mode], lv] w fun e w' => e = .returned (.bool true) ∧ Kept w w' := by
  by_cases a1 : (100 : Int) < (q.vals.length : Int)
  · obtain ⟨lp, lk, rfl, _⟩ := hls.is
    go_enter Try.func4, Try.ntmps4; go_wp2_with fail; refine (fifoawake_any _).mono ?_; rintro e wy ⟨rfl, hgy⟩; have hcs : CellsAt wy [(w.heap.size, 0, .slice qp q.vals.length qk), (w.heap.size, 1, .int .i64 q.cap), (w.heap.size, 2, .int .i64 q.pol), (w.heap.size, 3, .int .i64 q.mode)] := cells_keep hgy (by (simp only [CellsAt]; (repeat' (first | exact trivial | (refine And.intro ?_ ?_))); all_goals (first | (focus ((try simp only [World.size_setCell, World.size_alloc]); omega)) | (repeat (first | rfl | assumption | (refine (World.cell?_alloc_past _ _ _ ?_).trans ?_; focus ((try simp only [World.size_setCell, World.size_alloc]); omega)) | (refine (World.cell?_alloc_at _ _ _ _ ?_).trans ?_; focus ((try simp only [World.size_setCell, World.size_alloc]); done)) | (refine (World.cell?_setCell_other _ _ _ _ ?_).trans ?_; focus (simp; done)) | (refine (World.cell?_setCell_other _ _ _ _ ?_).trans ?_; focus (simp; omega)) | (refine World.cell?_setCell_same' _ _ _ ?_; focus (first | (simp; done) | (simp [*]; done)))))))); have hq0 := hcs.1.2; have hq1 := hcs.2.1.2; have hq2 := hcs.2.2.1.2; have hq3 := hcs.2.2.2.1.2; have hz0 := hcs.1.1; go_wp2; all_goals (go_ret; exact ⟨rfl, by repeat' (first | (with_reducible exact Below.refl _ _) | (with_reducible assumption) | (with_reducible refine kept_alloc ?_ _) | (with_reducible refine kept_drewN ?_ _) | (with_reducible refine Below.drew ?_) | (with_reducible refine Below.setCell ?_ (by first | omega | (simp; omega) | (simp; done)) _) | (refine kept_trans ?_ (by with_reducible assumption)))⟩)
  by_cases a2 : (100 : Int) < (l.length : Int)
  · obtain ⟨lp, lk, rfl, _⟩ := hls.is
    go_enter Try.func4, Try.ntmps4; go_wp2_with fail; refine (fifoawake_any _).mono ?_; rintro e wy ⟨rfl, hgy⟩; have hcs : CellsAt wy [(w.heap.size, 0, .slice qp q.vals.length qk), (w.heap.size, 1, .int .i64 q.cap), (w.heap.size, 2, .int .i64 q.pol), (w.heap.size, 3, .int .i64 q.mode)] := cells_keep hgy (by (simp only [CellsAt]; (repeat' (first | exact trivial | (refine And.intro ?_ ?_))); all_goals (first | (focus ((try simp only [World.size_setCell, World.size_alloc]); omega)) | (repeat (first | rfl | assumption | (refine (World.cell?_alloc_past _ _ _ ?_).trans ?_; focus ((try simp only [World.size_setCell, World.size_alloc]); omega)) | (refine (World.cell?_alloc_at _ _ _ _ ?_).trans ?_; focus ((try simp only [World.size_setCell, World.size_alloc]); done)) | (refine (World.cell?_setCell_other _ _ _ _ ?_).trans ?_; focus (simp; done)) | (refine (World.cell?_setCell_other _ _ _ _ ?_).trans ?_; focus (simp; omega)) | (refine World.cell?_setCell_same' _ _ _ ?_; focus (first | (simp; done) | (simp [*]; done)))))))); have hq0 := hcs.1.2; have hq1 := hcs.2.1.2; have hq2 := hcs.2.2.1.2; have hq3 := hcs.2.2.2.1.2; have hz0 := hcs.1.1; go_wp2; all_goals (go_ret; exact ⟨rfl, by repeat' (first | (with_reducible exact Below.refl _ _) | (with_reducible assumption) | (with_reducible refine kept_alloc ?_ _) | (with_reducible refine kept_drewN ?_ _) | (with_reducible refine Below.drew ?_) | (with_reducible refine Below.setCell ?_ (by first | omega | (simp; omega) | (simp; done)) _) | (refine kept_trans ?_ (by with_reducible assumption)))⟩)
  have d1 : decide ((100 : Int) < (q.vals.length : Int)) = false := by simp; omega
  have d2 : decide ((100 : Int) < (l.length : Int)) = false := by simp; omega
  have hlen : q.vals.length ≤ 100 := by omega
  have hlen2 : l.length ≤ 100 := by omega
  have hls5 : Sl w 5 En.cells l lv := hls
  obtain ⟨lp, lk, rfl, _, _, _, hec⟩ := hls5.is
  have hech := Lib.hid hec
  clear a1 a2 hec
  go_enter Try.func4, Try.ntmps4; go_wp2_with fail; refine (fifoawake_any _).mono ?_; rintro e wy ⟨rfl, hgy⟩; have hcs : CellsAt wy [(w.heap.size, 0, .slice qp q.vals.length qk), (w.heap.size, 1, .int .i64 q.cap), (w.heap.size, 2, .int .i64 q.pol), (w.heap.size, 3, .int .i64 q.mode)] := cells_keep hgy (by (simp only [CellsAt]; (repeat' (first | exact trivial | (refine And.intro ?_ ?_))); all_goals (first | (focus ((try simp only [World.size_setCell, World.size_alloc]); omega)) | (repeat (first | rfl | assumption | (refine (World.cell?_alloc_past _ _ _ ?_).trans ?_; focus ((try simp only [World.size_setCell, World.size_alloc]); omega)) | (refine (World.cell?_alloc_at _ _ _ _ ?_).trans ?_; focus ((try simp only [World.size_setCell, World.size_alloc]); done)) | (refine (World.cell?_setCell_other _ _ _ _ ?_).trans ?_; focus (simp; done)) | (refine (World.cell?_setCell_other _ _ _ _ ?_).trans ?_; focus (simp; omega)) | (refine World.cell?_setCell_same' _ _ _ ?_; focus (first | (simp; done) | (simp [*]; done)))))))); have hq0 := hcs.1.2; have hq1 := hcs.2.1.2; have hq2 := hcs.2.2.1.2; have hq3 := hcs.2.2.2.1.2; have hz0 := hcs.1.1
  have hB0 : Below w.heap.size w wy := kept_trans (by repeat' (first | (with_reducible exact Below.refl _ _) | (with_reducible assumption) | (with_reducible refine kept_alloc ?_ _) | (with_reducible refine kept_drewN ?_ _) | (with_reducible refine Below.drew ?_) | (with_reducible refine Below.setCell ?_ (by first | omega | (simp; omega) | (simp; done)) _) | (refine kept_trans ?_ (by with_reducible assumption)))) hgy
  have hor := all_order l q
  go_wp2_with fail
  refine (pall_any q l qp lp qk lk _ (hqs.kept (by repeat' (first | (with_reducible exact Below.refl _ _) | (with_reducible assumption) | (with_reducible refine kept_alloc ?_ _) | (with_reducible refine kept_drewN ?_ _) | (with_reducible refine Below.drew ?_) | (with_reducible refine Below.setCell ?_ (by first | omega | (simp; omega) | (simp; done)) _) | (refine kept_trans ?_ (by with_reducible assumption))))) (hls5.kept (by repeat' (first | (with_reducible exact Below.refl _ _) | (with_reducible assumption) | (with_reducible refine kept_alloc ?_ _) | (with_reducible refine kept_drewN ?_ _) | (with_reducible refine Below.drew ?_) | (with_reducible refine Below.setCell ?_ (by first | omega | (simp; omega) | (simp; done)) _) | (refine kept_trans ?_ (by with_reducible assumption))))) (by omega) (by omega)).mono ?_
  rintro e wa ⟨p1, k1, rfl, hS1, hga⟩
  have hcs := cells_keep hga hcs
  clear hq0 hq1 hq2 hq3 hz0
  have hq0 := hcs.1.2; have hq1 := hcs.2.1.2; have hq2 := hcs.2.2.1.2; have hq3 := hcs.2.2.2.1.2; have hz0 := hcs.1.1
  generalize q.all l = rr at *
  obtain ⟨x, n⟩ := rr
  simp only at hor hS1 ⊢
  obtain ⟨hn, hord, hoc, hop, hom⟩ := hor
  have hordh := Lib.hid hord
  have hoch := Lib.hid hoc
  have hoph := Lib.hid hop
  have homh := Lib.hid hom
  clear hord hoc hop hom
  have hBa : Below w.heap.size w wa := hB0.trans (hga.mono hB0.size)
  have i1 : (0 : Int) ≤ (n : Int) := by omega
  have i2 : (n : Int) ≤ (l.length : Int) := by omega
  have i3 : decide (l.length < n) = false := by simp; omega
  have i4 : decide ((n : Int) < 0) = false := by first | (simp; done) | (simp; omega)
  go_wp2_with ((at_builtin; refine wpList_appb (wb := (wa.alloc (.cells #[.slice p1 x.vals.length k1, .int .i64 x.cap, .int .i64 x.pol, .int .i64 x.mode] 24))) rfl _ _ 22 rfl (.int .i64 0) 8 Try.underlying22 int_info rfl (by decide) intEnc rfl rfl (xs := []) (ys := q.vals) (Ow.made (W := (wa.alloc (.cells #[.slice p1 x.vals.length k1, .int .i64 x.cap, .int .i64 x.pol, .int .i64 x.mode] 24))) intEnc [] #[] rfl (Nat.le_refl _) (by decide) (by simp) rfl) (hqs.kept (by repeat' (first | (with_reducible exact Below.refl _ _) | (with_reducible assumption) | (with_reducible refine kept_alloc ?_ _) | (with_reducible refine kept_drewN ?_ _) | (with_reducible refine Below.drew ?_) | (with_reducible refine Below.setCell ?_ (by first | omega | (simp; omega) | (simp; done)) _) | (refine kept_trans ?_ (by with_reducible assumption))))) (by repeat' (first | (with_reducible exact Below.refl _ _) | (with_reducible assumption) | (with_reducible refine kept_alloc ?_ _) | (with_reducible refine kept_drewN ?_ _) | (with_reducible refine Below.drew ?_) | (with_reducible refine Below.setCell ?_ (by first | omega | (simp; omega) | (simp; done)) _) | (refine kept_trans ?_ (by with_reducible assumption)))) (by ((try simp only [List.length_nil, List.length_append, List.length_cons]); (try unfold maxLen); omega)) (by ((try simp only [List.length_nil, List.length_append, List.length_cons]); (try unfold maxLen); omega)) ?_; intro v1 w1 how1 hb1 hg1 hbk1))
  have hxc : ∀ i, (wa.alloc (.cells #[.slice p1 x.vals.length k1, .int .i64 x.cap, .int .i64 x.pol, .int .i64 x.mode] 24)).cell? ⟨wa.heap.size, i, none⟩ = (#[.slice p1 x.vals.length k1, .int .i64 x.cap, .int .i64 x.pol, .int .i64 x.mode] : Array Value)[i]? := fun i => World.cell?_alloc_at (w := wa) _ _ _ i rfl
  have hBV : Below w.heap.size w (wa.alloc (.cells #[.slice p1 x.vals.length k1, .int .i64 x.cap, .int .i64 x.pol, .int .i64 x.mode] 24)) := by repeat' (first | (with_reducible exact Below.refl _ _) | (with_reducible assumption) | (with_reducible refine kept_alloc ?_ _) | (with_reducible refine kept_drewN ?_ _) | (with_reducible refine Below.drew ?_) | (with_reducible refine Below.setCell ?_ (by first | omega | (simp; omega) | (simp; done)) _) | (refine kept_trans ?_ (by with_reducible assumption)))
  have hVa : Below wa.heap.size wa (wa.alloc (.cells #[.slice p1 x.vals.length k1, .int .i64 x.cap, .int .i64 x.pol, .int .i64 x.mode] 24)) := by repeat' (first | (with_reducible exact Below.refl _ _) | (with_reducible assumption) | (with_reducible refine kept_alloc ?_ _) | (with_reducible refine kept_drewN ?_ _) | (with_reducible refine Below.drew ?_) | (with_reducible refine Below.setCell ?_ (by first | omega | (simp; omega) | (simp; done)) _) | (refine kept_trans ?_ (by with_reducible assumption)))
  have hzV : wa.heap.size < (wa.alloc (.cells #[.slice p1 x.vals.length k1, .int .i64 x.cap, .int .i64 x.pol, .int .i64 x.mode] 24)).heap.size := by simp
  generalize (wa.alloc (.cells #[.slice p1 x.vals.length k1, .int .i64 x.cap, .int .i64 x.pol, .int .i64 x.mode] 24)) = V at *
  have hSV := hS1.kept hVa
  have hcs := cells_keep hVa hcs
  clear hq0 hq1 hq2 hq3 hz0
  simp only [List.nil_append] at how1
  clear hg1 hbk1
  go_loopw [8, 9, 10] (fun vi vo i wr => Ord V q l n vi vo i wr) (fun _ _ i _ => n - (intOf i).toNat)
  case atStart => exact ⟨0, by omega, rfl, by simpa [inL] using how1, World.ownsRow_nil _ _ _ _, (fun g _ h => by simp [Value.ownBlock] at h), hb1⟩
  case round =>
    obtain ⟨j, hj, rfl, hoi, hoo, hdis, hB⟩ := hrel
    have hBw : Below w.heap.size w wr := hBV.trans (hB.mono hBV.size)
    have hdish := Lib.hid hdis
    clear hdis
    by_cases hlt : j < n
    · have hjl : j < l.length := by omega
      obtain ⟨bl, o, rfl, hblk, hcell⟩ := hech.out (by intro h; subst h; simp at hjl)
      have hx := hcell j l[j] (List.getElem?_eq_getElem hjl)
      have hts := Lib.hid (take_snoc l j hjl)
      generalize l[j] = y at hx hts
      have hcl : ∀ W, Below w.heap.size w W → (W.cell? ⟨bl, o + j * 5 + 1, none⟩ = some (.int .i64 y.ki) ∧ W.cell? ⟨bl, o + j * 5 + 2, none⟩ = some (.int .i64 y.va) ∧ W.cell? ⟨bl, o + j * 5 + 3, none⟩ = some (.int .i64 y.re) ∧ W.cell? ⟨bl, o + j * 5 + 4, none⟩ = some (.int .i64 y.go)) ∧ bl < W.heap.size := fun W hW =>
        ⟨⟨(hW.cell (p := ⟨bl, _, none⟩) hblk).trans (hx 1 (by omega)), (hW.cell (p := ⟨bl, _, none⟩) hblk).trans (hx 2 (by omega)), (hW.cell (p := ⟨bl, _, none⟩) hblk).trans (hx 3 (by omega)), (hW.cell (p := ⟨bl, _, none⟩) hblk).trans (hx 4 (by omega))⟩, Nat.lt_of_lt_of_le hblk hW.size⟩
      have hclh := Lib.hid hcl
      obtain ⟨⟨c1, c2, c3, c4⟩, hblw⟩ := hcl wr hBw
      clear hx hcell hcl
      have hli := inL_len (l.take j)
      have hlo := outL_len (l.take j)
      have hlt1 : (l.take j).length ≤ j := List.length_take_le _ _
      have hin1 : inL (l.take j ++ [y]) = _ := inL_snoc _ _
      have hout1 : outL (l.take j ++ [y]) = _ := outL_snoc _ _
      cases hs : sendsB y.ki <;> cases h1 : (y.re == 1) <;> cases hr : recvsB y.ki <;> cases h9 : (y.ki == 9)
      all_goals
        have h1d : decide (y.re = 1) = _ := h1
        have h9d : decide (y.ki = 9) = _ := h9
        rw [hs, h1d] at hin1
        rw [hr, h9d, h1d] at hout1
        simp only [Bool.and_true, Bool.and_false, Bool.false_and, Bool.true_and, Bool.or_true, Bool.or_false, Bool.true_or, Bool.false_or, Bool.false_eq_true, if_false, if_true, List.append_nil] at hin1 hout1
        have hin := Lib.hid hin1
        have hout := Lib.hid hout1
        clear hin1 hout1 h1d h9d
        first
          | (exfalso; rw [send_not_recv hs] at hr; exact absurd hr (by decide))
          | (exfalso; have h9' : y.ki = 9 := (by simpa using h9); rw [h9'] at hs; exact absurd hs (by decide))
          | (exfalso; have h9' : y.ki = 9 := (by simpa using h9); rw [h9'] at hr; exact absurd hr (by decide))
          | skip
      all_goals
        go_wp2_with (first
          | (go_at_call 16; refine (psends_any _ _).mono ?_; rintro e w3 ⟨rfl, hg3⟩; rw [hs]; obtain ⟨⟨e1, e2, e3, e4⟩, hbl3⟩ := hclh.out w3 (by repeat' (first | (with_reducible exact Below.refl _ _) | (with_reducible assumption) | (with_reducible refine kept_alloc ?_ _) | (with_reducible refine kept_drewN ?_ _) | (with_reducible refine Below.drew ?_) | (with_reducible refine Below.setCell ?_ (by first | omega | (simp; omega) | (simp; done)) _) | (refine kept_trans ?_ (by with_reducible assumption)))))
          | (go_at_call 18; refine (precvs_any _ _).mono ?_; rintro e w4 ⟨rfl, hg4⟩; rw [hr]; obtain ⟨⟨g1, g2, g3, g4⟩, hbl4⟩ := hclh.out w4 (by repeat' (first | (with_reducible exact Below.refl _ _) | (with_reducible assumption) | (with_reducible refine kept_alloc ?_ _) | (with_reducible refine kept_drewN ?_ _) | (with_reducible refine Below.drew ?_) | (with_reducible refine Below.setCell ?_ (by first | omega | (simp; omega) | (simp; done)) _) | (refine kept_trans ?_ (by with_reducible assumption)))))
          | (at_builtin; refine wpList_appb (wb := V) rfl _ _ 22 rfl (.int .i64 0) 8 Try.underlying22 int_info rfl (by decide) intEnc rfl rfl (hoi.kept (by repeat' (first | (with_reducible exact Below.refl _ _) | (with_reducible assumption) | (with_reducible refine kept_alloc ?_ _) | (with_reducible refine kept_drewN ?_ _) | (with_reducible refine Below.drew ?_) | (with_reducible refine Below.setCell ?_ (by first | omega | (simp; omega) | (simp; done)) _) | (refine kept_trans ?_ (by with_reducible assumption))))) (one_row y.va (by simp)) (by repeat' (first | (with_reducible exact Below.refl _ _) | (with_reducible assumption) | (with_reducible refine kept_alloc ?_ _) | (with_reducible refine kept_drewN ?_ _) | (with_reducible refine Below.drew ?_) | (with_reducible refine Below.setCell ?_ (by first | omega | (simp; omega) | (simp; done)) _) | (refine kept_trans ?_ (by with_reducible assumption)))) (by ((try simp only [List.length_nil, List.length_append, List.length_cons]); (try unfold maxLen); omega)) (by ((try simp only [List.length_nil, List.length_append, List.length_cons]); (try unfold maxLen); omega)) ?_; intro v2 w2 how2 hb2 hg2 hbk2; have hBw2 : Below w.heap.size w w2 := hBV.trans (hb2.mono hBV.size); obtain ⟨⟨f1, f2, f3, f4⟩, hbl2⟩ := hclh.out w2 hBw2)
          | (at_builtin; refine wpList_appb (wb := V) rfl _ _ 22 rfl (.int .i64 0) 8 Try.underlying22 int_info rfl (by decide) intEnc rfl rfl (hoo.kept (by repeat' (first | (with_reducible exact Below.refl _ _) | (with_reducible assumption) | (with_reducible refine kept_alloc ?_ _) | (with_reducible refine kept_drewN ?_ _) | (with_reducible refine Below.drew ?_) | (with_reducible refine Below.setCell ?_ (by first | omega | (simp; omega) | (simp; done)) _) | (refine kept_trans ?_ (by with_reducible assumption))))) (one_row y.go (by simp)) (by repeat' (first | (with_reducible exact Below.refl _ _) | (with_reducible assumption) | (with_reducible refine kept_alloc ?_ _) | (with_reducible refine kept_drewN ?_ _) | (with_reducible refine Below.drew ?_) | (with_reducible refine Below.setCell ?_ (by first | omega | (simp; omega) | (simp; done)) _) | (refine kept_trans ?_ (by with_reducible assumption)))) (by ((try simp only [List.length_nil, List.length_append, List.length_cons]); (try unfold maxLen); omega)) (by ((try simp only [List.length_nil, List.length_append, List.length_cons]); (try unfold maxLen); omega)) ?_; intro v2 w2 how2 hb2 hg2 hbk2))
        first
          | exact ⟨⟨j + 1, by omega, by go_num, by rw [hts.out, hin.out]; exact hoi.kept (by repeat' (first | (with_reducible exact Below.refl _ _) | (with_reducible assumption) | (with_reducible refine kept_alloc ?_ _) | (with_reducible refine kept_drewN ?_ _) | (with_reducible refine Below.drew ?_) | (with_reducible refine Below.setCell ?_ (by first | omega | (simp; omega) | (simp; done)) _) | (refine kept_trans ?_ (by with_reducible assumption)))), by rw [hts.out, hout.out]; exact hoo.kept (by repeat' (first | (with_reducible exact Below.refl _ _) | (with_reducible assumption) | (with_reducible refine kept_alloc ?_ _) | (with_reducible refine kept_drewN ?_ _) | (with_reducible refine Below.drew ?_) | (with_reducible refine Below.setCell ?_ (by first | omega | (simp; omega) | (simp; done)) _) | (refine kept_trans ?_ (by with_reducible assumption)))), hdish.out, by repeat' (first | (with_reducible exact Below.refl _ _) | (with_reducible assumption) | (with_reducible refine kept_alloc ?_ _) | (with_reducible refine kept_drewN ?_ _) | (with_reducible refine Below.drew ?_) | (with_reducible refine Below.setCell ?_ (by first | omega | (simp; omega) | (simp; done)) _) | (refine kept_trans ?_ (by with_reducible assumption)))⟩, by simp [intOf]; omega⟩
          | (have hoo2 := (hoo.kept (W' := w3.alloc (.cells #[.int .i64 y.va] 3)) (by repeat' (first | (with_reducible exact Below.refl _ _) | (with_reducible assumption) | (with_reducible refine kept_alloc ?_ _) | (with_reducible refine kept_drewN ?_ _) | (with_reducible refine Below.drew ?_) | (with_reducible refine Below.setCell ?_ (by first | omega | (simp; omega) | (simp; done)) _) | (refine kept_trans ?_ (by with_reducible assumption))))).grown hg2 (fun g hg h => hdish.out g h hg)
             have hdis2 : ∀ g, v2.ownBlock = some g → _ ≠ some g := fun g hg h => (by
               rcases hbk2 g hg with h' | h'
               · exact hdish.out g h' h
               · have := (Ow.lt hoo g h).2; have := hg3.size; simp at h'; omega)
             exact ⟨⟨j + 1, by omega, by go_num, by rw [hts.out, hin.out, ← List.append_assoc]; exact how2.kept (by repeat' (first | (with_reducible exact Below.refl _ _) | (with_reducible assumption) | (with_reducible refine kept_alloc ?_ _) | (with_reducible refine kept_drewN ?_ _) | (with_reducible refine Below.drew ?_) | (with_reducible refine Below.setCell ?_ (by first | omega | (simp; omega) | (simp; done)) _) | (refine kept_trans ?_ (by with_reducible assumption)))), by rw [hts.out, hout.out]; exact hoo2.kept (by repeat' (first | (with_reducible exact Below.refl _ _) | (with_reducible assumption) | (with_reducible refine kept_alloc ?_ _) | (with_reducible refine kept_drewN ?_ _) | (with_reducible refine Below.drew ?_) | (with_reducible refine Below.setCell ?_ (by first | omega | (simp; omega) | (simp; done)) _) | (refine kept_trans ?_ (by with_reducible assumption)))), hdis2, by repeat' (first | (with_reducible exact Below.refl _ _) | (with_reducible assumption) | (with_reducible refine kept_alloc ?_ _) | (with_reducible refine kept_drewN ?_ _) | (with_reducible refine Below.drew ?_) | (with_reducible refine Below.setCell ?_ (by first | omega | (simp; omega) | (simp; done)) _) | (refine kept_trans ?_ (by with_reducible assumption)))⟩, by simp [intOf]; omega⟩)
          | (have hoi2 := (hoi.kept (W' := w4.alloc (.cells #[.int .i64 y.go] 3)) (by repeat' (first | (with_reducible exact Below.refl _ _) | (with_reducible assumption) | (with_reducible refine kept_alloc ?_ _) | (with_reducible refine kept_drewN ?_ _) | (with_reducible refine Below.drew ?_) | (with_reducible refine Below.setCell ?_ (by first | omega | (simp; omega) | (simp; done)) _) | (refine kept_trans ?_ (by with_reducible assumption))))).grown hg2 (fun g hg h => hdish.out g hg h)
             exact ⟨⟨j + 1, by omega, by go_num, by rw [hts.out, hin.out]; exact hoi2, by rw [hts.out, hout.out]; exact how2, fun g hg h => (by
               rcases hbk2 g h with h' | h'
               · exact hdish.out g hg h'
               · have := (Ow.lt hoi g hg).2; have := hg3.size; have := hg4.size; simp at h'; omega), by repeat' (first | (with_reducible exact Below.refl _ _) | (with_reducible assumption) | (with_reducible refine kept_alloc ?_ _) | (with_reducible refine kept_drewN ?_ _) | (with_reducible refine Below.drew ?_) | (with_reducible refine Below.setCell ?_ (by first | omega | (simp; omega) | (simp; done)) _) | (refine kept_trans ?_ (by with_reducible assumption)))⟩, by simp [intOf]; omega⟩)
          | (trace_state; sorry)
    · have : j = n := by omega
      subst this
      have hli := inL_len (l.take j)
      have hlo := outL_len (l.take j)
      have hlt1 : (l.take j).length ≤ j := List.length_take_le _ _
      have hxl : x.vals.length ≤ 300 := by
        have := congrArg List.length hordh.out
        simp only [List.length_append] at this
        omega
      have y0 := hxc 0
      have y1 := hxc 1
      have y2 := hxc 2
      have y3 := hxc 3
      simp only [List.getElem?_toArray, List.getElem?_cons_zero, List.getElem?_cons_succ] at y0 y1 y2 y3
      have hcsV : CellsAt V [(w.heap.size, 0, .slice qp q.vals.length qk), (w.heap.size, 1, .int .i64 q.cap), (w.heap.size, 2, .int .i64 q.pol), (w.heap.size, 3, .int .i64 q.mode), (wa.heap.size, 0, .slice p1 x.vals.length k1), (wa.heap.size, 1, .int .i64 x.cap), (wa.heap.size, 2, .int .i64 x.pol), (wa.heap.size, 3, .int .i64 x.mode)] := ⟨hcs.1, hcs.2.1, hcs.2.2.1, hcs.2.2.2.1, ⟨hzV, y0⟩, ⟨hzV, y1⟩, ⟨hzV, y2⟩, ⟨hzV, y3⟩, trivial⟩
      have hcs := cells_keep hB hcsV
      clear y0 y1 y2 y3 hxc
      have hq0 := hcs.1.2; have hq1 := hcs.2.1.2; have hq2 := hcs.2.2.1.2; have hq3 := hcs.2.2.2.1.2; have hq4 := hcs.2.2.2.2.1.2; have hq5 := hcs.2.2.2.2.2.1.2; have hq6 := hcs.2.2.2.2.2.2.1.2; have hq7 := hcs.2.2.2.2.2.2.2.1.2; have hz0 := hcs.1.1; have hz1 := hcs.2.2.2.2.1.1
      have e1 : (x.cap == q.cap) = true := by rw [hoch.out]; simp
      have e2 : (x.pol == q.pol) = true := by rw [hoph.out]; simp
      have hordM := hordh.out
      generalize hM : q.vals ++ inL (l.take j) = M at hoi hordM ⊢
      have hMl : M.length ≤ 300 := by rw [← hM]; simp only [List.length_append]; omega
      have hordMh := Lib.hid hordM
      clear hordM hM
      have hcsVh := Lib.hid hcsV
      obtain ⟨pi, ki, rfl, _⟩ := (Ow.sl intEnc hoi).is
      cases hm : decide (2 < q.mode)
      all_goals
        go_wp2_with (first
          | (at_builtin; refine wpList_appw (wb := V) (by rfl) _ _ 22 rfl (.int .i64 0) 8 Try.underlying22 int_info rfl (by decide) intEnc rfl rfl (hoo.kept (by repeat' (first | (with_reducible exact Below.refl _ _) | (with_reducible assumption) | (with_reducible refine kept_alloc ?_ _) | (with_reducible refine kept_drewN ?_ _) | (with_reducible refine Below.drew ?_) | (with_reducible refine Below.setCell ?_ (by first | omega | (simp; omega) | (simp; done)) _) | (refine kept_trans ?_ (by with_reducible assumption))))) (hSV.kept (by repeat' (first | (with_reducible exact Below.refl _ _) | (with_reducible assumption) | (with_reducible refine kept_alloc ?_ _) | (with_reducible refine kept_drewN ?_ _) | (with_reducible refine Below.drew ?_) | (with_reducible refine Below.setCell ?_ (by first | omega | (simp; omega) | (simp; done)) _) | (refine kept_trans ?_ (by with_reducible assumption))))) (by repeat' (first | (with_reducible exact Below.refl _ _) | (with_reducible assumption) | (with_reducible refine kept_alloc ?_ _) | (with_reducible refine kept_drewN ?_ _) | (with_reducible refine Below.drew ?_) | (with_reducible refine Below.setCell ?_ (by first | omega | (simp; omega) | (simp; done)) _) | (refine kept_trans ?_ (by with_reducible assumption)))) (by ((try simp only [List.length_nil, List.length_append, List.length_cons]); (try unfold maxLen); omega)) (by ((try simp only [List.length_nil, List.length_append, List.length_cons]); (try unfold maxLen); omega)) ?_; intro v2 w2 how2 hb2 hg2 hbk2; rw [hordMh.out] at how2; obtain ⟨po, ko, rfl, _⟩ := (Ow.sl intEnc how2).is; have hoi2 := hoi.grown hg2 (fun g hg h => hdish.out g hg h); have hcs := cells_keep hb2 hcsVh.out; have hq0 := hcs.1.2; have hq1 := hcs.2.1.2; have hq2 := hcs.2.2.1.2; have hq3 := hcs.2.2.2.1.2; have hq4 := hcs.2.2.2.2.1.2; have hq5 := hcs.2.2.2.2.2.1.2; have hq6 := hcs.2.2.2.2.2.2.1.2; have hq7 := hcs.2.2.2.2.2.2.2.1.2; have hz0 := hcs.1.1; have hz1 := hcs.2.2.2.2.1.1)
          | (go_at_call 20; refine (rints_any M M po pi ko ki _ (Ow.sl intEnc how2) (Ow.sl intEnc hoi2) (by omega)).mono ?_; rintro e w5 ⟨rfl, hg5⟩; rw [show decide (M = M) = true from by simp]; have hcs := cells_keep hg5 hcs; have hq0 := hcs.1.2; have hq1 := hcs.2.1.2; have hq2 := hcs.2.2.1.2; have hq3 := hcs.2.2.2.1.2; have hq4 := hcs.2.2.2.2.1.2; have hq5 := hcs.2.2.2.2.2.1.2; have hq6 := hcs.2.2.2.2.2.2.1.2; have hq7 := hcs.2.2.2.2.2.2.2.1.2; have hz0 := hcs.1.1; have hz1 := hcs.2.2.2.2.1.1))
        have hBw2 : Below w.heap.size w w2 := hBV.trans (hb2.mono hBV.size)
        go_ret
        refine ⟨ret_bool ?_, by repeat' (first | (with_reducible exact Below.refl _ _) | (with_reducible assumption) | (with_reducible refine kept_alloc ?_ _) | (with_reducible refine kept_drewN ?_ _) | (with_reducible refine Below.drew ?_) | (with_reducible refine Below.setCell ?_ (by first | omega | (simp; omega) | (simp; done)) _) | (refine kept_trans ?_ (by with_reducible assumption)))⟩
        first | rfl | (simp; done) | (have h := homh.out (by simp at hm; omega); simp [h])
set_option maxRecDepth 100000 in
theorem fifoOrder_lifted (os : Os) (started : os.Started) (H : Type) (enc : TypeId × Value → H) :
    ReturnsInHanded {} Try.checked os 4 .any (Rows.fifoOrderSpec.pre6 enc Try.prog Try.f4 Rows.fifoOrderRow.domain false) (Rows.fifoOrderSpec.post enc Try.prog Try.f4 false true false false) := by
  refine returnsInHanded_of_change (C := Try.checked) own started (by kernel_rfl) Try.func4
    (ChangeSpec.witness6 (enc := enc) (C := Try.checked) false ⟨#[], #[.agg #[.slice none 0 0, .int .i64 0, .int .i64 0, .int .i64 0], .slice none 0 0], []⟩ 8 (by kernel_rfl) (by kernel_rfl) (by kernel_rfl) (by kernel_rfl)) ?_
  intro W base args ds gs before hval0 hW hcnd _
  have hval : ∀ (j : Nat) t v, Try.f4.params[j]? = some t → args[j]? = some v → Value.okWide Try.prog W .any base t v := hval0
  have hW' := hW
  obtain ⟨p, q, hA0, hV, rfl, hfz, hnd⟩ := hW
  have hA : DataW.TrodAll enc Try.prog W 0 (fun _ => true) true Try.f4.params.toList args.toList ds p := hA0
  rw [Try.params4] at hA hval
  obtain ⟨v0, vs0, d0, ds0, p0, q0, hargs, rfl, rfl, h0, r0⟩ := trodAll_cons hA
  obtain ⟨v1, vs1, d1, ds1, p1, q1, rfl, rfl, rfl, h1, r1⟩ := trodAll_cons r0
  obtain ⟨rfl, rfl, rfl⟩ := trodAll_nil r1
  obtain rfl : args = #[v0, v1] := by cases args; simp_all
  obtain ⟨rfl, rfl⟩ := trodVars_none hV
  obtain ⟨qcs, rfl, qrd⟩ := open_struct (g := 9) (l := Qu.shape) Try.underlying24 (by kernel_rfl) (hval 0 24 v0 rfl rfl) h0
  obtain ⟨q, qp, qk, hcs0, qsl, qok, qml⟩ := Qu.of_read qrd
  subst hcs0
  obtain ⟨l, lsl, lok, lml⟩ := Sl.of_read En.cells En.ok (by decide) (open_row (g := 9) (l := En.shape) Try.underlying25 (by kernel_rfl) (hval 1 25 v1 rfl rfl) h1) (fun vs h => En.of_read h)
  clear hA0 hval0
  refine (fifoOrder_walk q qp qk qok qml l v1 lok lml W qsl lsl).mono fun e W' ⟨he, hg⟩ => ?_
  subst he
  exact ⟨_, rfl, law_post laid hW' rfl (by kernel_rfl) rfl Try.underlying4 rfl hg⟩

/-- The statement, whole. -/
theorem fifoOrder_holds : Rows.FifoOrderSaid :=
  OpenClaim.holds_of_wide 4 Try.f4 rfl rfl rfl rfl rfl rfl rfl ⟨rfl, rfl, rfl, rfl, rfl⟩ rfl rfl rfl rfl rfl (by kernel_rfl) Try.func4 (by kernel_rfl)
    (of_decide_eq_true (by kernel_rfl)) (by unfold Func.isWrapper; rw [if_neg (of_decide_eq_false (by kernel_rfl))]; exact ⟨rfl, rfl⟩)
    (fun os started H enc _ => fifoOrder_lifted os started H enc)
end Go.Proofs.Ytomnhjcoonbajaa
