/- EventWaits holds for every input: no conditions. -/
import Derived.Test.YtlgldniepcjfoaaEventN
import Derived.LoopTactic
namespace Go.Proofs.Ytlgldniepcjfoaa
set_option linter.unusedVariables false
set_option linter.unusedSimpArgs false
open Go.ChangeShapes Go.WideShapes Go.ChangeAt Go.RowKit

set_option maxRecDepth 100000 in
set_option maxHeartbeats 3000000 in
theorem eventWaits_walk (le : Int) (l : List Int) (lp : Option Addr) (lk : Nat) (hle : In64 le) (hlm : l.length ≤ maxLen) (id : Int) (hid : In64 id) (w : World) (hls : Sl w 1 intC l (.slice lp l.length lk)) :
    Calls Try.prog 6 #[.agg #[.int .i64 le, .slice lp l.length lk], .int .i64 id] w fun e w' => e = .returned (.bool true) ∧ Kept w w' := by
  have H : Hid (Sl w 1 intC l (.slice lp l.length lk)) := Lib.hid hls
  clear hls hlm hle
  by_cases hlen : l.length ≤ 100
  · cases hok : okE le l
    · have HO := Lib.hid hok
      clear hok
      go_enter Try.func6, Try.ntmps6; go_wp2_with fail; refine (evawake_any _).mono ?_; rintro e w1 ⟨rfl, hg1⟩; have hcs : CellsAt w1 [(w.heap.size, 0, .int .i64 le), (w.heap.size, 1, .slice lp l.length lk)] := cells_keep hg1 (by (simp only [CellsAt]; (repeat' (first | exact trivial | (refine And.intro ?_ ?_))); all_goals (first | (focus ((try simp only [World.size_setCell, World.size_alloc]); omega)) | (repeat (first | rfl | assumption | (refine (World.cell?_alloc_past _ _ _ ?_).trans ?_; focus ((try simp only [World.size_setCell, World.size_alloc]); omega)) | (refine (World.cell?_alloc_at _ _ _ _ ?_).trans ?_; focus ((try simp only [World.size_setCell, World.size_alloc]); done)) | (refine (World.cell?_setCell_other _ _ _ _ ?_).trans ?_; focus (simp; done)) | (refine (World.cell?_setCell_other _ _ _ _ ?_).trans ?_; focus (simp; omega)) | (refine World.cell?_setCell_same' _ _ _ ?_; focus (simp; done))))))); have hq0 := hcs.1.2; have hq1 := hcs.2.1.2; have hz0 := hcs.1.1
      go_wp2_with fail; refine (echeck_val HO.out lp lk _ (H.out.kept (by repeat' (first | (with_reducible exact Below.refl _ _) | (with_reducible assumption) | (with_reducible refine kept_alloc ?_ _) | (with_reducible refine kept_drewN ?_ _) | (with_reducible refine Below.drew ?_) | (with_reducible refine Below.setCell ?_ (by first | omega | (simp; omega) | (simp; done)) _) | (refine kept_trans ?_ (by with_reducible assumption)))))).mono ?_; rintro e w2 ⟨rfl, hg2⟩; have hcs : CellsAt w2 [(w.heap.size, 0, .int .i64 le), (w.heap.size, 1, .slice lp l.length lk)] := cells_keep hg2 (by (simp only [CellsAt]; (repeat' (first | exact trivial | (refine And.intro ?_ ?_))); all_goals (first | (focus ((try simp only [World.size_setCell, World.size_alloc]); omega)) | (repeat (first | rfl | assumption | (refine (World.cell?_alloc_past _ _ _ ?_).trans ?_; focus ((try simp only [World.size_setCell, World.size_alloc]); omega)) | (refine (World.cell?_alloc_at _ _ _ _ ?_).trans ?_; focus ((try simp only [World.size_setCell, World.size_alloc]); done)) | (refine (World.cell?_setCell_other _ _ _ _ ?_).trans ?_; focus (simp; done)) | (refine (World.cell?_setCell_other _ _ _ _ ?_).trans ?_; focus (simp; omega)) | (refine World.cell?_setCell_same' _ _ _ ?_; focus (simp; done))))))); clear hq0 hq1 hz0; have hq0 := hcs.1.2; have hq1 := hcs.2.1.2; have hz0 := hcs.1.1
      go_wp2
      all_goals (go_ret; exact ⟨rfl, by repeat' (first | (with_reducible exact Below.refl _ _) | (with_reducible assumption) | (with_reducible refine kept_alloc ?_ _) | (with_reducible refine kept_drewN ?_ _) | (with_reducible refine Below.drew ?_) | (with_reducible refine Below.setCell ?_ (by first | omega | (simp; omega) | (simp; done)) _) | (refine kept_trans ?_ (by with_reducible assumption)))⟩)
    · have HO := Lib.hid hok
      obtain ⟨P, hP⟩ : ∃ P, plI l id = P := ⟨_, rfl⟩
      have hPl : ∀ (j : Nat) (hj : j < l.length), (l[j] = id) ↔ ((j : Int) = P) := fun j hj => hP ▸ waits_at (okE_ln hok) hj id
      have HP := Lib.hid hP
      have HPL := Lib.hid hPl
      clear hok hP hPl
      go_enter Try.func6, Try.ntmps6; go_wp2_with fail; refine (evawake_any _).mono ?_; rintro e w1 ⟨rfl, hg1⟩; have hcs : CellsAt w1 [(w.heap.size, 0, .int .i64 le), (w.heap.size, 1, .slice lp l.length lk)] := cells_keep hg1 (by (simp only [CellsAt]; (repeat' (first | exact trivial | (refine And.intro ?_ ?_))); all_goals (first | (focus ((try simp only [World.size_setCell, World.size_alloc]); omega)) | (repeat (first | rfl | assumption | (refine (World.cell?_alloc_past _ _ _ ?_).trans ?_; focus ((try simp only [World.size_setCell, World.size_alloc]); omega)) | (refine (World.cell?_alloc_at _ _ _ _ ?_).trans ?_; focus ((try simp only [World.size_setCell, World.size_alloc]); done)) | (refine (World.cell?_setCell_other _ _ _ _ ?_).trans ?_; focus (simp; done)) | (refine (World.cell?_setCell_other _ _ _ _ ?_).trans ?_; focus (simp; omega)) | (refine World.cell?_setCell_same' _ _ _ ?_; focus (simp; done))))))); have hq0 := hcs.1.2; have hq1 := hcs.2.1.2; have hz0 := hcs.1.1
      go_wp2_with fail; refine (echeck_val HO.out lp lk _ (H.out.kept (by repeat' (first | (with_reducible exact Below.refl _ _) | (with_reducible assumption) | (with_reducible refine kept_alloc ?_ _) | (with_reducible refine kept_drewN ?_ _) | (with_reducible refine Below.drew ?_) | (with_reducible refine Below.setCell ?_ (by first | omega | (simp; omega) | (simp; done)) _) | (refine kept_trans ?_ (by with_reducible assumption)))))).mono ?_; rintro e w2 ⟨rfl, hg2⟩; have hcs : CellsAt w2 [(w.heap.size, 0, .int .i64 le), (w.heap.size, 1, .slice lp l.length lk)] := cells_keep hg2 (by (simp only [CellsAt]; (repeat' (first | exact trivial | (refine And.intro ?_ ?_))); all_goals (first | (focus ((try simp only [World.size_setCell, World.size_alloc]); omega)) | (repeat (first | rfl | assumption | (refine (World.cell?_alloc_past _ _ _ ?_).trans ?_; focus ((try simp only [World.size_setCell, World.size_alloc]); omega)) | (refine (World.cell?_alloc_at _ _ _ _ ?_).trans ?_; focus ((try simp only [World.size_setCell, World.size_alloc]); done)) | (refine (World.cell?_setCell_other _ _ _ _ ?_).trans ?_; focus (simp; done)) | (refine (World.cell?_setCell_other _ _ _ _ ?_).trans ?_; focus (simp; omega)) | (refine World.cell?_setCell_same' _ _ _ ?_; focus (simp; done))))))); clear hq0 hq1 hz0; have hq0 := hcs.1.2; have hq1 := hcs.2.1.2; have hz0 := hcs.1.1
      go_wp2_with fail
      refine (lplace_val' HP.out lp lk _ (H.out.kept (by repeat' (first | (with_reducible exact Below.refl _ _) | (with_reducible assumption) | (with_reducible refine kept_alloc ?_ _) | (with_reducible refine kept_drewN ?_ _) | (with_reducible refine Below.drew ?_) | (with_reducible refine Below.setCell ?_ (by first | omega | (simp; omega) | (simp; done)) _) | (refine kept_trans ?_ (by with_reducible assumption)))))).mono ?_
      rintro e w3 ⟨rfl, hg3⟩
      have hcs : CellsAt w3 [(w.heap.size, 0, .int .i64 le), (w.heap.size, 1, .slice lp l.length lk)] := cells_keep hg3 (by (simp only [CellsAt]; (repeat' (first | exact trivial | (refine And.intro ?_ ?_))); all_goals (first | (focus ((try simp only [World.size_setCell, World.size_alloc]); omega)) | (repeat (first | rfl | assumption | (refine (World.cell?_alloc_past _ _ _ ?_).trans ?_; focus ((try simp only [World.size_setCell, World.size_alloc]); omega)) | (refine (World.cell?_alloc_at _ _ _ _ ?_).trans ?_; focus ((try simp only [World.size_setCell, World.size_alloc]); done)) | (refine (World.cell?_setCell_other _ _ _ _ ?_).trans ?_; focus (simp; done)) | (refine (World.cell?_setCell_other _ _ _ _ ?_).trans ?_; focus (simp; omega)) | (refine World.cell?_setCell_same' _ _ _ ?_; focus (simp; done)))))))
      have HL3 := Lib.hid (H.out.kept (W' := w3) (by repeat' (first | (with_reducible exact Below.refl _ _) | (with_reducible assumption) | (with_reducible refine kept_alloc ?_ _) | (with_reducible refine kept_drewN ?_ _) | (with_reducible refine Below.drew ?_) | (with_reducible refine Below.setCell ?_ (by first | omega | (simp; omega) | (simp; done)) _) | (refine kept_trans ?_ (by with_reducible assumption)))))
      have hB3 : Below w.heap.size w w3 := by repeat' (first | (with_reducible exact Below.refl _ _) | (with_reducible assumption) | (with_reducible refine kept_alloc ?_ _) | (with_reducible refine kept_drewN ?_ _) | (with_reducible refine Below.drew ?_) | (with_reducible refine Below.setCell ?_ (by first | omega | (simp; omega) | (simp; done)) _) | (refine kept_trans ?_ (by with_reducible assumption)))
      clear hq0 hq1 hz0 hg1 hg2 hg3
      have hq0 := hcs.1.2; have hq1 := hcs.2.1.2; have hz0 := hcs.1.1
      go_wp2
      obtain ⟨V, hV⟩ : ∃ V, w3.alloc (.cells #[.int .i64 le, .slice lp l.length lk] 24) = V := ⟨_, rfl⟩
      have hL : Lp w le l lp lk w3.heap.size (l.drop 0) le lp lk V := by
        refine ⟨by rw [← hV]; (simp only [CellsAt]; (repeat' (first | exact trivial | (refine And.intro ?_ ?_))); all_goals (first | (focus ((try simp only [World.size_setCell, World.size_alloc]); omega)) | (repeat (first | rfl | assumption | (refine (World.cell?_alloc_past _ _ _ ?_).trans ?_; focus ((try simp only [World.size_setCell, World.size_alloc]); omega)) | (refine (World.cell?_alloc_at _ _ _ _ ?_).trans ?_; focus ((try simp only [World.size_setCell, World.size_alloc]); done)) | (refine (World.cell?_setCell_other _ _ _ _ ?_).trans ?_; focus (simp; done)) | (refine (World.cell?_setCell_other _ _ _ _ ?_).trans ?_; focus (simp; omega)) | (refine World.cell?_setCell_same' _ _ _ ?_; focus (simp; done)))))), fun i => by rw [← hV]; exact World.frozen?_alloc_at _ _ _ _ (by simp), by rw [← hV]; exact HL3.out.kept (by repeat' (first | (with_reducible exact Below.refl _ _) | (with_reducible assumption) | (with_reducible refine kept_alloc ?_ _) | (with_reducible refine kept_drewN ?_ _) | (with_reducible refine Below.drew ?_) | (with_reducible refine Below.setCell ?_ (by first | omega | (simp; omega) | (simp; done)) _) | (refine kept_trans ?_ (by with_reducible assumption)))), HO.out, by rw [← hV]; repeat' (first | (with_reducible exact Below.refl _ _) | (with_reducible assumption) | (with_reducible refine kept_alloc ?_ _) | (with_reducible refine kept_drewN ?_ _) | (with_reducible refine Below.drew ?_) | (with_reducible refine Below.setCell ?_ (by first | omega | (simp; omega) | (simp; done)) _) | (refine kept_trans ?_ (by with_reducible assumption))), hz0⟩
      rw [hV]
      clear hV hcs hq0 hq1 hz0 hB3
      generalize w3.heap.size = xb at hL ⊢
      have HV := Lib.hid hL
      clear hL
      have i0 : (0 : Int) ≤ (l.length : Int) := by omega
      go_loopw [8, 9, 10, 11] (fun s8 _ _ _ wr => ∃ (j : Nat) (R : List Int) (E : Int) (px : Option Addr) (kx : Nat), s8 = .int .i64 j ∧ j ≤ l.length + 1 ∧ Hid (R = l.drop j) ∧ Hid (Lp w le l lp lk xb R E px kx wr)) (fun s8 _ _ _ _ => l.length + 1 - (intOf s8).toNat)
      case atStart => exact ⟨0, l.drop 0, le, lp, lk, rfl, by omega, Lib.hid rfl, HV⟩
      case round =>
        clear HV
        obtain ⟨j, R, E, px, kx, rfl, hj, HRD, HR⟩ := hrel
        have hcs : CellsAt wr [(w.heap.size, 0, .int .i64 le), (w.heap.size, 1, .slice lp l.length lk), (xb, 0, .int .i64 E), (xb, 1, .slice px R.length kx)] := HR.out.cells
        have hq0 := hcs.1.2; have hq1 := hcs.2.1.2; have hq2 := hcs.2.2.1.2; have hq3 := hcs.2.2.2.1.2; have hz0 := hcs.1.1; have hz1 := hcs.2.2.1.1
        have hfr := HR.out.froz
        by_cases hlt : j ≤ l.length
        · have i1 : (j : Int) ≤ (l.length : Int) := by omega
          have hNt := note_round (j := j) (E := E) (l := l) (HRD.out ▸ HR.out.ok)
          rw [← HRD.out] at hNt
          obtain ⟨R', hR'⟩ : ∃ R', l.drop (j + 1) = R' := ⟨_, rfl⟩
          rw [hR'] at hNt
          obtain ⟨n1, n2, n3, n4, n5⟩ := hNt
          have hRl : R.length ≤ 100 := by rw [HRD.out]; simp; omega
          have HE := Lib.hid (And.intro n1 (And.intro n2 (And.intro n3 hR')))
          clear n1 n2 n3 hR'
          by_cases hlt' : j < l.length
          · obtain ⟨y, hy⟩ : ∃ y, l[j] = y := ⟨_, rfl⟩
            obtain ⟨m1, m2⟩ := n4 hlt'
            rw [hy] at m1
            have hq := HPL.out j hlt'
            rw [hy] at hq
            have HY := Lib.hid (And.intro m1 m2)
            obtain ⟨q, hq1⟩ : ∃ q, (y == id) = q := ⟨_, rfl⟩
            have hq2 : ((j : Int) == P) = q := by
              rw [← hq1, Bool.eq_iff_iff]
              simpa using hq.symm
            clear n4 n5 hy m1 m2 hq
            go_wp2_with fail
            refine (enotify_val HE.out.1 HE.out.2.1 HY.out.1 HY.out.2 px kx _ (HR.out.line.kept (by repeat' (first | (with_reducible exact Below.refl _ _) | (with_reducible assumption) | (with_reducible refine kept_alloc ?_ _) | (with_reducible refine kept_drewN ?_ _) | (with_reducible refine Below.drew ?_) | (with_reducible refine Below.setCell ?_ (by first | omega | (simp; omega) | (simp; done)) _) | (refine kept_trans ?_ (by with_reducible assumption))))) (by omega)).mono ?_
            rintro e w4 ⟨p4, k4, rfl, sO4, hg4⟩
            have HK := Lib.hid (HR.out.kept hg4)
            have HO4 := Lib.hid sO4
            have hxw : xb < wr.heap.size := hz1
            have hcs : CellsAt w4 [(w.heap.size, 0, .int .i64 le), (w.heap.size, 1, .slice lp l.length lk), (xb, 0, .int .i64 E), (xb, 1, .slice px R.length kx)] := cells_keep hg4 hcs
            have hfr4 : ∀ i, w4.frozen? ⟨xb, i, none⟩ = false := (HR.out.kept hg4).froz
            clear hq0 hq3 hz0 hz1 sO4 hfr
            have hq0 := hcs.1.2; have hq1 := hcs.2.1.2; have hq2 := hcs.2.2.1.2; have hq3 := hcs.2.2.2.1.2; have hz0 := hcs.1.1; have hz1 := hcs.2.2.1.1
            cases q
            · go_wp2
              exact ⟨⟨j + 1, R', nxE E, p4, k4, by go_num, by omega, Lib.hid HE.out.2.2.2.symm, Lib.hid ((HK.out.put hxw HO4.out HE.out.2.2.1).kept (by repeat' (first | (with_reducible exact Below.refl _ _) | (with_reducible assumption) | (with_reducible refine kept_alloc ?_ _) | (with_reducible refine kept_drewN ?_ _) | (with_reducible refine Below.drew ?_) | (with_reducible refine Below.setCell ?_ (by first | omega | (simp; omega) | (simp; done)) _) | (refine kept_trans ?_ (by with_reducible assumption)))))⟩, by simp [intOf]; omega⟩
            · go_wp2
              exact ⟨⟨j + 1, R', nxE E, p4, k4, by go_num, by omega, Lib.hid HE.out.2.2.2.symm, Lib.hid ((HK.out.put hxw HO4.out HE.out.2.2.1).kept (by repeat' (first | (with_reducible exact Below.refl _ _) | (with_reducible assumption) | (with_reducible refine kept_alloc ?_ _) | (with_reducible refine kept_drewN ?_ _) | (with_reducible refine Below.drew ?_) | (with_reducible refine Below.setCell ?_ (by first | omega | (simp; omega) | (simp; done)) _) | (refine kept_trans ?_ (by with_reducible assumption)))))⟩, by simp [intOf]; omega⟩
          · obtain ⟨m1, m2⟩ := n5 hlt'
            have HY := Lib.hid (And.intro m1 m2)
            clear n4 n5 m1 m2
            go_wp2_with fail
            refine (enotify_val HE.out.1 HE.out.2.1 HY.out.1 HY.out.2 px kx _ (HR.out.line.kept (by repeat' (first | (with_reducible exact Below.refl _ _) | (with_reducible assumption) | (with_reducible refine kept_alloc ?_ _) | (with_reducible refine kept_drewN ?_ _) | (with_reducible refine Below.drew ?_) | (with_reducible refine Below.setCell ?_ (by first | omega | (simp; omega) | (simp; done)) _) | (refine kept_trans ?_ (by with_reducible assumption))))) (by omega)).mono ?_
            rintro e w4 ⟨p4, k4, rfl, sO4, hg4⟩
            have HK := Lib.hid (HR.out.kept hg4)
            have HO4 := Lib.hid sO4
            have hxw : xb < wr.heap.size := hz1
            have hcs : CellsAt w4 [(w.heap.size, 0, .int .i64 le), (w.heap.size, 1, .slice lp l.length lk), (xb, 0, .int .i64 E), (xb, 1, .slice px R.length kx)] := cells_keep hg4 hcs
            have hfr4 : ∀ i, w4.frozen? ⟨xb, i, none⟩ = false := (HR.out.kept hg4).froz
            clear hq0 hq1 hq2 hq3 hz0 hz1 sO4 hfr
            have hq0 := hcs.1.2; have hq1 := hcs.2.1.2; have hq2 := hcs.2.2.1.2; have hq3 := hcs.2.2.2.1.2; have hz0 := hcs.1.1; have hz1 := hcs.2.2.1.1
            go_wp2
            exact ⟨⟨j + 1, R', nxE E, p4, k4, by go_num, by omega, Lib.hid HE.out.2.2.2.symm, Lib.hid ((HK.out.put hxw HO4.out HE.out.2.2.1).kept (by repeat' (first | (with_reducible exact Below.refl _ _) | (with_reducible assumption) | (with_reducible refine kept_alloc ?_ _) | (with_reducible refine kept_drewN ?_ _) | (with_reducible refine Below.drew ?_) | (with_reducible refine Below.setCell ?_ (by first | omega | (simp; omega) | (simp; done)) _) | (refine kept_trans ?_ (by with_reducible assumption)))))⟩, by simp [intOf]; omega⟩
        · have : j = l.length + 1 := by omega
          subst this
          have hR : R = [] := by rw [HRD.out]; exact List.drop_eq_nil_of_le (by omega)
          subst hR
          have i1 : ¬ ((l.length : Int) + 1 ≤ (l.length : Int)) := by omega
          have HBr := Lib.hid HR.out.below
          go_wp2_with fail
          refine (lplace_val' (pl_nil id) px kx _ (HR.out.line.kept (by repeat' (first | (with_reducible exact Below.refl _ _) | (with_reducible assumption) | (with_reducible refine kept_alloc ?_ _) | (with_reducible refine kept_drewN ?_ _) | (with_reducible refine Below.drew ?_) | (with_reducible refine Below.setCell ?_ (by first | omega | (simp; omega) | (simp; done)) _) | (refine kept_trans ?_ (by with_reducible assumption)))))).mono ?_
          rintro e w4 ⟨rfl, hg4⟩
          have hBr := HBr.out
          go_wp2
          all_goals (go_ret; exact ⟨rfl, by repeat' (first | (with_reducible exact Below.refl _ _) | (with_reducible assumption) | (with_reducible refine kept_alloc ?_ _) | (with_reducible refine kept_drewN ?_ _) | (with_reducible refine Below.drew ?_) | (with_reducible refine Below.setCell ?_ (by first | omega | (simp; omega) | (simp; done)) _) | (refine kept_trans ?_ (by with_reducible assumption)))⟩)
  · have hlen' : (100 : Int) < (l.length : Int) := (by omega); clear hlen; go_enter Try.func6, Try.ntmps6; go_wp2_with fail; refine (evawake_any _).mono ?_; rintro e w1 ⟨rfl, hg1⟩; have hcs : CellsAt w1 [(w.heap.size, 0, .int .i64 le), (w.heap.size, 1, .slice lp l.length lk)] := cells_keep hg1 (by (simp only [CellsAt]; (repeat' (first | exact trivial | (refine And.intro ?_ ?_))); all_goals (first | (focus ((try simp only [World.size_setCell, World.size_alloc]); omega)) | (repeat (first | rfl | assumption | (refine (World.cell?_alloc_past _ _ _ ?_).trans ?_; focus ((try simp only [World.size_setCell, World.size_alloc]); omega)) | (refine (World.cell?_alloc_at _ _ _ _ ?_).trans ?_; focus ((try simp only [World.size_setCell, World.size_alloc]); done)) | (refine (World.cell?_setCell_other _ _ _ _ ?_).trans ?_; focus (simp; done)) | (refine (World.cell?_setCell_other _ _ _ _ ?_).trans ?_; focus (simp; omega)) | (refine World.cell?_setCell_same' _ _ _ ?_; focus (simp; done))))))); have hq0 := hcs.1.2; have hq1 := hcs.2.1.2; have hz0 := hcs.1.1; go_wp2; all_goals (go_ret; exact ⟨rfl, by repeat' (first | (with_reducible exact Below.refl _ _) | (with_reducible assumption) | (with_reducible refine kept_alloc ?_ _) | (with_reducible refine kept_drewN ?_ _) | (with_reducible refine Below.drew ?_) | (with_reducible refine Below.setCell ?_ (by first | omega | (simp; omega) | (simp; done)) _) | (refine kept_trans ?_ (by with_reducible assumption)))⟩)
set_option maxRecDepth 100000 in
theorem eventWaits_lifted (os : Os) (started : os.Started) (H : Type) (enc : TypeId × Value → H) :
    ReturnsInHanded {} Try.checked os 6 .any (Rows.eventWaitsSpec.pre6 enc Try.prog Try.f6 Rows.eventWaitsRow.domain false) (Rows.eventWaitsSpec.post enc Try.prog Try.f6 false true false false) := by
  refine returnsInHanded_of_change (C := Try.checked) own started (by kernel_rfl) Try.func6
    (ChangeSpec.witness6 (enc := enc) (C := Try.checked) false ⟨#[], #[.agg #[.int .i64 0, .slice none 0 0], .int .i64 0], []⟩ 8 (by kernel_rfl) (by kernel_rfl) (by kernel_rfl) (by kernel_rfl)) ?_
  intro W base args ds gs before hval0 hW hcnd _
  have hval : ∀ (j : Nat) t v, Try.f6.params[j]? = some t → args[j]? = some v → Value.okWide Try.prog W .any base t v := hval0
  have hW' := hW
  obtain ⟨p, q, hA0, hV, rfl, hfz, hnd⟩ := hW
  have hA : DataW.TrodAll enc Try.prog W 0 (fun _ => true) true Try.f6.params.toList args.toList ds p := hA0
  rw [Try.params6] at hA hval
  obtain ⟨v0, vs0, d0, ds0, p0, q0, hargs, rfl, rfl, h0, r0⟩ := trodAll_cons hA
  obtain ⟨v1, vs1, d1, ds1, p1, q1, rfl, rfl, rfl, h1, r1⟩ := trodAll_cons r0
  obtain ⟨rfl, rfl, rfl⟩ := trodAll_nil r1
  obtain rfl : args = #[v0, v1] := by cases args; simp_all
  obtain ⟨rfl, rfl⟩ := trodVars_none hV
  obtain ⟨lcs, rfl, lrd⟩ := open_struct (g := 9) (l := evShape) Try.underlying24 (by kernel_rfl) (hval 0 24 v0 rfl rfl) h0
  obtain ⟨le, l, lp, lk, hcs0, lsl, lok, lml⟩ := ev_of_read lrd
  subst hcs0
  obtain ⟨id, rfl, rfl, rfl, wf1⟩ := open_int Try.underlying3 (hval 1 3 v1 rfl rfl) h1
  clear hA0 hval0
  refine (eventWaits_walk le l lp lk lok lml id (in64_of_wf wf1) W lsl).mono fun e W' ⟨he, hg⟩ => ?_
  subst he
  exact ⟨_, rfl, law_post laid hW' rfl (by kernel_rfl) rfl Try.underlying4 rfl hg⟩

/-- The statement, whole. -/
theorem eventWaits_holds : Rows.EventWaitsSaid :=
  OpenClaim.holds_of_wide 6 Try.f6 rfl rfl rfl rfl rfl rfl rfl ⟨rfl, rfl, rfl, rfl, rfl⟩ rfl rfl rfl rfl rfl (by kernel_rfl) Try.func6 (by kernel_rfl)
    (of_decide_eq_true (by kernel_rfl)) (by unfold Func.isWrapper; rw [if_neg (of_decide_eq_false (by kernel_rfl))]; exact ⟨rfl, rfl⟩)
    (fun os started H enc _ => eventWaits_lifted os started H enc)
end Go.Proofs.Ytlgldniepcjfoaa
