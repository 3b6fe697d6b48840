/- EventOne holds for every input: no conditions. -/
import Derived.Test.YtlgldniepcjfoaaEventN
import Derived.LoopTactic
import Derived.IntWalk
namespace Go.Proofs.Ytlgldniepcjfoaa
set_option linter.unusedVariables false
set_option linter.unusedSimpArgs false
open Go.ChangeShapes Go.WideShapes Go.ChangeAt Go.RowKit

set_option maxRecDepth 100000 in
set_option maxHeartbeats 3000000 in
theorem eventOne_walk (le : Int) (l : List Int) (lp : Option Addr) (lk : Nat) (hle : In64 le) (hlm : l.length ≤ maxLen) (w : World) (hls : Sl w 1 intC l (.slice lp l.length lk)) :
    Calls Try.prog 4 #[.agg #[.int .i64 le, .slice lp l.length lk]] w fun e w' => e = .returned (.bool true) ∧ Kept w w' := by
  have H : Hid (Sl w 1 intC l (.slice lp l.length lk)) := Lib.hid hls
  clear hls hlm hle
  by_cases hlen : l.length ≤ 100
  · cases hok : okE le l
    · have HO := Lib.hid hok
      clear hok
      go_enter Try.func4, Try.ntmps4; go_wp2_with fail; refine (evawake_any _).mono ?_; rintro e w1 ⟨rfl, hg1⟩; have hcs : CellsAt w1 [(w.heap.size, 0, .int .i64 le), (w.heap.size, 1, .slice lp l.length lk)] := cells_keep hg1 (by (simp only [CellsAt]; (repeat' (first | exact trivial | (refine And.intro ?_ ?_))); all_goals (first | (focus ((try simp only [World.size_setCell, World.size_alloc]); omega)) | (repeat (first | rfl | assumption | (refine (World.cell?_alloc_past _ _ _ ?_).trans ?_; focus ((try simp only [World.size_setCell, World.size_alloc]); omega)) | (refine (World.cell?_alloc_at _ _ _ _ ?_).trans ?_; focus ((try simp only [World.size_setCell, World.size_alloc]); done)) | (refine (World.cell?_setCell_other _ _ _ _ ?_).trans ?_; focus (simp; done)) | (refine (World.cell?_setCell_other _ _ _ _ ?_).trans ?_; focus (simp; omega)) | (refine World.cell?_setCell_same' _ _ _ ?_; focus (simp; done))))))); have hq0 := hcs.1.2; have hq1 := hcs.2.1.2; have hz0 := hcs.1.1
      go_wp2_with fail; refine (echeck_val HO.out lp lk _ (H.out.kept (by repeat' (first | (with_reducible exact Below.refl _ _) | (with_reducible assumption) | (with_reducible refine kept_alloc ?_ _) | (with_reducible refine kept_drewN ?_ _) | (with_reducible refine Below.drew ?_) | (with_reducible refine Below.setCell ?_ (by first | omega | (simp; omega) | (simp; done)) _) | (refine kept_trans ?_ (by with_reducible assumption)))))).mono ?_; rintro e w2 ⟨rfl, hg2⟩; have hcs : CellsAt w2 [(w.heap.size, 0, .int .i64 le), (w.heap.size, 1, .slice lp l.length lk)] := cells_keep hg2 (by (simp only [CellsAt]; (repeat' (first | exact trivial | (refine And.intro ?_ ?_))); all_goals (first | (focus ((try simp only [World.size_setCell, World.size_alloc]); omega)) | (repeat (first | rfl | assumption | (refine (World.cell?_alloc_past _ _ _ ?_).trans ?_; focus ((try simp only [World.size_setCell, World.size_alloc]); omega)) | (refine (World.cell?_alloc_at _ _ _ _ ?_).trans ?_; focus ((try simp only [World.size_setCell, World.size_alloc]); done)) | (refine (World.cell?_setCell_other _ _ _ _ ?_).trans ?_; focus (simp; done)) | (refine (World.cell?_setCell_other _ _ _ _ ?_).trans ?_; focus (simp; omega)) | (refine World.cell?_setCell_same' _ _ _ ?_; focus (simp; done))))))); clear hq0 hq1 hz0; have hq0 := hcs.1.2; have hq1 := hcs.2.1.2; have hz0 := hcs.1.1
      go_wp2
      all_goals (go_ret; exact ⟨rfl, by repeat' (first | (with_reducible exact Below.refl _ _) | (with_reducible assumption) | (with_reducible refine kept_alloc ?_ _) | (with_reducible refine kept_drewN ?_ _) | (with_reducible refine Below.drew ?_) | (with_reducible refine Below.setCell ?_ (by first | omega | (simp; omega) | (simp; done)) _) | (refine kept_trans ?_ (by with_reducible assumption)))⟩)
    · have HO := Lib.hid hok
      obtain ⟨-, -, t3⟩ := ntE_ok hok l.length
      rw [List.take_length] at t3
      have HT := Lib.hid t3
      clear hok t3
      go_enter Try.func4, Try.ntmps4; go_wp2_with fail; refine (evawake_any _).mono ?_; rintro e w1 ⟨rfl, hg1⟩; have hcs : CellsAt w1 [(w.heap.size, 0, .int .i64 le), (w.heap.size, 1, .slice lp l.length lk)] := cells_keep hg1 (by (simp only [CellsAt]; (repeat' (first | exact trivial | (refine And.intro ?_ ?_))); all_goals (first | (focus ((try simp only [World.size_setCell, World.size_alloc]); omega)) | (repeat (first | rfl | assumption | (refine (World.cell?_alloc_past _ _ _ ?_).trans ?_; focus ((try simp only [World.size_setCell, World.size_alloc]); omega)) | (refine (World.cell?_alloc_at _ _ _ _ ?_).trans ?_; focus ((try simp only [World.size_setCell, World.size_alloc]); done)) | (refine (World.cell?_setCell_other _ _ _ _ ?_).trans ?_; focus (simp; done)) | (refine (World.cell?_setCell_other _ _ _ _ ?_).trans ?_; focus (simp; omega)) | (refine World.cell?_setCell_same' _ _ _ ?_; focus (simp; done))))))); have hq0 := hcs.1.2; have hq1 := hcs.2.1.2; have hz0 := hcs.1.1
      go_wp2_with fail; refine (echeck_val HO.out lp lk _ (H.out.kept (by repeat' (first | (with_reducible exact Below.refl _ _) | (with_reducible assumption) | (with_reducible refine kept_alloc ?_ _) | (with_reducible refine kept_drewN ?_ _) | (with_reducible refine Below.drew ?_) | (with_reducible refine Below.setCell ?_ (by first | omega | (simp; omega) | (simp; done)) _) | (refine kept_trans ?_ (by with_reducible assumption)))))).mono ?_; rintro e w2 ⟨rfl, hg2⟩; have hcs : CellsAt w2 [(w.heap.size, 0, .int .i64 le), (w.heap.size, 1, .slice lp l.length lk)] := cells_keep hg2 (by (simp only [CellsAt]; (repeat' (first | exact trivial | (refine And.intro ?_ ?_))); all_goals (first | (focus ((try simp only [World.size_setCell, World.size_alloc]); omega)) | (repeat (first | rfl | assumption | (refine (World.cell?_alloc_past _ _ _ ?_).trans ?_; focus ((try simp only [World.size_setCell, World.size_alloc]); omega)) | (refine (World.cell?_alloc_at _ _ _ _ ?_).trans ?_; focus ((try simp only [World.size_setCell, World.size_alloc]); done)) | (refine (World.cell?_setCell_other _ _ _ _ ?_).trans ?_; focus (simp; done)) | (refine (World.cell?_setCell_other _ _ _ _ ?_).trans ?_; focus (simp; omega)) | (refine World.cell?_setCell_same' _ _ _ ?_; focus (simp; done))))))); clear hq0 hq1 hz0; have hq0 := hcs.1.2; have hq1 := hcs.2.1.2; have hz0 := hcs.1.1
      go_wp2_with fail
      refine (enotall_val rfl rfl HT.out lp lk _ (H.out.kept (by repeat' (first | (with_reducible exact Below.refl _ _) | (with_reducible assumption) | (with_reducible refine kept_alloc ?_ _) | (with_reducible refine kept_drewN ?_ _) | (with_reducible refine Below.drew ?_) | (with_reducible refine Below.setCell ?_ (by first | omega | (simp; omega) | (simp; done)) _) | (refine kept_trans ?_ (by with_reducible assumption))))) (by omega)).mono ?_
      rintro e w3 ⟨p3, q3, k3, k3', rfl, -, tO3, hg3⟩
      have hcs : CellsAt w3 [(w.heap.size, 0, .int .i64 le), (w.heap.size, 1, .slice lp l.length lk)] := cells_keep hg3 (by (simp only [CellsAt]; (repeat' (first | exact trivial | (refine And.intro ?_ ?_))); all_goals (first | (focus ((try simp only [World.size_setCell, World.size_alloc]); omega)) | (repeat (first | rfl | assumption | (refine (World.cell?_alloc_past _ _ _ ?_).trans ?_; focus ((try simp only [World.size_setCell, World.size_alloc]); omega)) | (refine (World.cell?_alloc_at _ _ _ _ ?_).trans ?_; focus ((try simp only [World.size_setCell, World.size_alloc]); done)) | (refine (World.cell?_setCell_other _ _ _ _ ?_).trans ?_; focus (simp; done)) | (refine (World.cell?_setCell_other _ _ _ _ ?_).trans ?_; focus (simp; omega)) | (refine World.cell?_setCell_same' _ _ _ ?_; focus (simp; done)))))))
      have HL3 := Lib.hid (H.out.kept (W' := w3) (by repeat' (first | (with_reducible exact Below.refl _ _) | (with_reducible assumption) | (with_reducible refine kept_alloc ?_ _) | (with_reducible refine kept_drewN ?_ _) | (with_reducible refine Below.drew ?_) | (with_reducible refine Below.setCell ?_ (by first | omega | (simp; omega) | (simp; done)) _) | (refine kept_trans ?_ (by with_reducible assumption)))))
      have HT3 := Lib.hid (Ow.sl intEnc tO3)
      have hB3 : Below w.heap.size w w3 := by repeat' (first | (with_reducible exact Below.refl _ _) | (with_reducible assumption) | (with_reducible refine kept_alloc ?_ _) | (with_reducible refine kept_drewN ?_ _) | (with_reducible refine Below.drew ?_) | (with_reducible refine Below.setCell ?_ (by first | omega | (simp; omega) | (simp; done)) _) | (refine kept_trans ?_ (by with_reducible assumption)))
      clear hq0 hq1 hz0 hg1 hg2 hg3 tO3
      have hq0 := hcs.1.2; have hq1 := hcs.2.1.2; have hz0 := hcs.1.1
      go_wp2
      obtain ⟨V4, hV4⟩ : ∃ V, w3.alloc (.cells #[.int .i64 (ntE le l), .slice p3 (ntL l.length le l).length k3] 24) = V := ⟨_, rfl⟩
      have hs4 : V4.heap.size = w3.heap.size + 1 := by rw [← hV4]; simp
      have hk4 : Kept w3 V4 := by rw [← hV4]; repeat' (first | (with_reducible exact Below.refl _ _) | (with_reducible assumption) | (with_reducible refine kept_alloc ?_ _) | (with_reducible refine kept_drewN ?_ _) | (with_reducible refine Below.drew ?_) | (with_reducible refine Below.setCell ?_ (by first | omega | (simp; omega) | (simp; done)) _) | (refine kept_trans ?_ (by with_reducible assumption)))
      rw [hV4, ← hs4]
      clear hV4
      have hcs : CellsAt V4 [(w.heap.size, 0, .int .i64 le), (w.heap.size, 1, .slice lp l.length lk)] := cells_keep hk4 hcs
      have HL4 := Lib.hid (HL3.out.kept hk4)
      have HT4 := Lib.hid (HT3.out.kept hk4)
      have hB4 : Below w.heap.size w V4 := kept_trans hB3 hk4
      clear hq0 hq1 hz0 hs4 hk4 hB3 HL3 HT3
      have hq0 := hcs.1.2; have hq1 := hcs.2.1.2; have hz0 := hcs.1.1
      obtain ⟨V, hV⟩ : ∃ V, V4.alloc (.cells #[.int .i64 le, .slice lp l.length lk] 24) = V := ⟨_, rfl⟩
      have hL : Lp w le l lp lk V4.heap.size (l.drop 0) le lp lk V := by
        refine ⟨by rw [← hV]; (simp only [CellsAt]; (repeat' (first | exact trivial | (refine And.intro ?_ ?_))); all_goals (first | (focus ((try simp only [World.size_setCell, World.size_alloc]); omega)) | (repeat (first | rfl | assumption | (refine (World.cell?_alloc_past _ _ _ ?_).trans ?_; focus ((try simp only [World.size_setCell, World.size_alloc]); omega)) | (refine (World.cell?_alloc_at _ _ _ _ ?_).trans ?_; focus ((try simp only [World.size_setCell, World.size_alloc]); done)) | (refine (World.cell?_setCell_other _ _ _ _ ?_).trans ?_; focus (simp; done)) | (refine (World.cell?_setCell_other _ _ _ _ ?_).trans ?_; focus (simp; omega)) | (refine World.cell?_setCell_same' _ _ _ ?_; focus (simp; done)))))), fun i => by rw [← hV]; exact World.frozen?_alloc_at _ _ _ _ (by simp), by rw [← hV]; exact HL4.out.kept (by repeat' (first | (with_reducible exact Below.refl _ _) | (with_reducible assumption) | (with_reducible refine kept_alloc ?_ _) | (with_reducible refine kept_drewN ?_ _) | (with_reducible refine Below.drew ?_) | (with_reducible refine Below.setCell ?_ (by first | omega | (simp; omega) | (simp; done)) _) | (refine kept_trans ?_ (by with_reducible assumption)))), HO.out, by rw [← hV]; repeat' (first | (with_reducible exact Below.refl _ _) | (with_reducible assumption) | (with_reducible refine kept_alloc ?_ _) | (with_reducible refine kept_drewN ?_ _) | (with_reducible refine Below.drew ?_) | (with_reducible refine Below.setCell ?_ (by first | omega | (simp; omega) | (simp; done)) _) | (refine kept_trans ?_ (by with_reducible assumption))), hz0⟩
      have hk : Kept V4 V := by rw [← hV]; repeat' (first | (with_reducible exact Below.refl _ _) | (with_reducible assumption) | (with_reducible refine kept_alloc ?_ _) | (with_reducible refine kept_drewN ?_ _) | (with_reducible refine Below.drew ?_) | (with_reducible refine Below.setCell ?_ (by first | omega | (simp; omega) | (simp; done)) _) | (refine kept_trans ?_ (by with_reducible assumption)))
      rw [hV]
      clear hV hcs hq0 hq1 hz0 hB4
      obtain ⟨xb, hxb⟩ : ∃ xb, V4.heap.size = xb := ⟨_, rfl⟩
      have HXB := Lib.hid hxb
      have hk' : Below xb V4 V := hxb ▸ hk
      rw [hxb] at hL ⊢
      have HV := Lib.hid (And.intro hL hk')
      clear hL hk hk' hxb
      have i0 : (0 : Int) ≤ (l.length : Int) := by omega
      go_loopw [7, 8, 9, 10, 11] (fun s7 s8 _ _ _ wr => ∃ (j : Nat) (R : List Int) (E : Int) (px pt : Option Addr) (kx kt : Nat), s8 = .int .i64 j ∧ s7 = .slice pt j kt ∧ j ≤ l.length ∧ Hid (R = l.drop j) ∧ Hid (Lp w le l lp lk xb R E px kx wr) ∧ Hid (Ow wr (xb + 1) 3 1 intC (l.take j) (.slice pt j kt)) ∧ Hid (Below xb V4 wr)) (fun _ s8 _ _ _ _ => l.length - (intOf s8).toNat)
      case atStart => exact ⟨0, l.drop 0, le, lp, none, lk, 0, rfl, rfl, by omega, Lib.hid rfl, Lib.hid HV.out.1, Lib.hid owi_nil, Lib.hid HV.out.2⟩
      case round =>
        clear HV
        obtain ⟨j, R, E, px, pt, kx, kt, rfl, rfl, hj, HRD, HR, HTD, HBL⟩ := hrel
        have hcs : CellsAt wr [(w.heap.size, 0, .int .i64 le), (w.heap.size, 1, .slice lp l.length lk), (xb, 0, .int .i64 E), (xb, 1, .slice px R.length kx)] := HR.out.cells
        have hq0 := hcs.1.2; have hq1 := hcs.2.1.2; have hq2 := hcs.2.2.1.2; have hq3 := hcs.2.2.2.1.2; have hz0 := hcs.1.1; have hz1 := hcs.2.2.1.1
        have hfr := HR.out.froz
        have hNt := note_round (j := j) (E := E) (l := l) (HRD.out ▸ HR.out.ok)
        rw [← HRD.out] at hNt
        obtain ⟨R', hR'⟩ : ∃ R', l.drop (j + 1) = R' := ⟨_, rfl⟩
        rw [hR'] at hNt
        obtain ⟨n1, n2, n3, n4, n5⟩ := hNt
        have hRl : R.length ≤ 100 := by rw [HRD.out]; simp; omega
        have hEb := (okE_iff.1 HR.out.ok).1
        have HE := Lib.hid (And.intro n1 (And.intro n2 (And.intro n3 hR')))
        clear n1 n2 n3 hR'
        by_cases hlt : j < l.length
        · have i1 : (j : Int) < (l.length : Int) := by omega
          have i2 : IntKind.i64.wrap (E + 1) = E + 1 := IntWalk.i64_in _ (by omega)
          obtain ⟨y, hy⟩ : ∃ y, l[j] = y := ⟨_, rfl⟩
          obtain ⟨m1, m2⟩ := n4 hlt
          rw [hy] at m1
          have HY := Lib.hid (And.intro m1 (And.intro m2 hy))
          obtain ⟨E', hE'⟩ : ∃ E', nxE E = E' := ⟨_, rfl⟩
          have i3 : (E' != min (E + 1) 1099511627776) = false := by rw [← hE', nxE_min]; simp
          rw [hE'] at HE
          clear n4 n5 hy m1 m2 hEb hE'
          go_wp2_with fail
          refine (enotify_val HE.out.1 HE.out.2.1 HY.out.1 HY.out.2.1 px kx _ (HR.out.line.kept (by repeat' (first | (with_reducible exact Below.refl _ _) | (with_reducible assumption) | (with_reducible refine kept_alloc ?_ _) | (with_reducible refine kept_drewN ?_ _) | (with_reducible refine Below.drew ?_) | (with_reducible refine Below.setCell ?_ (by first | omega | (simp; omega) | (simp; done)) _) | (refine kept_trans ?_ (by with_reducible assumption))))) (by omega)).mono ?_
          rintro e w4 ⟨p4, k4, rfl, sO4, hg4⟩
          have HO4 := Lib.hid sO4
          have hxw : xb < wr.heap.size := hz1
          have hcs : CellsAt w4 [(w.heap.size, 0, .int .i64 le), (w.heap.size, 1, .slice lp l.length lk), (xb, 0, .int .i64 E), (xb, 1, .slice px R.length kx)] := cells_keep hg4 hcs
          have hfr4 : ∀ i, w4.frozen? ⟨xb, i, none⟩ = false := (HR.out.kept hg4).froz
          have hT4 := HTD.out.kept hg4
          have HG4 := Lib.hid hg4
          have HT4' := Lib.hid hT4
          clear hq0 hq1 hq2 hq3 hz0 hz1 sO4 hfr hT4 hg4
          have hq0 := hcs.1.2; have hq1 := hcs.2.1.2; have hq2 := hcs.2.2.1.2; have hq3 := hcs.2.2.2.1.2; have hz0 := hcs.1.1; have hz1 := hcs.2.2.1.1
          have hbs : xb + 1 ≤ ((w4.alloc (.cells #[.int .i64 E', .slice p4 R'.length k4] 24)).alloc (.cells #[.int .i64 y] 3)).heap.size := by simp; omega
          have HBS := Lib.hid hbs
          clear hbs
          go_wp2_with (at_builtin; refine wpList_app (base := xb + 1) rfl _ _ 22 rfl (.int .i64 0) 8 Try.underlying22 int_info rfl (by decide) intEnc rfl rfl (xs := l.take j) (ys := [y]) (HT4'.out.kept (((Below.refl _ _).alloc (Nat.le_refl _) _).alloc (by simp) _)) (sli_one (w4.alloc (.cells #[.int .i64 E', .slice p4 R'.length k4] 24)) y (by simp)) (by simp only [List.length_take, List.length_cons, List.length_nil]; unfold maxLen; omega) (by simp only [List.length_take, List.length_cons, List.length_nil]; omega) HBS.out ?_; intro v6 w6 h6 hgr6; obtain ⟨a1, a2, ⟨a3, a4, a5⟩, a6⟩ := HR.out.app HG4.out HTD.out HO4.out hgr6; have HA := Lib.hid (And.intro a1 (And.intro a2 (And.intro a6 h6))); have hcs : CellsAt w6 [(w.heap.size, 0, .int .i64 le), (w.heap.size, 1, .slice lp l.length lk), (xb, 0, .int .i64 E), (xb, 1, .slice px R.length kx)] := a1.cells; have hfr6 := a1.froz; clear hq0 hq1 hq2 hq3 hz0 hz1 h6 hgr6 a1 a2 a6; have hq0 := hcs.1.2; have hq1 := hcs.2.1.2; have hq2 := hcs.2.2.1.2; have hq3 := hcs.2.2.2.1.2; have hz0 := hcs.1.1; have hz1 := hcs.2.2.1.1)
          have hlv : ∃ p6 k6, v6 = .slice p6 (j + 1) k6 ∧ Ow w6 (xb + 1) 3 1 intC (l.take (j + 1)) (.slice p6 (j + 1) k6) := by
            have h6 := HA.out.2.2.2
            have hyy := HY.out.2.2
            rw [← hyy, ← List.take_succ_eq_append_getElem hlt] at h6
            have hl1 : (l.take (j + 1)).length = j + 1 := by simp; omega
            obtain ⟨p6, k6, rfl, -⟩ := (Ow.sl intEnc h6).is
            rw [hl1] at h6 ⊢
            exact ⟨p6, k6, rfl, h6⟩
          obtain ⟨p6, k6, rfl, hO6⟩ := hlv
          exact ⟨⟨j + 1, R', E', p4, p6, k4, k6, by go_num, rfl, by omega, Lib.hid HE.out.2.2.2.symm, Lib.hid (HA.out.1.put hxw HA.out.2.1 HE.out.2.2.1), Lib.hid ((hO6.setCell (p := ⟨xb, 0, none⟩) (Nat.lt_succ_self _) _).setCell (p := ⟨xb, 1, none⟩) (Nat.lt_succ_self _) _),
            Lib.hid (((HBL.out.trans (HA.out.2.2.1.mono (Nat.le_succ _))).setCell (p := ⟨xb, 0, none⟩) (Nat.le_refl _) _).setCell (p := ⟨xb, 1, none⟩) (Nat.le_refl _) _)⟩, by simp [intOf]; omega⟩
        · have : j = l.length := by omega
          subst this
          have hR : R = [] := by rw [HRD.out]; simp
          subst hR
          obtain ⟨m1, m2⟩ := n5 hlt
          have HY := Lib.hid (And.intro m1 m2)
          have i1 : ¬ ((l.length : Int) < (l.length : Int)) := by omega
          have HBr := Lib.hid HR.out.below
          have HTD' : Hid (Ow wr (xb + 1) 3 1 intC l (.slice pt l.length kt)) := by have h := HTD.out; rw [List.take_length] at h; exact Lib.hid h
          have hKw : Kept V4 wr := by have h := HBL.out; rw [← HXB.out] at h; exact h
          have HTw := Lib.hid (HT4.out.kept hKw)
          have HLw := Lib.hid (HL4.out.kept hKw)
          clear n4 n5 m1 m2 hEb HTD hKw
          go_wp2_with fail
          refine (enotify_val rfl rfl HY.out.1 HY.out.2 px kx _ (HR.out.line.kept (by repeat' (first | (with_reducible exact Below.refl _ _) | (with_reducible assumption) | (with_reducible refine kept_alloc ?_ _) | (with_reducible refine kept_drewN ?_ _) | (with_reducible refine Below.drew ?_) | (with_reducible refine Below.setCell ?_ (by first | omega | (simp; omega) | (simp; done)) _) | (refine kept_trans ?_ (by with_reducible assumption))))) (by omega)).mono ?_
          rintro e w4 ⟨p4, k4, rfl, -, hg4⟩
          have hcs : CellsAt w4 [(w.heap.size, 0, .int .i64 le), (w.heap.size, 1, .slice lp l.length lk)] := cells_keep hg4 ⟨hcs.1, hcs.2.1, trivial⟩
          clear hq0 hq1 hq2 hq3 hz0 hz1
          have hq0 := hcs.1.2; have hq1 := hcs.2.1.2; have hz0 := hcs.1.1
          go_wp2_with fail
          refine (rints_any l l q3 pt k3' kt _ (HTw.out.kept (by repeat' (first | (with_reducible exact Below.refl _ _) | (with_reducible assumption) | (with_reducible refine kept_alloc ?_ _) | (with_reducible refine kept_drewN ?_ _) | (with_reducible refine Below.drew ?_) | (with_reducible refine Below.setCell ?_ (by first | omega | (simp; omega) | (simp; done)) _) | (refine kept_trans ?_ (by with_reducible assumption))))) ((Ow.sl intEnc HTD'.out).kept (by repeat' (first | (with_reducible exact Below.refl _ _) | (with_reducible assumption) | (with_reducible refine kept_alloc ?_ _) | (with_reducible refine kept_drewN ?_ _) | (with_reducible refine Below.drew ?_) | (with_reducible refine Below.setCell ?_ (by first | omega | (simp; omega) | (simp; done)) _) | (refine kept_trans ?_ (by with_reducible assumption))))) (by omega)).mono ?_
          rintro e w5 ⟨rfl, hg5⟩
          rw [show decide (l = l) = true by simp]
          have hcs : CellsAt w5 [(w.heap.size, 0, .int .i64 le), (w.heap.size, 1, .slice lp l.length lk)] := cells_keep hg5 (by (simp only [CellsAt]; (repeat' (first | exact trivial | (refine And.intro ?_ ?_))); all_goals (first | (focus ((try simp only [World.size_setCell, World.size_alloc]); omega)) | (repeat (first | rfl | assumption | (refine (World.cell?_alloc_past _ _ _ ?_).trans ?_; focus ((try simp only [World.size_setCell, World.size_alloc]); omega)) | (refine (World.cell?_alloc_at _ _ _ _ ?_).trans ?_; focus ((try simp only [World.size_setCell, World.size_alloc]); done)) | (refine (World.cell?_setCell_other _ _ _ _ ?_).trans ?_; focus (simp; done)) | (refine (World.cell?_setCell_other _ _ _ _ ?_).trans ?_; focus (simp; omega)) | (refine World.cell?_setCell_same' _ _ _ ?_; focus (simp; done)))))))
          clear hq0 hq1 hz0
          have hq0 := hcs.1.2; have hq1 := hcs.2.1.2; have hz0 := hcs.1.1
          go_wp2_with fail
          refine (rints_any l l pt lp kt lk _ ((Ow.sl intEnc HTD'.out).kept (by repeat' (first | (with_reducible exact Below.refl _ _) | (with_reducible assumption) | (with_reducible refine kept_alloc ?_ _) | (with_reducible refine kept_drewN ?_ _) | (with_reducible refine Below.drew ?_) | (with_reducible refine Below.setCell ?_ (by first | omega | (simp; omega) | (simp; done)) _) | (refine kept_trans ?_ (by with_reducible assumption))))) (HLw.out.kept (by repeat' (first | (with_reducible exact Below.refl _ _) | (with_reducible assumption) | (with_reducible refine kept_alloc ?_ _) | (with_reducible refine kept_drewN ?_ _) | (with_reducible refine Below.drew ?_) | (with_reducible refine Below.setCell ?_ (by first | omega | (simp; omega) | (simp; done)) _) | (refine kept_trans ?_ (by with_reducible assumption))))) (by omega)).mono ?_
          rintro e w6 ⟨rfl, hg6⟩
          rw [show decide (l = l) = true by simp]
          have hBr := HBr.out
          go_wp2
          all_goals (go_ret; exact ⟨rfl, by repeat' (first | (with_reducible exact Below.refl _ _) | (with_reducible assumption) | (with_reducible refine kept_alloc ?_ _) | (with_reducible refine kept_drewN ?_ _) | (with_reducible refine Below.drew ?_) | (with_reducible refine Below.setCell ?_ (by first | omega | (simp; omega) | (simp; done)) _) | (refine kept_trans ?_ (by with_reducible assumption)))⟩)
  · have hlen' : (100 : Int) < (l.length : Int) := (by omega); clear hlen; go_enter Try.func4, Try.ntmps4; go_wp2_with fail; refine (evawake_any _).mono ?_; rintro e w1 ⟨rfl, hg1⟩; have hcs : CellsAt w1 [(w.heap.size, 0, .int .i64 le), (w.heap.size, 1, .slice lp l.length lk)] := cells_keep hg1 (by (simp only [CellsAt]; (repeat' (first | exact trivial | (refine And.intro ?_ ?_))); all_goals (first | (focus ((try simp only [World.size_setCell, World.size_alloc]); omega)) | (repeat (first | rfl | assumption | (refine (World.cell?_alloc_past _ _ _ ?_).trans ?_; focus ((try simp only [World.size_setCell, World.size_alloc]); omega)) | (refine (World.cell?_alloc_at _ _ _ _ ?_).trans ?_; focus ((try simp only [World.size_setCell, World.size_alloc]); done)) | (refine (World.cell?_setCell_other _ _ _ _ ?_).trans ?_; focus (simp; done)) | (refine (World.cell?_setCell_other _ _ _ _ ?_).trans ?_; focus (simp; omega)) | (refine World.cell?_setCell_same' _ _ _ ?_; focus (simp; done))))))); have hq0 := hcs.1.2; have hq1 := hcs.2.1.2; have hz0 := hcs.1.1; go_wp2; all_goals (go_ret; exact ⟨rfl, by repeat' (first | (with_reducible exact Below.refl _ _) | (with_reducible assumption) | (with_reducible refine kept_alloc ?_ _) | (with_reducible refine kept_drewN ?_ _) | (with_reducible refine Below.drew ?_) | (with_reducible refine Below.setCell ?_ (by first | omega | (simp; omega) | (simp; done)) _) | (refine kept_trans ?_ (by with_reducible assumption)))⟩)
set_option maxRecDepth 100000 in
theorem eventOne_lifted (os : Os) (started : os.Started) (H : Type) (enc : TypeId × Value → H) :
    ReturnsInHanded {} Try.checked os 4 .any (Rows.eventOneSpec.pre6 enc Try.prog Try.f4 Rows.eventOneRow.domain false) (Rows.eventOneSpec.post enc Try.prog Try.f4 false true false false) := by
  refine returnsInHanded_of_change (C := Try.checked) own started (by kernel_rfl) Try.func4
    (ChangeSpec.witness6 (enc := enc) (C := Try.checked) false ⟨#[], #[.agg #[.int .i64 0, .slice none 0 0]], []⟩ 8 (by kernel_rfl) (by kernel_rfl) (by kernel_rfl) (by kernel_rfl)) ?_
  intro W base args ds gs before hval0 hW hcnd _
  have hval : ∀ (j : Nat) t v, Try.f4.params[j]? = some t → args[j]? = some v → Value.okWide Try.prog W .any base t v := hval0
  have hW' := hW
  obtain ⟨p, q, hA0, hV, rfl, hfz, hnd⟩ := hW
  have hA : DataW.TrodAll enc Try.prog W 0 (fun _ => true) true Try.f4.params.toList args.toList ds p := hA0
  rw [Try.params4] at hA hval
  obtain ⟨v0, vs0, d0, ds0, p0, q0, hargs, rfl, rfl, h0, r0⟩ := trodAll_cons hA
  obtain ⟨rfl, rfl, rfl⟩ := trodAll_nil r0
  obtain rfl : args = #[v0] := by cases args; simp_all
  obtain ⟨rfl, rfl⟩ := trodVars_none hV
  obtain ⟨lcs, rfl, lrd⟩ := open_struct (g := 9) (l := evShape) Try.underlying24 (by kernel_rfl) (hval 0 24 v0 rfl rfl) h0
  obtain ⟨le, l, lp, lk, hcs0, lsl, lok, lml⟩ := ev_of_read lrd
  subst hcs0
  clear hA0 hval0
  refine (eventOne_walk le l lp lk lok lml W lsl).mono fun e W' ⟨he, hg⟩ => ?_
  subst he
  exact ⟨_, rfl, law_post laid hW' rfl (by kernel_rfl) rfl Try.underlying4 rfl hg⟩

/-- The statement, whole. -/
theorem eventOne_holds : Rows.EventOneSaid :=
  OpenClaim.holds_of_wide 4 Try.f4 rfl rfl rfl rfl rfl rfl rfl ⟨rfl, rfl, rfl, rfl, rfl⟩ rfl rfl rfl rfl rfl (by kernel_rfl) Try.func4 (by kernel_rfl)
    (of_decide_eq_true (by kernel_rfl)) (by unfold Func.isWrapper; rw [if_neg (of_decide_eq_false (by kernel_rfl))]; exact ⟨rfl, rfl⟩)
    (fun os started H enc _ => eventOne_lifted os started H enc)
end Go.Proofs.Ytlgldniepcjfoaa
