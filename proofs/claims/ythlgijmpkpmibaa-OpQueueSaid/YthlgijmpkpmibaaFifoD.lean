/- Contract of the program's own Do (layer 3). -/
import Derived.Test.YthlgijmpkpmibaaFifoU
import Derived.Deep.RegionHeld3
namespace Go.Proofs.Ythlgijmpkpmibaa
set_option linter.unusedVariables false
set_option linter.unusedSimpArgs false
open Go.ChangeShapes Go.WideShapes Go.ChangeAt Go.RowKit

set_option maxHeartbeats 4000000 in
theorem pdo_any (a : Qu) (e : En) (p : Option Addr) (k : Nat) (w : World) (hl : Sl w 1 intC a.vals (.slice p a.vals.length k)) (hm : a.vals.length ≤ 1000) :
    Calls Try.prog 23 #[.agg #[.slice p a.vals.length k, .int .i64 a.cap, .int .i64 a.pol, .int .i64 a.mode], .agg #[.int .i64 e.th, .int .i64 e.ki, .int .i64 e.va, .int .i64 e.re, .int .i64 e.go]] w (RetQ w a.vals p (a.tell e)) := by
  obtain ⟨th, ki, va, re, go⟩ := e
  simp only at *
  go_enter Try.func23, Try.ntmps23
  go_wp2_with ((go_at_call 25; refine (plaid_any a p k _ (hl.kept (by repeat' (first | (with_reducible exact Below.refl _ _) | (with_reducible assumption) | (with_reducible refine kept_alloc ?_ _) | (with_reducible refine kept_drewN ?_ _) | (with_reducible refine Below.drew ?_) | (with_reducible refine Below.setCell ?_ (by first | omega | (simp; omega) | (simp; done)) _) | (refine kept_trans ?_ (by with_reducible assumption))))) hm).mono ?_; rintro e wx hT; obtain ⟨g, rfl, hg, hO, hgx⟩ := hT; obtain ⟨hcx, hfx⟩ := bcell hgx; have hz0 : w.heap.size + 1 + 1 < wx.heap.size := (by have := (hO.lt _ rfl).2; simp at hg this; omega)))
  obtain ⟨V0, hV0⟩ : ∃ V0, ((w.alloc (.cells #[.slice p a.vals.length k, .int .i64 a.cap, .int .i64 a.pol, .int .i64 a.mode] 33)).alloc (.cells #[.int .i64 th, .int .i64 ki, .int .i64 va, .int .i64 re, .int .i64 go] 35)).alloc (.cells #[.slice none 0 0, .int .i64 0, .int .i64 0, .int .i64 0] 33) = V0 := ⟨_, rfl⟩
  have hs0 : V0.heap.size = w.heap.size + 3 := by rw [← hV0]; simp
  have hcs0 : CellsAt V0 [(w.heap.size + 1, 0, .int .i64 th), (w.heap.size + 1, 1, .int .i64 ki), (w.heap.size + 1, 2, .int .i64 va), (w.heap.size + 1, 3, .int .i64 re), (w.heap.size + 1, 4, .int .i64 go), (w.heap.size + 1 + 1, 0, .slice none 0 0), (w.heap.size + 1 + 1, 1, .int .i64 0), (w.heap.size + 1 + 1, 2, .int .i64 0), (w.heap.size + 1 + 1, 3, .int .i64 0)] := by rw [← hV0]; (simp only [CellsAt]; (repeat' (first | exact trivial | (refine And.intro ?_ ?_))); all_goals (first | (focus ((try simp only [World.size_setCell, World.size_alloc]); omega)) | (repeat (first | rfl | assumption | (refine (World.cell?_alloc_past _ _ _ ?_).trans ?_; focus ((try simp only [World.size_setCell, World.size_alloc]); omega)) | (refine (World.cell?_alloc_at _ _ _ _ ?_).trans ?_; focus ((try simp only [World.size_setCell, World.size_alloc]); done)) | (refine (World.cell?_setCell_other _ _ _ _ ?_).trans ?_; focus (simp; done)) | (refine (World.cell?_setCell_other _ _ _ _ ?_).trans ?_; focus (simp; omega)) | (refine World.cell?_setCell_same' _ _ _ ?_; focus (simp; done))))))
  have hfr0 : ∀ j, V0.frozen? ⟨w.heap.size + 1 + 1, j, none⟩ = false := by intro j; rw [← hV0]; exact World.frozen?_alloc_at _ _ _ _ (by simp)
  have hB0 : Below w.heap.size w V0 := by rw [← hV0]; repeat' (first | (with_reducible exact Below.refl _ _) | (with_reducible assumption) | (with_reducible refine kept_alloc ?_ _) | (with_reducible refine kept_drewN ?_ _) | (with_reducible refine Below.drew ?_) | (with_reducible refine Below.setCell ?_ (by first | omega | (simp; omega) | (simp; done)) _) | (refine kept_trans ?_ (by with_reducible assumption)))
  rw [hV0] at hg hO hgx
  clear hcx hfx hV0
  rw [hs0] at hg hO
  obtain ⟨V, hV⟩ : ∃ V, wx.alloc (.cells #[.slice (some ⟨g, 0, none⟩) a.vals.length a.vals.length, .int .i64 a.cap, .int .i64 a.pol, .int .i64 a.mode] 42) = V := ⟨_, rfl⟩
  have hgV : Below V0.heap.size V0 V := by rw [← hV]; exact hgx.alloc hgx.size _
  have hA : At V (w.heap.size + 3) wx.heap.size a (some ⟨g, 0, none⟩) a.vals.length := by
    rw [← hV]
    refine ⟨?_, obj_at rfl, hO.kept (by repeat' (first | (with_reducible exact Below.refl _ _) | (with_reducible assumption) | (with_reducible refine kept_alloc ?_ _) | (with_reducible refine kept_drewN ?_ _) | (with_reducible refine Below.drew ?_) | (with_reducible refine Below.setCell ?_ (by first | omega | (simp; omega) | (simp; done)) _) | (refine kept_trans ?_ (by with_reducible assumption)))), fun x hx => ?_⟩
    · have := hgx.size; omega
    · have := (hO.lt x hx).2; omega
  rw [hV]
  clear hV hO
  have hcs := cells_keep hgV hcs0
  have hq0 := hcs.1.2; have hq1 := hcs.2.1.2; have hq2 := hcs.2.2.1.2; have hq3 := hcs.2.2.2.1.2; have hq4 := hcs.2.2.2.2.1.2; have hq5 := hcs.2.2.2.2.2.1.2; have hq6 := hcs.2.2.2.2.2.2.1.2; have hq7 := hcs.2.2.2.2.2.2.2.1.2; have hq8 := hcs.2.2.2.2.2.2.2.2.1.2; have hz0 := hcs.1.1
  have hzr : w.heap.size + 1 + 1 < V.heap.size := by have := hgV.size; omega
  have hAh := Lib.hid hA
  have hs0h := Lib.hid hs0
  have hfr0h := Lib.hid hfr0
  have hcs0h := Lib.hid hcs0
  clear hA hs0 hfr0 hcs0 hcs
  go_region_held3 (fun w' => w'.cell? ⟨w.heap.size + 1, 0, none⟩ = some (.int .i64 th) ∧ w'.cell? ⟨w.heap.size + 1, 1, none⟩ = some (.int .i64 ki) ∧ w'.cell? ⟨w.heap.size + 1, 2, none⟩ = some (.int .i64 va) ∧ w'.cell? ⟨w.heap.size + 1, 3, none⟩ = some (.int .i64 re) ∧ w'.cell? ⟨w.heap.size + 1, 4, none⟩ = some (.int .i64 go))
    (first
      | (go_split_ands; refine ⟨?_, ?_, ?_, ?_, ?_⟩ <;> (refine (hgy.cell (p := ⟨_, _, none⟩) (by show w.heap.size + 1 < V.heap.size; omega)).trans ?_; assumption))
      | (go_split_ands; refine ⟨?_, ?_, ?_, ?_, ?_⟩ <;> (refine (hBt.cell (p := ⟨_, _, none⟩) (by show w.heap.size + 1 < w.heap.size + 3; omega)).trans ?_; assumption))
      | go_keep)
    ((first
      | (go_at_call 27; refine (prules_any _).mono ?_; rintro e wy hT; obtain ⟨mb, rfl, hmb, hRt, hgy0⟩ := hT; have hgy : Below V.heap.size V wy := kept_trans (by repeat' (first | (with_reducible exact Below.refl _ _) | (with_reducible assumption) | (with_reducible refine kept_alloc ?_ _) | (with_reducible refine kept_drewN ?_ _) | (with_reducible refine Below.drew ?_) | (with_reducible refine Below.setCell ?_ (by first | omega | (simp; omega) | (simp; done)) _) | (refine kept_trans ?_ (by with_reducible assumption)))) hgy0; clear hgy0)
      | (go_at_call 26; refine (ptell_any (w.heap.size + 3) wx.heap.size a (some ⟨g, 0, none⟩) a.vals.length _ (hAh.out.kept hgy) ⟨th, ki, va, re, go⟩ hm mb hRt).mono ?_; rintro e wt hT; obtain ⟨rfl, p', k', hA', hC, hp'⟩ := hT; have hle1 : w.heap.size + 3 ≤ V.heap.size := (by have := hgV.size; have := hs0h.out; omega); have hBt : Below (w.heap.size + 3) V wt := Chg.below (hgy.mono hle1) hC hAh.out.ge (fun x hx => (hAh.out.own.lt x hx).1) (Nat.le_trans hle1 hgy.size))))
  obtain ⟨⟨t0, t1, t2, t3⟩, -⟩ := hA'.cells
  have r0 := (hBt.cell (p := ⟨w.heap.size + 1 + 1, 0, none⟩) (by show w.heap.size + 1 + 1 < w.heap.size + 3; omega)).trans hq5
  have r1 := (hBt.cell (p := ⟨w.heap.size + 1 + 1, 1, none⟩) (by show w.heap.size + 1 + 1 < w.heap.size + 3; omega)).trans hq6
  have r2 := (hBt.cell (p := ⟨w.heap.size + 1 + 1, 2, none⟩) (by show w.heap.size + 1 + 1 < w.heap.size + 3; omega)).trans hq7
  have r3 := (hBt.cell (p := ⟨w.heap.size + 1 + 1, 3, none⟩) (by show w.heap.size + 1 + 1 < w.heap.size + 3; omega)).trans hq8
  have hfrt : ∀ j, wt.frozen? ⟨w.heap.size + 1 + 1, j, none⟩ = false := fun j => (hBt.frozen (p := ⟨w.heap.size + 1 + 1, j, none⟩) (by show w.heap.size + 1 + 1 < w.heap.size + 3; omega)).trans ((hgV.frozen (p := ⟨w.heap.size + 1 + 1, j, none⟩) (by have := hs0h.out; show w.heap.size + 1 + 1 < _; omega)).trans (hfr0h.out j))
  have f0 := hfrt 0
  have f1 := hfrt 1
  have f2 := hfrt 2
  have f3 := hfrt 3
  have hO' := hA'.own
  have hge := hA'.ge
  have hlt' := hA'.lt
  generalize hrr : a.tell ⟨th, ki, va, re, go⟩ = rr at *
  have hrh := Lib.hid hrr
  have hA'h := Lib.hid hA'
  have hO'h := Lib.hid hO'
  have hCh := Lib.hid hC
  have hp'h := Lib.hid hp'
  clear hrr hfrt hA' hO' hC hp' hq0 hq1 hq2 hq3 hq4 hq5 hq6 hq7 hq8
  go_wp2
  refine bodyPost_ret (v := .tuple #[.agg #[.slice p' rr.1.vals.length k', .int .i64 rr.1.cap, .int .i64 rr.1.pol, .int .i64 rr.1.mode], .bool rr.2]) (by simp [results, Try.results23, go_sem, *]) rfl ?_
  refine ⟨p', k', rfl, ?_, ?_, fun _ x hx => .inr (by have := (hO'h.out.lt x hx).1; omega)⟩
  · obtain ⟨x, hx⟩ : ∃ x, p' = some x := by obtain ⟨g, o, _, h, _⟩ := hO'h.out; exact ⟨_, h⟩
    have hO := hO'h.out
    subst hx
    have hlx := (hO.lt x rfl).1
    exact (Ov.setCell (Ov.setCell (Ov.setCell (Ov.setCell hO (by show _ ≠ w.heap.size + 1 + 1; omega) _) (by show _ ≠ w.heap.size + 1 + 1; omega) _) (by show _ ≠ w.heap.size + 1 + 1; omega) _) (by show _ ≠ w.heap.size + 1 + 1; omega) _).sl
  · have hB1 : Below w.heap.size w wt := hB0.trans ((hgV.mono (by have := hs0h.out; omega)).trans (hBt.mono (by omega)))
    repeat' (first | (with_reducible exact Below.refl _ _) | (with_reducible assumption) | (with_reducible refine kept_alloc ?_ _) | (with_reducible refine kept_drewN ?_ _) | (with_reducible refine Below.drew ?_) | (with_reducible refine Below.setCell ?_ (by first | omega | (simp; omega) | (simp; done)) _) | (refine kept_trans ?_ (by with_reducible assumption)))
end Go.Proofs.Ythlgijmpkpmibaa
