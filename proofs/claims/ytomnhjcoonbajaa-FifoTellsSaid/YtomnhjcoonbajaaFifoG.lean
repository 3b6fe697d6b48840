/- Contracts of the document's functions of layer 3: a queue without its first one. -/
import Derived.Test.YtomnhjcoonbajaaFifoS
import Derived.RegionTactic
import Derived.ChangeAlike
import Derived.Deep.RegionHeld3
namespace Go.Proofs.Ytomnhjcoonbajaa
set_option linter.unusedVariables false
set_option linter.unusedSimpArgs false
open Go.ChangeShapes Go.WideShapes Go.ChangeAt Go.RowKit

set_option maxHeartbeats 4000000 in
theorem rgone_any (a : Qu) (n : Int) (p : Option Addr) (k : Nat) (w : World) (hl : Sl w 1 intC a.vals (.slice p a.vals.length k)) (hm : a.vals.length ≤ 1000) :
    Calls Try.prog 27 #[.agg #[.slice p a.vals.length k, .int .i64 a.cap, .int .i64 a.pol, .int .i64 a.mode], .int .i64 n] w (RetQ w a.vals p (a.gone n)) := by
  obtain ⟨l, c, po, m⟩ := a
  simp only at *
  obtain ⟨_, _, e1, hk1, hk2, _, hlc⟩ := hl.is
  cases e1
  cases l with
  | nil =>
    clear hlc
    go_enter Try.func27, Try.ntmps27
    go_wp2
    exact bodyPost_ret (v := .tuple #[.agg #[.slice p 0 k, .int .i64 c, .int .i64 po, .int .i64 m], .bool false]) (by simp [results, Try.results27, go_sem]) rfl ⟨p, k, rfl, hl.kept (by repeat' (first | (with_reducible exact Below.refl _ _) | (with_reducible assumption) | (with_reducible refine kept_alloc ?_ _) | (with_reducible refine kept_drewN ?_ _) | (with_reducible refine Below.drew ?_) | (with_reducible refine Below.setCell ?_ (by first | omega | (simp; omega) | (simp; done)) _) | (refine kept_trans ?_ (by with_reducible assumption)))), (by repeat' (first | (with_reducible exact Below.refl _ _) | (with_reducible assumption) | (with_reducible refine kept_alloc ?_ _) | (with_reducible refine kept_drewN ?_ _) | (with_reducible refine Below.drew ?_) | (with_reducible refine Below.setCell ?_ (by first | omega | (simp; omega) | (simp; done)) _) | (refine kept_trans ?_ (by with_reducible assumption)))), fun h _ _ => absurd rfl h⟩
  | cons v r =>
    obtain ⟨b, o, rfl, hb, hc⟩ := hlc (by simp)
    have c1 := hc 0 v rfl 0 (by omega)
    simp only [intC, Nat.mul_one, Nat.add_zero, List.getElem?_cons_zero] at c1
    have hlen : (v :: r).length = r.length + 1 := rfl
    obtain ⟨N, hN⟩ : ∃ N, (v :: r).length = N := ⟨_, rfl⟩
    have hNr : r.length + 1 = N := hN
    rw [hN] at hl hk1 hm ⊢
    have h0 : ((N : Int) == 0) = false := by simp; omega
    have h1 : (0 : Int) < (N : Int) := by omega
    have h2 : (1 : Int) ≤ (N : Int) := by omega
    have h3 : (N : Int) ≤ (k : Int) := by omega
    have hNh := Lib.hid hN
    have hNr' := Lib.hid hNr
    clear hN hNr hlen
    cases hv : (v != n)
    · go_enter Try.func27, Try.ntmps27
      obtain rfl : v = n := by simpa using hv
      have hq : Hid (Qu.gone ⟨v :: r, c, po, m⟩ v = (⟨r, c, po, m⟩, true)) := by show _ = _; simp [Qu.gone, Qu.with]
      by_cases hk3 : k = 1
      · subst hk3
        obtain rfl : N = 1 := by omega
        go_wp2
        obtain ⟨V, hV⟩ : ∃ V, (w.alloc (.cells #[.slice (some ⟨b, o, none⟩) 1 1, .int .i64 c, .int .i64 po, .int .i64 m] 24)).alloc (.cells #[.slice none 0 0, .int .i64 0, .int .i64 0, .int .i64 0] 24) = V := ⟨_, rfl⟩
        have hcs : CellsAt V [(w.heap.size, 0, .slice (some ⟨b, o, none⟩) 1 1), (w.heap.size, 1, .int .i64 c), (w.heap.size, 2, .int .i64 po), (w.heap.size, 3, .int .i64 m), (w.heap.size + 1, 0, .slice none 0 0), (w.heap.size + 1, 1, .int .i64 0), (w.heap.size + 1, 2, .int .i64 0), (w.heap.size + 1, 3, .int .i64 0)] := by rw [← hV]; (simp only [CellsAt]; (repeat' (first | exact trivial | (refine And.intro ?_ ?_))); all_goals (first | (focus ((try simp only [World.size_setCell, World.size_alloc]); omega)) | (repeat (first | rfl | assumption | (refine (World.cell?_alloc_past _ _ _ ?_).trans ?_; focus ((try simp only [World.size_setCell, World.size_alloc]); omega)) | (refine (World.cell?_alloc_at _ _ _ _ ?_).trans ?_; focus ((try simp only [World.size_setCell, World.size_alloc]); done)) | (refine (World.cell?_setCell_other _ _ _ _ ?_).trans ?_; focus (simp; done)) | (refine (World.cell?_setCell_other _ _ _ _ ?_).trans ?_; focus (simp; omega)) | (refine World.cell?_setCell_same' _ _ _ ?_; focus (simp; done))))))
        have hB : Below w.heap.size w V := by rw [← hV]; repeat' (first | (with_reducible exact Below.refl _ _) | (with_reducible assumption) | (with_reducible refine kept_alloc ?_ _) | (with_reducible refine kept_drewN ?_ _) | (with_reducible refine Below.drew ?_) | (with_reducible refine Below.setCell ?_ (by first | omega | (simp; omega) | (simp; done)) _) | (refine kept_trans ?_ (by with_reducible assumption)))
        have hz : V.heap.size = w.heap.size + 2 := by rw [← hV]; simp
        have hfr : ∀ j, V.frozen? ⟨w.heap.size + 1, j, none⟩ = false := by intro j; rw [← hV]; exact World.frozen?_alloc_at _ _ _ _ (by simp)
        rw [hV]
        clear hV
        have hTL : Sl V 1 intC r (.slice (some ⟨b, o, none⟩) 0 0) := (hl.kept hB).drop 1 (by simp) (fun h => absurd h (by omega)) rfl rfl
        have hrl : r.length ≤ 1000 := by have := hNr'.out; omega
        have hsz : w.heap.size < V.heap.size := by omega
        have hsz1 : w.heap.size + 1 < V.heap.size := by omega
        have hq0 := hcs.1.2; have hq1 := hcs.2.1.2; have hq2 := hcs.2.2.1.2; have hq3 := hcs.2.2.2.1.2; have hq4 := hcs.2.2.2.2.1.2; have hq5 := hcs.2.2.2.2.2.1.2; have hq6 := hcs.2.2.2.2.2.2.1.2; have hq7 := hcs.2.2.2.2.2.2.2.1.2; have hz0 := hcs.1.1; have hz1 := hcs.2.2.2.2.1.1
        have hzz := Lib.hid hz
        clear hz
        go_region_held3 (fun w' => w'.cell? ⟨w.heap.size, 0, none⟩ = some (.slice (some ⟨b, o, none⟩) 1 1) ∧ w'.cell? ⟨w.heap.size, 1, none⟩ = some (.int .i64 c) ∧ w'.cell? ⟨w.heap.size, 2, none⟩ = some (.int .i64 po) ∧ w'.cell? ⟨w.heap.size, 3, none⟩ = some (.int .i64 m))
          (first
            | (have hb1s := hb1.size; have hgs := hgx.size; go_split_ands; refine ⟨?_, ?_, ?_, ?_⟩ <;> (refine (hgx.cell (p := ⟨_, _, none⟩) (by show w.heap.size < w1.heap.size; omega)).trans ((hb1.cell (p := ⟨_, _, none⟩) (by show w.heap.size < V.heap.size; omega)).trans ?_); assumption))
            | (go_split_ands; refine ⟨?_, ?_, ?_, ?_⟩ <;> (refine (hb1.cell (p := ⟨_, _, none⟩) (by show w.heap.size < V.heap.size; omega)).trans ?_; assumption))
            | go_keep)
          ((first
            | (refine step_app (wb := V) (by rfl) _ _ 22 (by rfl) (.int .i64 0) 8 Try.underlying22 int_info (by rfl) (by decide) intEnc (by rfl) (by rfl) (xs := []) (ys := r) (Ow.made intEnc [] #[] rfl (Nat.le_refl _) (by decide) rfl rfl) (hTL.kept (by repeat' (first | (with_reducible exact Below.refl _ _) | (with_reducible assumption) | (with_reducible refine kept_alloc ?_ _) | (with_reducible refine kept_drewN ?_ _) | (with_reducible refine Below.drew ?_) | (with_reducible refine Below.setCell ?_ (by first | omega | (simp; omega) | (simp; done)) _) | (refine kept_trans ?_ (by with_reducible assumption))))) (by repeat' (first | (with_reducible exact Below.refl _ _) | (with_reducible assumption) | (with_reducible refine kept_alloc ?_ _) | (with_reducible refine kept_drewN ?_ _) | (with_reducible refine Below.drew ?_) | (with_reducible refine Below.setCell ?_ (by first | omega | (simp; omega) | (simp; done)) _) | (refine kept_trans ?_ (by with_reducible assumption)))) (by simp; unfold maxLen; omega) (by simp; omega) ?_; intro v1 w1 how1 hb1 hg1; obtain ⟨p1, k1, rfl, hs1, hs2, hs3, hs4⟩ := (Ow.sl intEnc how1).is; clear hs1 hs2 hs3 hs4)
            | (go_at_call 41; refine (rwith_any _ _ _ _ _ _ _ _ _ _).mono ?_; rintro e wx ⟨rfl, hgx⟩; have hBx : Below V.heap.size V wx := hb1.trans (hgx.mono hb1.size); have hcs := cells_keep hBx hcs; have hq0 := hcs.1.2; have hq1 := hcs.2.1.2; have hq2 := hcs.2.2.1.2; have hq3 := hcs.2.2.2.1.2; have hq4 := hcs.2.2.2.2.1.2; have hq5 := hcs.2.2.2.2.2.1.2; have hq6 := hcs.2.2.2.2.2.2.1.2; have hq7 := hcs.2.2.2.2.2.2.2.1.2; have hz0 := hcs.1.1; have hz1 := hcs.2.2.2.2.1.1; have hfx : ∀ j, wx.frozen? ⟨w.heap.size + 1, j, none⟩ = false := fun j => (hBx.frozen (p := ⟨w.heap.size + 1, j, none⟩) hsz1).trans (hfr j))))
        go_wp2
        have hO : Ow wx V.heap.size 3 1 intC r (.slice p1 r.length k1) := Ow.kept how1 hgx
        refine bodyPost_ret (v := .tuple #[.agg #[.slice p1 r.length k1, .int .i64 c, .int .i64 po, .int .i64 m], .bool true]) (by simp [results, Try.results27, go_sem, *]) rfl ?_
        rw [hq.out]
        exact ⟨p1, k1, rfl, Ow.sl intEnc ((((hO.setCell (p := ⟨_, _, none⟩) hsz1 _).setCell (p := ⟨_, _, none⟩) hsz1 _).setCell (p := ⟨_, _, none⟩) hsz1 _).setCell (p := ⟨_, _, none⟩) hsz1 _), by
          have h0 : Below w.heap.size w wx := hB.trans (hBx.mono hB.size)
          exact (((h0.setCell (p := ⟨_, _, none⟩) (Nat.le_succ _) _).setCell (p := ⟨_, _, none⟩) (Nat.le_succ _) _).setCell (p := ⟨_, _, none⟩) (Nat.le_succ _) _).setCell (p := ⟨_, _, none⟩) (Nat.le_succ _) _,
          fun _ x hx => .inr (by subst hx; have := (Ow.lt hO _ rfl).1; have := hzz.out; omega)⟩
      · have hk4 : ((1 : Int) == (k : Int)) = false := by simp; omega
        go_wp2
        obtain ⟨V, hV⟩ : ∃ V, (w.alloc (.cells #[.slice (some ⟨b, o, none⟩) N k, .int .i64 c, .int .i64 po, .int .i64 m] 24)).alloc (.cells #[.slice none 0 0, .int .i64 0, .int .i64 0, .int .i64 0] 24) = V := ⟨_, rfl⟩
        have hcs : CellsAt V [(w.heap.size, 0, .slice (some ⟨b, o, none⟩) N k), (w.heap.size, 1, .int .i64 c), (w.heap.size, 2, .int .i64 po), (w.heap.size, 3, .int .i64 m), (w.heap.size + 1, 0, .slice none 0 0), (w.heap.size + 1, 1, .int .i64 0), (w.heap.size + 1, 2, .int .i64 0), (w.heap.size + 1, 3, .int .i64 0)] := by rw [← hV]; (simp only [CellsAt]; (repeat' (first | exact trivial | (refine And.intro ?_ ?_))); all_goals (first | (focus ((try simp only [World.size_setCell, World.size_alloc]); omega)) | (repeat (first | rfl | assumption | (refine (World.cell?_alloc_past _ _ _ ?_).trans ?_; focus ((try simp only [World.size_setCell, World.size_alloc]); omega)) | (refine (World.cell?_alloc_at _ _ _ _ ?_).trans ?_; focus ((try simp only [World.size_setCell, World.size_alloc]); done)) | (refine (World.cell?_setCell_other _ _ _ _ ?_).trans ?_; focus (simp; done)) | (refine (World.cell?_setCell_other _ _ _ _ ?_).trans ?_; focus (simp; omega)) | (refine World.cell?_setCell_same' _ _ _ ?_; focus (simp; done))))))
        have hB : Below w.heap.size w V := by rw [← hV]; repeat' (first | (with_reducible exact Below.refl _ _) | (with_reducible assumption) | (with_reducible refine kept_alloc ?_ _) | (with_reducible refine kept_drewN ?_ _) | (with_reducible refine Below.drew ?_) | (with_reducible refine Below.setCell ?_ (by first | omega | (simp; omega) | (simp; done)) _) | (refine kept_trans ?_ (by with_reducible assumption)))
        have hz : V.heap.size = w.heap.size + 2 := by rw [← hV]; simp
        have hfr : ∀ j, V.frozen? ⟨w.heap.size + 1, j, none⟩ = false := by intro j; rw [← hV]; exact World.frozen?_alloc_at _ _ _ _ (by simp)
        rw [hV]
        clear hV
        have hTL : Sl V 1 intC r (.slice (some ⟨b, o + 1, none⟩) (N - 1) (k - 1)) := (hl.kept hB).drop 1 (by simp) (fun _ => by simp) rfl rfl
        have hrl : r.length ≤ 1000 := by have := hNr'.out; omega
        have hsz : w.heap.size < V.heap.size := by omega
        have hsz1 : w.heap.size + 1 < V.heap.size := by omega
        have hq0 := hcs.1.2; have hq1 := hcs.2.1.2; have hq2 := hcs.2.2.1.2; have hq3 := hcs.2.2.2.1.2; have hq4 := hcs.2.2.2.2.1.2; have hq5 := hcs.2.2.2.2.2.1.2; have hq6 := hcs.2.2.2.2.2.2.1.2; have hq7 := hcs.2.2.2.2.2.2.2.1.2; have hz0 := hcs.1.1; have hz1 := hcs.2.2.2.2.1.1
        have hzz := Lib.hid hz
        clear hz
        go_region_held3 (fun w' => w'.cell? ⟨w.heap.size, 0, none⟩ = some (.slice (some ⟨b, o, none⟩) N k) ∧ w'.cell? ⟨w.heap.size, 1, none⟩ = some (.int .i64 c) ∧ w'.cell? ⟨w.heap.size, 2, none⟩ = some (.int .i64 po) ∧ w'.cell? ⟨w.heap.size, 3, none⟩ = some (.int .i64 m))
          (first
            | (have hb1s := hb1.size; have hgs := hgx.size; go_split_ands; refine ⟨?_, ?_, ?_, ?_⟩ <;> (refine (hgx.cell (p := ⟨_, _, none⟩) (by show w.heap.size < w1.heap.size; omega)).trans ((hb1.cell (p := ⟨_, _, none⟩) (by show w.heap.size < V.heap.size; omega)).trans ?_); assumption))
            | (go_split_ands; refine ⟨?_, ?_, ?_, ?_⟩ <;> (refine (hb1.cell (p := ⟨_, _, none⟩) (by show w.heap.size < V.heap.size; omega)).trans ?_; assumption))
            | go_keep)
          ((first
            | (refine step_app (wb := V) (by rfl) _ _ 22 (by rfl) (.int .i64 0) 8 Try.underlying22 int_info (by rfl) (by decide) intEnc (by rfl) (by rfl) (xs := []) (ys := r) (Ow.made intEnc [] #[] rfl (Nat.le_refl _) (by decide) rfl rfl) (hTL.kept (by repeat' (first | (with_reducible exact Below.refl _ _) | (with_reducible assumption) | (with_reducible refine kept_alloc ?_ _) | (with_reducible refine kept_drewN ?_ _) | (with_reducible refine Below.drew ?_) | (with_reducible refine Below.setCell ?_ (by first | omega | (simp; omega) | (simp; done)) _) | (refine kept_trans ?_ (by with_reducible assumption))))) (by repeat' (first | (with_reducible exact Below.refl _ _) | (with_reducible assumption) | (with_reducible refine kept_alloc ?_ _) | (with_reducible refine kept_drewN ?_ _) | (with_reducible refine Below.drew ?_) | (with_reducible refine Below.setCell ?_ (by first | omega | (simp; omega) | (simp; done)) _) | (refine kept_trans ?_ (by with_reducible assumption)))) (by simp; unfold maxLen; omega) (by simp; omega) ?_; intro v1 w1 how1 hb1 hg1; obtain ⟨p1, k1, rfl, hs1, hs2, hs3, hs4⟩ := (Ow.sl intEnc how1).is; clear hs1 hs2 hs3 hs4)
            | (go_at_call 41; refine (rwith_any _ _ _ _ _ _ _ _ _ _).mono ?_; rintro e wx ⟨rfl, hgx⟩; have hBx : Below V.heap.size V wx := hb1.trans (hgx.mono hb1.size); have hcs := cells_keep hBx hcs; have hq0 := hcs.1.2; have hq1 := hcs.2.1.2; have hq2 := hcs.2.2.1.2; have hq3 := hcs.2.2.2.1.2; have hq4 := hcs.2.2.2.2.1.2; have hq5 := hcs.2.2.2.2.2.1.2; have hq6 := hcs.2.2.2.2.2.2.1.2; have hq7 := hcs.2.2.2.2.2.2.2.1.2; have hz0 := hcs.1.1; have hz1 := hcs.2.2.2.2.1.1; have hfx : ∀ j, wx.frozen? ⟨w.heap.size + 1, j, none⟩ = false := fun j => (hBx.frozen (p := ⟨w.heap.size + 1, j, none⟩) hsz1).trans (hfr j))))
        go_wp2
        have hO : Ow wx V.heap.size 3 1 intC r (.slice p1 r.length k1) := Ow.kept how1 hgx
        refine bodyPost_ret (v := .tuple #[.agg #[.slice p1 r.length k1, .int .i64 c, .int .i64 po, .int .i64 m], .bool true]) (by simp [results, Try.results27, go_sem, *]) rfl ?_
        rw [hq.out]
        exact ⟨p1, k1, rfl, Ow.sl intEnc ((((hO.setCell (p := ⟨_, _, none⟩) hsz1 _).setCell (p := ⟨_, _, none⟩) hsz1 _).setCell (p := ⟨_, _, none⟩) hsz1 _).setCell (p := ⟨_, _, none⟩) hsz1 _), by
          have h0 : Below w.heap.size w wx := hB.trans (hBx.mono hB.size)
          exact (((h0.setCell (p := ⟨_, _, none⟩) (Nat.le_succ _) _).setCell (p := ⟨_, _, none⟩) (Nat.le_succ _) _).setCell (p := ⟨_, _, none⟩) (Nat.le_succ _) _).setCell (p := ⟨_, _, none⟩) (Nat.le_succ _) _,
          fun _ x hx => .inr (by subst hx; have := (Ow.lt hO _ rfl).1; have := hzz.out; omega)⟩
    · have hne : v ≠ n := by simpa using hv
      have hq : Hid (Qu.gone ⟨v :: r, c, po, m⟩ n = (⟨v :: r, c, po, m⟩, false)) := by show _ = _; simp [Qu.gone, hne]
      clear hne
      go_enter Try.func27, Try.ntmps27
      go_wp2
      refine bodyPost_ret (v := .tuple #[.agg #[.slice (some ⟨b, o, none⟩) N k, .int .i64 c, .int .i64 po, .int .i64 m], .bool false]) (by simp [results, Try.results27, go_sem]) rfl ?_
      rw [hq.out]
      exact ⟨some ⟨b, o, none⟩, k, by rw [← hNh.out], by rw [hNh.out]; exact hl.kept (by repeat' (first | (with_reducible exact Below.refl _ _) | (with_reducible assumption) | (with_reducible refine kept_alloc ?_ _) | (with_reducible refine kept_drewN ?_ _) | (with_reducible refine Below.drew ?_) | (with_reducible refine Below.setCell ?_ (by first | omega | (simp; omega) | (simp; done)) _) | (refine kept_trans ?_ (by with_reducible assumption)))), (by repeat' (first | (with_reducible exact Below.refl _ _) | (with_reducible assumption) | (with_reducible refine kept_alloc ?_ _) | (with_reducible refine kept_drewN ?_ _) | (with_reducible refine Below.drew ?_) | (with_reducible refine Below.setCell ?_ (by first | omega | (simp; omega) | (simp; done)) _) | (refine kept_trans ?_ (by with_reducible assumption)))), fun h x hx => .inl ⟨h, x, hx, rfl⟩⟩
end Go.Proofs.Ytomnhjcoonbajaa
