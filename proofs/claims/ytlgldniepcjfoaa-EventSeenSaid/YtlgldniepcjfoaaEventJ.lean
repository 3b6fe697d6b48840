/- Layer 6: Notify, NotifyAll. -/
import Derived.Test.YtlgldniepcjfoaaEventI
namespace Go.Proofs.Ytlgldniepcjfoaa
set_option linter.unusedVariables false
set_option linter.unusedSimpArgs false
open Go.ChangeShapes Go.WideShapes Go.ChangeAt Go.RowKit

/-- A box for an event, made of late. -/
def Fresh (n : Nat) (W : World) : Prop := W.cell? ⟨n, 0, none⟩ = some (.int .i64 0) ∧ W.cell? ⟨n, 1, none⟩ = some (.slice none 0 0) ∧ W.frozen? ⟨n, 0, none⟩ = false ∧ W.frozen? ⟨n, 1, none⟩ = false ∧ n < W.heap.size
theorem Fresh.new (W : World) : Fresh W.heap.size (W.alloc (.cells #[.int .i64 0, .slice none 0 0] 24)) :=
  ⟨World.cell?_alloc_at (w := W) _ _ _ 0 rfl, World.cell?_alloc_at (w := W) _ _ _ 1 rfl, World.frozen?_alloc_at (w := W) _ _ _ 0 rfl, World.frozen?_alloc_at (w := W) _ _ _ 1 rfl, by simp⟩
theorem Fresh.new_drew (W : World) : Fresh W.heap.size (W.alloc (.cells #[.int .i64 0, .slice none 0 0] 24)).drew := Fresh.new W
theorem Fresh.drew_new (W : World) : Fresh W.heap.size (W.drew.alloc (.cells #[.int .i64 0, .slice none 0 0] 24)) := Fresh.new W.drew
theorem Fresh.kept {n : Nat} {W W' : World} (h : Fresh n W) (hk : Kept W W') : Fresh n W' :=
  ⟨((bcell hk).1 _ _ h.2.2.2.2).trans h.1, ((bcell hk).1 _ _ h.2.2.2.2).trans h.2.1, ((bcell hk).2 _ _ h.2.2.2.2).trans h.2.2.1, ((bcell hk).2 _ _ h.2.2.2.2).trans h.2.2.2.1, Nat.lt_of_lt_of_le h.2.2.2.2 hk.size⟩
theorem set2_far (W : World) (n : Nat) (v0 v1 : Value) {b i : Nat} (h : b < n) : ((W.setCell ⟨n, 0, none⟩ v0).setCell ⟨n, 1, none⟩ v1).cell? ⟨b, i, none⟩ = W.cell? ⟨b, i, none⟩ :=
  (((Below.refl n W).setCell (p := ⟨n, 0, none⟩) (Nat.le_refl _) v0).setCell (p := ⟨n, 1, none⟩) (Nat.le_refl _) v1).cell (p := ⟨b, i, none⟩) h
/-- A call's event that lies in a box of its own, made ahead of the call or behind it; and who was told. -/
structure Boxed (V : World) (E : Int) (R T : List Int) (p3 q3 : Option Addr) (k3 k4 : Nat) (xb : Nat) (W : World) : Prop where
  c0 : W.cell? ⟨xb, 0, none⟩ = some (.int .i64 E)
  c1 : W.cell? ⟨xb, 1, none⟩ = some (.slice p3 R.length k3)
  r : Ow W V.heap.size 3 1 intC R (.slice p3 R.length k3)
  t : Ow W V.heap.size 3 1 intC T (.slice q3 T.length k4)
  below : Below V.heap.size V W
  ge : V.heap.size ≤ xb
  lt : xb < W.heap.size
theorem boxed_late {V wy : World} {E : Int} {R T : List Int} {p3 q3 : Option Addr} {k3 k4 b : Nat} (hg : Below V.heap.size V wy) (hb : V.heap.size ≤ b) (h3 : Ow wy b 3 1 intC R (.slice p3 R.length k3)) (h4 : Ow wy b 3 1 intC T (.slice q3 T.length k4)) :
    Boxed V E R T p3 q3 k3 k4 wy.heap.size (wy.alloc (.cells #[.int .i64 E, .slice p3 R.length k3] 24)) :=
  have hk : Kept wy (wy.alloc (.cells #[.int .i64 E, .slice p3 R.length k3] 24)) := (Below.refl _ _).alloc (Nat.le_refl _) _
  ⟨World.cell?_alloc_at (w := wy) _ _ _ 0 rfl, World.cell?_alloc_at (w := wy) _ _ _ 1 rfl, Ow.mono (h3.kept hk) hb, Ow.mono (h4.kept hk) hb, hg.alloc hg.size _, hg.size, by simp⟩
theorem boxed_set {V wy : World} {E : Int} {R T : List Int} {p3 q3 : Option Addr} {k3 k4 b n : Nat} (hg : Below V.heap.size V wy) (hb : V.heap.size ≤ n) (hnb : n < b) (h3 : Ow wy b 3 1 intC R (.slice p3 R.length k3)) (h4 : Ow wy b 3 1 intC T (.slice q3 T.length k4))
    (f0 : wy.cell? ⟨n, 0, none⟩ = some (.int .i64 0)) (f1 : wy.cell? ⟨n, 1, none⟩ = some (.slice none 0 0)) (f4 : n < wy.heap.size) :
    Boxed V E R T p3 q3 k3 k4 n ((wy.setCell ⟨n, 0, none⟩ (.int .i64 E)).setCell ⟨n, 1, none⟩ (.slice p3 R.length k3)) := by
  refine ⟨?_, ?_, Ow.mono ((h3.setCell (p := ⟨n, 0, none⟩) hnb _).setCell (p := ⟨n, 1, none⟩) hnb _) (by omega), Ow.mono ((h4.setCell (p := ⟨n, 0, none⟩) hnb _).setCell (p := ⟨n, 1, none⟩) hnb _) (by omega), (hg.setCell (p := ⟨n, 0, none⟩) hb _).setCell (p := ⟨n, 1, none⟩) hb _, hb, by simpa using f4⟩
  · refine (World.cell?_setCell_other _ _ _ _ (by simp)).trans ?_
    exact World.cell?_setCell_same' _ _ _ (by rw [f0]; rfl)
  · refine World.cell?_setCell_same' _ _ _ ?_
    rw [show (wy.setCell ⟨n, 0, none⟩ (.int .i64 E)).cell? ⟨n, 1, none⟩ = wy.cell? ⟨n, 1, none⟩ from World.cell?_setCell_other _ _ _ _ (by simp), f1]; rfl
/-- What 'Notify' leaves. -/
def RetNf (w : World) (ep : Int) (r : List Int) (x : Int) (b : Bool) (e : Ending) (w' : World) : Prop :=
  ∃ (p : Option Addr) (k : Nat), e = .returned (.tuple #[.agg #[.int .i64 ep, .slice p r.length k], .int .i64 x, .bool b]) ∧ Ow w' w.heap.size 3 1 intC r (.slice p r.length k) ∧ Kept w w'
set_option maxHeartbeats 4000000 in
theorem enotify_any (ep : Int) (l : List Int) (p : Option Addr) (k : Nat) (w : World) (hl : Sl w 1 intC l (.slice p l.length k)) (hm : l.length ≤ 999999) :
    Calls Try.prog 11 #[.agg #[.int .i64 ep, .slice p l.length k]] w (RetNf w (ntE ep l) (ntL 1 ep l) (hdI (ntT 1 ep l)) (hdB (ntT 1 ep l))) := by
  have H := Lib.hid hl
  clear hl
  obtain ⟨E, hE⟩ : ∃ E, ntE ep l = E := ⟨_, rfl⟩
  obtain ⟨R, hR⟩ : ∃ R, ntL 1 ep l = R := ⟨_, rfl⟩
  obtain ⟨T, hT⟩ : ∃ T, ntT 1 ep l = T := ⟨_, rfl⟩
  have hN : ∀ (W : World) (lb : Array Value), Sl W 1 intC l (.slice p l.length k) → Tells 31 lb (fun x => decide (x < (1 : Int))) W → Calls Try.prog 20 #[.agg #[.int .i64 ep, .slice p l.length k], .func (.func 31) #[] lb] W (RetEL W E R T) := fun W lb h1 h2 => hE ▸ hR ▸ hT ▸ enotice_any ep l 1 p k W lb h1 hm (by decide) h2
  have HN := Lib.hid hN
  rw [hE, hR, hT]
  clear hN hE hR hT
  go_enter Try.func11, Try.ntmps11
  go_wp2
  obtain ⟨V, hV⟩ : ∃ V, (w.alloc (.cells #[.int .i64 ep, .slice p l.length k] 24)).alloc (.cells #[.int .i64 0, .slice none 0 0] 24) = V := ⟨_, rfl⟩
  have hcs : CellsAt V [(w.heap.size, 0, .int .i64 ep), (w.heap.size, 1, .slice p l.length k), (w.heap.size + 1, 0, .int .i64 0), (w.heap.size + 1, 1, .slice none 0 0)] := by rw [← hV]; (simp only [CellsAt]; (repeat' (first | exact trivial | (refine And.intro ?_ ?_))); all_goals (first | (focus ((try simp only [World.size_setCell, World.size_alloc]); omega)) | (repeat (first | rfl | assumption | (refine (World.cell?_alloc_past _ _ _ ?_).trans ?_; focus ((try simp only [World.size_setCell, World.size_alloc]); omega)) | (refine (World.cell?_alloc_at _ _ _ _ ?_).trans ?_; focus ((try simp only [World.size_setCell, World.size_alloc]); done)) | (refine (World.cell?_setCell_other _ _ _ _ ?_).trans ?_; focus (simp; done)) | (refine (World.cell?_setCell_other _ _ _ _ ?_).trans ?_; focus (simp; omega)) | (refine World.cell?_setCell_same' _ _ _ ?_; focus (simp; done))))))
  have hB : Below w.heap.size w V := by rw [← hV]; repeat' (first | (with_reducible exact Below.refl _ _) | (with_reducible assumption) | (with_reducible refine kept_alloc ?_ _) | (with_reducible refine kept_drewN ?_ _) | (with_reducible refine Below.drew ?_) | (with_reducible refine Below.setCell ?_ (by first | omega | (simp; omega) | (simp; done)) _) | (refine kept_trans ?_ (by with_reducible assumption)))
  have hz : V.heap.size = w.heap.size + 2 := by rw [← hV]; simp
  have hfr : ∀ j, V.frozen? ⟨w.heap.size + 1, j, none⟩ = false := by intro j; rw [← hV]; exact World.frozen?_alloc_at _ _ _ _ (by simp)
  rw [hV]
  clear hV
  have HL := Lib.hid (H.out.kept hB)
  have hsz : w.heap.size < V.heap.size := by omega
  have hsz1 : w.heap.size + 1 < V.heap.size := by omega
  have hq0 := hcs.1.2; have hq1 := hcs.2.1.2; have hq2 := hcs.2.2.1.2; have hq3 := hcs.2.2.2.1.2; have hz0 := hcs.1.1; have hz1 := hcs.2.2.1.1
  have hzz := Lib.hid hz
  clear hz
  go_region_held3 (fun w' => w'.cell? ⟨w.heap.size, 0, none⟩ = some (.int .i64 ep) ∧ w'.cell? ⟨w.heap.size, 1, none⟩ = some (.slice p l.length k))
    (first
      | (go_split_ands; refine ⟨?_, ?_⟩ <;> first | (with_reducible assumption) | (with_reducible (refine (World.cell?_alloc_past _ _ _ (by with_reducible assumption)).trans ?_; assumption)) | (with_reducible (refine (set2_far _ _ _ _ (by with_reducible assumption)).trans ?_; assumption)))
      | go_keep)
    ((first
      | (go_at_call 21; refine (eupto_any 1 _).mono ?_; rintro e wx ⟨lb, rfl, hTx, hgx⟩; have hgV : Below V.heap.size V wx := kept_trans (by repeat' (first | (with_reducible exact Below.refl _ _) | (with_reducible assumption) | (with_reducible refine kept_alloc ?_ _) | (with_reducible refine kept_drewN ?_ _) | (with_reducible refine Below.drew ?_) | (with_reducible refine Below.setCell ?_ (by first | omega | (simp; omega) | (simp; done)) _) | (refine kept_trans ?_ (by with_reducible assumption)))) hgx; have s0 := (hgV.cell (p := ⟨w.heap.size, 0, none⟩) hsz).trans hq0; have s1 := (hgV.cell (p := ⟨w.heap.size, 1, none⟩) hsz).trans hq1; have hsx : w.heap.size < wx.heap.size := Nat.lt_of_lt_of_le hsz hgV.size; have fr := Fresh.kept (Fresh.new_drew V) hgx)
      | (go_at_call 21; refine (eupto_any 1 _).mono ?_; rintro e wx ⟨lb, rfl, hTx, hgx⟩; have hgV : Below V.heap.size V wx := kept_trans (by repeat' (first | (with_reducible exact Below.refl _ _) | (with_reducible assumption) | (with_reducible refine kept_alloc ?_ _) | (with_reducible refine kept_drewN ?_ _) | (with_reducible refine Below.drew ?_) | (with_reducible refine Below.setCell ?_ (by first | omega | (simp; omega) | (simp; done)) _) | (refine kept_trans ?_ (by with_reducible assumption)))) hgx; have s0 := (hgV.cell (p := ⟨w.heap.size, 0, none⟩) hsz).trans hq0; have s1 := (hgV.cell (p := ⟨w.heap.size, 1, none⟩) hsz).trans hq1; have hsx : w.heap.size < wx.heap.size := Nat.lt_of_lt_of_le hsz hgV.size; have fr := Fresh.kept (Fresh.drew_new V) hgx)
      | (go_at_call 21; refine (eupto_any 1 _).mono ?_; rintro e wx ⟨lb, rfl, hTx, hgx⟩; have hgV : Below V.heap.size V wx := kept_trans (by repeat' (first | (with_reducible exact Below.refl _ _) | (with_reducible assumption) | (with_reducible refine kept_alloc ?_ _) | (with_reducible refine kept_drewN ?_ _) | (with_reducible refine Below.drew ?_) | (with_reducible refine Below.setCell ?_ (by first | omega | (simp; omega) | (simp; done)) _) | (refine kept_trans ?_ (by with_reducible assumption)))) hgx; have s0 := (hgV.cell (p := ⟨w.heap.size, 0, none⟩) hsz).trans hq0; have s1 := (hgV.cell (p := ⟨w.heap.size, 1, none⟩) hsz).trans hq1; have hsx : w.heap.size < wx.heap.size := Nat.lt_of_lt_of_le hsz hgV.size)
      | (go_at_call 20; refine (HN.out _ lb (HL.out.kept (by repeat' (first | (with_reducible exact Below.refl _ _) | (with_reducible assumption) | (with_reducible refine kept_alloc ?_ _) | (with_reducible refine kept_drewN ?_ _) | (with_reducible refine Below.drew ?_) | (with_reducible refine Below.setCell ?_ (by first | omega | (simp; omega) | (simp; done)) _) | (refine kept_trans ?_ (by with_reducible assumption))))) (hTx.kept (by repeat' (first | (with_reducible exact Below.refl _ _) | (with_reducible assumption) | (with_reducible refine kept_alloc ?_ _) | (with_reducible refine kept_drewN ?_ _) | (with_reducible refine Below.drew ?_) | (with_reducible refine Below.setCell ?_ (by first | omega | (simp; omega) | (simp; done)) _) | (refine kept_trans ?_ (by with_reducible assumption)))))).mono ?_; rintro e wy ⟨p3, q3, k3, k4, rfl, hO3, hO4, hgy⟩; have hgW : Below V.heap.size V wy := kept_trans (by repeat' (first | (with_reducible exact Below.refl _ _) | (with_reducible assumption) | (with_reducible refine kept_alloc ?_ _) | (with_reducible refine kept_drewN ?_ _) | (with_reducible refine Below.drew ?_) | (with_reducible refine Below.setCell ?_ (by first | omega | (simp; omega) | (simp; done)) _) | (refine kept_trans ?_ (by with_reducible assumption)))) hgy; have t0 := (hgW.cell (p := ⟨w.heap.size, 0, none⟩) hsz).trans hq0; have t1 := (hgW.cell (p := ⟨w.heap.size, 1, none⟩) hsz).trans hq1; have hsy : w.heap.size < wy.heap.size := Nat.lt_of_lt_of_le hsz hgW.size; have fy := Fresh.kept fr hgy; have f0 := fy.1; have f1 := fy.2.1; have f2 := fy.2.2.1; have f3 := fy.2.2.2.1; have f4 := fy.2.2.2.2; clear fy)
      | (go_at_call 20; refine (HN.out _ lb (HL.out.kept (by repeat' (first | (with_reducible exact Below.refl _ _) | (with_reducible assumption) | (with_reducible refine kept_alloc ?_ _) | (with_reducible refine kept_drewN ?_ _) | (with_reducible refine Below.drew ?_) | (with_reducible refine Below.setCell ?_ (by first | omega | (simp; omega) | (simp; done)) _) | (refine kept_trans ?_ (by with_reducible assumption))))) (hTx.kept (by repeat' (first | (with_reducible exact Below.refl _ _) | (with_reducible assumption) | (with_reducible refine kept_alloc ?_ _) | (with_reducible refine kept_drewN ?_ _) | (with_reducible refine Below.drew ?_) | (with_reducible refine Below.setCell ?_ (by first | omega | (simp; omega) | (simp; done)) _) | (refine kept_trans ?_ (by with_reducible assumption)))))).mono ?_; rintro e wy ⟨p3, q3, k3, k4, rfl, hO3, hO4, hgy⟩; have hgW : Below V.heap.size V wy := kept_trans (by repeat' (first | (with_reducible exact Below.refl _ _) | (with_reducible assumption) | (with_reducible refine kept_alloc ?_ _) | (with_reducible refine kept_drewN ?_ _) | (with_reducible refine Below.drew ?_) | (with_reducible refine Below.setCell ?_ (by first | omega | (simp; omega) | (simp; done)) _) | (refine kept_trans ?_ (by with_reducible assumption)))) hgy; have t0 := (hgW.cell (p := ⟨w.heap.size, 0, none⟩) hsz).trans hq0; have t1 := (hgW.cell (p := ⟨w.heap.size, 1, none⟩) hsz).trans hq1; have hsy : w.heap.size < wy.heap.size := Nat.lt_of_lt_of_le hsz hgW.size; have fy := Fresh.kept (Fresh.new wx) hgy; have f0 := fy.1; have f1 := fy.2.1; have f2 := fy.2.2.1; have f3 := fy.2.2.2.1; have f4 := fy.2.2.2.2; clear fy)
      | (go_at_call 20; refine (HN.out _ lb (HL.out.kept (by repeat' (first | (with_reducible exact Below.refl _ _) | (with_reducible assumption) | (with_reducible refine kept_alloc ?_ _) | (with_reducible refine kept_drewN ?_ _) | (with_reducible refine Below.drew ?_) | (with_reducible refine Below.setCell ?_ (by first | omega | (simp; omega) | (simp; done)) _) | (refine kept_trans ?_ (by with_reducible assumption))))) (hTx.kept (by repeat' (first | (with_reducible exact Below.refl _ _) | (with_reducible assumption) | (with_reducible refine kept_alloc ?_ _) | (with_reducible refine kept_drewN ?_ _) | (with_reducible refine Below.drew ?_) | (with_reducible refine Below.setCell ?_ (by first | omega | (simp; omega) | (simp; done)) _) | (refine kept_trans ?_ (by with_reducible assumption)))))).mono ?_; rintro e wy ⟨p3, q3, k3, k4, rfl, hO3, hO4, hgy⟩; have hgW : Below V.heap.size V wy := kept_trans (by repeat' (first | (with_reducible exact Below.refl _ _) | (with_reducible assumption) | (with_reducible refine kept_alloc ?_ _) | (with_reducible refine kept_drewN ?_ _) | (with_reducible refine Below.drew ?_) | (with_reducible refine Below.setCell ?_ (by first | omega | (simp; omega) | (simp; done)) _) | (refine kept_trans ?_ (by with_reducible assumption)))) hgy; have t0 := (hgW.cell (p := ⟨w.heap.size, 0, none⟩) hsz).trans hq0; have t1 := (hgW.cell (p := ⟨w.heap.size, 1, none⟩) hsz).trans hq1; have hsy : w.heap.size < wy.heap.size := Nat.lt_of_lt_of_le hsz hgW.size)))
  all_goals
    first
      | (have hN := boxed_set (E := E) hgW (Nat.le_refl _) fr.2.2.2.2 hO3 hO4 f0 f1 f4; generalize (wy.setCell ⟨V.heap.size, 0, none⟩ (.int .i64 E)).setCell ⟨V.heap.size, 1, none⟩ (.slice p3 R.length k3) = W at hN ⊢; obtain ⟨xb, hxb⟩ : ∃ xb, V.heap.size = xb := ⟨_, rfl⟩; have hN : Boxed V E R T p3 q3 k3 k4 xb W := hxb ▸ hN; rw [hxb])
      | (have hN := boxed_set (E := E) hgW hgV.size (by simp) hO3 hO4 f0 f1 f4; generalize (wy.setCell ⟨wx.heap.size, 0, none⟩ (.int .i64 E)).setCell ⟨wx.heap.size, 1, none⟩ (.slice p3 R.length k3) = W at hN ⊢; generalize wx.heap.size = xb at hN ⊢)
      | (have hN := boxed_late (E := E) hgW hgV.size hO3 hO4; generalize wy.alloc (.cells #[.int .i64 E, .slice p3 R.length k3] 24) = W at hN ⊢; generalize wy.heap.size = xb at hN ⊢)
  all_goals
    have b0 := hN.c0
    have b1 := hN.c1
    have b2 := hN.lt
    have hBW := hN.below
    have u2 := (hBW.cell (p := ⟨w.heap.size + 1, 0, none⟩) hsz1).trans hq2
    have u3 := (hBW.cell (p := ⟨w.heap.size + 1, 1, none⟩) hsz1).trans hq3
    have uf : ∀ j, W.frozen? ⟨w.heap.size + 1, j, none⟩ = false := fun j => (hBW.frozen (p := ⟨w.heap.size + 1, j, none⟩) hsz1).trans (hfr j)
    have uz : w.heap.size + 1 < W.heap.size := Nat.lt_of_lt_of_le hsz1 hBW.size
    have HNb := Lib.hid hN
    have hB0 : Below w.heap.size w W := hB.trans (hBW.mono hB.size)
    clear hN hBW hO3 hO4 hgy hgW hgx hgV
    cases T with
    | nil =>
      go_wp2
      refine bodyPost_ret (v := .tuple #[.agg #[.int .i64 E, .slice p3 R.length k3], .int .i64 0, .bool false]) (by simp [results, Try.results11, go_sem, *]) rfl ?_
      exact ⟨p3, k3, rfl, Ow.mono ((HNb.out.r.setCell (p := ⟨_, _, none⟩) hsz1 _).setCell (p := ⟨_, _, none⟩) hsz1 _) hB.size, (hB0.setCell (p := ⟨_, _, none⟩) (Nat.le_succ _) _).setCell (p := ⟨_, _, none⟩) (Nat.le_succ _) _⟩
    | cons t T =>
      obtain ⟨qp, qc, e1, _, _, _, hne⟩ := (Ow.sl intEnc HNb.out.t).is
      cases e1
      obtain ⟨tb, to, rfl, htb, -⟩ := hne (by simp)
      have ct : W.cell? ⟨tb, to, none⟩ = some (.int .i64 t) := by have h := sli_at (Ow.sl intEnc HNb.out.t) (j := 0) (by simp); rw [Nat.add_zero] at h; exact h
      have i1 : (((t :: T).length : Int) == 0) = false := by simp; omega
      have i2 : (0 : Int) < ((t :: T).length : Int) := by simp only [List.length_cons]; omega
      have htg := (HNb.out.t.lt tb rfl).1
      have hne1 : tb ≠ w.heap.size + 1 := by omega
      have hne2 : xb ≠ w.heap.size + 1 := by have := HNb.out.ge; omega
      have hto : ∀ (u0 u1 : Value), ((W.setCell ⟨w.heap.size + 1, 0, none⟩ u0).setCell ⟨w.heap.size + 1, 1, none⟩ u1).cell? ⟨tb, to, none⟩ = some (.int .i64 t) := fun u0 u1 => by
        rw [World.cell?_of_block (w := W.setCell ⟨w.heap.size + 1, 0, none⟩ u0) (Below.heap_setCell _ _ _ _ hne1), World.cell?_of_block (w := W) (Below.heap_setCell _ _ _ _ hne1)]; exact ct
      clear hne
      go_wp2
      go_region
      all_goals go_wp2
      all_goals
        refine bodyPost_ret (v := .tuple #[.agg #[.int .i64 E, .slice p3 R.length k3], .int .i64 t, .bool true]) (by simp [results, Try.results11, go_sem, *]) rfl ?_
        exact ⟨p3, k3, rfl, (Ow.mono ((HNb.out.r.setCell (p := ⟨_, _, none⟩) hsz1 _).setCell (p := ⟨_, _, none⟩) hsz1 _) hB.size).kept (by repeat' (first | (with_reducible exact Below.refl _ _) | (with_reducible assumption) | (with_reducible refine kept_alloc ?_ _) | (with_reducible refine kept_drewN ?_ _) | (with_reducible refine Below.drew ?_) | (with_reducible refine Below.setCell ?_ (by first | omega | (simp; omega) | (simp; done)) _) | (refine kept_trans ?_ (by with_reducible assumption)))), ((hB0.setCell (p := ⟨_, _, none⟩) (Nat.le_succ _) _).setCell (p := ⟨_, _, none⟩) (Nat.le_succ _) _).drew⟩

set_option maxHeartbeats 4000000 in
theorem enotall_any (ep : Int) (l : List Int) (p : Option Addr) (k : Nat) (w : World) (hl : Sl w 1 intC l (.slice p l.length k)) (hm : l.length ≤ 999999) :
    Calls Try.prog 12 #[.agg #[.int .i64 ep, .slice p l.length k]] w (RetEL w (ntE ep l) (ntL l.length ep l) (ntT l.length ep l)) := by
  have H := Lib.hid hl
  clear hl
  obtain ⟨E, hE⟩ : ∃ E, ntE ep l = E := ⟨_, rfl⟩
  obtain ⟨R, hR⟩ : ∃ R, ntL l.length ep l = R := ⟨_, rfl⟩
  obtain ⟨T, hT⟩ : ∃ T, ntT l.length ep l = T := ⟨_, rfl⟩
  obtain ⟨N, hN⟩ : ∃ N, l.length = N := ⟨_, rfl⟩
  rw [hE, hR, hT]
  have hNo : ∀ (W : World) (lb : Array Value), Sl W 1 intC l (.slice p N k) → Tells 31 lb (fun x => decide (x < (N : Int))) W → Calls Try.prog 20 #[.agg #[.int .i64 ep, .slice p N k], .func (.func 31) #[] lb] W (RetEL W E R T) := fun W lb h1 h2 => by
    subst hN; exact hE ▸ hR ▸ hT ▸ enotice_any ep l l.length p k W lb h1 hm hm h2
  have HN := Lib.hid hNo
  have HH : Hid (Sl w 1 intC l (.slice p N k)) := hN ▸ H
  rw [hN] at hm ⊢
  clear hNo hE hR hT H hN
  go_enter Try.func12, Try.ntmps12
  go_wp2
  obtain ⟨V, hV⟩ : ∃ V, (w.alloc (.cells #[.int .i64 ep, .slice p N k] 24)).alloc (.cells #[.int .i64 0, .slice none 0 0] 24) = V := ⟨_, rfl⟩
  have hcs : CellsAt V [(w.heap.size, 0, .int .i64 ep), (w.heap.size, 1, .slice p N k), (w.heap.size + 1, 0, .int .i64 0), (w.heap.size + 1, 1, .slice none 0 0)] := by rw [← hV]; (simp only [CellsAt]; (repeat' (first | exact trivial | (refine And.intro ?_ ?_))); all_goals (first | (focus ((try simp only [World.size_setCell, World.size_alloc]); omega)) | (repeat (first | rfl | assumption | (refine (World.cell?_alloc_past _ _ _ ?_).trans ?_; focus ((try simp only [World.size_setCell, World.size_alloc]); omega)) | (refine (World.cell?_alloc_at _ _ _ _ ?_).trans ?_; focus ((try simp only [World.size_setCell, World.size_alloc]); done)) | (refine (World.cell?_setCell_other _ _ _ _ ?_).trans ?_; focus (simp; done)) | (refine (World.cell?_setCell_other _ _ _ _ ?_).trans ?_; focus (simp; omega)) | (refine World.cell?_setCell_same' _ _ _ ?_; focus (simp; done))))))
  have hB : Below w.heap.size w V := by rw [← hV]; repeat' (first | (with_reducible exact Below.refl _ _) | (with_reducible assumption) | (with_reducible refine kept_alloc ?_ _) | (with_reducible refine kept_drewN ?_ _) | (with_reducible refine Below.drew ?_) | (with_reducible refine Below.setCell ?_ (by first | omega | (simp; omega) | (simp; done)) _) | (refine kept_trans ?_ (by with_reducible assumption)))
  have hz : V.heap.size = w.heap.size + 2 := by rw [← hV]; simp
  have hfr : ∀ j, V.frozen? ⟨w.heap.size + 1, j, none⟩ = false := by intro j; rw [← hV]; exact World.frozen?_alloc_at _ _ _ _ (by simp)
  rw [hV]
  clear hV
  have HL := Lib.hid (HH.out.kept hB)
  have hsz : w.heap.size < V.heap.size := by omega
  have hsz1 : w.heap.size + 1 < V.heap.size := by omega
  have hq0 := hcs.1.2; have hq1 := hcs.2.1.2; have hq2 := hcs.2.2.1.2; have hq3 := hcs.2.2.2.1.2; have hz0 := hcs.1.1; have hz1 := hcs.2.2.1.1
  have hzz := Lib.hid hz
  clear hz
  go_region_held3 (fun w' => w'.cell? ⟨w.heap.size, 0, none⟩ = some (.int .i64 ep) ∧ w'.cell? ⟨w.heap.size, 1, none⟩ = some (.slice p N k))
    (first
      | (go_split_ands; refine ⟨?_, ?_⟩ <;> first | (with_reducible assumption) | (with_reducible (refine (World.cell?_alloc_past _ _ _ (by with_reducible assumption)).trans ?_; assumption)) | (with_reducible (refine (set2_far _ _ _ _ (by with_reducible assumption)).trans ?_; assumption)))
      | go_keep)
    ((first
      | (go_at_call 21; refine (eupto_any N _).mono ?_; rintro e wx ⟨lb, rfl, hTx, hgx⟩; have hgV : Below V.heap.size V wx := kept_trans (by repeat' (first | (with_reducible exact Below.refl _ _) | (with_reducible assumption) | (with_reducible refine kept_alloc ?_ _) | (with_reducible refine kept_drewN ?_ _) | (with_reducible refine Below.drew ?_) | (with_reducible refine Below.setCell ?_ (by first | omega | (simp; omega) | (simp; done)) _) | (refine kept_trans ?_ (by with_reducible assumption)))) hgx; have s0 := (hgV.cell (p := ⟨w.heap.size, 0, none⟩) hsz).trans hq0; have s1 := (hgV.cell (p := ⟨w.heap.size, 1, none⟩) hsz).trans hq1; have hsx : w.heap.size < wx.heap.size := Nat.lt_of_lt_of_le hsz hgV.size)
      | (go_at_call 20; refine (HN.out _ lb (HL.out.kept (by repeat' (first | (with_reducible exact Below.refl _ _) | (with_reducible assumption) | (with_reducible refine kept_alloc ?_ _) | (with_reducible refine kept_drewN ?_ _) | (with_reducible refine Below.drew ?_) | (with_reducible refine Below.setCell ?_ (by first | omega | (simp; omega) | (simp; done)) _) | (refine kept_trans ?_ (by with_reducible assumption))))) (hTx.kept (by repeat' (first | (with_reducible exact Below.refl _ _) | (with_reducible assumption) | (with_reducible refine kept_alloc ?_ _) | (with_reducible refine kept_drewN ?_ _) | (with_reducible refine Below.drew ?_) | (with_reducible refine Below.setCell ?_ (by first | omega | (simp; omega) | (simp; done)) _) | (refine kept_trans ?_ (by with_reducible assumption)))))).mono ?_; rintro e wy ⟨p3, q3, k3, k4, rfl, hO3, hO4, hgy⟩; have hgW : Below V.heap.size V wy := kept_trans (by repeat' (first | (with_reducible exact Below.refl _ _) | (with_reducible assumption) | (with_reducible refine kept_alloc ?_ _) | (with_reducible refine kept_drewN ?_ _) | (with_reducible refine Below.drew ?_) | (with_reducible refine Below.setCell ?_ (by first | omega | (simp; omega) | (simp; done)) _) | (refine kept_trans ?_ (by with_reducible assumption)))) hgy; have t0 := (hgW.cell (p := ⟨w.heap.size, 0, none⟩) hsz).trans hq0; have t1 := (hgW.cell (p := ⟨w.heap.size, 1, none⟩) hsz).trans hq1; have t2 := (hgW.cell (p := ⟨w.heap.size + 1, 0, none⟩) hsz1).trans hq2; have t3 := (hgW.cell (p := ⟨w.heap.size + 1, 1, none⟩) hsz1).trans hq3; have tf : ∀ j, wy.frozen? ⟨w.heap.size + 1, j, none⟩ = false := fun j => (hgW.frozen (p := ⟨w.heap.size + 1, j, none⟩) hsz1).trans (hfr j); have hsy : w.heap.size < w.heap.size + 1 := Nat.lt_succ_self _)))
  all_goals go_wp2
  all_goals
    refine bodyPost_ret (v := .tuple #[.agg #[.int .i64 E, .slice p3 R.length k3], .slice q3 T.length k4]) (by simp [results, Try.results12, go_sem, *]) rfl ?_
    have hs := hgV.size
    have hw : w.heap.size + 1 < wx.heap.size := by omega
    have h0 : Below w.heap.size w wy := hB.trans (hgW.mono hB.size)
    exact ⟨p3, q3, k3, k4, rfl, Ow.mono ((hO3.setCell (p := ⟨_, _, none⟩) hw _).setCell (p := ⟨_, _, none⟩) hw _) (by omega), Ow.mono ((hO4.setCell (p := ⟨_, _, none⟩) hw _).setCell (p := ⟨_, _, none⟩) hw _) (by omega), (h0.setCell (p := ⟨_, _, none⟩) (Nat.le_succ _) _).setCell (p := ⟨_, _, none⟩) (Nat.le_succ _) _⟩
end Go.Proofs.Ytlgldniepcjfoaa
