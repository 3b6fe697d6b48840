/- Layer 3: FifoAll holds for every input. -/
import Derived.Test.YtomnhjcoonbajaaFifo4
import Derived.IntWalk
namespace Go.Proofs.Ytomnhjcoonbajaa
set_option linter.unusedVariables false
set_option linter.unusedSimpArgs false
open Go.ChangeShapes Go.WideShapes Go.ChangeAt Go.RowKit

theorem Sl.takeTo {α : Type} {W : World} {k : Nat} {enc : α → List Value} {xs : List α} {p : Option Addr} {n c : Nat} (h : Sl W k enc xs (.slice p n c)) (i : Nat) (hi : i ≤ xs.length) : Sl W k enc (xs.take i) (.slice p i c) := by
  obtain ⟨p', c', hv, h1, h2, h3, h4⟩ := h.is
  cases hv
  have hl : (xs.take i).length = i := by simp; omega
  refine ⟨p, c, by rw [hl], by rw [hl]; omega, h2, h3, fun hne => ?_⟩
  obtain ⟨b, o, hp, hb, hc⟩ := h4 (by intro h; subst h; simp at hne)
  refine ⟨b, o, hp, hb, fun j x hx => hc j x ?_⟩
  rw [List.getElem?_take] at hx
  split at hx
  · exact hx
  · cases hx
theorem pall_len {a : Qu} {es : List En} {r : Qu × Nat} {n : Nat} (hr : a.all es = r) (hn0 : es.length = n) (p pl : Option Addr) (k kl : Nat) (w : World) (hl : Sl w 1 intC a.vals (.slice p a.vals.length k)) (hes : Sl w 5 En.cells es (.slice pl n kl)) (hm : a.vals.length ≤ 200) (hn : n ≤ 200) :
    Calls Try.prog 14 #[.agg #[.slice p a.vals.length k, .int .i64 a.cap, .int .i64 a.pol, .int .i64 a.mode], .slice pl n kl] w (RetA2 w r) := by
  subst hn0; exact hr ▸ pall_far a es p pl k kl w hl hes hm hn

theorem far_next {wr wx : World} {L : List Int} {p1 : Option Addr} {l : List Int} {ap : Option Addr} {V : World} (hs : wr.heap.size ≤ V.heap.size) (h : ∀ x, p1 = some x → V.heap.size ≤ x.block) : L ≠ [] → ∀ x, p1 = some x → (l ≠ [] ∧ ∃ y, ap = some y ∧ x.block = y.block) ∨ V.heap.size ≤ x.block := fun _ x hx => .inr (h x hx)

theorem all_vals_len : ∀ (es : List En) (a : Qu), (a.all es).1.vals.length ≤ a.vals.length + es.length
  | [], a => by simp [Qu.all]
  | e :: l, a => by
    cases h : (a.tell e).2
    · rw [all_cons_no h]; simp
    · rw [all_cons_yes h]
      have := all_vals_len l (a.tell e).1
      have := tell_len a e
      simp only [List.length_cons]; omega


set_option maxRecDepth 100000 in
set_option maxHeartbeats 8000000 in
theorem fifoAll_walk (q : Qu) (qp : Option Addr) (qk : Nat) (hq : q.ok) (hqm : q.vals.length ≤ maxLen) (l : List En) (lv : Value) (hl : ∀ x ∈ l, x.ok) (hlm : l.length ≤ maxLen) (cut : Int) (hcut : 0 ≤ cut ∧ cut ≤ 255) (w : World) (hqs : Sl w 1 intC q.vals (.slice qp q.vals.length qk)) (hls : Sl w En.size En.cells l lv) :
    Calls Try.prog 7 #[.agg #[.slice qp q.vals.length qk, .int .i64 q.cap, .int .i64 q.pol, .int .i64 q.mode], lv, .int .u8 cut] w fun e w' => e = .returned (.bool true) ∧ Kept w w' := by
  by_cases a1 : (100 : Int) < (q.vals.length : Int)
  · obtain ⟨lp, lk, rfl, _⟩ := hls.is
    go_enter Try.func7, Try.ntmps7; go_wp2_with fail; refine (fifoawake_any _).mono ?_; rintro e wy ⟨rfl, hgy⟩; have hcs : CellsAt wy [(w.heap.size, 0, .slice qp q.vals.length qk), (w.heap.size, 1, .int .i64 q.cap), (w.heap.size, 2, .int .i64 q.pol), (w.heap.size, 3, .int .i64 q.mode)] := cells_keep hgy (by (simp only [CellsAt]; (repeat' (first | exact trivial | (refine And.intro ?_ ?_))); all_goals (first | (focus ((try simp only [World.size_setCell, World.size_alloc]); omega)) | (repeat (first | rfl | assumption | (refine (World.cell?_alloc_past _ _ _ ?_).trans ?_; focus ((try simp only [World.size_setCell, World.size_alloc]); omega)) | (refine (World.cell?_alloc_at _ _ _ _ ?_).trans ?_; focus ((try simp only [World.size_setCell, World.size_alloc]); done)) | (refine (World.cell?_setCell_other _ _ _ _ ?_).trans ?_; focus (simp; done)) | (refine (World.cell?_setCell_other _ _ _ _ ?_).trans ?_; focus (simp; omega)) | (refine World.cell?_setCell_same' _ _ _ ?_; focus (first | (simp; done) | (simp [*]; done)))))))); have hq0 := hcs.1.2; have hq1 := hcs.2.1.2; have hq2 := hcs.2.2.1.2; have hq3 := hcs.2.2.2.1.2; have hz0 := hcs.1.1; go_wp2; all_goals (go_ret; exact ⟨rfl, by repeat' (first | (with_reducible exact Below.refl _ _) | (with_reducible assumption) | (with_reducible refine kept_alloc ?_ _) | (with_reducible refine kept_drewN ?_ _) | (with_reducible refine Below.drew ?_) | (with_reducible refine Below.setCell ?_ (by first | omega | (simp; omega) | (simp; done)) _) | (refine kept_trans ?_ (by with_reducible assumption)))⟩)
  by_cases a2 : (100 : Int) < (l.length : Int)
  · obtain ⟨lp, lk, rfl, _⟩ := hls.is
    go_enter Try.func7, Try.ntmps7; go_wp2_with fail; refine (fifoawake_any _).mono ?_; rintro e wy ⟨rfl, hgy⟩; have hcs : CellsAt wy [(w.heap.size, 0, .slice qp q.vals.length qk), (w.heap.size, 1, .int .i64 q.cap), (w.heap.size, 2, .int .i64 q.pol), (w.heap.size, 3, .int .i64 q.mode)] := cells_keep hgy (by (simp only [CellsAt]; (repeat' (first | exact trivial | (refine And.intro ?_ ?_))); all_goals (first | (focus ((try simp only [World.size_setCell, World.size_alloc]); omega)) | (repeat (first | rfl | assumption | (refine (World.cell?_alloc_past _ _ _ ?_).trans ?_; focus ((try simp only [World.size_setCell, World.size_alloc]); omega)) | (refine (World.cell?_alloc_at _ _ _ _ ?_).trans ?_; focus ((try simp only [World.size_setCell, World.size_alloc]); done)) | (refine (World.cell?_setCell_other _ _ _ _ ?_).trans ?_; focus (simp; done)) | (refine (World.cell?_setCell_other _ _ _ _ ?_).trans ?_; focus (simp; omega)) | (refine World.cell?_setCell_same' _ _ _ ?_; focus (first | (simp; done) | (simp [*]; done)))))))); have hq0 := hcs.1.2; have hq1 := hcs.2.1.2; have hq2 := hcs.2.2.1.2; have hq3 := hcs.2.2.2.1.2; have hz0 := hcs.1.1; go_wp2; all_goals (go_ret; exact ⟨rfl, by repeat' (first | (with_reducible exact Below.refl _ _) | (with_reducible assumption) | (with_reducible refine kept_alloc ?_ _) | (with_reducible refine kept_drewN ?_ _) | (with_reducible refine Below.drew ?_) | (with_reducible refine Below.setCell ?_ (by first | omega | (simp; omega) | (simp; done)) _) | (refine kept_trans ?_ (by with_reducible assumption)))⟩)
  have hlen : q.vals.length ≤ 100 := by omega
  have hlen2 : l.length ≤ 100 := by omega
  have hls5 : Sl w 5 En.cells l lv := hls
  obtain ⟨lp, lk, rfl, hlk1, hlk2, hln, hec⟩ := hls5.is
  obtain ⟨kk, hkk⟩ : ∃ kk : Nat, cut % ((l.length : Int) + 1) = (kk : Int) := ⟨(cut % ((l.length : Int) + 1)).toNat, by have := Int.emod_nonneg cut (show (l.length : Int) + 1 ≠ 0 by omega); omega⟩
  have hkl : kk ≤ l.length := by have := Int.emod_lt_of_pos cut (show (0 : Int) < (l.length : Int) + 1 by omega); omega
  have hcut1 : 0 ≤ cut := hcut.1
  have hcut2 : cut ≤ 255 := hcut.2
  have hor := all_order l q
  have hvl := all_vals_len l q
  have hort := all_order (l.take kk) q
  have hvlt := all_vals_len (l.take kk) q
  have hshort := all_take_short kk l q
  have hwhole := all_take_whole kk l q
  have hstops := all_stops l q
  have htl : (l.take kk).length = kk := by simp; omega
  rw [htl] at hort hvlt
  obtain ⟨⟨x, n⟩, hxr⟩ : ∃ r, q.all l = r := ⟨_, rfl⟩
  obtain ⟨⟨y, m⟩, hyr⟩ : ∃ r, q.all (l.take kk) = r := ⟨_, rfl⟩
  have hxrh := Lib.hid hxr
  have hyrh := Lib.hid hyr
  rw [hxr] at hor hvl hshort hwhole
  rw [hyr] at hort hvlt hshort hwhole
  simp only at hor hvl hort hvlt hshort hwhole
  have hstopsh : Hid (∀ h : n < l.length, (x.tell (l[n]'h)).2 = false) := Lib.hid (fun h => by
    have : ∀ (r : Qu × Nat) (_ : q.all l = r) (h : r.2 < l.length), (r.1.tell (l[r.2]'h)).2 = false := fun r hr h => by subst hr; exact hstops h
    exact this (x, n) hxr h)
  have hn1 : n ≤ l.length := hor.1
  have hm1 : m ≤ kk := hort.1
  have hshorth := Lib.hid hshort
  have hwholeh := Lib.hid hwhole
  have hkkh := Lib.hid hkk
  have hech := Lib.hid hec
  have htlh := Lib.hid htl
  have i1 : (0 : Int) ≤ (kk : Int) := by omega
  have i2 : (kk : Int) ≤ (l.length : Int) := by omega
  have i3 : (l.length : Int) ≤ (lk : Int) := by omega
  have i4 : (kk : Int) ≤ (lk : Int) := by omega
  clear hxr hyr hstops hshort hwhole hor hort htl a1 a2 hec
  go_enter Try.func7, Try.ntmps7; go_wp2_with fail; refine (fifoawake_any _).mono ?_; rintro e wy ⟨rfl, hgy⟩; have hcs : CellsAt wy [(w.heap.size, 0, .slice qp q.vals.length qk), (w.heap.size, 1, .int .i64 q.cap), (w.heap.size, 2, .int .i64 q.pol), (w.heap.size, 3, .int .i64 q.mode)] := cells_keep hgy (by (simp only [CellsAt]; (repeat' (first | exact trivial | (refine And.intro ?_ ?_))); all_goals (first | (focus ((try simp only [World.size_setCell, World.size_alloc]); omega)) | (repeat (first | rfl | assumption | (refine (World.cell?_alloc_past _ _ _ ?_).trans ?_; focus ((try simp only [World.size_setCell, World.size_alloc]); omega)) | (refine (World.cell?_alloc_at _ _ _ _ ?_).trans ?_; focus ((try simp only [World.size_setCell, World.size_alloc]); done)) | (refine (World.cell?_setCell_other _ _ _ _ ?_).trans ?_; focus (simp; done)) | (refine (World.cell?_setCell_other _ _ _ _ ?_).trans ?_; focus (simp; omega)) | (refine World.cell?_setCell_same' _ _ _ ?_; focus (first | (simp; done) | (simp [*]; done)))))))); have hq0 := hcs.1.2; have hq1 := hcs.2.1.2; have hq2 := hcs.2.2.1.2; have hq3 := hcs.2.2.2.1.2; have hz0 := hcs.1.1
  have hB0 : Below w.heap.size w wy := kept_trans (by repeat' (first | (with_reducible exact Below.refl _ _) | (with_reducible assumption) | (with_reducible refine kept_alloc ?_ _) | (with_reducible refine kept_drewN ?_ _) | (with_reducible refine Below.drew ?_) | (with_reducible refine Below.setCell ?_ (by first | omega | (simp; omega) | (simp; done)) _) | (refine kept_trans ?_ (by with_reducible assumption)))) hgy
  go_wp2_with fail
  refine (pall_len hxrh.out rfl qp lp qk lk _ (hqs.kept (by repeat' (first | (with_reducible exact Below.refl _ _) | (with_reducible assumption) | (with_reducible refine kept_alloc ?_ _) | (with_reducible refine kept_drewN ?_ _) | (with_reducible refine Below.drew ?_) | (with_reducible refine Below.setCell ?_ (by first | omega | (simp; omega) | (simp; done)) _) | (refine kept_trans ?_ (by with_reducible assumption))))) (hls5.kept (by repeat' (first | (with_reducible exact Below.refl _ _) | (with_reducible assumption) | (with_reducible refine kept_alloc ?_ _) | (with_reducible refine kept_drewN ?_ _) | (with_reducible refine Below.drew ?_) | (with_reducible refine Below.setCell ?_ (by first | omega | (simp; omega) | (simp; done)) _) | (refine kept_trans ?_ (by with_reducible assumption))))) (by omega) (by omega)).mono ?_
  rintro e wa ⟨p1, k1, rfl, hS1, hga, -⟩
  have hcs := cells_keep hga hcs
  clear hq0 hq1 hq2 hq3 hz0
  have hq0 := hcs.1.2; have hq1 := hcs.2.1.2; have hq2 := hcs.2.2.1.2; have hq3 := hcs.2.2.2.1.2; have hz0 := hcs.1.1
  have hBa : Below w.heap.size w wa := by repeat' (first | (with_reducible exact Below.refl _ _) | (with_reducible assumption) | (with_reducible refine kept_alloc ?_ _) | (with_reducible refine kept_drewN ?_ _) | (with_reducible refine Below.drew ?_) | (with_reducible refine Below.setCell ?_ (by first | omega | (simp; omega) | (simp; done)) _) | (refine kept_trans ?_ (by with_reducible assumption)))
  have hcsV : CellsAt (wa.alloc (.cells #[.slice p1 x.vals.length k1, .int .i64 x.cap, .int .i64 x.pol, .int .i64 x.mode] 24)) [(w.heap.size, 0, .slice qp q.vals.length qk), (w.heap.size, 1, .int .i64 q.cap), (w.heap.size, 2, .int .i64 q.pol), (w.heap.size, 3, .int .i64 q.mode), (wa.heap.size, 0, .slice p1 x.vals.length k1), (wa.heap.size, 1, .int .i64 x.cap), (wa.heap.size, 2, .int .i64 x.pol), (wa.heap.size, 3, .int .i64 x.mode)] := by (simp only [CellsAt]; (repeat' (first | exact trivial | (refine And.intro ?_ ?_))); all_goals (first | (focus ((try simp only [World.size_setCell, World.size_alloc]); omega)) | (repeat (first | rfl | assumption | (refine (World.cell?_alloc_past _ _ _ ?_).trans ?_; focus ((try simp only [World.size_setCell, World.size_alloc]); omega)) | (refine (World.cell?_alloc_at _ _ _ _ ?_).trans ?_; focus ((try simp only [World.size_setCell, World.size_alloc]); done)) | (refine (World.cell?_setCell_other _ _ _ _ ?_).trans ?_; focus (simp; done)) | (refine (World.cell?_setCell_other _ _ _ _ ?_).trans ?_; focus (simp; omega)) | (refine World.cell?_setCell_same' _ _ _ ?_; focus (first | (simp; done) | (simp [*]; done)))))))
  have hBV : Below w.heap.size w (wa.alloc (.cells #[.slice p1 x.vals.length k1, .int .i64 x.cap, .int .i64 x.pol, .int .i64 x.mode] 24)) := by repeat' (first | (with_reducible exact Below.refl _ _) | (with_reducible assumption) | (with_reducible refine kept_alloc ?_ _) | (with_reducible refine kept_drewN ?_ _) | (with_reducible refine Below.drew ?_) | (with_reducible refine Below.setCell ?_ (by first | omega | (simp; omega) | (simp; done)) _) | (refine kept_trans ?_ (by with_reducible assumption)))
  have hS1V := hS1.kept (W' := (wa.alloc (.cells #[.slice p1 x.vals.length k1, .int .i64 x.cap, .int .i64 x.pol, .int .i64 x.mode] 24))) (by repeat' (first | (with_reducible exact Below.refl _ _) | (with_reducible assumption) | (with_reducible refine kept_alloc ?_ _) | (with_reducible refine kept_drewN ?_ _) | (with_reducible refine Below.drew ?_) | (with_reducible refine Below.setCell ?_ (by first | omega | (simp; omega) | (simp; done)) _) | (refine kept_trans ?_ (by with_reducible assumption))))
  have hwaw : w.heap.size ≤ wa.heap.size := by omega
  clear hq0 hq1 hq2 hq3 hz0
  go_wp2
  generalize (wa.alloc (.cells #[.slice p1 x.vals.length k1, .int .i64 x.cap, .int .i64 x.pol, .int .i64 x.mode] 24)) = V at hcsV hBV hS1V ⊢
  have hcs := hcsV
  have hq0 := hcs.1.2; have hq1 := hcs.2.1.2; have hq2 := hcs.2.2.1.2; have hq3 := hcs.2.2.2.1.2; have hq4 := hcs.2.2.2.2.1.2; have hq5 := hcs.2.2.2.2.2.1.2; have hq6 := hcs.2.2.2.2.2.2.1.2; have hq7 := hcs.2.2.2.2.2.2.2.1.2; have hz0 := hcs.1.1; have hz1 := hcs.2.2.2.2.1.1
  have hcsVh := Lib.hid hcsV
  clear hS1 hcs hcsV hBa hga
  generalize wa.heap.size = xa at hwaw hq4 hq5 hq6 hq7 hz1 hcsVh ⊢
  --CASES
  have hqV := hqs.kept hBV
  rcases Nat.lt_or_ge 0 l.length with hl0 | hl0
  case inl =>
    obtain ⟨b, o, rfl, hb, hcl⟩ := hech.out (by intro h; subst h; simp at hl0)
    have hclh := Lib.hid hcl
    clear hcl
    by_cases hkc : kk = lk
    · skip
      subst hkc
      have hl0' : kk = l.length := by omega
      have hSd : Hid (Sl w 5 En.cells (l.drop kk) (.slice (some ⟨b, o, none⟩) 0 0)) := Lib.hid (by rw [hl0']; simp; exact ⟨some ⟨b, o, none⟩, 0, rfl, by simp, by simp, (fun h => by cases h), fun h => absurd rfl h⟩)
      have hdl : Hid ((l.drop kk).length = 0) := Lib.hid (by rw [hl0']; simp)
      clear hl0'
      go_region_held3 (fun w' => w'.cell? ⟨w.heap.size, 0, none⟩ = some (.slice qp q.vals.length qk) ∧ w'.cell? ⟨w.heap.size, 1, none⟩ = some (.int .i64 q.cap) ∧ w'.cell? ⟨w.heap.size, 2, none⟩ = some (.int .i64 q.pol) ∧ w'.cell? ⟨w.heap.size, 3, none⟩ = some (.int .i64 q.mode)) (first | (go_split_ands; refine ⟨?_, ?_, ?_, ?_⟩ <;> first | (with_reducible assumption) | (with_reducible (refine (World.cell?_alloc_past _ _ _ (by with_reducible assumption)).trans ?_; assumption)) | (with_reducible (refine (set4_far _ _ _ _ _ _ (by with_reducible assumption)).trans ?_; assumption))) | go_keep) ((go_at_call 14; refine (pall_len hyrh.out htlh.out qp _ qk _ _ (hqs.kept (by repeat' (first | (with_reducible exact Below.refl _ _) | (with_reducible assumption) | (with_reducible refine kept_alloc ?_ _) | (with_reducible refine kept_drewN ?_ _) | (with_reducible refine Below.drew ?_) | (with_reducible refine Below.setCell ?_ (by first | omega | (simp; omega) | (simp; done)) _) | (refine kept_trans ?_ (by with_reducible assumption))))) ((hls5.takeTo kk hkl).kept (by repeat' (first | (with_reducible exact Below.refl _ _) | (with_reducible assumption) | (with_reducible refine kept_alloc ?_ _) | (with_reducible refine kept_drewN ?_ _) | (with_reducible refine Below.drew ?_) | (with_reducible refine Below.setCell ?_ (by first | omega | (simp; omega) | (simp; done)) _) | (refine kept_trans ?_ (by with_reducible assumption))))) (by omega) (by omega)).mono ?_; rintro e wx ⟨p2, k2, rfl, hS2, hgx, hf2⟩; have hgw : Below V.heap.size V wx := kept_trans (by repeat' (first | (with_reducible exact Below.refl _ _) | (with_reducible assumption) | (with_reducible refine kept_alloc ?_ _) | (with_reducible refine kept_drewN ?_ _) | (with_reducible refine Below.drew ?_) | (with_reducible refine Below.setCell ?_ (by first | omega | (simp; omega) | (simp; done)) _) | (refine kept_trans ?_ (by with_reducible assumption)))) hgx; have s0 := (hgw.cell (p := ⟨w.heap.size, 0, none⟩) hz0).trans hq0; have s1 := (hgw.cell (p := ⟨w.heap.size, 1, none⟩) hz0).trans hq1; have s2 := (hgw.cell (p := ⟨w.heap.size, 2, none⟩) hz0).trans hq2; have s3 := (hgw.cell (p := ⟨w.heap.size, 3, none⟩) hz0).trans hq3; have hzw : w.heap.size < wx.heap.size := (by have := hgw.size; omega); (first | (have hlate : Kept V.drew wx := (by with_reducible exact hgx)) | (obtain ⟨⟨n0, n1, n2, n3⟩, ⟨nf0, nf1, nf2, nf3⟩, hzn⟩ := fresh_nil hgx))))
      all_goals
        first
          | (have hN := next_late (wr := V) (l := q.vals) (ap := none) hgx hS2 (fun _ a ha => .inr (hf2 a ha)); generalize wx.alloc (.cells #[.slice p2 y.vals.length k2, .int .i64 y.cap, .int .i64 y.pol, .int .i64 y.mode] 24) = W at hN ⊢; generalize wx.heap.size = yb at hN ⊢)
          | (have hN := next_early (wr := V) hqV hgx hS2 (fun _ a ha => .inr (hf2 a ha)); generalize ((((wx.setCell ⟨V.heap.size, 0, none⟩ (.slice p2 y.vals.length k2)).setCell ⟨V.heap.size, 1, none⟩ (.int .i64 y.cap)).setCell ⟨V.heap.size, 2, none⟩ (.int .i64 y.pol)).setCell ⟨V.heap.size, 3, none⟩ (.int .i64 y.mode)) = W at hN ⊢; generalize V.heap.size = yb at hN ⊢)
      all_goals
        obtain ⟨⟨y0, y1, y2, y3⟩, hgW, hSW, -, hyb, hys⟩ := hN
        clear hgx hS2 hf2 hgw s0 s1 s2 s3 hzw
        have t0 := (hgW.cell (p := ⟨xa, 0, none⟩) hz1).trans hq4
        have t1 := (hgW.cell (p := ⟨xa, 1, none⟩) hz1).trans hq5
        have t2 := (hgW.cell (p := ⟨xa, 2, none⟩) hz1).trans hq6
        have t3 := (hgW.cell (p := ⟨xa, 3, none⟩) hz1).trans hq7
        have hxW : xa < W.heap.size := by have := hgW.size; omega
        have hBW : Below w.heap.size w W := hBV.trans (hgW.mono hBV.size)
        have hS1W := hS1V.kept hgW
        clear hq0 hq1 hq2 hq3 hq4 hq5 hq6 hq7
        by_cases hmk : m < kk
        · have f1 : decide ((m : Int) < (kk : Int)) = true := decide_eq_true (by omega)
          have f2 : ((n : Int) == (m : Int)) = true := by have := congrArg Prod.snd (hshorth.out hmk hkl); simp at this; simp; omega
          have hxy : x = y := congrArg Prod.fst (hshorth.out hmk hkl)
          have hxyh := Lib.hid hxy
          clear hxy
          (try simp only [Int.ofNat_zero] at f1)
          go_wp2_with fail
          refine (rsame_any x y p1 p2 k1 k2 _ (hS1W.kept (by repeat' (first | (with_reducible exact Below.refl _ _) | (with_reducible assumption) | (with_reducible refine kept_alloc ?_ _) | (with_reducible refine kept_drewN ?_ _) | (with_reducible refine Below.drew ?_) | (with_reducible refine Below.setCell ?_ (by first | omega | (simp; omega) | (simp; done)) _) | (refine kept_trans ?_ (by with_reducible assumption))))) (hSW.kept (by repeat' (first | (with_reducible exact Below.refl _ _) | (with_reducible assumption) | (with_reducible refine kept_alloc ?_ _) | (with_reducible refine kept_drewN ?_ _) | (with_reducible refine Below.drew ?_) | (with_reducible refine Below.setCell ?_ (by first | omega | (simp; omega) | (simp; done)) _) | (refine kept_trans ?_ (by with_reducible assumption))))) (by omega)).mono ?_
          rintro e wz ⟨rfl, hgz⟩
          rw [show sameB x y = true by rw [← hxyh.out]; exact same_refl x]
          go_wp2
          all_goals (go_ret; exact ⟨rfl, by repeat' (first | (with_reducible exact Below.refl _ _) | (with_reducible assumption) | (with_reducible refine kept_alloc ?_ _) | (with_reducible refine kept_drewN ?_ _) | (with_reducible refine Below.drew ?_) | (with_reducible refine Below.setCell ?_ (by first | omega | (simp; omega) | (simp; done)) _) | (refine kept_trans ?_ (by with_reducible assumption)))⟩)
        · have f1 : decide ((m : Int) < (kk : Int)) = false := decide_eq_false (by omega)
          (try simp only [Int.ofNat_zero] at f1)
          obtain ⟨⟨z, oo⟩, hzr⟩ : ∃ r, y.all (l.drop kk) = r := ⟨_, rfl⟩
          have hw := hwholeh.out (by omega) hkl
          rw [hzr] at hw
          have hxz : x = z := congrArg Prod.fst hw
          have hno : n = kk + oo := congrArg Prod.snd hw
          have hzrh := Lib.hid hzr
          have hxzh := Lib.hid hxz
          have hnoh := Lib.hid hno
          clear hzr hxz hw hno
          go_wp2
          go_region_held3 (fun w' => w'.cell? ⟨yb, 0, none⟩ = some (.slice p2 y.vals.length k2) ∧ w'.cell? ⟨yb, 1, none⟩ = some (.int .i64 y.cap) ∧ w'.cell? ⟨yb, 2, none⟩ = some (.int .i64 y.pol) ∧ w'.cell? ⟨yb, 3, none⟩ = some (.int .i64 y.mode)) (first | (go_split_ands; refine ⟨?_, ?_, ?_, ?_⟩ <;> first | (with_reducible assumption) | (with_reducible (refine (World.cell?_alloc_past _ _ _ (by with_reducible assumption)).trans ?_; assumption)) | (with_reducible (refine (set4_far _ _ _ _ _ _ (by with_reducible assumption)).trans ?_; assumption))) | go_keep) ((go_at_call 14; refine (pall_len hzrh.out hdl.out p2 _ k2 _ _ (hSW.kept (by repeat' (first | (with_reducible exact Below.refl _ _) | (with_reducible assumption) | (with_reducible refine kept_alloc ?_ _) | (with_reducible refine kept_drewN ?_ _) | (with_reducible refine Below.drew ?_) | (with_reducible refine Below.setCell ?_ (by first | omega | (simp; omega) | (simp; done)) _) | (refine kept_trans ?_ (by with_reducible assumption))))) (hSd.out.kept (by repeat' (first | (with_reducible exact Below.refl _ _) | (with_reducible assumption) | (with_reducible refine kept_alloc ?_ _) | (with_reducible refine kept_drewN ?_ _) | (with_reducible refine Below.drew ?_) | (with_reducible refine Below.setCell ?_ (by first | omega | (simp; omega) | (simp; done)) _) | (refine kept_trans ?_ (by with_reducible assumption))))) (by omega) (by omega)).mono ?_; rintro e wx ⟨p3, k3, rfl, hS3, hgx, hf3⟩; have hgw : Below W.heap.size W wx := kept_trans (by repeat' (first | (with_reducible exact Below.refl _ _) | (with_reducible assumption) | (with_reducible refine kept_alloc ?_ _) | (with_reducible refine kept_drewN ?_ _) | (with_reducible refine Below.drew ?_) | (with_reducible refine Below.setCell ?_ (by first | omega | (simp; omega) | (simp; done)) _) | (refine kept_trans ?_ (by with_reducible assumption)))) hgx; have s0 := (hgw.cell (p := ⟨yb, 0, none⟩) hys).trans y0; have s1 := (hgw.cell (p := ⟨yb, 1, none⟩) hys).trans y1; have s2 := (hgw.cell (p := ⟨yb, 2, none⟩) hys).trans y2; have s3 := (hgw.cell (p := ⟨yb, 3, none⟩) hys).trans y3; have hzw : yb < wx.heap.size := (by have := hgw.size; omega); (first | (have hlate : Kept W.drew wx := (by with_reducible exact hgx)) | (obtain ⟨⟨n0, n1, n2, n3⟩, ⟨nf0, nf1, nf2, nf3⟩, hzn⟩ := fresh_nil hgx))))
          all_goals
            first
              | (have hN := next_late (wr := W) (l := q.vals) (ap := none) hgx hS3 (fun _ a ha => .inr (hf3 a ha)); generalize wx.alloc (.cells #[.slice p3 z.vals.length k3, .int .i64 z.cap, .int .i64 z.pol, .int .i64 z.mode] 24) = X at hN ⊢; generalize wx.heap.size = zb at hN ⊢)
              | (have hN := next_early (wr := W) hSW hgx hS3 (fun _ a ha => .inr (hf3 a ha)); generalize ((((wx.setCell ⟨W.heap.size, 0, none⟩ (.slice p3 z.vals.length k3)).setCell ⟨W.heap.size, 1, none⟩ (.int .i64 z.cap)).setCell ⟨W.heap.size, 2, none⟩ (.int .i64 z.pol)).setCell ⟨W.heap.size, 3, none⟩ (.int .i64 z.mode)) = X at hN ⊢; generalize W.heap.size = zb at hN ⊢)
          all_goals
            obtain ⟨⟨z0, z1, z2, z3⟩, hgX, hSX, -, hzb, hzs⟩ := hN
            clear hgx hS3 hf3 hgw s0 s1 s2 s3 hzw
            have u0 := (hgX.cell (p := ⟨xa, 0, none⟩) hxW).trans t0
            have u1 := (hgX.cell (p := ⟨xa, 1, none⟩) hxW).trans t1
            have u2 := (hgX.cell (p := ⟨xa, 2, none⟩) hxW).trans t2
            have u3 := (hgX.cell (p := ⟨xa, 3, none⟩) hxW).trans t3
            have hxX : xa < X.heap.size := by have := hgX.size; omega
            have hBX : Below w.heap.size w X := hBW.trans (hgX.mono hBW.size)
            have hS1X := hS1W.kept hgX
            clear y0 y1 y2 y3 t0 t1 t2 t3
            have g1 : IntKind.i64.wrap ((kk : Int) + (oo : Int)) = (n : Int) := by rw [IntWalk.i64_in _ (by have := hnoh.out; omega)]; have := hnoh.out; omega
            (try simp only [Int.ofNat_zero, Int.zero_add] at g1)
            have g2 : (0 : Int) ≤ (n : Int) := by omega
            by_cases hnl : n < l.length
            · have e1 : ((n : Int) == (l.length : Int)) = false := by simp; omega
              have e2 : decide ((n : Int) < (l.length : Int)) = true := by simp; omega
              have g3 : (n : Int) < (l.length : Int) := by omega
              have hx := hclh.out n l[n] (List.getElem?_eq_getElem hnl)
              have hst := hstopsh.out hnl
              generalize l[n] = en at hx hst
              have c0 := (hBX.cell (p := ⟨b, _, none⟩) hb).trans (hx 0 (by omega))
              have c1 := (hBX.cell (p := ⟨b, _, none⟩) hb).trans (hx 1 (by omega))
              have c2 := (hBX.cell (p := ⟨b, _, none⟩) hb).trans (hx 2 (by omega))
              have c3 := (hBX.cell (p := ⟨b, _, none⟩) hb).trans (hx 3 (by omega))
              have c4 := (hBX.cell (p := ⟨b, _, none⟩) hb).trans (hx 4 (by omega))
              simp [En.cells] at c0 c1 c2 c3 c4
              clear hx
              have hblw : b < X.heap.size := Nat.lt_of_lt_of_le hb hBX.size
              obtain ⟨⟨r, may⟩, hrr⟩ : ∃ r, x.tell en = r := ⟨_, rfl⟩
              have hmay : may = false := by rw [hrr] at hst; exact hst
              subst hmay
              have hrrh := Lib.hid hrr
              clear hrr hst
              go_wp2
              go_region_held3 (fun w' => w'.cell? ⟨xa, 0, none⟩ = some (.slice p1 x.vals.length k1) ∧ w'.cell? ⟨xa, 1, none⟩ = some (.int .i64 x.cap) ∧ w'.cell? ⟨xa, 2, none⟩ = some (.int .i64 x.pol) ∧ w'.cell? ⟨xa, 3, none⟩ = some (.int .i64 x.mode) ∧ w'.cell? ⟨b, o + n * 5, none⟩ = some (.int .i64 en.th) ∧ w'.cell? ⟨b, o + n * 5 + 1, none⟩ = some (.int .i64 en.ki) ∧ w'.cell? ⟨b, o + n * 5 + 2, none⟩ = some (.int .i64 en.va) ∧ w'.cell? ⟨b, o + n * 5 + 3, none⟩ = some (.int .i64 en.re) ∧ w'.cell? ⟨b, o + n * 5 + 4, none⟩ = some (.int .i64 en.go)) (first | (go_split_ands; refine ⟨?_, ?_, ?_, ?_, ?_, ?_, ?_, ?_, ?_⟩ <;> first | (with_reducible assumption) | (with_reducible (refine (World.cell?_alloc_past _ _ _ (by with_reducible assumption)).trans ?_; assumption)) | (with_reducible (refine (set4_far _ _ _ _ _ _ (by with_reducible assumption)).trans ?_; assumption))) | go_keep) ((go_at_call 11; refine (pdo_any x en p1 k1 _ (hS1X.kept (by repeat' (first | (with_reducible exact Below.refl _ _) | (with_reducible assumption) | (with_reducible refine kept_alloc ?_ _) | (with_reducible refine kept_drewN ?_ _) | (with_reducible refine Below.drew ?_) | (with_reducible refine Below.setCell ?_ (by first | omega | (simp; omega) | (simp; done)) _) | (refine kept_trans ?_ (by with_reducible assumption))))) (by omega)).mono ?_; rw [hrrh.out]; rintro e wx ⟨p4, k4, rfl, hS4, hgx, hf4⟩; simp only at hS4 hf4; have hgw : Below X.heap.size X wx := kept_trans (by repeat' (first | (with_reducible exact Below.refl _ _) | (with_reducible assumption) | (with_reducible refine kept_alloc ?_ _) | (with_reducible refine kept_drewN ?_ _) | (with_reducible refine Below.drew ?_) | (with_reducible refine Below.setCell ?_ (by first | omega | (simp; omega) | (simp; done)) _) | (refine kept_trans ?_ (by with_reducible assumption)))) hgx; have s0 := (hgw.cell (p := ⟨xa, 0, none⟩) hxX).trans u0; have s1 := (hgw.cell (p := ⟨xa, 1, none⟩) hxX).trans u1; have s2 := (hgw.cell (p := ⟨xa, 2, none⟩) hxX).trans u2; have s3 := (hgw.cell (p := ⟨xa, 3, none⟩) hxX).trans u3; have s4 := (hgw.cell (p := ⟨b, _, none⟩) hblw).trans c0; have s5 := (hgw.cell (p := ⟨b, _, none⟩) hblw).trans c1; have s6 := (hgw.cell (p := ⟨b, _, none⟩) hblw).trans c2; have s7 := (hgw.cell (p := ⟨b, _, none⟩) hblw).trans c3; have s8 := (hgw.cell (p := ⟨b, _, none⟩) hblw).trans c4; have hzw : xa < wx.heap.size := (by have := hgw.size; omega); have hbw : b < wx.heap.size := (by have := hgw.size; omega); (first | (have hlate : Kept X.drew wx := (by with_reducible exact hgx)) | (obtain ⟨⟨n0, n1, n2, n3⟩, ⟨nf0, nf1, nf2, nf3⟩, hzn⟩ := fresh_nil hgx))))
              all_goals
                first
                  | (have hN := next_late (wr := X) (l := x.vals) (ap := p1) hgx hS4 hf4; generalize wx.alloc (.cells #[.slice p4 r.vals.length k4, .int .i64 r.cap, .int .i64 r.pol, .int .i64 r.mode] 24) = Y at hN ⊢; generalize wx.heap.size = rb at hN ⊢)
                  | (have hN := next_early (wr := X) hS1X hgx hS4 hf4; generalize ((((wx.setCell ⟨X.heap.size, 0, none⟩ (.slice p4 r.vals.length k4)).setCell ⟨X.heap.size, 1, none⟩ (.int .i64 r.cap)).setCell ⟨X.heap.size, 2, none⟩ (.int .i64 r.pol)).setCell ⟨X.heap.size, 3, none⟩ (.int .i64 r.mode)) = Y at hN ⊢; generalize X.heap.size = rb at hN ⊢)
              all_goals
                obtain ⟨-, hgY, -, -, hrb, -⟩ := hN
                clear hgx hS4 hf4 hgw s0 s1 s2 s3 s4 s5 s6 s7 s8 hzw hbw
                have v0 := (hgY.cell (p := ⟨xa, 0, none⟩) hxX).trans u0
                have v1 := (hgY.cell (p := ⟨xa, 1, none⟩) hxX).trans u1
                have v2 := (hgY.cell (p := ⟨xa, 2, none⟩) hxX).trans u2
                have v3 := (hgY.cell (p := ⟨xa, 3, none⟩) hxX).trans u3
                have z0 := (hgY.cell (p := ⟨zb, 0, none⟩) hzs).trans z0
                have z1 := (hgY.cell (p := ⟨zb, 1, none⟩) hzs).trans z1
                have z2 := (hgY.cell (p := ⟨zb, 2, none⟩) hzs).trans z2
                have z3 := (hgY.cell (p := ⟨zb, 3, none⟩) hzs).trans z3
                have hBY : Below w.heap.size w Y := hBX.trans (hgY.mono hBX.size)
                have hS1X := hS1X.kept hgY
                have hSX := hSX.kept hgY
                clear u0 u1 u2 u3 c0 c1 c2 c3 c4
                go_wp2_with fail
                refine (rsame_any x z p1 p3 k1 k3 _ (hS1X.kept (by repeat' (first | (with_reducible exact Below.refl _ _) | (with_reducible assumption) | (with_reducible refine kept_alloc ?_ _) | (with_reducible refine kept_drewN ?_ _) | (with_reducible refine Below.drew ?_) | (with_reducible refine Below.setCell ?_ (by first | omega | (simp; omega) | (simp; done)) _) | (refine kept_trans ?_ (by with_reducible assumption))))) (hSX.kept (by repeat' (first | (with_reducible exact Below.refl _ _) | (with_reducible assumption) | (with_reducible refine kept_alloc ?_ _) | (with_reducible refine kept_drewN ?_ _) | (with_reducible refine Below.drew ?_) | (with_reducible refine Below.setCell ?_ (by first | omega | (simp; omega) | (simp; done)) _) | (refine kept_trans ?_ (by with_reducible assumption))))) (by omega)).mono ?_
                rintro e wz ⟨rfl, hgz⟩
                rw [show sameB x z = true by rw [← hxzh.out]; exact same_refl x]
                go_wp2
                all_goals (go_ret; exact ⟨rfl, by repeat' (first | (with_reducible exact Below.refl _ _) | (with_reducible assumption) | (with_reducible refine kept_alloc ?_ _) | (with_reducible refine kept_drewN ?_ _) | (with_reducible refine Below.drew ?_) | (with_reducible refine Below.setCell ?_ (by first | omega | (simp; omega) | (simp; done)) _) | (refine kept_trans ?_ (by with_reducible assumption)))⟩)
            · have e1 : ((n : Int) == (l.length : Int)) = true := by simp; omega
              have e2 : decide ((n : Int) < (l.length : Int)) = false := by simp; omega
              go_wp2_with fail
              refine (rsame_any x z p1 p3 k1 k3 _ (hS1X.kept (by repeat' (first | (with_reducible exact Below.refl _ _) | (with_reducible assumption) | (with_reducible refine kept_alloc ?_ _) | (with_reducible refine kept_drewN ?_ _) | (with_reducible refine Below.drew ?_) | (with_reducible refine Below.setCell ?_ (by first | omega | (simp; omega) | (simp; done)) _) | (refine kept_trans ?_ (by with_reducible assumption))))) (hSX.kept (by repeat' (first | (with_reducible exact Below.refl _ _) | (with_reducible assumption) | (with_reducible refine kept_alloc ?_ _) | (with_reducible refine kept_drewN ?_ _) | (with_reducible refine Below.drew ?_) | (with_reducible refine Below.setCell ?_ (by first | omega | (simp; omega) | (simp; done)) _) | (refine kept_trans ?_ (by with_reducible assumption))))) (by omega)).mono ?_
              rintro e wz ⟨rfl, hgz⟩
              rw [show sameB x z = true by rw [← hxzh.out]; exact same_refl x]
              go_wp2
              all_goals (go_ret; exact ⟨rfl, by repeat' (first | (with_reducible exact Below.refl _ _) | (with_reducible assumption) | (with_reducible refine kept_alloc ?_ _) | (with_reducible refine kept_drewN ?_ _) | (with_reducible refine Below.drew ?_) | (with_reducible refine Below.setCell ?_ (by first | omega | (simp; omega) | (simp; done)) _) | (refine kept_trans ?_ (by with_reducible assumption)))⟩)

    · have hkc2 : ¬ lk = kk := by omega
      have hSd : Hid (Sl w 5 En.cells (l.drop kk) (.slice (some ⟨b, o + kk * 5, none⟩) (l.length - kk) (lk - kk))) := Lib.hid (hls5.drop kk hkl (fun _ => rfl) rfl rfl)
      have hdl : Hid ((l.drop kk).length = l.length - kk) := Lib.hid (by simp)
      go_region_held3 (fun w' => w'.cell? ⟨w.heap.size, 0, none⟩ = some (.slice qp q.vals.length qk) ∧ w'.cell? ⟨w.heap.size, 1, none⟩ = some (.int .i64 q.cap) ∧ w'.cell? ⟨w.heap.size, 2, none⟩ = some (.int .i64 q.pol) ∧ w'.cell? ⟨w.heap.size, 3, none⟩ = some (.int .i64 q.mode)) (first | (go_split_ands; refine ⟨?_, ?_, ?_, ?_⟩ <;> first | (with_reducible assumption) | (with_reducible (refine (World.cell?_alloc_past _ _ _ (by with_reducible assumption)).trans ?_; assumption)) | (with_reducible (refine (set4_far _ _ _ _ _ _ (by with_reducible assumption)).trans ?_; assumption))) | go_keep) ((go_at_call 14; refine (pall_len hyrh.out htlh.out qp _ qk _ _ (hqs.kept (by repeat' (first | (with_reducible exact Below.refl _ _) | (with_reducible assumption) | (with_reducible refine kept_alloc ?_ _) | (with_reducible refine kept_drewN ?_ _) | (with_reducible refine Below.drew ?_) | (with_reducible refine Below.setCell ?_ (by first | omega | (simp; omega) | (simp; done)) _) | (refine kept_trans ?_ (by with_reducible assumption))))) ((hls5.takeTo kk hkl).kept (by repeat' (first | (with_reducible exact Below.refl _ _) | (with_reducible assumption) | (with_reducible refine kept_alloc ?_ _) | (with_reducible refine kept_drewN ?_ _) | (with_reducible refine Below.drew ?_) | (with_reducible refine Below.setCell ?_ (by first | omega | (simp; omega) | (simp; done)) _) | (refine kept_trans ?_ (by with_reducible assumption))))) (by omega) (by omega)).mono ?_; rintro e wx ⟨p2, k2, rfl, hS2, hgx, hf2⟩; have hgw : Below V.heap.size V wx := kept_trans (by repeat' (first | (with_reducible exact Below.refl _ _) | (with_reducible assumption) | (with_reducible refine kept_alloc ?_ _) | (with_reducible refine kept_drewN ?_ _) | (with_reducible refine Below.drew ?_) | (with_reducible refine Below.setCell ?_ (by first | omega | (simp; omega) | (simp; done)) _) | (refine kept_trans ?_ (by with_reducible assumption)))) hgx; have s0 := (hgw.cell (p := ⟨w.heap.size, 0, none⟩) hz0).trans hq0; have s1 := (hgw.cell (p := ⟨w.heap.size, 1, none⟩) hz0).trans hq1; have s2 := (hgw.cell (p := ⟨w.heap.size, 2, none⟩) hz0).trans hq2; have s3 := (hgw.cell (p := ⟨w.heap.size, 3, none⟩) hz0).trans hq3; have hzw : w.heap.size < wx.heap.size := (by have := hgw.size; omega); (first | (have hlate : Kept V.drew wx := (by with_reducible exact hgx)) | (obtain ⟨⟨n0, n1, n2, n3⟩, ⟨nf0, nf1, nf2, nf3⟩, hzn⟩ := fresh_nil hgx))))
      all_goals
        first
          | (have hN := next_late (wr := V) (l := q.vals) (ap := none) hgx hS2 (fun _ a ha => .inr (hf2 a ha)); generalize wx.alloc (.cells #[.slice p2 y.vals.length k2, .int .i64 y.cap, .int .i64 y.pol, .int .i64 y.mode] 24) = W at hN ⊢; generalize wx.heap.size = yb at hN ⊢)
          | (have hN := next_early (wr := V) hqV hgx hS2 (fun _ a ha => .inr (hf2 a ha)); generalize ((((wx.setCell ⟨V.heap.size, 0, none⟩ (.slice p2 y.vals.length k2)).setCell ⟨V.heap.size, 1, none⟩ (.int .i64 y.cap)).setCell ⟨V.heap.size, 2, none⟩ (.int .i64 y.pol)).setCell ⟨V.heap.size, 3, none⟩ (.int .i64 y.mode)) = W at hN ⊢; generalize V.heap.size = yb at hN ⊢)
      all_goals
        obtain ⟨⟨y0, y1, y2, y3⟩, hgW, hSW, -, hyb, hys⟩ := hN
        clear hgx hS2 hf2 hgw s0 s1 s2 s3 hzw
        have t0 := (hgW.cell (p := ⟨xa, 0, none⟩) hz1).trans hq4
        have t1 := (hgW.cell (p := ⟨xa, 1, none⟩) hz1).trans hq5
        have t2 := (hgW.cell (p := ⟨xa, 2, none⟩) hz1).trans hq6
        have t3 := (hgW.cell (p := ⟨xa, 3, none⟩) hz1).trans hq7
        have hxW : xa < W.heap.size := by have := hgW.size; omega
        have hBW : Below w.heap.size w W := hBV.trans (hgW.mono hBV.size)
        have hS1W := hS1V.kept hgW
        clear hq0 hq1 hq2 hq3 hq4 hq5 hq6 hq7
        by_cases hmk : m < kk
        · have f1 : decide ((m : Int) < (kk : Int)) = true := decide_eq_true (by omega)
          have f2 : ((n : Int) == (m : Int)) = true := by have := congrArg Prod.snd (hshorth.out hmk hkl); simp at this; simp; omega
          have hxy : x = y := congrArg Prod.fst (hshorth.out hmk hkl)
          have hxyh := Lib.hid hxy
          clear hxy
          (try simp only [Int.ofNat_zero] at f1)
          go_wp2_with fail
          refine (rsame_any x y p1 p2 k1 k2 _ (hS1W.kept (by repeat' (first | (with_reducible exact Below.refl _ _) | (with_reducible assumption) | (with_reducible refine kept_alloc ?_ _) | (with_reducible refine kept_drewN ?_ _) | (with_reducible refine Below.drew ?_) | (with_reducible refine Below.setCell ?_ (by first | omega | (simp; omega) | (simp; done)) _) | (refine kept_trans ?_ (by with_reducible assumption))))) (hSW.kept (by repeat' (first | (with_reducible exact Below.refl _ _) | (with_reducible assumption) | (with_reducible refine kept_alloc ?_ _) | (with_reducible refine kept_drewN ?_ _) | (with_reducible refine Below.drew ?_) | (with_reducible refine Below.setCell ?_ (by first | omega | (simp; omega) | (simp; done)) _) | (refine kept_trans ?_ (by with_reducible assumption))))) (by omega)).mono ?_
          rintro e wz ⟨rfl, hgz⟩
          rw [show sameB x y = true by rw [← hxyh.out]; exact same_refl x]
          go_wp2
          all_goals (go_ret; exact ⟨rfl, by repeat' (first | (with_reducible exact Below.refl _ _) | (with_reducible assumption) | (with_reducible refine kept_alloc ?_ _) | (with_reducible refine kept_drewN ?_ _) | (with_reducible refine Below.drew ?_) | (with_reducible refine Below.setCell ?_ (by first | omega | (simp; omega) | (simp; done)) _) | (refine kept_trans ?_ (by with_reducible assumption)))⟩)
        · have f1 : decide ((m : Int) < (kk : Int)) = false := decide_eq_false (by omega)
          (try simp only [Int.ofNat_zero] at f1)
          obtain ⟨⟨z, oo⟩, hzr⟩ : ∃ r, y.all (l.drop kk) = r := ⟨_, rfl⟩
          have hw := hwholeh.out (by omega) hkl
          rw [hzr] at hw
          have hxz : x = z := congrArg Prod.fst hw
          have hno : n = kk + oo := congrArg Prod.snd hw
          have hzrh := Lib.hid hzr
          have hxzh := Lib.hid hxz
          have hnoh := Lib.hid hno
          clear hzr hxz hw hno
          go_wp2
          go_region_held3 (fun w' => w'.cell? ⟨yb, 0, none⟩ = some (.slice p2 y.vals.length k2) ∧ w'.cell? ⟨yb, 1, none⟩ = some (.int .i64 y.cap) ∧ w'.cell? ⟨yb, 2, none⟩ = some (.int .i64 y.pol) ∧ w'.cell? ⟨yb, 3, none⟩ = some (.int .i64 y.mode)) (first | (go_split_ands; refine ⟨?_, ?_, ?_, ?_⟩ <;> first | (with_reducible assumption) | (with_reducible (refine (World.cell?_alloc_past _ _ _ (by with_reducible assumption)).trans ?_; assumption)) | (with_reducible (refine (set4_far _ _ _ _ _ _ (by with_reducible assumption)).trans ?_; assumption))) | go_keep) ((go_at_call 14; refine (pall_len hzrh.out hdl.out p2 _ k2 _ _ (hSW.kept (by repeat' (first | (with_reducible exact Below.refl _ _) | (with_reducible assumption) | (with_reducible refine kept_alloc ?_ _) | (with_reducible refine kept_drewN ?_ _) | (with_reducible refine Below.drew ?_) | (with_reducible refine Below.setCell ?_ (by first | omega | (simp; omega) | (simp; done)) _) | (refine kept_trans ?_ (by with_reducible assumption))))) (hSd.out.kept (by repeat' (first | (with_reducible exact Below.refl _ _) | (with_reducible assumption) | (with_reducible refine kept_alloc ?_ _) | (with_reducible refine kept_drewN ?_ _) | (with_reducible refine Below.drew ?_) | (with_reducible refine Below.setCell ?_ (by first | omega | (simp; omega) | (simp; done)) _) | (refine kept_trans ?_ (by with_reducible assumption))))) (by omega) (by omega)).mono ?_; rintro e wx ⟨p3, k3, rfl, hS3, hgx, hf3⟩; have hgw : Below W.heap.size W wx := kept_trans (by repeat' (first | (with_reducible exact Below.refl _ _) | (with_reducible assumption) | (with_reducible refine kept_alloc ?_ _) | (with_reducible refine kept_drewN ?_ _) | (with_reducible refine Below.drew ?_) | (with_reducible refine Below.setCell ?_ (by first | omega | (simp; omega) | (simp; done)) _) | (refine kept_trans ?_ (by with_reducible assumption)))) hgx; have s0 := (hgw.cell (p := ⟨yb, 0, none⟩) hys).trans y0; have s1 := (hgw.cell (p := ⟨yb, 1, none⟩) hys).trans y1; have s2 := (hgw.cell (p := ⟨yb, 2, none⟩) hys).trans y2; have s3 := (hgw.cell (p := ⟨yb, 3, none⟩) hys).trans y3; have hzw : yb < wx.heap.size := (by have := hgw.size; omega); (first | (have hlate : Kept W.drew wx := (by with_reducible exact hgx)) | (obtain ⟨⟨n0, n1, n2, n3⟩, ⟨nf0, nf1, nf2, nf3⟩, hzn⟩ := fresh_nil hgx))))
          all_goals
            first
              | (have hN := next_late (wr := W) (l := q.vals) (ap := none) hgx hS3 (fun _ a ha => .inr (hf3 a ha)); generalize wx.alloc (.cells #[.slice p3 z.vals.length k3, .int .i64 z.cap, .int .i64 z.pol, .int .i64 z.mode] 24) = X at hN ⊢; generalize wx.heap.size = zb at hN ⊢)
              | (have hN := next_early (wr := W) hSW hgx hS3 (fun _ a ha => .inr (hf3 a ha)); generalize ((((wx.setCell ⟨W.heap.size, 0, none⟩ (.slice p3 z.vals.length k3)).setCell ⟨W.heap.size, 1, none⟩ (.int .i64 z.cap)).setCell ⟨W.heap.size, 2, none⟩ (.int .i64 z.pol)).setCell ⟨W.heap.size, 3, none⟩ (.int .i64 z.mode)) = X at hN ⊢; generalize W.heap.size = zb at hN ⊢)
          all_goals
            obtain ⟨⟨z0, z1, z2, z3⟩, hgX, hSX, -, hzb, hzs⟩ := hN
            clear hgx hS3 hf3 hgw s0 s1 s2 s3 hzw
            have u0 := (hgX.cell (p := ⟨xa, 0, none⟩) hxW).trans t0
            have u1 := (hgX.cell (p := ⟨xa, 1, none⟩) hxW).trans t1
            have u2 := (hgX.cell (p := ⟨xa, 2, none⟩) hxW).trans t2
            have u3 := (hgX.cell (p := ⟨xa, 3, none⟩) hxW).trans t3
            have hxX : xa < X.heap.size := by have := hgX.size; omega
            have hBX : Below w.heap.size w X := hBW.trans (hgX.mono hBW.size)
            have hS1X := hS1W.kept hgX
            clear y0 y1 y2 y3 t0 t1 t2 t3
            have g1 : IntKind.i64.wrap ((kk : Int) + (oo : Int)) = (n : Int) := by rw [IntWalk.i64_in _ (by have := hnoh.out; omega)]; have := hnoh.out; omega
            (try simp only [Int.ofNat_zero, Int.zero_add] at g1)
            have g2 : (0 : Int) ≤ (n : Int) := by omega
            by_cases hnl : n < l.length
            · have e1 : ((n : Int) == (l.length : Int)) = false := by simp; omega
              have e2 : decide ((n : Int) < (l.length : Int)) = true := by simp; omega
              have g3 : (n : Int) < (l.length : Int) := by omega
              have hx := hclh.out n l[n] (List.getElem?_eq_getElem hnl)
              have hst := hstopsh.out hnl
              generalize l[n] = en at hx hst
              have c0 := (hBX.cell (p := ⟨b, _, none⟩) hb).trans (hx 0 (by omega))
              have c1 := (hBX.cell (p := ⟨b, _, none⟩) hb).trans (hx 1 (by omega))
              have c2 := (hBX.cell (p := ⟨b, _, none⟩) hb).trans (hx 2 (by omega))
              have c3 := (hBX.cell (p := ⟨b, _, none⟩) hb).trans (hx 3 (by omega))
              have c4 := (hBX.cell (p := ⟨b, _, none⟩) hb).trans (hx 4 (by omega))
              simp [En.cells] at c0 c1 c2 c3 c4
              clear hx
              have hblw : b < X.heap.size := Nat.lt_of_lt_of_le hb hBX.size
              obtain ⟨⟨r, may⟩, hrr⟩ : ∃ r, x.tell en = r := ⟨_, rfl⟩
              have hmay : may = false := by rw [hrr] at hst; exact hst
              subst hmay
              have hrrh := Lib.hid hrr
              clear hrr hst
              go_wp2
              go_region_held3 (fun w' => w'.cell? ⟨xa, 0, none⟩ = some (.slice p1 x.vals.length k1) ∧ w'.cell? ⟨xa, 1, none⟩ = some (.int .i64 x.cap) ∧ w'.cell? ⟨xa, 2, none⟩ = some (.int .i64 x.pol) ∧ w'.cell? ⟨xa, 3, none⟩ = some (.int .i64 x.mode) ∧ w'.cell? ⟨b, o + n * 5, none⟩ = some (.int .i64 en.th) ∧ w'.cell? ⟨b, o + n * 5 + 1, none⟩ = some (.int .i64 en.ki) ∧ w'.cell? ⟨b, o + n * 5 + 2, none⟩ = some (.int .i64 en.va) ∧ w'.cell? ⟨b, o + n * 5 + 3, none⟩ = some (.int .i64 en.re) ∧ w'.cell? ⟨b, o + n * 5 + 4, none⟩ = some (.int .i64 en.go)) (first | (go_split_ands; refine ⟨?_, ?_, ?_, ?_, ?_, ?_, ?_, ?_, ?_⟩ <;> first | (with_reducible assumption) | (with_reducible (refine (World.cell?_alloc_past _ _ _ (by with_reducible assumption)).trans ?_; assumption)) | (with_reducible (refine (set4_far _ _ _ _ _ _ (by with_reducible assumption)).trans ?_; assumption))) | go_keep) ((go_at_call 11; refine (pdo_any x en p1 k1 _ (hS1X.kept (by repeat' (first | (with_reducible exact Below.refl _ _) | (with_reducible assumption) | (with_reducible refine kept_alloc ?_ _) | (with_reducible refine kept_drewN ?_ _) | (with_reducible refine Below.drew ?_) | (with_reducible refine Below.setCell ?_ (by first | omega | (simp; omega) | (simp; done)) _) | (refine kept_trans ?_ (by with_reducible assumption))))) (by omega)).mono ?_; rw [hrrh.out]; rintro e wx ⟨p4, k4, rfl, hS4, hgx, hf4⟩; simp only at hS4 hf4; have hgw : Below X.heap.size X wx := kept_trans (by repeat' (first | (with_reducible exact Below.refl _ _) | (with_reducible assumption) | (with_reducible refine kept_alloc ?_ _) | (with_reducible refine kept_drewN ?_ _) | (with_reducible refine Below.drew ?_) | (with_reducible refine Below.setCell ?_ (by first | omega | (simp; omega) | (simp; done)) _) | (refine kept_trans ?_ (by with_reducible assumption)))) hgx; have s0 := (hgw.cell (p := ⟨xa, 0, none⟩) hxX).trans u0; have s1 := (hgw.cell (p := ⟨xa, 1, none⟩) hxX).trans u1; have s2 := (hgw.cell (p := ⟨xa, 2, none⟩) hxX).trans u2; have s3 := (hgw.cell (p := ⟨xa, 3, none⟩) hxX).trans u3; have s4 := (hgw.cell (p := ⟨b, _, none⟩) hblw).trans c0; have s5 := (hgw.cell (p := ⟨b, _, none⟩) hblw).trans c1; have s6 := (hgw.cell (p := ⟨b, _, none⟩) hblw).trans c2; have s7 := (hgw.cell (p := ⟨b, _, none⟩) hblw).trans c3; have s8 := (hgw.cell (p := ⟨b, _, none⟩) hblw).trans c4; have hzw : xa < wx.heap.size := (by have := hgw.size; omega); have hbw : b < wx.heap.size := (by have := hgw.size; omega); (first | (have hlate : Kept X.drew wx := (by with_reducible exact hgx)) | (obtain ⟨⟨n0, n1, n2, n3⟩, ⟨nf0, nf1, nf2, nf3⟩, hzn⟩ := fresh_nil hgx))))
              all_goals
                first
                  | (have hN := next_late (wr := X) (l := x.vals) (ap := p1) hgx hS4 hf4; generalize wx.alloc (.cells #[.slice p4 r.vals.length k4, .int .i64 r.cap, .int .i64 r.pol, .int .i64 r.mode] 24) = Y at hN ⊢; generalize wx.heap.size = rb at hN ⊢)
                  | (have hN := next_early (wr := X) hS1X hgx hS4 hf4; generalize ((((wx.setCell ⟨X.heap.size, 0, none⟩ (.slice p4 r.vals.length k4)).setCell ⟨X.heap.size, 1, none⟩ (.int .i64 r.cap)).setCell ⟨X.heap.size, 2, none⟩ (.int .i64 r.pol)).setCell ⟨X.heap.size, 3, none⟩ (.int .i64 r.mode)) = Y at hN ⊢; generalize X.heap.size = rb at hN ⊢)
              all_goals
                obtain ⟨-, hgY, -, -, hrb, -⟩ := hN
                clear hgx hS4 hf4 hgw s0 s1 s2 s3 s4 s5 s6 s7 s8 hzw hbw
                have v0 := (hgY.cell (p := ⟨xa, 0, none⟩) hxX).trans u0
                have v1 := (hgY.cell (p := ⟨xa, 1, none⟩) hxX).trans u1
                have v2 := (hgY.cell (p := ⟨xa, 2, none⟩) hxX).trans u2
                have v3 := (hgY.cell (p := ⟨xa, 3, none⟩) hxX).trans u3
                have z0 := (hgY.cell (p := ⟨zb, 0, none⟩) hzs).trans z0
                have z1 := (hgY.cell (p := ⟨zb, 1, none⟩) hzs).trans z1
                have z2 := (hgY.cell (p := ⟨zb, 2, none⟩) hzs).trans z2
                have z3 := (hgY.cell (p := ⟨zb, 3, none⟩) hzs).trans z3
                have hBY : Below w.heap.size w Y := hBX.trans (hgY.mono hBX.size)
                have hS1X := hS1X.kept hgY
                have hSX := hSX.kept hgY
                clear u0 u1 u2 u3 c0 c1 c2 c3 c4
                go_wp2_with fail
                refine (rsame_any x z p1 p3 k1 k3 _ (hS1X.kept (by repeat' (first | (with_reducible exact Below.refl _ _) | (with_reducible assumption) | (with_reducible refine kept_alloc ?_ _) | (with_reducible refine kept_drewN ?_ _) | (with_reducible refine Below.drew ?_) | (with_reducible refine Below.setCell ?_ (by first | omega | (simp; omega) | (simp; done)) _) | (refine kept_trans ?_ (by with_reducible assumption))))) (hSX.kept (by repeat' (first | (with_reducible exact Below.refl _ _) | (with_reducible assumption) | (with_reducible refine kept_alloc ?_ _) | (with_reducible refine kept_drewN ?_ _) | (with_reducible refine Below.drew ?_) | (with_reducible refine Below.setCell ?_ (by first | omega | (simp; omega) | (simp; done)) _) | (refine kept_trans ?_ (by with_reducible assumption))))) (by omega)).mono ?_
                rintro e wz ⟨rfl, hgz⟩
                rw [show sameB x z = true by rw [← hxzh.out]; exact same_refl x]
                go_wp2
                all_goals (go_ret; exact ⟨rfl, by repeat' (first | (with_reducible exact Below.refl _ _) | (with_reducible assumption) | (with_reducible refine kept_alloc ?_ _) | (with_reducible refine kept_drewN ?_ _) | (with_reducible refine Below.drew ?_) | (with_reducible refine Below.setCell ?_ (by first | omega | (simp; omega) | (simp; done)) _) | (refine kept_trans ?_ (by with_reducible assumption)))⟩)
            · have e1 : ((n : Int) == (l.length : Int)) = true := by simp; omega
              have e2 : decide ((n : Int) < (l.length : Int)) = false := by simp; omega
              go_wp2_with fail
              refine (rsame_any x z p1 p3 k1 k3 _ (hS1X.kept (by repeat' (first | (with_reducible exact Below.refl _ _) | (with_reducible assumption) | (with_reducible refine kept_alloc ?_ _) | (with_reducible refine kept_drewN ?_ _) | (with_reducible refine Below.drew ?_) | (with_reducible refine Below.setCell ?_ (by first | omega | (simp; omega) | (simp; done)) _) | (refine kept_trans ?_ (by with_reducible assumption))))) (hSX.kept (by repeat' (first | (with_reducible exact Below.refl _ _) | (with_reducible assumption) | (with_reducible refine kept_alloc ?_ _) | (with_reducible refine kept_drewN ?_ _) | (with_reducible refine Below.drew ?_) | (with_reducible refine Below.setCell ?_ (by first | omega | (simp; omega) | (simp; done)) _) | (refine kept_trans ?_ (by with_reducible assumption))))) (by omega)).mono ?_
              rintro e wz ⟨rfl, hgz⟩
              rw [show sameB x z = true by rw [← hxzh.out]; exact same_refl x]
              go_wp2
              all_goals (go_ret; exact ⟨rfl, by repeat' (first | (with_reducible exact Below.refl _ _) | (with_reducible assumption) | (with_reducible refine kept_alloc ?_ _) | (with_reducible refine kept_drewN ?_ _) | (with_reducible refine Below.drew ?_) | (with_reducible refine Below.setCell ?_ (by first | omega | (simp; omega) | (simp; done)) _) | (refine kept_trans ?_ (by with_reducible assumption)))⟩)
  case inr =>
    obtain rfl : kk = 0 := by omega
    have hl00 : l = [] := List.length_eq_zero_iff.1 (by omega)
    have hdl : Hid ((l.drop 0).length = l.length) := Lib.hid (by simp)
    have hSdl := fun (P : Option Addr) (C : Nat) (h : Sl w 5 En.cells l (.slice P l.length C)) => Lib.hid (show Sl w 5 En.cells (l.drop 0) (.slice P l.length C) by simpa using h)
    have hl0h := Lib.hid hl0
    clear hl0
    cases lp with
    | none =>
      obtain rfl : lk = 0 := hln rfl
      have h5 := (hSdl _ _ hls5).out
      rw [show l.length = 0 by omega] at h5
      have hSd := Lib.hid h5
      have hdl : Hid ((l.drop 0).length = 0) := Lib.hid (by rw [hl00]; rfl)
      clear hSdl hl00 h5
      go_region_held3 (fun w' => w'.cell? ⟨w.heap.size, 0, none⟩ = some (.slice qp q.vals.length qk) ∧ w'.cell? ⟨w.heap.size, 1, none⟩ = some (.int .i64 q.cap) ∧ w'.cell? ⟨w.heap.size, 2, none⟩ = some (.int .i64 q.pol) ∧ w'.cell? ⟨w.heap.size, 3, none⟩ = some (.int .i64 q.mode)) (first | (go_split_ands; refine ⟨?_, ?_, ?_, ?_⟩ <;> first | (with_reducible assumption) | (with_reducible (refine (World.cell?_alloc_past _ _ _ (by with_reducible assumption)).trans ?_; assumption)) | (with_reducible (refine (set4_far _ _ _ _ _ _ (by with_reducible assumption)).trans ?_; assumption))) | go_keep) ((go_at_call 14; refine (pall_len hyrh.out htlh.out qp _ qk _ _ (hqs.kept (by repeat' (first | (with_reducible exact Below.refl _ _) | (with_reducible assumption) | (with_reducible refine kept_alloc ?_ _) | (with_reducible refine kept_drewN ?_ _) | (with_reducible refine Below.drew ?_) | (with_reducible refine Below.setCell ?_ (by first | omega | (simp; omega) | (simp; done)) _) | (refine kept_trans ?_ (by with_reducible assumption))))) ((hls5.takeTo 0 hkl).kept (by repeat' (first | (with_reducible exact Below.refl _ _) | (with_reducible assumption) | (with_reducible refine kept_alloc ?_ _) | (with_reducible refine kept_drewN ?_ _) | (with_reducible refine Below.drew ?_) | (with_reducible refine Below.setCell ?_ (by first | omega | (simp; omega) | (simp; done)) _) | (refine kept_trans ?_ (by with_reducible assumption))))) (by omega) (by omega)).mono ?_; rintro e wx ⟨p2, k2, rfl, hS2, hgx, hf2⟩; have hgw : Below V.heap.size V wx := kept_trans (by repeat' (first | (with_reducible exact Below.refl _ _) | (with_reducible assumption) | (with_reducible refine kept_alloc ?_ _) | (with_reducible refine kept_drewN ?_ _) | (with_reducible refine Below.drew ?_) | (with_reducible refine Below.setCell ?_ (by first | omega | (simp; omega) | (simp; done)) _) | (refine kept_trans ?_ (by with_reducible assumption)))) hgx; have s0 := (hgw.cell (p := ⟨w.heap.size, 0, none⟩) hz0).trans hq0; have s1 := (hgw.cell (p := ⟨w.heap.size, 1, none⟩) hz0).trans hq1; have s2 := (hgw.cell (p := ⟨w.heap.size, 2, none⟩) hz0).trans hq2; have s3 := (hgw.cell (p := ⟨w.heap.size, 3, none⟩) hz0).trans hq3; have hzw : w.heap.size < wx.heap.size := (by have := hgw.size; omega); (first | (have hlate : Kept V.drew wx := (by with_reducible exact hgx)) | (obtain ⟨⟨n0, n1, n2, n3⟩, ⟨nf0, nf1, nf2, nf3⟩, hzn⟩ := fresh_nil hgx))))
      all_goals
        first
          | (have hN := next_late (wr := V) (l := q.vals) (ap := none) hgx hS2 (fun _ a ha => .inr (hf2 a ha)); generalize wx.alloc (.cells #[.slice p2 y.vals.length k2, .int .i64 y.cap, .int .i64 y.pol, .int .i64 y.mode] 24) = W at hN ⊢; generalize wx.heap.size = yb at hN ⊢)
          | (have hN := next_early (wr := V) hqV hgx hS2 (fun _ a ha => .inr (hf2 a ha)); generalize ((((wx.setCell ⟨V.heap.size, 0, none⟩ (.slice p2 y.vals.length k2)).setCell ⟨V.heap.size, 1, none⟩ (.int .i64 y.cap)).setCell ⟨V.heap.size, 2, none⟩ (.int .i64 y.pol)).setCell ⟨V.heap.size, 3, none⟩ (.int .i64 y.mode)) = W at hN ⊢; generalize V.heap.size = yb at hN ⊢)
      all_goals
        obtain ⟨⟨y0, y1, y2, y3⟩, hgW, hSW, -, hyb, hys⟩ := hN
        clear hgx hS2 hf2 hgw s0 s1 s2 s3 hzw
        have t0 := (hgW.cell (p := ⟨xa, 0, none⟩) hz1).trans hq4
        have t1 := (hgW.cell (p := ⟨xa, 1, none⟩) hz1).trans hq5
        have t2 := (hgW.cell (p := ⟨xa, 2, none⟩) hz1).trans hq6
        have t3 := (hgW.cell (p := ⟨xa, 3, none⟩) hz1).trans hq7
        have hxW : xa < W.heap.size := by have := hgW.size; omega
        have hBW : Below w.heap.size w W := hBV.trans (hgW.mono hBV.size)
        have hS1W := hS1V.kept hgW
        clear hq0 hq1 hq2 hq3 hq4 hq5 hq6 hq7
        by_cases hmk : m < 0
        · have f1 : decide ((m : Int) < (0 : Int)) = true := decide_eq_true (by omega)
          have f2 : ((n : Int) == (m : Int)) = true := by have := congrArg Prod.snd (hshorth.out hmk hkl); simp at this; simp; omega
          have hxy : x = y := congrArg Prod.fst (hshorth.out hmk hkl)
          have hxyh := Lib.hid hxy
          clear hxy
          (try simp only [Int.ofNat_zero] at f1)
          go_wp2_with fail
          refine (rsame_any x y p1 p2 k1 k2 _ (hS1W.kept (by repeat' (first | (with_reducible exact Below.refl _ _) | (with_reducible assumption) | (with_reducible refine kept_alloc ?_ _) | (with_reducible refine kept_drewN ?_ _) | (with_reducible refine Below.drew ?_) | (with_reducible refine Below.setCell ?_ (by first | omega | (simp; omega) | (simp; done)) _) | (refine kept_trans ?_ (by with_reducible assumption))))) (hSW.kept (by repeat' (first | (with_reducible exact Below.refl _ _) | (with_reducible assumption) | (with_reducible refine kept_alloc ?_ _) | (with_reducible refine kept_drewN ?_ _) | (with_reducible refine Below.drew ?_) | (with_reducible refine Below.setCell ?_ (by first | omega | (simp; omega) | (simp; done)) _) | (refine kept_trans ?_ (by with_reducible assumption))))) (by omega)).mono ?_
          rintro e wz ⟨rfl, hgz⟩
          rw [show sameB x y = true by rw [← hxyh.out]; exact same_refl x]
          go_wp2
          all_goals (go_ret; exact ⟨rfl, by repeat' (first | (with_reducible exact Below.refl _ _) | (with_reducible assumption) | (with_reducible refine kept_alloc ?_ _) | (with_reducible refine kept_drewN ?_ _) | (with_reducible refine Below.drew ?_) | (with_reducible refine Below.setCell ?_ (by first | omega | (simp; omega) | (simp; done)) _) | (refine kept_trans ?_ (by with_reducible assumption)))⟩)
        · have f1 : decide ((m : Int) < (0 : Int)) = false := decide_eq_false (by omega)
          (try simp only [Int.ofNat_zero] at f1)
          obtain ⟨⟨z, oo⟩, hzr⟩ : ∃ r, y.all (l.drop 0) = r := ⟨_, rfl⟩
          have hw := hwholeh.out (by omega) hkl
          rw [hzr] at hw
          have hxz : x = z := congrArg Prod.fst hw
          have hno : n = 0 + oo := congrArg Prod.snd hw
          have hzrh := Lib.hid hzr
          have hxzh := Lib.hid hxz
          have hnoh := Lib.hid hno
          clear hzr hxz hw hno
          go_wp2
          go_region_held3 (fun w' => w'.cell? ⟨yb, 0, none⟩ = some (.slice p2 y.vals.length k2) ∧ w'.cell? ⟨yb, 1, none⟩ = some (.int .i64 y.cap) ∧ w'.cell? ⟨yb, 2, none⟩ = some (.int .i64 y.pol) ∧ w'.cell? ⟨yb, 3, none⟩ = some (.int .i64 y.mode)) (first | (go_split_ands; refine ⟨?_, ?_, ?_, ?_⟩ <;> first | (with_reducible assumption) | (with_reducible (refine (World.cell?_alloc_past _ _ _ (by with_reducible assumption)).trans ?_; assumption)) | (with_reducible (refine (set4_far _ _ _ _ _ _ (by with_reducible assumption)).trans ?_; assumption))) | go_keep) ((go_at_call 14; refine (pall_len hzrh.out hdl.out p2 _ k2 _ _ (hSW.kept (by repeat' (first | (with_reducible exact Below.refl _ _) | (with_reducible assumption) | (with_reducible refine kept_alloc ?_ _) | (with_reducible refine kept_drewN ?_ _) | (with_reducible refine Below.drew ?_) | (with_reducible refine Below.setCell ?_ (by first | omega | (simp; omega) | (simp; done)) _) | (refine kept_trans ?_ (by with_reducible assumption))))) (hSd.out.kept (by repeat' (first | (with_reducible exact Below.refl _ _) | (with_reducible assumption) | (with_reducible refine kept_alloc ?_ _) | (with_reducible refine kept_drewN ?_ _) | (with_reducible refine Below.drew ?_) | (with_reducible refine Below.setCell ?_ (by first | omega | (simp; omega) | (simp; done)) _) | (refine kept_trans ?_ (by with_reducible assumption))))) (by omega) (by omega)).mono ?_; rintro e wx ⟨p3, k3, rfl, hS3, hgx, hf3⟩; have hgw : Below W.heap.size W wx := kept_trans (by repeat' (first | (with_reducible exact Below.refl _ _) | (with_reducible assumption) | (with_reducible refine kept_alloc ?_ _) | (with_reducible refine kept_drewN ?_ _) | (with_reducible refine Below.drew ?_) | (with_reducible refine Below.setCell ?_ (by first | omega | (simp; omega) | (simp; done)) _) | (refine kept_trans ?_ (by with_reducible assumption)))) hgx; have s0 := (hgw.cell (p := ⟨yb, 0, none⟩) hys).trans y0; have s1 := (hgw.cell (p := ⟨yb, 1, none⟩) hys).trans y1; have s2 := (hgw.cell (p := ⟨yb, 2, none⟩) hys).trans y2; have s3 := (hgw.cell (p := ⟨yb, 3, none⟩) hys).trans y3; have hzw : yb < wx.heap.size := (by have := hgw.size; omega); (first | (have hlate : Kept W.drew wx := (by with_reducible exact hgx)) | (obtain ⟨⟨n0, n1, n2, n3⟩, ⟨nf0, nf1, nf2, nf3⟩, hzn⟩ := fresh_nil hgx))))
          all_goals
            first
              | (have hN := next_late (wr := W) (l := q.vals) (ap := none) hgx hS3 (fun _ a ha => .inr (hf3 a ha)); generalize wx.alloc (.cells #[.slice p3 z.vals.length k3, .int .i64 z.cap, .int .i64 z.pol, .int .i64 z.mode] 24) = X at hN ⊢; generalize wx.heap.size = zb at hN ⊢)
              | (have hN := next_early (wr := W) hSW hgx hS3 (fun _ a ha => .inr (hf3 a ha)); generalize ((((wx.setCell ⟨W.heap.size, 0, none⟩ (.slice p3 z.vals.length k3)).setCell ⟨W.heap.size, 1, none⟩ (.int .i64 z.cap)).setCell ⟨W.heap.size, 2, none⟩ (.int .i64 z.pol)).setCell ⟨W.heap.size, 3, none⟩ (.int .i64 z.mode)) = X at hN ⊢; generalize W.heap.size = zb at hN ⊢)
          all_goals
            obtain ⟨⟨z0, z1, z2, z3⟩, hgX, hSX, -, hzb, hzs⟩ := hN
            clear hgx hS3 hf3 hgw s0 s1 s2 s3 hzw
            have u0 := (hgX.cell (p := ⟨xa, 0, none⟩) hxW).trans t0
            have u1 := (hgX.cell (p := ⟨xa, 1, none⟩) hxW).trans t1
            have u2 := (hgX.cell (p := ⟨xa, 2, none⟩) hxW).trans t2
            have u3 := (hgX.cell (p := ⟨xa, 3, none⟩) hxW).trans t3
            have hxX : xa < X.heap.size := by have := hgX.size; omega
            have hBX : Below w.heap.size w X := hBW.trans (hgX.mono hBW.size)
            have hS1X := hS1W.kept hgX
            clear y0 y1 y2 y3 t0 t1 t2 t3
            have g1 : IntKind.i64.wrap ((0 : Int) + (oo : Int)) = (n : Int) := by rw [IntWalk.i64_in _ (by have := hnoh.out; omega)]; have := hnoh.out; omega
            (try simp only [Int.ofNat_zero, Int.zero_add] at g1)
            have g2 : (0 : Int) ≤ (n : Int) := by omega
            by_cases hnl : n < l.length
            · exact absurd hnl (by have := hl0h.out; omega)
            · have e1 : ((n : Int) == (l.length : Int)) = true := by simp; omega
              have e2 : decide ((n : Int) < (l.length : Int)) = false := by simp; omega
              go_wp2_with fail
              refine (rsame_any x z p1 p3 k1 k3 _ (hS1X.kept (by repeat' (first | (with_reducible exact Below.refl _ _) | (with_reducible assumption) | (with_reducible refine kept_alloc ?_ _) | (with_reducible refine kept_drewN ?_ _) | (with_reducible refine Below.drew ?_) | (with_reducible refine Below.setCell ?_ (by first | omega | (simp; omega) | (simp; done)) _) | (refine kept_trans ?_ (by with_reducible assumption))))) (hSX.kept (by repeat' (first | (with_reducible exact Below.refl _ _) | (with_reducible assumption) | (with_reducible refine kept_alloc ?_ _) | (with_reducible refine kept_drewN ?_ _) | (with_reducible refine Below.drew ?_) | (with_reducible refine Below.setCell ?_ (by first | omega | (simp; omega) | (simp; done)) _) | (refine kept_trans ?_ (by with_reducible assumption))))) (by omega)).mono ?_
              rintro e wz ⟨rfl, hgz⟩
              rw [show sameB x z = true by rw [← hxzh.out]; exact same_refl x]
              go_wp2
              all_goals (go_ret; exact ⟨rfl, by repeat' (first | (with_reducible exact Below.refl _ _) | (with_reducible assumption) | (with_reducible refine kept_alloc ?_ _) | (with_reducible refine kept_drewN ?_ _) | (with_reducible refine Below.drew ?_) | (with_reducible refine Below.setCell ?_ (by first | omega | (simp; omega) | (simp; done)) _) | (refine kept_trans ?_ (by with_reducible assumption)))⟩)
    | some a =>
      have hSd := hSdl _ _ hls5
      clear hSdl hl00
      go_region_held3 (fun w' => w'.cell? ⟨w.heap.size, 0, none⟩ = some (.slice qp q.vals.length qk) ∧ w'.cell? ⟨w.heap.size, 1, none⟩ = some (.int .i64 q.cap) ∧ w'.cell? ⟨w.heap.size, 2, none⟩ = some (.int .i64 q.pol) ∧ w'.cell? ⟨w.heap.size, 3, none⟩ = some (.int .i64 q.mode)) (first | (go_split_ands; refine ⟨?_, ?_, ?_, ?_⟩ <;> first | (with_reducible assumption) | (with_reducible (refine (World.cell?_alloc_past _ _ _ (by with_reducible assumption)).trans ?_; assumption)) | (with_reducible (refine (set4_far _ _ _ _ _ _ (by with_reducible assumption)).trans ?_; assumption))) | go_keep) ((go_at_call 14; refine (pall_len hyrh.out htlh.out qp _ qk _ _ (hqs.kept (by repeat' (first | (with_reducible exact Below.refl _ _) | (with_reducible assumption) | (with_reducible refine kept_alloc ?_ _) | (with_reducible refine kept_drewN ?_ _) | (with_reducible refine Below.drew ?_) | (with_reducible refine Below.setCell ?_ (by first | omega | (simp; omega) | (simp; done)) _) | (refine kept_trans ?_ (by with_reducible assumption))))) ((hls5.takeTo 0 hkl).kept (by repeat' (first | (with_reducible exact Below.refl _ _) | (with_reducible assumption) | (with_reducible refine kept_alloc ?_ _) | (with_reducible refine kept_drewN ?_ _) | (with_reducible refine Below.drew ?_) | (with_reducible refine Below.setCell ?_ (by first | omega | (simp; omega) | (simp; done)) _) | (refine kept_trans ?_ (by with_reducible assumption))))) (by omega) (by omega)).mono ?_; rintro e wx ⟨p2, k2, rfl, hS2, hgx, hf2⟩; have hgw : Below V.heap.size V wx := kept_trans (by repeat' (first | (with_reducible exact Below.refl _ _) | (with_reducible assumption) | (with_reducible refine kept_alloc ?_ _) | (with_reducible refine kept_drewN ?_ _) | (with_reducible refine Below.drew ?_) | (with_reducible refine Below.setCell ?_ (by first | omega | (simp; omega) | (simp; done)) _) | (refine kept_trans ?_ (by with_reducible assumption)))) hgx; have s0 := (hgw.cell (p := ⟨w.heap.size, 0, none⟩) hz0).trans hq0; have s1 := (hgw.cell (p := ⟨w.heap.size, 1, none⟩) hz0).trans hq1; have s2 := (hgw.cell (p := ⟨w.heap.size, 2, none⟩) hz0).trans hq2; have s3 := (hgw.cell (p := ⟨w.heap.size, 3, none⟩) hz0).trans hq3; have hzw : w.heap.size < wx.heap.size := (by have := hgw.size; omega); (first | (have hlate : Kept V.drew wx := (by with_reducible exact hgx)) | (obtain ⟨⟨n0, n1, n2, n3⟩, ⟨nf0, nf1, nf2, nf3⟩, hzn⟩ := fresh_nil hgx))))
      all_goals
        first
          | (have hN := next_late (wr := V) (l := q.vals) (ap := none) hgx hS2 (fun _ a ha => .inr (hf2 a ha)); generalize wx.alloc (.cells #[.slice p2 y.vals.length k2, .int .i64 y.cap, .int .i64 y.pol, .int .i64 y.mode] 24) = W at hN ⊢; generalize wx.heap.size = yb at hN ⊢)
          | (have hN := next_early (wr := V) hqV hgx hS2 (fun _ a ha => .inr (hf2 a ha)); generalize ((((wx.setCell ⟨V.heap.size, 0, none⟩ (.slice p2 y.vals.length k2)).setCell ⟨V.heap.size, 1, none⟩ (.int .i64 y.cap)).setCell ⟨V.heap.size, 2, none⟩ (.int .i64 y.pol)).setCell ⟨V.heap.size, 3, none⟩ (.int .i64 y.mode)) = W at hN ⊢; generalize V.heap.size = yb at hN ⊢)
      all_goals
        obtain ⟨⟨y0, y1, y2, y3⟩, hgW, hSW, -, hyb, hys⟩ := hN
        clear hgx hS2 hf2 hgw s0 s1 s2 s3 hzw
        have t0 := (hgW.cell (p := ⟨xa, 0, none⟩) hz1).trans hq4
        have t1 := (hgW.cell (p := ⟨xa, 1, none⟩) hz1).trans hq5
        have t2 := (hgW.cell (p := ⟨xa, 2, none⟩) hz1).trans hq6
        have t3 := (hgW.cell (p := ⟨xa, 3, none⟩) hz1).trans hq7
        have hxW : xa < W.heap.size := by have := hgW.size; omega
        have hBW : Below w.heap.size w W := hBV.trans (hgW.mono hBV.size)
        have hS1W := hS1V.kept hgW
        clear hq0 hq1 hq2 hq3 hq4 hq5 hq6 hq7
        by_cases hmk : m < 0
        · have f1 : decide ((m : Int) < (0 : Int)) = true := decide_eq_true (by omega)
          have f2 : ((n : Int) == (m : Int)) = true := by have := congrArg Prod.snd (hshorth.out hmk hkl); simp at this; simp; omega
          have hxy : x = y := congrArg Prod.fst (hshorth.out hmk hkl)
          have hxyh := Lib.hid hxy
          clear hxy
          (try simp only [Int.ofNat_zero] at f1)
          go_wp2_with fail
          refine (rsame_any x y p1 p2 k1 k2 _ (hS1W.kept (by repeat' (first | (with_reducible exact Below.refl _ _) | (with_reducible assumption) | (with_reducible refine kept_alloc ?_ _) | (with_reducible refine kept_drewN ?_ _) | (with_reducible refine Below.drew ?_) | (with_reducible refine Below.setCell ?_ (by first | omega | (simp; omega) | (simp; done)) _) | (refine kept_trans ?_ (by with_reducible assumption))))) (hSW.kept (by repeat' (first | (with_reducible exact Below.refl _ _) | (with_reducible assumption) | (with_reducible refine kept_alloc ?_ _) | (with_reducible refine kept_drewN ?_ _) | (with_reducible refine Below.drew ?_) | (with_reducible refine Below.setCell ?_ (by first | omega | (simp; omega) | (simp; done)) _) | (refine kept_trans ?_ (by with_reducible assumption))))) (by omega)).mono ?_
          rintro e wz ⟨rfl, hgz⟩
          rw [show sameB x y = true by rw [← hxyh.out]; exact same_refl x]
          go_wp2
          all_goals (go_ret; exact ⟨rfl, by repeat' (first | (with_reducible exact Below.refl _ _) | (with_reducible assumption) | (with_reducible refine kept_alloc ?_ _) | (with_reducible refine kept_drewN ?_ _) | (with_reducible refine Below.drew ?_) | (with_reducible refine Below.setCell ?_ (by first | omega | (simp; omega) | (simp; done)) _) | (refine kept_trans ?_ (by with_reducible assumption)))⟩)
        · have f1 : decide ((m : Int) < (0 : Int)) = false := decide_eq_false (by omega)
          (try simp only [Int.ofNat_zero] at f1)
          obtain ⟨⟨z, oo⟩, hzr⟩ : ∃ r, y.all (l.drop 0) = r := ⟨_, rfl⟩
          have hw := hwholeh.out (by omega) hkl
          rw [hzr] at hw
          have hxz : x = z := congrArg Prod.fst hw
          have hno : n = 0 + oo := congrArg Prod.snd hw
          have hzrh := Lib.hid hzr
          have hxzh := Lib.hid hxz
          have hnoh := Lib.hid hno
          clear hzr hxz hw hno
          go_wp2
          go_region_held3 (fun w' => w'.cell? ⟨yb, 0, none⟩ = some (.slice p2 y.vals.length k2) ∧ w'.cell? ⟨yb, 1, none⟩ = some (.int .i64 y.cap) ∧ w'.cell? ⟨yb, 2, none⟩ = some (.int .i64 y.pol) ∧ w'.cell? ⟨yb, 3, none⟩ = some (.int .i64 y.mode)) (first | (go_split_ands; refine ⟨?_, ?_, ?_, ?_⟩ <;> first | (with_reducible assumption) | (with_reducible (refine (World.cell?_alloc_past _ _ _ (by with_reducible assumption)).trans ?_; assumption)) | (with_reducible (refine (set4_far _ _ _ _ _ _ (by with_reducible assumption)).trans ?_; assumption))) | go_keep) ((go_at_call 14; refine (pall_len hzrh.out hdl.out p2 _ k2 _ _ (hSW.kept (by repeat' (first | (with_reducible exact Below.refl _ _) | (with_reducible assumption) | (with_reducible refine kept_alloc ?_ _) | (with_reducible refine kept_drewN ?_ _) | (with_reducible refine Below.drew ?_) | (with_reducible refine Below.setCell ?_ (by first | omega | (simp; omega) | (simp; done)) _) | (refine kept_trans ?_ (by with_reducible assumption))))) (hSd.out.kept (by repeat' (first | (with_reducible exact Below.refl _ _) | (with_reducible assumption) | (with_reducible refine kept_alloc ?_ _) | (with_reducible refine kept_drewN ?_ _) | (with_reducible refine Below.drew ?_) | (with_reducible refine Below.setCell ?_ (by first | omega | (simp; omega) | (simp; done)) _) | (refine kept_trans ?_ (by with_reducible assumption))))) (by omega) (by omega)).mono ?_; rintro e wx ⟨p3, k3, rfl, hS3, hgx, hf3⟩; have hgw : Below W.heap.size W wx := kept_trans (by repeat' (first | (with_reducible exact Below.refl _ _) | (with_reducible assumption) | (with_reducible refine kept_alloc ?_ _) | (with_reducible refine kept_drewN ?_ _) | (with_reducible refine Below.drew ?_) | (with_reducible refine Below.setCell ?_ (by first | omega | (simp; omega) | (simp; done)) _) | (refine kept_trans ?_ (by with_reducible assumption)))) hgx; have s0 := (hgw.cell (p := ⟨yb, 0, none⟩) hys).trans y0; have s1 := (hgw.cell (p := ⟨yb, 1, none⟩) hys).trans y1; have s2 := (hgw.cell (p := ⟨yb, 2, none⟩) hys).trans y2; have s3 := (hgw.cell (p := ⟨yb, 3, none⟩) hys).trans y3; have hzw : yb < wx.heap.size := (by have := hgw.size; omega); (first | (have hlate : Kept W.drew wx := (by with_reducible exact hgx)) | (obtain ⟨⟨n0, n1, n2, n3⟩, ⟨nf0, nf1, nf2, nf3⟩, hzn⟩ := fresh_nil hgx))))
          all_goals
            first
              | (have hN := next_late (wr := W) (l := q.vals) (ap := none) hgx hS3 (fun _ a ha => .inr (hf3 a ha)); generalize wx.alloc (.cells #[.slice p3 z.vals.length k3, .int .i64 z.cap, .int .i64 z.pol, .int .i64 z.mode] 24) = X at hN ⊢; generalize wx.heap.size = zb at hN ⊢)
              | (have hN := next_early (wr := W) hSW hgx hS3 (fun _ a ha => .inr (hf3 a ha)); generalize ((((wx.setCell ⟨W.heap.size, 0, none⟩ (.slice p3 z.vals.length k3)).setCell ⟨W.heap.size, 1, none⟩ (.int .i64 z.cap)).setCell ⟨W.heap.size, 2, none⟩ (.int .i64 z.pol)).setCell ⟨W.heap.size, 3, none⟩ (.int .i64 z.mode)) = X at hN ⊢; generalize W.heap.size = zb at hN ⊢)
          all_goals
            obtain ⟨⟨z0, z1, z2, z3⟩, hgX, hSX, -, hzb, hzs⟩ := hN
            clear hgx hS3 hf3 hgw s0 s1 s2 s3 hzw
            have u0 := (hgX.cell (p := ⟨xa, 0, none⟩) hxW).trans t0
            have u1 := (hgX.cell (p := ⟨xa, 1, none⟩) hxW).trans t1
            have u2 := (hgX.cell (p := ⟨xa, 2, none⟩) hxW).trans t2
            have u3 := (hgX.cell (p := ⟨xa, 3, none⟩) hxW).trans t3
            have hxX : xa < X.heap.size := by have := hgX.size; omega
            have hBX : Below w.heap.size w X := hBW.trans (hgX.mono hBW.size)
            have hS1X := hS1W.kept hgX
            clear y0 y1 y2 y3 t0 t1 t2 t3
            have g1 : IntKind.i64.wrap ((0 : Int) + (oo : Int)) = (n : Int) := by rw [IntWalk.i64_in _ (by have := hnoh.out; omega)]; have := hnoh.out; omega
            (try simp only [Int.ofNat_zero, Int.zero_add] at g1)
            have g2 : (0 : Int) ≤ (n : Int) := by omega
            by_cases hnl : n < l.length
            · exact absurd hnl (by have := hl0h.out; omega)
            · have e1 : ((n : Int) == (l.length : Int)) = true := by simp; omega
              have e2 : decide ((n : Int) < (l.length : Int)) = false := by simp; omega
              go_wp2_with fail
              refine (rsame_any x z p1 p3 k1 k3 _ (hS1X.kept (by repeat' (first | (with_reducible exact Below.refl _ _) | (with_reducible assumption) | (with_reducible refine kept_alloc ?_ _) | (with_reducible refine kept_drewN ?_ _) | (with_reducible refine Below.drew ?_) | (with_reducible refine Below.setCell ?_ (by first | omega | (simp; omega) | (simp; done)) _) | (refine kept_trans ?_ (by with_reducible assumption))))) (hSX.kept (by repeat' (first | (with_reducible exact Below.refl _ _) | (with_reducible assumption) | (with_reducible refine kept_alloc ?_ _) | (with_reducible refine kept_drewN ?_ _) | (with_reducible refine Below.drew ?_) | (with_reducible refine Below.setCell ?_ (by first | omega | (simp; omega) | (simp; done)) _) | (refine kept_trans ?_ (by with_reducible assumption))))) (by omega)).mono ?_
              rintro e wz ⟨rfl, hgz⟩
              rw [show sameB x z = true by rw [← hxzh.out]; exact same_refl x]
              go_wp2
              all_goals (go_ret; exact ⟨rfl, by repeat' (first | (with_reducible exact Below.refl _ _) | (with_reducible assumption) | (with_reducible refine kept_alloc ?_ _) | (with_reducible refine kept_drewN ?_ _) | (with_reducible refine Below.drew ?_) | (with_reducible refine Below.setCell ?_ (by first | omega | (simp; omega) | (simp; done)) _) | (refine kept_trans ?_ (by with_reducible assumption)))⟩)
set_option maxRecDepth 100000 in
theorem fifoAll_lifted (os : Os) (started : os.Started) (H : Type) (enc : TypeId × Value → H) :
    ReturnsInHanded {} Try.checked os 7 .any (Rows.fifoAllSpec.pre6 enc Try.prog Try.f7 Rows.fifoAllRow.domain false) (Rows.fifoAllSpec.post enc Try.prog Try.f7 false true false false) := by
  refine returnsInHanded_of_change (C := Try.checked) own started (by kernel_rfl) Try.func7
    (ChangeSpec.witness6 (enc := enc) (C := Try.checked) false ⟨#[], #[.agg #[.slice none 0 0, .int .i64 0, .int .i64 0, .int .i64 0], .slice none 0 0, .int .u8 0], []⟩ 8 (by kernel_rfl) (by kernel_rfl) (by kernel_rfl) (by kernel_rfl)) ?_
  intro W base args ds gs before hval0 hW hcnd _
  have hval : ∀ (j : Nat) t v, Try.f7.params[j]? = some t → args[j]? = some v → Value.okWide Try.prog W .any base t v := hval0
  have hW' := hW
  obtain ⟨p, q, hA0, hV, rfl, hfz, hnd⟩ := hW
  have hA : DataW.TrodAll enc Try.prog W 0 (fun _ => true) true Try.f7.params.toList args.toList ds p := hA0
  rw [Try.params7] at hA hval
  obtain ⟨v0, vs0, d0, ds0, p0, q0, hargs, rfl, rfl, h0, r0⟩ := trodAll_cons hA
  obtain ⟨v1, vs1, d1, ds1, p1, q1, rfl, rfl, rfl, h1, r1⟩ := trodAll_cons r0
  obtain ⟨v2, vs2, d2, ds2, p2, q2, rfl, rfl, rfl, h2, r2⟩ := trodAll_cons r1
  obtain ⟨rfl, rfl, rfl⟩ := trodAll_nil r2
  obtain rfl : args = #[v0, v1, v2] := by cases args; simp_all
  obtain ⟨rfl, rfl⟩ := trodVars_none hV
  obtain ⟨qcs, rfl, qrd⟩ := open_struct (g := 9) (l := Qu.shape) Try.underlying24 (by kernel_rfl) (hval 0 24 v0 rfl rfl) h0
  obtain ⟨q, qp, qk, hcs0, qsl, qok, qml⟩ := Qu.of_read qrd
  subst hcs0
  obtain ⟨l, lsl, lok, lml⟩ := Sl.of_read En.cells En.ok (by decide) (open_row (g := 9) (l := En.shape) Try.underlying25 (by kernel_rfl) (hval 1 25 v1 rfl rfl) h1) (fun vs h => En.of_read h)
  obtain ⟨cut, rfl, rfl, rfl, wf2⟩ := open_int Try.underlying5 (hval 2 5 v2 rfl rfl) h2
  clear hA0 hval0
  refine (fifoAll_walk q qp qk qok qml l v1 lok lml cut (bounds_u8 wf2) W qsl lsl).mono fun e W' ⟨he, hg⟩ => ?_
  subst he
  exact ⟨_, rfl, law_post laid hW' rfl (by kernel_rfl) rfl Try.underlying4 rfl hg⟩

/-- The statement, whole. -/
theorem fifoAll_holds : Rows.FifoAllSaid :=
  OpenClaim.holds_of_wide 7 Try.f7 rfl rfl rfl rfl rfl rfl rfl ⟨rfl, rfl, rfl, rfl, rfl⟩ rfl rfl rfl rfl rfl (by kernel_rfl) Try.func7 (by kernel_rfl)
    (of_decide_eq_true (by kernel_rfl)) (by unfold Func.isWrapper; rw [if_neg (of_decide_eq_false (by kernel_rfl))]; exact ⟨rfl, rfl⟩)
    (fun os started H enc _ => fifoAll_lifted os started H enc)
end Go.Proofs.Ytomnhjcoonbajaa
