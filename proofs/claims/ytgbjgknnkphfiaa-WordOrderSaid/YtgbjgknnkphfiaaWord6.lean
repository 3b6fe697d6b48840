/- Layer 8: WordOrder holds for every input: no conditions. -/
import Derived.Test.YtgbjgknnkphfiaaWord4
namespace Go.Proofs.Ytgbjgknnkphfiaa
set_option linter.unusedVariables false
set_option linter.unusedSimpArgs false
open Go.ChangeShapes Go.WideShapes Go.ChangeAt Go.RowKit
structure Ac where
  k : Int
def Ac.cells (a : Ac) : List Value := [.int .i64 a.k]
def Ac.shape : List (Ck 0) := [.int .i64]
abbrev Ac.size : Nat := 1
def Ac.ok (a : Ac) : Prop := In64 a.k
def Ac.zero : List Value := [.int .i64 0]
theorem Ac.of_read {W : World} {vs : List Value} (h : ReadL W Ac.shape vs) : ∃ c : Ac, vs = c.cells ∧ c.ok := by
  simp only [Ac.shape, read_nil, read_cons, read_int, read_bool, read_str] at h
  obtain ⟨_, _, rfl, ⟨k, rfl, h0⟩, rfl⟩ := h
  exact ⟨⟨k⟩, rfl, in64_of_wf h0⟩

/-- A word in its box. -/
structure Ob (w : World) (b : Nat) (f n M : Int) (wr : World) : Prop where
  cells : CellsAt wr [(b, 0, .int .i64 f), (b, 1, .int .i64 n), (b, 2, .int .i64 M)]
  froz : ∀ i, wr.frozen? ⟨b, i, none⟩ = false
  below : Below w.heap.size w wr
  ge : w.heap.size ≤ b
theorem Ob.kept {w : World} {b : Nat} {f n M : Int} {wr wr' : World} (h : Ob w b f n M wr) (hk : Kept wr wr') : Ob w b f n M wr' :=
  ⟨cells_keep hk h.cells, fun i => ((bcell hk).2 _ _ h.cells.1.1).trans (h.froz i), h.below.trans (hk.mono h.below.size), h.ge⟩
theorem box3_set {W : World} {n : Nat} {u0 u1 u2 : Value} (v0 v1 v2 : Value) (c0 : W.cell? ⟨n, 0, none⟩ = some u0) (c1 : W.cell? ⟨n, 1, none⟩ = some u1) (c2 : W.cell? ⟨n, 2, none⟩ = some u2) :
    (((W.setCell ⟨n, 0, none⟩ v0).setCell ⟨n, 1, none⟩ v1).setCell ⟨n, 2, none⟩ v2).cell? ⟨n, 0, none⟩ = some v0 ∧ (((W.setCell ⟨n, 0, none⟩ v0).setCell ⟨n, 1, none⟩ v1).setCell ⟨n, 2, none⟩ v2).cell? ⟨n, 1, none⟩ = some v1 ∧ (((W.setCell ⟨n, 0, none⟩ v0).setCell ⟨n, 1, none⟩ v1).setCell ⟨n, 2, none⟩ v2).cell? ⟨n, 2, none⟩ = some v2 := by
  refine ⟨?_, ?_, ?_⟩
  · refine (World.cell?_setCell_other _ _ _ _ (by simp)).trans ((World.cell?_setCell_other _ _ _ _ (by simp)).trans ?_)
    exact World.cell?_setCell_same' _ _ _ (by rw [c0]; rfl)
  · refine (World.cell?_setCell_other _ _ _ _ (by simp)).trans ?_
    refine World.cell?_setCell_same' _ _ _ ?_
    rw [show (W.setCell ⟨n, 0, none⟩ v0).cell? ⟨n, 1, none⟩ = W.cell? ⟨n, 1, none⟩ from World.cell?_setCell_other _ _ _ _ (by simp), c1]; rfl
  · refine World.cell?_setCell_same' _ _ _ ?_
    rw [show ((W.setCell ⟨n, 0, none⟩ v0).setCell ⟨n, 1, none⟩ v1).cell? ⟨n, 2, none⟩ = W.cell? ⟨n, 2, none⟩ from (World.cell?_setCell_other _ _ _ _ (by simp)).trans (World.cell?_setCell_other _ _ _ _ (by simp)), c2]; rfl
theorem Ob.put {w : World} {b : Nat} {f n M : Int} {V : World} (h : Ob w b f n M V) (f' n' M' : Int) : Ob w b f' n' M' (((V.setCell ⟨b, 0, none⟩ (.int .i64 f')).setCell ⟨b, 1, none⟩ (.int .i64 n')).setCell ⟨b, 2, none⟩ (.int .i64 M')) := by
  obtain ⟨⟨h0, h1⟩, ⟨_, h2⟩, ⟨_, h3⟩, -⟩ := h.cells
  simp only at h0 h1 h2 h3
  obtain ⟨n0, n1, n2⟩ := box3_set (.int .i64 f') (.int .i64 n') (.int .i64 M') h1 h2 h3
  have hs : b < (((V.setCell ⟨b, 0, none⟩ (.int .i64 f')).setCell ⟨b, 1, none⟩ (.int .i64 n')).setCell ⟨b, 2, none⟩ (.int .i64 M')).heap.size := by simpa using h0
  exact ⟨⟨⟨hs, n0⟩, ⟨hs, n1⟩, ⟨hs, n2⟩, trivial⟩, fun i => by rw [World.frozen?_setCell, World.frozen?_setCell, World.frozen?_setCell]; exact h.froz i,
    ((h.below.setCell (p := ⟨b, 0, none⟩) h.ge _).setCell (p := ⟨b, 1, none⟩) h.ge _).setCell (p := ⟨b, 2, none⟩) h.ge _, h.ge⟩
/-- What lies in a ring between two acts. -/
structure Rg (K f n M : Int) (j : Nat) : Prop where
  lo : 0 ≤ f
  le : f ≤ n
  hi : n ≤ j
  room : n - f ≤ K
  mode : M = 0 ∨ M = 1
theorem Rg.check {K f n M : Int} {j : Nat} (h : Rg K f n M j) (hj : j ≤ 100) : checkB f n M K = true := by
  obtain ⟨h1, h2, h3, h4, h5⟩ := h
  rw [check_iff]; omega

/-- What an act makes of it. -/
theorem len_of {f n K : Int} (h : f ≤ n) (hb : n - f ≤ 1000) (hk : n - f ≤ K) : ∃ L, lenI f n = L ∧ decide (K < L) = false :=
  ⟨_, rfl, by have : lenI f n = n - f := by unfold lenI; split <;> omega
              rw [this]; simp; omega⟩
set_option maxHeartbeats 2000000 in
set_option maxRecDepth 100000 in
theorem wordOrder_walk (m : Int) (hm : 0 ≤ m ∧ m ≤ 255) (l : List Ac) (lv : Value) (hl : ∀ x ∈ l, x.ok) (hlm : l.length ≤ maxLen) (w : World) (hls : Sl w Ac.size Ac.cells l lv) :
    Calls Try.prog 5 #[.int .u8 m, lv] w fun e w' => e = .returned (.bool true) ∧ Kept w w' := by
  obtain ⟨p, k, rfl, hlk, hkm, _, hne⟩ := hls.is
  have HNE := Lib.hid hne
  have HL := Lib.hid hl
  clear hls hne hl
  have m0 := Int.emod_nonneg m (show (9 : Int) ≠ 0 by decide)
  have m1 := Int.emod_lt_of_pos m (show (0 : Int) < 9 by decide)
  by_cases hlen : l.length ≤ 100
  case neg =>
    go_enter Try.func5, Try.ntmps5
    go_wp2_with fail; refine (wordawake_any _).mono ?_; rintro e v0 ⟨rfl, hv0⟩
    go_wp2
    all_goals (go_ret; exact ⟨rfl, by repeat' (first | (with_reducible exact Below.refl _ _) | (with_reducible assumption) | (with_reducible refine kept_alloc ?_ _) | (with_reducible refine kept_drewN ?_ _) | (with_reducible refine Below.drew ?_) | (with_reducible refine Below.setCell ?_ (by first | omega | (simp; omega) | (simp; done)) _) | (refine kept_trans ?_ (by with_reducible assumption)))⟩)
  go_enter Try.func5, Try.ntmps5
  go_wp2_with fail; refine (wordawake_any _).mono ?_; rintro e v0 ⟨rfl, hv0⟩
  obtain ⟨N, hN⟩ : ∃ N, l.length = N := ⟨_, rfl⟩
  have HN := Lib.hid hN
  rw [hN] at hlen hlk hlm ⊢
  clear hN
  have hK : 1 ≤ 1 + m % 9 ∧ 1 + m % 9 ≤ 9 := by omega
  go_wp2
  generalize 1 + m % 9 = K at hK ⊢
  have hB0 : Ob w v0.heap.size 0 0 0 (v0.alloc (.cells #[.int .i64 0, .int .i64 0, .int .i64 0] 23)) :=
    ⟨by (simp only [CellsAt]; (repeat' (first | exact trivial | (refine And.intro ?_ ?_))); all_goals (first | (focus ((try simp only [World.size_setCell, World.size_alloc]); omega)) | (repeat (first | rfl | assumption | (refine (World.cell?_alloc_past _ _ _ ?_).trans ?_; focus ((try simp only [World.size_setCell, World.size_alloc]); omega)) | (refine (World.cell?_alloc_at _ _ _ _ ?_).trans ?_; focus ((try simp only [World.size_setCell, World.size_alloc]); done)) | (refine (World.cell?_setCell_other _ _ _ _ ?_).trans ?_; focus (simp; done)) | (refine (World.cell?_setCell_other _ _ _ _ ?_).trans ?_; focus (simp; omega)) | (refine World.cell?_setCell_same' _ _ _ ?_; focus (simp; done)))))), fun i => World.frozen?_alloc_at _ _ _ _ rfl, by repeat' (first | (with_reducible exact Below.refl _ _) | (with_reducible assumption) | (with_reducible refine kept_alloc ?_ _) | (with_reducible refine kept_drewN ?_ _) | (with_reducible refine Below.drew ?_) | (with_reducible refine Below.setCell ?_ (by first | omega | (simp; omega) | (simp; done)) _) | (refine kept_trans ?_ (by with_reducible assumption))), hv0.size⟩
  go_loopw [8, 9, 10] (fun s8 s9 s10 wr => ∃ (j : Nat) (f n M : Int), s8 = .int .i64 n ∧ s9 = .int .i64 f ∧ s10 = .int .i64 j ∧ j ≤ N ∧ Rg K f n M j ∧ Ob w v0.heap.size f n M wr) (fun _ _ s10 _ => N - (intOf s10).toNat)
  case atStart => exact ⟨0, 0, 0, 0, rfl, rfl, rfl, Nat.zero_le _, ⟨by omega, by omega, by omega, by omega, .inl rfl⟩, hB0⟩
  case round =>
    clear hB0 hv0
    obtain ⟨j, f, n, M, rfl, rfl, rfl, hj, hRg, hO⟩ := hrel
    have HO := Lib.hid hO
    by_cases hlt : j < N
    case neg =>
      have : j = N := by omega
      subst this
      have hB := hO.below
      clear hO hRg
      go_wp2
      all_goals (go_ret; exact ⟨rfl, by repeat' (first | (with_reducible exact Below.refl _ _) | (with_reducible assumption) | (with_reducible refine kept_alloc ?_ _) | (with_reducible refine kept_drewN ?_ _) | (with_reducible refine Below.drew ?_) | (with_reducible refine Below.setCell ?_ (by first | omega | (simp; omega) | (simp; done)) _) | (refine kept_trans ?_ (by with_reducible assumption)))⟩)
    have hlt' : j < l.length := by rw [HN.out]; exact hlt
    obtain ⟨b, o, rfl, hb, hat⟩ := HNE.out (by intro h; subst h; simp at hlt')
    have c1 := (hO.below.cell (p := ⟨b, o + j, none⟩) hb).trans (by have := hat j l[j] (List.getElem?_eq_getElem hlt') 0 (by decide); simpa [Ac.cells] using this)
    have hy := HL.out l[j] (List.getElem_mem hlt')
    have hcs := hO.cells
    have hq0 := hcs.1.2; have hq1 := hcs.2.1.2; have hq2 := hcs.2.2.1.2; have hz0 := hcs.1.1
    have hfr := hO.froz
    have hbw : b < wr.heap.size := Nat.lt_of_lt_of_le hb hO.below.size
    have i1 : (0 : Int) ≤ (j : Int) := by omega
    have i2 : (j : Int) < (N : Int) := by omega
    have hck := hRg.check (by omega)
    obtain ⟨hf0, hfn, hnj, hnk, hMo⟩ := hRg
    unfold Ac.ok at hy
    generalize l[j].k = y at c1 hy
    clear hO hcs hat HNE HN
    by_cases y0 : y = 0
    · subst y0
      rcases hMo with rfl | rfl
      · by_cases hfull : n - f = K
        · have hR : acR f n 0 K = 2 := by rw [ac_of hck]; simp [hfull]
          obtain ⟨hT, hP⟩ := ac_n (show acR f n 0 K ≠ 1 by rw [hR]; decide)
          have HV := Lib.hid (And.intro hT (And.intro hP hR))
          have HRg : Hid (Rg K f n 0 (j + 1)) := Lib.hid ⟨by omega, by omega, by omega, by omega, .inl rfl⟩
          have hno : decide (n - f < K) = false := by simp; omega
          have hsub : IntKind.i64.wrap (n - f) = n - f := IntWalk.i64_in _ (by omega)
          clear hT hP hR hck
          obtain ⟨L, hLn, hLk⟩ := len_of (f := f) (n := n) (K := K) (by omega) (by omega) (by omega); have HLn := Lib.hid hLn; clear hLn; go_wp2_with fail; refine (waccept_val HV.out.1 HV.out.2.1 HV.out.2.2 (by omega) (by omega) (by omega) (by omega) _).mono ?_; rintro e wx ⟨rfl, hgx⟩; have O1 := HO.out.kept hgx; have hcs := O1.cells; have hq0 := hcs.1.2; have hq1 := hcs.2.1.2; have hq2 := hcs.2.2.1.2; have hz0 := hcs.1.1; have hfr := O1.froz; have O3 := Lib.hid ((O1.put (f) (n) (0)).kept ((Below.refl _ _).alloc (Nat.le_refl _) (.cells #[.int .i64 (f), .int .i64 (n), .int .i64 (0)] 23))); clear O1 hcs; go_wp2_with fail; (go_at_call 20; refine (wlen_val HLn.out (by omega) (by omega) _).mono ?_; rintro e wy ⟨rfl, hgy⟩; have O4 := Lib.hid (O3.out.kept hgy)); go_wp2; exact ⟨⟨j + 1, _, _, _, by go_num, by go_num, by go_num, by omega, HRg.out, O4.out⟩, by simp [intOf]; omega⟩
        · have hR : acR f n 0 K = 1 := ac1_iff.2 ⟨hck, rfl, by omega, by omega⟩
          obtain ⟨hT, hP⟩ := ac_y hR
          have HV := Lib.hid (And.intro hT (And.intro hP hR))
          have HRg : Hid (Rg K f (n + 1) 0 (j + 1)) := Lib.hid ⟨by omega, by omega, by omega, by omega, .inl rfl⟩
          clear hT hP hR hck
          obtain ⟨L, hLn, hLk⟩ := len_of (f := f) (n := n + 1) (K := K) (by omega) (by omega) (by omega); have HLn := Lib.hid hLn; clear hLn; go_wp2_with fail; refine (waccept_val HV.out.1 HV.out.2.1 HV.out.2.2 (by omega) (by omega) (by omega) (by omega) _).mono ?_; rintro e wx ⟨rfl, hgx⟩; have O1 := HO.out.kept hgx; have hcs := O1.cells; have hq0 := hcs.1.2; have hq1 := hcs.2.1.2; have hq2 := hcs.2.2.1.2; have hz0 := hcs.1.1; have hfr := O1.froz; have O3 := Lib.hid ((O1.put (f) (n + 1) (0)).kept ((Below.refl _ _).alloc (Nat.le_refl _) (.cells #[.int .i64 (f), .int .i64 (n + 1), .int .i64 (0)] 23))); clear O1 hcs; go_wp2_with fail; (go_at_call 20; refine (wlen_val HLn.out (by omega) (by omega) _).mono ?_; rintro e wy ⟨rfl, hgy⟩; have O4 := Lib.hid (O3.out.kept hgy)); go_wp2; exact ⟨⟨j + 1, _, _, _, by go_num, by go_num, by go_num, by omega, HRg.out, O4.out⟩, by simp [intOf]; omega⟩
      · have hR : acR f n 1 K = 6 := by rw [ac_of hck]; simp
        obtain ⟨hT, hP⟩ := ac_n (show acR f n 1 K ≠ 1 by rw [hR]; decide)
        have HV := Lib.hid (And.intro hT (And.intro hP hR))
        have HRg : Hid (Rg K f n 1 (j + 1)) := Lib.hid ⟨by omega, by omega, by omega, by omega, .inr rfl⟩
        clear hT hP hR hck
        obtain ⟨L, hLn, hLk⟩ := len_of (f := f) (n := n) (K := K) (by omega) (by omega) (by omega); have HLn := Lib.hid hLn; clear hLn; go_wp2_with fail; refine (waccept_val HV.out.1 HV.out.2.1 HV.out.2.2 (by omega) (by omega) (by omega) (by omega) _).mono ?_; rintro e wx ⟨rfl, hgx⟩; have O1 := HO.out.kept hgx; have hcs := O1.cells; have hq0 := hcs.1.2; have hq1 := hcs.2.1.2; have hq2 := hcs.2.2.1.2; have hz0 := hcs.1.1; have hfr := O1.froz; have O3 := Lib.hid ((O1.put (f) (n) (1)).kept ((Below.refl _ _).alloc (Nat.le_refl _) (.cells #[.int .i64 (f), .int .i64 (n), .int .i64 (1)] 23))); clear O1 hcs; go_wp2_with fail; (go_at_call 20; refine (wlen_val HLn.out (by omega) (by omega) _).mono ?_; rintro e wy ⟨rfl, hgy⟩; have O4 := Lib.hid (O3.out.kept hgy)); go_wp2; exact ⟨⟨j + 1, _, _, _, by go_num, by go_num, by go_num, by omega, HRg.out, O4.out⟩, by simp [intOf]; omega⟩
    by_cases y1 : y = 1
    · subst y1
      by_cases hsome : f < n
      · have hR : tkR f n M K = 1 := tk1_iff.2 ⟨hck, by omega, hsome⟩
        obtain ⟨hT, hP⟩ := tk_y hR
        have HV := Lib.hid (And.intro hT (And.intro hP hR))
        have HRg : Hid (Rg K (f + 1) n M (j + 1)) := Lib.hid ⟨by omega, by omega, by omega, by omega, hMo⟩
        clear hT hP hR hck
        obtain ⟨L, hLn, hLk⟩ := len_of (f := f + 1) (n := n) (K := K) (by omega) (by omega) (by omega); have HLn := Lib.hid hLn; clear hLn; go_wp2_with fail; refine (wtake_val HV.out.1 HV.out.2.1 HV.out.2.2 (by omega) (by omega) (by omega) (by omega) _).mono ?_; rintro e wx ⟨rfl, hgx⟩; have O1 := HO.out.kept hgx; have hcs := O1.cells; have hq0 := hcs.1.2; have hq1 := hcs.2.1.2; have hq2 := hcs.2.2.1.2; have hz0 := hcs.1.1; have hfr := O1.froz; have O3 := Lib.hid ((O1.put (f + 1) (n) (M)).kept ((Below.refl _ _).alloc (Nat.le_refl _) (.cells #[.int .i64 (f + 1), .int .i64 (n), .int .i64 (M)] 23))); clear O1 hcs; go_wp2_with fail; (go_at_call 20; refine (wlen_val HLn.out (by omega) (by omega) _).mono ?_; rintro e wy ⟨rfl, hgy⟩; have O4 := Lib.hid (O3.out.kept hgy)); go_wp2; exact ⟨⟨j + 1, _, _, _, by go_num, by go_num, by go_num, by omega, HRg.out, O4.out⟩, by simp [intOf]; omega⟩
      · have : f = n := by omega
        subst this
        rcases hMo with rfl | rfl
        · have hR : tkR f f 0 K = 4 := by rw [tk_of hck]; simp
          obtain ⟨hT, hP⟩ := tk_n (show tkR f f 0 K ≠ 1 by rw [hR]; decide)
          have HV := Lib.hid (And.intro hT (And.intro hP hR))
          have HRg : Hid (Rg K f f 0 (j + 1)) := Lib.hid ⟨by omega, by omega, by omega, by omega, .inl rfl⟩
          clear hT hP hR hck
          obtain ⟨L, hLn, hLk⟩ := len_of (f := f) (n := f) (K := K) (by omega) (by omega) (by omega); have HLn := Lib.hid hLn; clear hLn; go_wp2_with fail; refine (wtake_val HV.out.1 HV.out.2.1 HV.out.2.2 (by omega) (by omega) (by omega) (by omega) _).mono ?_; rintro e wx ⟨rfl, hgx⟩; have O1 := HO.out.kept hgx; have hcs := O1.cells; have hq0 := hcs.1.2; have hq1 := hcs.2.1.2; have hq2 := hcs.2.2.1.2; have hz0 := hcs.1.1; have hfr := O1.froz; have O3 := Lib.hid ((O1.put (f) (f) (0)).kept ((Below.refl _ _).alloc (Nat.le_refl _) (.cells #[.int .i64 (f), .int .i64 (f), .int .i64 (0)] 23))); clear O1 hcs; go_wp2_with fail; (go_at_call 20; refine (wlen_val HLn.out (by omega) (by omega) _).mono ?_; rintro e wy ⟨rfl, hgy⟩; have O4 := Lib.hid (O3.out.kept hgy)); go_wp2; exact ⟨⟨j + 1, _, _, _, by go_num, by go_num, by go_num, by omega, HRg.out, O4.out⟩, by simp [intOf]; omega⟩
        · have hR : tkR f f 1 K = 6 := by rw [tk_of hck]; simp
          obtain ⟨hT, hP⟩ := tk_n (show tkR f f 1 K ≠ 1 by rw [hR]; decide)
          have HV := Lib.hid (And.intro hT (And.intro hP hR))
          have HRg : Hid (Rg K f f 1 (j + 1)) := Lib.hid ⟨by omega, by omega, by omega, by omega, .inr rfl⟩
          clear hT hP hR hck
          obtain ⟨L, hLn, hLk⟩ := len_of (f := f) (n := f) (K := K) (by omega) (by omega) (by omega); have HLn := Lib.hid hLn; clear hLn; go_wp2_with fail; refine (wtake_val HV.out.1 HV.out.2.1 HV.out.2.2 (by omega) (by omega) (by omega) (by omega) _).mono ?_; rintro e wx ⟨rfl, hgx⟩; have O1 := HO.out.kept hgx; have hcs := O1.cells; have hq0 := hcs.1.2; have hq1 := hcs.2.1.2; have hq2 := hcs.2.2.1.2; have hz0 := hcs.1.1; have hfr := O1.froz; have O3 := Lib.hid ((O1.put (f) (f) (1)).kept ((Below.refl _ _).alloc (Nat.le_refl _) (.cells #[.int .i64 (f), .int .i64 (f), .int .i64 (1)] 23))); clear O1 hcs; go_wp2_with fail; (go_at_call 20; refine (wlen_val HLn.out (by omega) (by omega) _).mono ?_; rintro e wy ⟨rfl, hgy⟩; have O4 := Lib.hid (O3.out.kept hgy)); go_wp2; exact ⟨⟨j + 1, _, _, _, by go_num, by go_num, by go_num, by omega, HRg.out, O4.out⟩, by simp [intOf]; omega⟩
    by_cases y2 : y = 2
    · subst y2
      rcases ev_or f n M K f with ⟨hB1, hH, -, -, -, -, hs⟩ | ⟨hB1, hH⟩
      · have HV := Lib.hid (And.intro hH hB1)
        have HRg : Hid (Rg K (f + 1) n M (j + 1)) := Lib.hid ⟨by omega, by omega, by omega, by omega, hMo⟩
        clear hH hB1 hck
        obtain ⟨L, hLn, hLk⟩ := len_of (f := f + 1) (n := n) (K := K) (by omega) (by omega) (by omega); have HLn := Lib.hid hLn; clear hLn; go_wp2_with fail; refine (wevict_val HV.out.1 HV.out.2 (by omega) (by omega) (by omega) (by omega) (by omega) _).mono ?_; rintro e wx ⟨rfl, hgx⟩; have O1 := HO.out.kept hgx; have hcs := O1.cells; have hq0 := hcs.1.2; have hq1 := hcs.2.1.2; have hq2 := hcs.2.2.1.2; have hz0 := hcs.1.1; have hfr := O1.froz; have O3 := Lib.hid ((O1.put (f + 1) (n) (M)).kept ((Below.refl _ _).alloc (Nat.le_refl _) (.cells #[.int .i64 (f + 1), .int .i64 (n), .int .i64 (M)] 23))); clear O1 hcs; go_wp2_with fail; (go_at_call 20; refine (wlen_val HLn.out (by omega) (by omega) _).mono ?_; rintro e wy ⟨rfl, hgy⟩; have O4 := Lib.hid (O3.out.kept hgy)); go_wp2; exact ⟨⟨j + 1, _, _, _, by go_num, by go_num, by go_num, by omega, HRg.out, O4.out⟩, by simp [intOf]; omega⟩
      · have HV := Lib.hid (And.intro hH hB1)
        have HRg : Hid (Rg K f n M (j + 1)) := Lib.hid ⟨by omega, by omega, by omega, by omega, hMo⟩
        clear hH hB1 hck
        obtain ⟨L, hLn, hLk⟩ := len_of (f := f) (n := n) (K := K) (by omega) (by omega) (by omega); have HLn := Lib.hid hLn; clear hLn; go_wp2_with fail; refine (wevict_val HV.out.1 HV.out.2 (by omega) (by omega) (by omega) (by omega) (by omega) _).mono ?_; rintro e wx ⟨rfl, hgx⟩; have O1 := HO.out.kept hgx; have hcs := O1.cells; have hq0 := hcs.1.2; have hq1 := hcs.2.1.2; have hq2 := hcs.2.2.1.2; have hz0 := hcs.1.1; have hfr := O1.froz; have O3 := Lib.hid ((O1.put (f) (n) (M)).kept ((Below.refl _ _).alloc (Nat.le_refl _) (.cells #[.int .i64 (f), .int .i64 (n), .int .i64 (M)] 23))); clear O1 hcs; go_wp2_with fail; (go_at_call 20; refine (wlen_val HLn.out (by omega) (by omega) _).mono ?_; rintro e wy ⟨rfl, hgy⟩; have O4 := Lib.hid (O3.out.kept hgy)); go_wp2; exact ⟨⟨j + 1, _, _, _, by go_num, by go_num, by go_num, by omega, HRg.out, O4.out⟩, by simp [intOf]; omega⟩
    · have hC : clM M 1 = 1 := by rcases cl_or M 1 with ⟨_, _, e⟩ | ⟨_, e⟩ <;> omega
      have HV := Lib.hid hC
      have HRg : Hid (Rg K f n 1 (j + 1)) := Lib.hid ⟨by omega, by omega, by omega, by omega, .inr rfl⟩
      have z0 : (y == 0) = false := by simpa using y0
      have z1 : (y == 1) = false := by simpa using y1
      have z2 : (y == 2) = false := by simpa using y2
      clear hC hck y0 y1 y2
      obtain ⟨L, hLn, hLk⟩ := len_of (f := f) (n := n) (K := K) (by omega) (by omega) (by omega)
      have HLn := Lib.hid hLn
      clear hLn
      go_wp2_with fail
      refine (wclose_val HV.out (by omega) (by decide) _).mono ?_
      rintro e wx ⟨rfl, hgx⟩
      have O1 := HO.out.kept hgx; have hcs := O1.cells; have hq0 := hcs.1.2; have hq1 := hcs.2.1.2; have hq2 := hcs.2.2.1.2; have hz0 := hcs.1.1; have hfr := O1.froz
      have O3 := Lib.hid (O1.put f n 1)
      clear O1 hcs
      go_wp2_with fail
      (go_at_call 20; refine (wlen_val HLn.out (by omega) (by omega) _).mono ?_; rintro e wy ⟨rfl, hgy⟩; have O4 := Lib.hid (O3.out.kept hgy))
      go_wp2
      exact ⟨⟨j + 1, _, _, _, by go_num, by go_num, by go_num, by omega, HRg.out, O4.out⟩, by simp [intOf]; omega⟩
set_option maxRecDepth 100000 in
theorem wordOrder_lifted (os : Os) (started : os.Started) (H : Type) (enc : TypeId × Value → H) :
    ReturnsInHanded {} Try.checked os 5 .any (Rows.wordOrderSpec.pre6 enc Try.prog Try.f5 Rows.wordOrderRow.domain false) (Rows.wordOrderSpec.post enc Try.prog Try.f5 false true false false) := by
  refine returnsInHanded_of_change (C := Try.checked) own started (by kernel_rfl) Try.func5
    (ChangeSpec.witness6 (enc := enc) (C := Try.checked) false ⟨#[], #[.int .u8 0, .slice none 0 0], []⟩ 8 (by kernel_rfl) (by kernel_rfl) (by kernel_rfl) (by kernel_rfl)) ?_
  intro W base args ds gs before hval0 hW hcnd _
  have hval : ∀ (j : Nat) t v, Try.f5.params[j]? = some t → args[j]? = some v → Value.okWide Try.prog W .any base t v := hval0
  have hW' := hW
  obtain ⟨p, q, hA0, hV, rfl, hfz, hnd⟩ := hW
  have hA : DataW.TrodAll enc Try.prog W 0 (fun _ => true) true Try.f5.params.toList args.toList ds p := hA0
  rw [Try.params5] at hA hval
  obtain ⟨v0, vs0, d0, ds0, p0, q0, hargs, rfl, rfl, h0, r0⟩ := trodAll_cons hA
  obtain ⟨v1, vs1, d1, ds1, p1, q1, rfl, rfl, rfl, h1, r1⟩ := trodAll_cons r0
  obtain ⟨rfl, rfl, rfl⟩ := trodAll_nil r1
  obtain rfl : args = #[v0, v1] := by cases args; simp_all
  obtain ⟨rfl, rfl⟩ := trodVars_none hV
  obtain ⟨m, rfl, rfl, rfl, wf0⟩ := open_int Try.underlying5 (hval 0 5 v0 rfl rfl) h0
  obtain ⟨l, lsl, lok, lml⟩ := Sl.of_read Ac.cells Ac.ok (by decide) (open_row (g := 9) (l := Ac.shape) Try.underlying34 (by kernel_rfl) (hval 1 34 v1 rfl rfl) h1) (fun vs h => Ac.of_read h)
  clear hA0 hval0
  refine (wordOrder_walk m (bounds_u8 wf0) l v1 lok lml W lsl).mono fun e W' ⟨he, hg⟩ => ?_
  subst he
  exact ⟨_, rfl, law_post laid hW' rfl (by kernel_rfl) rfl Try.underlying4 rfl hg⟩

/-- The statement, whole. -/
theorem wordOrder_holds : Rows.WordOrderSaid :=
  OpenClaim.holds_of_wide 5 Try.f5 rfl rfl rfl rfl rfl rfl rfl ⟨rfl, rfl, rfl, rfl, rfl⟩ rfl rfl rfl rfl rfl (by kernel_rfl) Try.func5 (by kernel_rfl)
    (of_decide_eq_true (by kernel_rfl)) (by unfold Func.isWrapper; rw [if_neg (of_decide_eq_false (by kernel_rfl))]; exact ⟨rfl, rfl⟩)
    (fun os started H enc _ => wordOrder_lifted os started H enc)
end Go.Proofs.Ytgbjgknnkphfiaa
