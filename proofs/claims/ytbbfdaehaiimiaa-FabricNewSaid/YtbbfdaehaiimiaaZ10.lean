/- Texts merged: FabA. -/
import Derived.Test.YtbbfdaehaiimiaaZ9
/- Layer 13: what every statement asks first. Written by tools/fabA.py. -/
namespace Go.Proofs.Ytbbfdaehaiimiaa
set_option linter.unusedVariables false
set_option linter.unusedSimpArgs false
open Go.ChangeShapes Go.WideShapes Go.ChangeAt Go.RowKit
theorem fnew_val {c : Cf} {s : St} (h : newSt c = s) (hc : cfB c = true) (w : World) : Calls Try.prog 6 #[.agg #[.int .i64 c.lg, .int .i64 c.th, .int .i64 c.po, .int .i64 c.wt, .int .i64 c.sp, .int .i64 c.yi, .bool c.si]] w (RetFE w s 0) := h ▸ fnew_yes c w hc
theorem fvalue_val {s : St} {p v : Int} (h : valV s p = v) (z : Pz) (w : World) (hs : StAt w s z) (ho : s.ok) (hpi : In64 p) : Calls Try.prog 14 #[.agg #[.int .i64 s.cf.lg, .int .i64 s.cf.th, .int .i64 s.cf.po, .int .i64 s.cf.wt, .int .i64 s.cf.sp, .int .i64 s.cf.yi, .bool s.cf.si, .int .i64 s.hd, .int .i64 s.tl, .int .i64 s.md, .slice z.p1 s.sl.length z.k1, .slice z.p2 s.sn.length z.k2, .slice z.p3 s.rc.length z.k3, .int .i64 s.fe, .slice z.p4 s.fl.length z.k4, .int .i64 s.ee, .slice z.p5 s.el.length z.k5, .int .i64 s.nw, .slice z.p6 s.th.length z.k6, .slice z.p7 s.lg.length z.k7], .int .i64 p] w fun e w' => e = .returned (.int .i64 v) ∧ Kept w w' := h ▸ fvalue_any s z p w hs ho hpi
/-! ### What stays within bounds -/
theorem in64_0 : In64 0 := by decide
theorem th0_in : th0.ok := by simp [th0, Th.ok, In64]
theorem newL_in {r : Int} : (∀ x ∈ newL r, x.ok) ∧ (newL r).length ≤ 64 := by
  cases h : ringB r
  · simp [newL, h]
  · obtain ⟨h1, h2⟩ := ring_iff.1 h
    obtain ⟨k, hk⟩ : ∃ k : Nat, r = k := ⟨r.toNat, by omega⟩
    subst hk
    refine ⟨fun x hx => ?_, by rw [new_len (by omega)]; omega⟩
    obtain ⟨i, hi, e⟩ := List.mem_iff_getElem.1 hx
    have hil := hi
    rw [new_len (by omega)] at hi
    have h5 := new_gs (by omega : 1 ≤ k ∧ k ≤ 64) hi
    have h6 : gs (newL k) i = (newL k)[i] := by simp [gs, hil]
    rw [← e, ← h6, h5]
    exact ⟨⟨by simp only; omega, by simp only; omega⟩, in64_0⟩
theorem new_in {c : Cf} (hc : c.ok) (h : cfB c = true) : (newSt c).ok := by
  have ht := cf_th h
  refine ⟨hc, in64_0, in64_0, in64_0, in64_0, in64_0, in64_0, ⟨newL_in.1, by have := (newL_in (r := cfR c)).2; show (newL (cfR c)).length ≤ maxLen; unfold maxLen; omega⟩, ?_, ?_, ?_, ?_, ?_, ?_⟩
  · exact ⟨by simp [newSt], by simp [newSt]⟩
  · exact ⟨by simp [newSt], by simp [newSt]⟩
  · exact ⟨by simp [newSt], by simp [newSt]⟩
  · exact ⟨by simp [newSt], by simp [newSt]⟩
  · refine ⟨fun x hx => ?_, ?_⟩
    · rw [(List.mem_replicate.1 hx).2]; exact th0_in
    · show (List.replicate c.th.toNat th0).length ≤ maxLen
      rw [List.length_replicate]; unfold maxLen; omega
  · simp [newSt]
theorem new_few {c : Cf} (h : cfB c = true) : (newSt c).few := by
  have ht := cf_th h
  refine ⟨by have := (newL_in (r := cfR c)).2; show (newL (cfR c)).length ≤ 1000; omega, by simp [newSt], by simp [newSt], by simp [newSt], by simp [newSt], ?_, by simp [newSt]⟩
  show (List.replicate c.th.toNat th0).length ≤ 1000
  rw [List.length_replicate]; omega
theorem setTh_in {s : St} (h : s.ok) (i : Nat) {t : Th} (ht : t.ok) : (s.setTh i t).ok :=
  ⟨h.cf, h.hd, h.tl, h.md, h.fe, h.ee, h.nw, h.sl, h.sn, h.rc, h.fl, h.el, ⟨fun x hx => by
    rcases List.mem_or_eq_of_mem_set hx with h1 | h1
    · exact h.th.1 x h1
    · subst h1; exact ht, by show (s.th.set i t).length ≤ maxLen; rw [List.length_set]; exact h.th.2⟩, h.lg⟩
theorem setTh_few {s : St} (h : s.few) (i : Nat) (t : Th) : (s.setTh i t).few := ⟨h.sl, h.sn, h.rc, h.fl, h.el, by show (s.th.set i t).length ≤ 1000; rw [List.length_set]; exact h.th, h.lg⟩
theorem st0_in : st0.ok := by
  refine ⟨by simp [st0, cf0, Cf.ok, In64], in64_0, in64_0, in64_0, in64_0, in64_0, in64_0, ?_, ?_, ?_, ?_, ?_, ?_, by simp [st0]⟩ <;> simp [st0]
theorem st0_few : st0.few := by constructor <;> simp [st0]
theorem st0_at (W : World) : StAt W st0 ⟨none, 0, none, 0, none, 0, none, 0, none, 0, none, 0, none, 0⟩ := (st0_own W 0).at

/-! ### The states of awake -/
def c0A : Cf := ⟨1, 2, 0, 0, 0, 0, true⟩
def sA : St := newSt c0A
def t1A : Th := ⟨1, 1, 7, 0, 0, 0, 0, 0, false, 0, 0⟩
def t2A : Th := ⟨1, 1, 7, 0, 0, 0, 0, 0, false, 1, 3⟩
def aA : St := sA.setTh 1 t1A
def bA : St := (aA.setTh 1 t2A).addLg ⟨1, 1, 7, 1, 3⟩
def cA : St := (bA.setTh 1 t2A).addLg ⟨1, 9, 7, 1, 9⟩
theorem c0A_b : cfB c0A = true := by decide
theorem sA_b : stB sA = true := new_stB c0A_b
theorem sA_in : sA.ok := new_in (by simp [c0A, Cf.ok, In64]) c0A_b
theorem t1A_in : t1A.ok := by simp [t1A, Th.ok, In64]
theorem t2A_in : t2A.ok := by simp [t2A, Th.ok, In64]
theorem aA_in : aA.ok := setTh_in sA_in 1 t1A_in
theorem aA_few : aA.few := setTh_few (new_few c0A_b) 1 t1A
theorem bA_in : bA.ok := by
  have h := setTh_in aA_in 1 t2A_in
  exact ⟨h.cf, h.hd, h.tl, h.md, h.fe, h.ee, h.nw, h.sl, h.sn, h.rc, h.fl, h.el, h.th, by show 1 ≤ maxLen; decide⟩
theorem bA_few : bA.few := by
  have h := setTh_few aA_few 1 t2A
  exact ⟨h.sl, h.sn, h.rc, h.fl, h.el, h.th, by show 1 ≤ 1000; decide⟩
theorem aA_b : stB aA = true := by decide
theorem bA_b : stB bA = true := by decide
theorem a_1 : stBeg sA 1 1 7 0 0 aA := .inr (.inr ⟨sA_b, by decide, 1, t1A, rfl, by decide, beg_ok_u (t := gth sA.th 1) (v := 7) (u := 0) (by decide) (by decide) (by decide), rfl⟩)
theorem a_2 : stBeg aA 1 1 7 0 120 (aA.setTh 1 t1A) := .inr (.inr ⟨aA_b, by decide, 1, t1A, rfl, by decide, beg_busy (t := t1A) (by decide), rfl⟩)
theorem a_3 : stBeg aA 1 4 0 0 123 aA := .inr (.inl ⟨aA_b, by decide, by decide, rfl⟩)
theorem a_4 : stBeg st0 1 1 0 0 20 st0 := .inl ⟨st0_not, rfl, rfl⟩
theorem a_5 : tellS aA 1 1 1 3 = bA := by
  have h : hasB aA 1 = true := by decide
  unfold tellS; rw [if_pos h]; rfl
theorem a_6 : tellS bA 1 9 1 9 = cA := by
  have h : hasB bA 1 = true := by decide
  unfold tellS; rw [if_pos h]; rfl
theorem a_7 : quV sA = ⟨[], 2, 0, 0⟩ := by unfold quV; rw [if_pos sA_b]; rfl
theorem a_8 : valV sA 5 = 0 := by unfold valV; rw [if_neg (by decide), if_pos sA_b]; decide

set_option maxHeartbeats 16000000 in
set_option maxRecDepth 100000 in
theorem fawake_any (w : World) : Calls Try.prog 5 #[] w fun e w' => e = .returned (.bool true) ∧ Kept w w' := by
  have hB : Below w.heap.size w w := Below.refl _ _
  have hC : Below w.heap.size w w := Below.refl _ _
  go_enter Try.func5, Try.ntmps5
  go_wp2_with (fail); refine (fnew_val (c := c0A) (s := sA) rfl c0A_b _).mono ?_; rintro e w1 ⟨⟨q1, c1, q2, c2, q3, c3, q4, c4, q5, c5, q6, c6, q7, c7⟩, rfl, hO, hgx⟩; have hBx : Below w.heap.size w w1 := (by repeat' (first | (with_reducible exact Below.refl _ _) | (with_reducible assumption) | (with_reducible refine kept_alloc ?_ _) | (with_reducible refine kept_drewN ?_ _) | (with_reducible refine Below.drew ?_) | (with_reducible refine Below.setCell ?_ (by first | omega | (simp; omega) | (simp; done)) _) | (refine kept_trans ?_ (by with_reducible assumption)))); (try replace hC := kept_trans hC hgx); replace hB := hBx; clear hBx hgx
  clear hC
  have hC : Below w1.heap.size w1 w1 := Below.refl _ _
  have HS := Lib.hid hO
  clear hO
  go_wp2_with ((first | (refine wpList_load20 34 Try.underlying34 (by kernel_rfl) rfl (by rfl) _ rfl rfl (by assumption) (by rfl) (by rfl) (by rfl) (by rfl) (by rfl) (by rfl) (by rfl) (by rfl) (by rfl) (by rfl) (by rfl) (by rfl) (by rfl) (by rfl) (by rfl) (by rfl) (by rfl) (by rfl) (by rfl) (by rfl) ?_) | (refine wpList_storeW 34 (by rfl) _ _ rfl rfl hk0 rfl (by kernel_rfl) (by rfl) (by rfl) ?_; intro ws hkx hos; (try clear hgx); replace hB := below_store hB hos (by omega); replace hk0 := hkx; clear hkx; (try replace hC := below_store hC hos (by omega)); clear hos) | (refine wpList_load7 23 Try.underlying23 (by kernel_rfl) rfl (by rfl) _ rfl rfl (by assumption) (by rfl) (by rfl) (by rfl) (by rfl) (by rfl) (by rfl) (by rfl) ?_) | (refine wpList_storeW 23 (by rfl) _ _ rfl rfl hk0 rfl (by kernel_rfl) (by rfl) (by rfl) ?_; intro ws hkx hos; (try clear hgx); replace hB := below_store hB hos (by omega); replace hk0 := hkx; clear hkx; (try replace hC := below_store hC hos (by omega)); clear hos) | (refine wpList_allocB 34 (by rfl) rfl (fun W => Try.zeroValue34 W) (by rfl) ?_; intro bn0 wn hbn hk0 hgn hzn; skip; (try clear hgx); have hbB0 : w.heap.size ≤ bn0 := (by rw [hbn]; exact hB.size); replace hB := kept_trans hB hgn; skip; (try replace hC := kept_trans hC hgn); have hbz0 := Nat.le_of_eq hbn.symm; clear hgn hbn))); refine (fnew_no cf0 _ (by decide)).mono ?_; rintro e w2 ⟨z2, rfl, hO, hgx⟩; have hBx : Below w.heap.size w w2 := (by repeat' (first | (with_reducible exact Below.refl _ _) | (with_reducible assumption) | (with_reducible refine kept_alloc ?_ _) | (with_reducible refine kept_drewN ?_ _) | (with_reducible refine Below.drew ?_) | (with_reducible refine Below.setCell ?_ (by first | omega | (simp; omega) | (simp; done)) _) | (refine kept_trans ?_ (by with_reducible assumption)))); (try replace hk0 := Bk.kept (by first | exact hk0 | exact Bk.past hk0 | exact Bk.past (Bk.past hk0)) hgx); (try replace hC := kept_trans hC hgx); replace hB := hBx; clear hBx hgx
  replace HS := Lib.hid (HS.out.kept hC)
  clear hC
  have hC : Below w2.heap.size w2 w2 := Below.refl _ _
  clear hO
  go_wp2_with ((first | (refine wpList_load20 34 Try.underlying34 (by kernel_rfl) rfl (by rfl) _ rfl rfl (by assumption) (by rfl) (by rfl) (by rfl) (by rfl) (by rfl) (by rfl) (by rfl) (by rfl) (by rfl) (by rfl) (by rfl) (by rfl) (by rfl) (by rfl) (by rfl) (by rfl) (by rfl) (by rfl) (by rfl) (by rfl) ?_) | (refine wpList_storeW 34 (by rfl) _ _ rfl rfl hk0 rfl (by kernel_rfl) (by rfl) (by rfl) ?_; intro ws hkx hos; (try clear hgx); replace hB := below_store hB hos (by omega); (try replace hk1 := hk1.out hos (not_one (by omega))); replace hk0 := hkx; clear hkx; (try replace hC := below_store hC hos (by omega)); clear hos) | (refine wpList_storeW 34 (by rfl) _ _ rfl rfl hk1 rfl (by kernel_rfl) (by rfl) (by rfl) ?_; intro ws hkx hos; (try clear hgx); replace hB := below_store hB hos (by omega); (try replace hk0 := hk0.out hos (not_one (by omega))); replace hk1 := hkx; clear hkx; (try replace hC := below_store hC hos (by omega)); clear hos) | (refine wpList_allocB 34 (by rfl) rfl (fun W => Try.zeroValue34 W) (by rfl) ?_; intro bn1 wn hbn hk1 hgn hzn; have hbl1_0 := hbn ▸ hk0.lt; (try clear hgx); have hbB1 : w.heap.size ≤ bn1 := (by rw [hbn]; exact hB.size); replace hB := kept_trans hB hgn; replace hk0 := hk0.kept hgn; (try replace hC := kept_trans hC hgn); have hbz1 := Nat.le_of_eq hbn.symm; clear hgn hbn))); refine (finv_val a_1 _ _ (HS.out.kept hC).at sA_in (new_few c0A_b)).mono ?_; rintro e w3 ⟨⟨q1, c1, q2, c2, q3, c3, q4, c4, q5, c5, q6, c6, q7, c7⟩, rfl, hO, hgx⟩; have hBx : Below w.heap.size w w3 := (by repeat' (first | (with_reducible exact Below.refl _ _) | (with_reducible assumption) | (with_reducible refine kept_alloc ?_ _) | (with_reducible refine kept_drewN ?_ _) | (with_reducible refine Below.drew ?_) | (with_reducible refine Below.setCell ?_ (by first | omega | (simp; omega) | (simp; done)) _) | (refine kept_trans ?_ (by with_reducible assumption)))); (try replace hk0 := Bk.kept (by first | exact hk0 | exact Bk.past hk0 | exact Bk.past (Bk.past hk0)) hgx); (try replace hk1 := Bk.kept (by first | exact hk1 | exact Bk.past hk1 | exact Bk.past (Bk.past hk1)) hgx); (try replace hC := kept_trans hC hgx); replace hB := hBx; clear hBx hgx
  replace HS := Lib.hid (HS.out.kept hC)
  clear hC
  have hC : Below w3.heap.size w3 w3 := Below.refl _ _
  clear hk1
  obtain ⟨ga, hga⟩ := Ow.pos hO.th (by decide)
  simp only at hga
  subst hga
  have HA := Lib.hid hO
  clear hO
  go_wp2_with ((first | (refine wpList_load20 34 Try.underlying34 (by kernel_rfl) rfl (by rfl) _ rfl rfl (by assumption) (by rfl) (by rfl) (by rfl) (by rfl) (by rfl) (by rfl) (by rfl) (by rfl) (by rfl) (by rfl) (by rfl) (by rfl) (by rfl) (by rfl) (by rfl) (by rfl) (by rfl) (by rfl) (by rfl) (by rfl) ?_) | (refine wpList_storeW 34 (by rfl) _ _ rfl rfl hk0 rfl (by kernel_rfl) (by rfl) (by rfl) ?_; intro ws hkx hos; (try clear hgx); replace hB := below_store hB hos (by omega); (try replace hk1 := hk1.out hos (not_one (by omega))); replace hk0 := hkx; clear hkx; (try replace hC := below_store hC hos (by omega)); clear hos) | (refine wpList_storeW 34 (by rfl) _ _ rfl rfl hk1 rfl (by kernel_rfl) (by rfl) (by rfl) ?_; intro ws hkx hos; (try clear hgx); replace hB := below_store hB hos (by omega); (try replace hk0 := hk0.out hos (not_one (by omega))); replace hk1 := hkx; clear hkx; (try replace hC := below_store hC hos (by omega)); clear hos) | (refine wpList_allocB 34 (by rfl) rfl (fun W => Try.zeroValue34 W) (by rfl) ?_; intro bn1 wn hbn hk1 hgn hzn; have hbl1_0 := hbn ▸ hk0.lt; (try clear hgx); have hbB1 : w.heap.size ≤ bn1 := (by rw [hbn]; exact hB.size); replace hB := kept_trans hB hgn; replace hk0 := hk0.kept hgn; (try replace hC := kept_trans hC hgn); have hbz1 := Nat.le_of_eq hbn.symm; clear hgn hbn))); refine (finv_val a_2 _ _ (HA.out.kept hC).at aA_in aA_few).mono ?_; rintro e w4 ⟨z4, rfl, hO, hgx⟩; have hBx : Below w.heap.size w w4 := (by repeat' (first | (with_reducible exact Below.refl _ _) | (with_reducible assumption) | (with_reducible refine kept_alloc ?_ _) | (with_reducible refine kept_drewN ?_ _) | (with_reducible refine Below.drew ?_) | (with_reducible refine Below.setCell ?_ (by first | omega | (simp; omega) | (simp; done)) _) | (refine kept_trans ?_ (by with_reducible assumption)))); (try replace hk0 := Bk.kept (by first | exact hk0 | exact Bk.past hk0 | exact Bk.past (Bk.past hk0)) hgx); (try replace hk1 := Bk.kept (by first | exact hk1 | exact Bk.past hk1 | exact Bk.past (Bk.past hk1)) hgx); (try replace hC := kept_trans hC hgx); replace hB := hBx; clear hBx hgx
  replace HS := Lib.hid (HS.out.kept hC)
  replace HA := Lib.hid (HA.out.kept hC)
  clear hC
  have hC : Below w4.heap.size w4 w4 := Below.refl _ _
  clear hO
  go_wp2_with ((first | (refine wpList_load20 34 Try.underlying34 (by kernel_rfl) rfl (by rfl) _ rfl rfl (by assumption) (by rfl) (by rfl) (by rfl) (by rfl) (by rfl) (by rfl) (by rfl) (by rfl) (by rfl) (by rfl) (by rfl) (by rfl) (by rfl) (by rfl) (by rfl) (by rfl) (by rfl) (by rfl) (by rfl) (by rfl) ?_) | (refine wpList_storeW 34 (by rfl) _ _ rfl rfl hk0 rfl (by kernel_rfl) (by rfl) (by rfl) ?_; intro ws hkx hos; (try clear hgx); replace hB := below_store hB hos (by omega); (try replace hk1 := hk1.out hos (not_one (by omega))); (try replace hk2 := hk2.out hos (not_one (by omega))); replace hk0 := hkx; clear hkx; (try replace hC := below_store hC hos (by omega)); clear hos) | (refine wpList_storeW 34 (by rfl) _ _ rfl rfl hk1 rfl (by kernel_rfl) (by rfl) (by rfl) ?_; intro ws hkx hos; (try clear hgx); replace hB := below_store hB hos (by omega); (try replace hk0 := hk0.out hos (not_one (by omega))); (try replace hk2 := hk2.out hos (not_one (by omega))); replace hk1 := hkx; clear hkx; (try replace hC := below_store hC hos (by omega)); clear hos) | (refine wpList_storeW 34 (by rfl) _ _ rfl rfl hk2 rfl (by kernel_rfl) (by rfl) (by rfl) ?_; intro ws hkx hos; (try clear hgx); replace hB := below_store hB hos (by omega); (try replace hk0 := hk0.out hos (not_one (by omega))); (try replace hk1 := hk1.out hos (not_one (by omega))); replace hk2 := hkx; clear hkx; (try replace hC := below_store hC hos (by omega)); clear hos) | (refine wpList_allocB 34 (by rfl) rfl (fun W => Try.zeroValue34 W) (by rfl) ?_; intro bn2 wn hbn hk2 hgn hzn; have hbl2_0 := hbn ▸ hk0.lt; have hbl2_1 := hbn ▸ hk1.lt; (try clear hgx); have hbB2 : w.heap.size ≤ bn2 := (by rw [hbn]; exact hB.size); replace hB := kept_trans hB hgn; replace hk0 := hk0.kept hgn; replace hk1 := hk1.kept hgn; (try replace hC := kept_trans hC hgn); have hbz2 := Nat.le_of_eq hbn.symm; clear hgn hbn))); refine (finv_val a_3 _ _ (HA.out.kept hC).at aA_in aA_few).mono ?_; rintro e w5 ⟨z5, rfl, hO, hgx⟩; have hBx : Below w.heap.size w w5 := (by repeat' (first | (with_reducible exact Below.refl _ _) | (with_reducible assumption) | (with_reducible refine kept_alloc ?_ _) | (with_reducible refine kept_drewN ?_ _) | (with_reducible refine Below.drew ?_) | (with_reducible refine Below.setCell ?_ (by first | omega | (simp; omega) | (simp; done)) _) | (refine kept_trans ?_ (by with_reducible assumption)))); (try replace hk0 := Bk.kept (by first | exact hk0 | exact Bk.past hk0 | exact Bk.past (Bk.past hk0)) hgx); (try replace hk1 := Bk.kept (by first | exact hk1 | exact Bk.past hk1 | exact Bk.past (Bk.past hk1)) hgx); (try replace hk2 := Bk.kept (by first | exact hk2 | exact Bk.past hk2 | exact Bk.past (Bk.past hk2)) hgx); (try replace hC := kept_trans hC hgx); replace hB := hBx; clear hBx hgx
  replace HS := Lib.hid (HS.out.kept hC)
  replace HA := Lib.hid (HA.out.kept hC)
  clear hC
  have hC : Below w5.heap.size w5 w5 := Below.refl _ _
  clear hk2
  clear hO
  go_wp2_with ((first | (refine wpList_load20 34 Try.underlying34 (by kernel_rfl) rfl (by rfl) _ rfl rfl (by assumption) (by rfl) (by rfl) (by rfl) (by rfl) (by rfl) (by rfl) (by rfl) (by rfl) (by rfl) (by rfl) (by rfl) (by rfl) (by rfl) (by rfl) (by rfl) (by rfl) (by rfl) (by rfl) (by rfl) (by rfl) ?_) | (refine wpList_storeW 34 (by rfl) _ _ rfl rfl hk0 rfl (by kernel_rfl) (by rfl) (by rfl) ?_; intro ws hkx hos; (try clear hgx); replace hB := below_store hB hos (by omega); (try replace hk1 := hk1.out hos (not_one (by omega))); (try replace hk2 := hk2.out hos (not_one (by omega))); replace hk0 := hkx; clear hkx; (try replace hC := below_store hC hos (by omega)); clear hos) | (refine wpList_storeW 34 (by rfl) _ _ rfl rfl hk1 rfl (by kernel_rfl) (by rfl) (by rfl) ?_; intro ws hkx hos; (try clear hgx); replace hB := below_store hB hos (by omega); (try replace hk0 := hk0.out hos (not_one (by omega))); (try replace hk2 := hk2.out hos (not_one (by omega))); replace hk1 := hkx; clear hkx; (try replace hC := below_store hC hos (by omega)); clear hos) | (refine wpList_storeW 34 (by rfl) _ _ rfl rfl hk2 rfl (by kernel_rfl) (by rfl) (by rfl) ?_; intro ws hkx hos; (try clear hgx); replace hB := below_store hB hos (by omega); (try replace hk0 := hk0.out hos (not_one (by omega))); (try replace hk1 := hk1.out hos (not_one (by omega))); replace hk2 := hkx; clear hkx; (try replace hC := below_store hC hos (by omega)); clear hos) | (refine wpList_allocB 34 (by rfl) rfl (fun W => Try.zeroValue34 W) (by rfl) ?_; intro bn2 wn hbn hk2 hgn hzn; have hbl2_0 := hbn ▸ hk0.lt; have hbl2_1 := hbn ▸ hk1.lt; (try clear hgx); have hbB2 : w.heap.size ≤ bn2 := (by rw [hbn]; exact hB.size); replace hB := kept_trans hB hgn; replace hk0 := hk0.kept hgn; replace hk1 := hk1.kept hgn; (try replace hC := kept_trans hC hgn); have hbz2 := Nat.le_of_eq hbn.symm; clear hgn hbn))); refine (finv_val a_4 ⟨none, 0, none, 0, none, 0, none, 0, none, 0, none, 0, none, 0⟩ _ (st0_at _) st0_in st0_few).mono ?_; rintro e w6 ⟨z6, rfl, hO, hgx⟩; have hBx : Below w.heap.size w w6 := (by repeat' (first | (with_reducible exact Below.refl _ _) | (with_reducible assumption) | (with_reducible refine kept_alloc ?_ _) | (with_reducible refine kept_drewN ?_ _) | (with_reducible refine Below.drew ?_) | (with_reducible refine Below.setCell ?_ (by first | omega | (simp; omega) | (simp; done)) _) | (refine kept_trans ?_ (by with_reducible assumption)))); (try replace hk0 := Bk.kept (by first | exact hk0 | exact Bk.past hk0 | exact Bk.past (Bk.past hk0)) hgx); (try replace hk1 := Bk.kept (by first | exact hk1 | exact Bk.past hk1 | exact Bk.past (Bk.past hk1)) hgx); (try replace hk2 := Bk.kept (by first | exact hk2 | exact Bk.past hk2 | exact Bk.past (Bk.past hk2)) hgx); (try replace hC := kept_trans hC hgx); replace hB := hBx; clear hBx hgx
  replace HS := Lib.hid (HS.out.kept hC)
  replace HA := Lib.hid (HA.out.kept hC)
  clear hC
  have hC : Below w6.heap.size w6 w6 := Below.refl _ _
  clear hk2
  clear hO
  go_wp2_with ((first | (refine wpList_load20 34 Try.underlying34 (by kernel_rfl) rfl (by rfl) _ rfl rfl (by assumption) (by rfl) (by rfl) (by rfl) (by rfl) (by rfl) (by rfl) (by rfl) (by rfl) (by rfl) (by rfl) (by rfl) (by rfl) (by rfl) (by rfl) (by rfl) (by rfl) (by rfl) (by rfl) (by rfl) (by rfl) ?_) | (refine wpList_storeW 34 (by rfl) _ _ rfl rfl hk0 rfl (by kernel_rfl) (by rfl) (by rfl) ?_; intro ws hkx hos; (try clear hgx); replace hB := below_store hB hos (by omega); (try replace hk1 := hk1.out hos (not_one (by omega))); (try replace hk2 := hk2.out hos (not_one (by omega))); replace hk0 := hkx; clear hkx; (try replace hC := below_store hC hos (by omega)); clear hos) | (refine wpList_storeW 34 (by rfl) _ _ rfl rfl hk1 rfl (by kernel_rfl) (by rfl) (by rfl) ?_; intro ws hkx hos; (try clear hgx); replace hB := below_store hB hos (by omega); (try replace hk0 := hk0.out hos (not_one (by omega))); (try replace hk2 := hk2.out hos (not_one (by omega))); replace hk1 := hkx; clear hkx; (try replace hC := below_store hC hos (by omega)); clear hos) | (refine wpList_storeW 34 (by rfl) _ _ rfl rfl hk2 rfl (by kernel_rfl) (by rfl) (by rfl) ?_; intro ws hkx hos; (try clear hgx); replace hB := below_store hB hos (by omega); (try replace hk0 := hk0.out hos (not_one (by omega))); (try replace hk1 := hk1.out hos (not_one (by omega))); replace hk2 := hkx; clear hkx; (try replace hC := below_store hC hos (by omega)); clear hos) | (refine wpList_allocB 34 (by rfl) rfl (fun W => Try.zeroValue34 W) (by rfl) ?_; intro bn2 wn hbn hk2 hgn hzn; have hbl2_0 := hbn ▸ hk0.lt; have hbl2_1 := hbn ▸ hk1.lt; (try clear hgx); have hbB2 : w.heap.size ≤ bn2 := (by rw [hbn]; exact hB.size); replace hB := kept_trans hB hgn; replace hk0 := hk0.kept hgn; replace hk1 := hk1.kept hgn; (try replace hC := kept_trans hC hgn); have hbz2 := Nat.le_of_eq hbn.symm; clear hgn hbn))); refine (ftell_val a_5 _ _ (HA.out.kept hC).at aA_in aA_few).mono ?_; rintro e w7 ⟨⟨q1, c1, q2, c2, q3, c3, q4, c4, q5, c5, q6, c6, q7, c7⟩, rfl, hO, hgx⟩; have hBx : Below w.heap.size w w7 := (by repeat' (first | (with_reducible exact Below.refl _ _) | (with_reducible assumption) | (with_reducible refine kept_alloc ?_ _) | (with_reducible refine kept_drewN ?_ _) | (with_reducible refine Below.drew ?_) | (with_reducible refine Below.setCell ?_ (by first | omega | (simp; omega) | (simp; done)) _) | (refine kept_trans ?_ (by with_reducible assumption)))); (try replace hk0 := Bk.kept (by first | exact hk0 | exact Bk.past hk0 | exact Bk.past (Bk.past hk0)) hgx); (try replace hk1 := Bk.kept (by first | exact hk1 | exact Bk.past hk1 | exact Bk.past (Bk.past hk1)) hgx); (try replace hk2 := Bk.kept (by first | exact hk2 | exact Bk.past hk2 | exact Bk.past (Bk.past hk2)) hgx); (try replace hC := kept_trans hC hgx); replace hB := hBx; clear hBx hgx
  replace HS := Lib.hid (HS.out.kept hC)
  replace HA := Lib.hid (HA.out.kept hC)
  clear hC
  have hC : Below w7.heap.size w7 w7 := Below.refl _ _
  clear hk2
  obtain ⟨gb, hgb⟩ := Ow.pos hO.th (by decide)
  simp only at hgb
  subst hgb
  have HBB := Lib.hid hO
  clear hO
  go_wp2_with ((first | (refine wpList_load20 34 Try.underlying34 (by kernel_rfl) rfl (by rfl) _ rfl rfl (by assumption) (by rfl) (by rfl) (by rfl) (by rfl) (by rfl) (by rfl) (by rfl) (by rfl) (by rfl) (by rfl) (by rfl) (by rfl) (by rfl) (by rfl) (by rfl) (by rfl) (by rfl) (by rfl) (by rfl) (by rfl) ?_) | (refine wpList_storeW 34 (by rfl) _ _ rfl rfl hk0 rfl (by kernel_rfl) (by rfl) (by rfl) ?_; intro ws hkx hos; (try clear hgx); replace hB := below_store hB hos (by omega); (try replace hk1 := hk1.out hos (not_one (by omega))); (try replace hk2 := hk2.out hos (not_one (by omega))); replace hk0 := hkx; clear hkx; (try replace hC := below_store hC hos (by omega)); clear hos) | (refine wpList_storeW 34 (by rfl) _ _ rfl rfl hk1 rfl (by kernel_rfl) (by rfl) (by rfl) ?_; intro ws hkx hos; (try clear hgx); replace hB := below_store hB hos (by omega); (try replace hk0 := hk0.out hos (not_one (by omega))); (try replace hk2 := hk2.out hos (not_one (by omega))); replace hk1 := hkx; clear hkx; (try replace hC := below_store hC hos (by omega)); clear hos) | (refine wpList_storeW 34 (by rfl) _ _ rfl rfl hk2 rfl (by kernel_rfl) (by rfl) (by rfl) ?_; intro ws hkx hos; (try clear hgx); replace hB := below_store hB hos (by omega); (try replace hk0 := hk0.out hos (not_one (by omega))); (try replace hk1 := hk1.out hos (not_one (by omega))); replace hk2 := hkx; clear hkx; (try replace hC := below_store hC hos (by omega)); clear hos) | (refine wpList_allocB 34 (by rfl) rfl (fun W => Try.zeroValue34 W) (by rfl) ?_; intro bn2 wn hbn hk2 hgn hzn; have hbl2_0 := hbn ▸ hk0.lt; have hbl2_1 := hbn ▸ hk1.lt; (try clear hgx); have hbB2 : w.heap.size ≤ bn2 := (by rw [hbn]; exact hB.size); replace hB := kept_trans hB hgn; replace hk0 := hk0.kept hgn; replace hk1 := hk1.kept hgn; (try replace hC := kept_trans hC hgn); have hbz2 := Nat.le_of_eq hbn.symm; clear hgn hbn))); refine (ftell_val a_6 _ _ (HBB.out.kept hC).at bA_in bA_few).mono ?_; rintro e w8 ⟨⟨q1, c1, q2, c2, q3, c3, q4, c4, q5, c5, q6, c6, q7, c7⟩, rfl, hO, hgx⟩; have hBx : Below w.heap.size w w8 := (by repeat' (first | (with_reducible exact Below.refl _ _) | (with_reducible assumption) | (with_reducible refine kept_alloc ?_ _) | (with_reducible refine kept_drewN ?_ _) | (with_reducible refine Below.drew ?_) | (with_reducible refine Below.setCell ?_ (by first | omega | (simp; omega) | (simp; done)) _) | (refine kept_trans ?_ (by with_reducible assumption)))); (try replace hk0 := Bk.kept (by first | exact hk0 | exact Bk.past hk0 | exact Bk.past (Bk.past hk0)) hgx); (try replace hk1 := Bk.kept (by first | exact hk1 | exact Bk.past hk1 | exact Bk.past (Bk.past hk1)) hgx); (try replace hk2 := Bk.kept (by first | exact hk2 | exact Bk.past hk2 | exact Bk.past (Bk.past hk2)) hgx); (try replace hC := kept_trans hC hgx); replace hB := hBx; clear hBx hgx
  replace HS := Lib.hid (HS.out.kept hC)
  replace HA := Lib.hid (HA.out.kept hC)
  replace HBB := Lib.hid (HBB.out.kept hC)
  clear hC
  have hC : Below w8.heap.size w8 w8 := Below.refl _ _
  obtain ⟨gc, hgc⟩ := Ow.pos hO.th (by decide)
  simp only at hgc
  subst hgc
  obtain ⟨gl, hgl⟩ := Ow.pos hO.lg (by decide)
  simp only at hgl
  subst hgl
  have HCC := Lib.hid hO
  clear hO
  go_wp2_with ((first | (refine wpList_load20 34 Try.underlying34 (by kernel_rfl) rfl (by rfl) _ rfl rfl (by assumption) (by rfl) (by rfl) (by rfl) (by rfl) (by rfl) (by rfl) (by rfl) (by rfl) (by rfl) (by rfl) (by rfl) (by rfl) (by rfl) (by rfl) (by rfl) (by rfl) (by rfl) (by rfl) (by rfl) (by rfl) ?_) | (refine wpList_storeW 34 (by rfl) _ _ rfl rfl hk0 rfl (by kernel_rfl) (by rfl) (by rfl) ?_; intro ws hkx hos; (try clear hgx); replace hB := below_store hB hos (by omega); (try replace hk1 := hk1.out hos (not_one (by omega))); (try replace hk2 := hk2.out hos (not_one (by omega))); (try replace hk3 := hk3.out hos (not_one (by omega))); replace hk0 := hkx; clear hkx; (try replace hC := below_store hC hos (by omega)); clear hos) | (refine wpList_storeW 34 (by rfl) _ _ rfl rfl hk1 rfl (by kernel_rfl) (by rfl) (by rfl) ?_; intro ws hkx hos; (try clear hgx); replace hB := below_store hB hos (by omega); (try replace hk0 := hk0.out hos (not_one (by omega))); (try replace hk2 := hk2.out hos (not_one (by omega))); (try replace hk3 := hk3.out hos (not_one (by omega))); replace hk1 := hkx; clear hkx; (try replace hC := below_store hC hos (by omega)); clear hos) | (refine wpList_storeW 34 (by rfl) _ _ rfl rfl hk2 rfl (by kernel_rfl) (by rfl) (by rfl) ?_; intro ws hkx hos; (try clear hgx); replace hB := below_store hB hos (by omega); (try replace hk0 := hk0.out hos (not_one (by omega))); (try replace hk1 := hk1.out hos (not_one (by omega))); (try replace hk3 := hk3.out hos (not_one (by omega))); replace hk2 := hkx; clear hkx; (try replace hC := below_store hC hos (by omega)); clear hos) | (refine wpList_storeW 34 (by rfl) _ _ rfl rfl hk3 rfl (by kernel_rfl) (by rfl) (by rfl) ?_; intro ws hkx hos; (try clear hgx); replace hB := below_store hB hos (by omega); (try replace hk0 := hk0.out hos (not_one (by omega))); (try replace hk1 := hk1.out hos (not_one (by omega))); (try replace hk2 := hk2.out hos (not_one (by omega))); replace hk3 := hkx; clear hkx; (try replace hC := below_store hC hos (by omega)); clear hos) | (refine wpList_allocB 34 (by rfl) rfl (fun W => Try.zeroValue34 W) (by rfl) ?_; intro bn3 wn hbn hk3 hgn hzn; have hbl3_0 := hbn ▸ hk0.lt; have hbl3_1 := hbn ▸ hk1.lt; have hbl3_2 := hbn ▸ hk2.lt; (try clear hgx); have hbB3 : w.heap.size ≤ bn3 := (by rw [hbn]; exact hB.size); replace hB := kept_trans hB hgn; replace hk0 := hk0.kept hgn; replace hk1 := hk1.kept hgn; replace hk2 := hk2.kept hgn; (try replace hC := kept_trans hC hgn); have hbz3 := Nat.le_of_eq hbn.symm; clear hgn hbn))); refine (fqueue_val a_7 _ _ (HS.out.kept hC).at sA_in).mono ?_; rintro e w9 ⟨qp, qc, rfl, hOq, hgx⟩; have hBx : Below w.heap.size w w9 := (by repeat' (first | (with_reducible exact Below.refl _ _) | (with_reducible assumption) | (with_reducible refine kept_alloc ?_ _) | (with_reducible refine kept_drewN ?_ _) | (with_reducible refine Below.drew ?_) | (with_reducible refine Below.setCell ?_ (by first | omega | (simp; omega) | (simp; done)) _) | (refine kept_trans ?_ (by with_reducible assumption)))); (try replace hk0 := Bk.kept (by first | exact hk0 | exact Bk.past hk0 | exact Bk.past (Bk.past hk0)) hgx); (try replace hk1 := Bk.kept (by first | exact hk1 | exact Bk.past hk1 | exact Bk.past (Bk.past hk1)) hgx); (try replace hk2 := Bk.kept (by first | exact hk2 | exact Bk.past hk2 | exact Bk.past (Bk.past hk2)) hgx); (try replace hk3 := Bk.kept (by first | exact hk3 | exact Bk.past hk3 | exact Bk.past (Bk.past hk3)) hgx); (try replace hC := kept_trans hC hgx); replace hB := hBx; clear hBx hgx
  replace HS := Lib.hid (HS.out.kept hC)
  replace HA := Lib.hid (HA.out.kept hC)
  replace HBB := Lib.hid (HBB.out.kept hC)
  replace HCC := Lib.hid (HCC.out.kept hC)
  clear hC
  have hC : Below w9.heap.size w9 w9 := Below.refl _ _
  clear hOq
  go_upto_region 10 with (first | (refine wpList_load4 40 Try.underlying40 (by kernel_rfl) rfl (by rfl) _ rfl rfl (by assumption) (by rfl) (by rfl) (by rfl) (by rfl) ?_) | (refine wpList_storeW 40 (by rfl) _ _ rfl rfl hk0 rfl (by kernel_rfl) (by rfl) (by rfl) ?_; intro ws hkx hos; (try clear hgx); replace hB := below_store hB hos (by omega); (try replace hk1 := hk1.out hos (not_one (by omega))); (try replace hk2 := hk2.out hos (not_one (by omega))); (try replace hk3 := hk3.out hos (not_one (by omega))); (try replace hk4 := hk4.out hos (not_one (by omega))); replace hk0 := hkx; clear hkx; (try replace hC := below_store hC hos (by omega)); clear hos) | (refine wpList_storeW 40 (by rfl) _ _ rfl rfl hk1 rfl (by kernel_rfl) (by rfl) (by rfl) ?_; intro ws hkx hos; (try clear hgx); replace hB := below_store hB hos (by omega); (try replace hk0 := hk0.out hos (not_one (by omega))); (try replace hk2 := hk2.out hos (not_one (by omega))); (try replace hk3 := hk3.out hos (not_one (by omega))); (try replace hk4 := hk4.out hos (not_one (by omega))); replace hk1 := hkx; clear hkx; (try replace hC := below_store hC hos (by omega)); clear hos) | (refine wpList_storeW 40 (by rfl) _ _ rfl rfl hk2 rfl (by kernel_rfl) (by rfl) (by rfl) ?_; intro ws hkx hos; (try clear hgx); replace hB := below_store hB hos (by omega); (try replace hk0 := hk0.out hos (not_one (by omega))); (try replace hk1 := hk1.out hos (not_one (by omega))); (try replace hk3 := hk3.out hos (not_one (by omega))); (try replace hk4 := hk4.out hos (not_one (by omega))); replace hk2 := hkx; clear hkx; (try replace hC := below_store hC hos (by omega)); clear hos) | (refine wpList_storeW 40 (by rfl) _ _ rfl rfl hk3 rfl (by kernel_rfl) (by rfl) (by rfl) ?_; intro ws hkx hos; (try clear hgx); replace hB := below_store hB hos (by omega); (try replace hk0 := hk0.out hos (not_one (by omega))); (try replace hk1 := hk1.out hos (not_one (by omega))); (try replace hk2 := hk2.out hos (not_one (by omega))); (try replace hk4 := hk4.out hos (not_one (by omega))); replace hk3 := hkx; clear hkx; (try replace hC := below_store hC hos (by omega)); clear hos) | (refine wpList_storeW 40 (by rfl) _ _ rfl rfl hk4 rfl (by kernel_rfl) (by rfl) (by rfl) ?_; intro ws hkx hos; (try clear hgx); replace hB := below_store hB hos (by omega); (try replace hk0 := hk0.out hos (not_one (by omega))); (try replace hk1 := hk1.out hos (not_one (by omega))); (try replace hk2 := hk2.out hos (not_one (by omega))); (try replace hk3 := hk3.out hos (not_one (by omega))); replace hk4 := hkx; clear hkx; (try replace hC := below_store hC hos (by omega)); clear hos) | (refine wpList_allocB 40 (by rfl) rfl (fun W => Try.zeroValue40 W) (by rfl) ?_; intro bn4 wn hbn hk4 hgn hzn; have hbl4_0 := hbn ▸ hk0.lt; have hbl4_1 := hbn ▸ hk1.lt; have hbl4_2 := hbn ▸ hk2.lt; have hbl4_3 := hbn ▸ hk3.lt; (try clear hgx); have hbB4 : w.heap.size ≤ bn4 := (by rw [hbn]; exact hB.size); replace hB := kept_trans hB hgn; replace hk0 := hk0.kept hgn; replace hk1 := hk1.kept hgn; replace hk2 := hk2.kept hgn; replace hk3 := hk3.kept hgn; (try replace hC := kept_trans hC hgn); have hbz4 := Nat.le_of_eq hbn.symm; clear hgn hbn))
  replace HS := Lib.hid (HS.out.kept hC)
  replace HA := Lib.hid (HA.out.kept hC)
  replace HBB := Lib.hid (HBB.out.kept hC)
  replace HCC := Lib.hid (HCC.out.kept hC)
  clear hC
  have d1 := hk1.cell 18
  simp only [List.getElem?_cons_succ, List.getElem?_cons_zero] at d1
  have d2 := hk2.cell 18
  simp only [List.getElem?_cons_succ, List.getElem?_cons_zero] at d2
  have d3 := hk3.cell 18
  simp only [List.getElem?_cons_succ, List.getElem?_cons_zero] at d3
  have d4 := hk3.cell 19
  simp only [List.getElem?_cons_succ, List.getElem?_cons_zero] at d4
  have d5 := hk4.cell 0
  simp only [List.getElem?_cons_succ, List.getElem?_cons_zero] at d5
  have d6 := hk4.cell 1
  simp only [List.getElem?_cons_succ, List.getElem?_cons_zero] at d6
  have l0 := hk0.lt
  have l1 := hk1.lt
  have l2 := hk2.lt
  have l3 := hk3.lt
  have l4 := hk4.lt
  clear hk1 hk2 hk3 hk4
  have ta : ws.cell? ⟨ga, 13, none⟩ = some (.int .i64 7) := (sth_at HA.out.at.th (j := 1) (by decide)).2.2.1
  have gta := (Ow.lt HA.out.th _ rfl).2
  have tb : ws.cell? ⟨gb, 20, none⟩ = some (.int .i64 1) := (sth_at HBB.out.at.th (j := 1) (by decide)).2.2.2.2.2.2.2.2.2.1
  have gtb := (Ow.lt HBB.out.th _ rfl).2
  have tc : ws.cell? ⟨gc, 21, none⟩ = some (.int .i64 3) := (sth_at HCC.out.at.th (j := 1) (by decide)).2.2.2.2.2.2.2.2.2.2
  have gtc := (Ow.lt HCC.out.th _ rfl).2
  obtain ⟨f00, f01, f02, f03, f04⟩ : ws.cell? ⟨gl, 0, none⟩ = some (.int .i64 1) ∧ ws.cell? ⟨gl, 1, none⟩ = some (.int .i64 1) ∧ ws.cell? ⟨gl, 2, none⟩ = some (.int .i64 7) ∧ ws.cell? ⟨gl, 3, none⟩ = some (.int .i64 1) ∧ ws.cell? ⟨gl, 4, none⟩ = some (.int .i64 3) := sen_at HCC.out.at.lg (j := 0) (by decide)
  have hcmp0 : ∀ W, (binOp .eql 48 (.agg #[.int .i64 1, .int .i64 1, .int .i64 7, .int .i64 1, .int .i64 3]) (.agg #[.int .i64 1, .int .i64 1, .int .i64 7, .int .i64 1, .int .i64 3])).run Try.prog W = .ok (.bool true) W := fun W => en_eql ⟨1, 1, 7, 1, 3⟩ ⟨1, 1, 7, 1, 3⟩ W
  obtain ⟨f10, f11, f12, f13, f14⟩ : ws.cell? ⟨gl, 5, none⟩ = some (.int .i64 1) ∧ ws.cell? ⟨gl, 6, none⟩ = some (.int .i64 9) ∧ ws.cell? ⟨gl, 7, none⟩ = some (.int .i64 7) ∧ ws.cell? ⟨gl, 8, none⟩ = some (.int .i64 1) ∧ ws.cell? ⟨gl, 9, none⟩ = some (.int .i64 9) := sen_at HCC.out.at.lg (j := 1) (by decide)
  have hcmp1 : ∀ W, (binOp .eql 48 (.agg #[.int .i64 1, .int .i64 9, .int .i64 7, .int .i64 1, .int .i64 9]) (.agg #[.int .i64 1, .int .i64 9, .int .i64 7, .int .i64 1, .int .i64 9])).run Try.prog W = .ok (.bool true) W := fun W => en_eql ⟨1, 9, 7, 1, 9⟩ ⟨1, 9, 7, 1, 9⟩ W
  have ggl := (Ow.lt HCC.out.lg _ rfl).2
  have n1 : ((aA.th.length : Int) != 2) = false := by decide
  have n2 : ((bA.th.length : Int) != 2) = false := by decide
  have n3 : ((cA.th.length : Int) != 2) = false := by decide
  have n4 : ((cA.lg.length : Int) != 2) = false := by decide
  have n5 : (1 : Int) < (aA.th.length : Int) := by decide
  have n6 : (1 : Int) < (bA.th.length : Int) := by decide
  have n7 : (1 : Int) < (cA.th.length : Int) := by decide
  have n8 : (1 : Int) < (cA.lg.length : Int) := by decide
  have n9 : (0 : Int) < (cA.lg.length : Int) := by decide
  have hC : Below ws.heap.size ws ws := Below.refl _ _
  go_wp2_with (first | (refine wpList_load20 34 Try.underlying34 (by kernel_rfl) rfl (by rfl) _ rfl rfl (by assumption) (by rfl) (by rfl) (by rfl) (by rfl) (by rfl) (by rfl) (by rfl) (by rfl) (by rfl) (by rfl) (by rfl) (by rfl) (by rfl) (by rfl) (by rfl) (by rfl) (by rfl) (by rfl) (by rfl) (by rfl) ?_) | (refine wpList_storeW 34 (by rfl) _ _ rfl rfl hk0 rfl (by kernel_rfl) (by rfl) (by rfl) ?_; intro ws hkx hos; (try clear hgx); replace hB := below_store hB hos (by omega); replace hk0 := hkx; clear hkx; (try replace hC := below_store hC hos (by omega)); clear hos))
  refine (fcheck_val sA_b _ _ (HS.out.kept hC).at sA_in).mono ?_; rintro e wA ⟨rfl, hgx⟩; have hBx : Below w.heap.size w wA := (by repeat' (first | (with_reducible exact Below.refl _ _) | (with_reducible assumption) | (with_reducible refine kept_alloc ?_ _) | (with_reducible refine kept_drewN ?_ _) | (with_reducible refine Below.drew ?_) | (with_reducible refine Below.setCell ?_ (by first | omega | (simp; omega) | (simp; done)) _) | (refine kept_trans ?_ (by with_reducible assumption)))); (try replace hk0 := Bk.kept (by first | exact hk0 | exact Bk.past hk0 | exact Bk.past (Bk.past hk0)) hgx); (try replace hC := kept_trans hC hgx); replace hB := hBx; clear hBx hgx
  go_wp2_with ((first | (refine wpList_load20 34 Try.underlying34 (by kernel_rfl) rfl (by rfl) _ rfl rfl (by assumption) (by rfl) (by rfl) (by rfl) (by rfl) (by rfl) (by rfl) (by rfl) (by rfl) (by rfl) (by rfl) (by rfl) (by rfl) (by rfl) (by rfl) (by rfl) (by rfl) (by rfl) (by rfl) (by rfl) (by rfl) ?_) | (refine wpList_storeW 34 (by rfl) _ _ rfl rfl hk0 rfl (by kernel_rfl) (by rfl) (by rfl) ?_; intro ws hkx hos; (try clear hgx); replace hB := below_store hB hos (by omega); replace hk0 := hkx; clear hkx; (try replace hC := below_store hC hos (by omega)); clear hos))); refine (fcheck_val st0_not ⟨none, 0, none, 0, none, 0, none, 0, none, 0, none, 0, none, 0⟩ _ (st0_at _) st0_in).mono ?_; rintro e wB ⟨rfl, hgx⟩; have hBx : Below w.heap.size w wB := (by repeat' (first | (with_reducible exact Below.refl _ _) | (with_reducible assumption) | (with_reducible refine kept_alloc ?_ _) | (with_reducible refine kept_drewN ?_ _) | (with_reducible refine Below.drew ?_) | (with_reducible refine Below.setCell ?_ (by first | omega | (simp; omega) | (simp; done)) _) | (refine kept_trans ?_ (by with_reducible assumption)))); (try replace hk0 := Bk.kept (by first | exact hk0 | exact Bk.past hk0 | exact Bk.past (Bk.past hk0)) hgx); (try replace hC := kept_trans hC hgx); replace hB := hBx; clear hBx hgx
  go_wp2_with ((first | (refine wpList_load20 34 Try.underlying34 (by kernel_rfl) rfl (by rfl) _ rfl rfl (by assumption) (by rfl) (by rfl) (by rfl) (by rfl) (by rfl) (by rfl) (by rfl) (by rfl) (by rfl) (by rfl) (by rfl) (by rfl) (by rfl) (by rfl) (by rfl) (by rfl) (by rfl) (by rfl) (by rfl) (by rfl) ?_) | (refine wpList_storeW 34 (by rfl) _ _ rfl rfl hk0 rfl (by kernel_rfl) (by rfl) (by rfl) ?_; intro ws hkx hos; (try clear hgx); replace hB := below_store hB hos (by omega); replace hk0 := hkx; clear hkx; (try replace hC := below_store hC hos (by omega)); clear hos))); refine (fvalue_val a_8 _ _ (HS.out.kept hC).at sA_in (by decide)).mono ?_; rintro e wC ⟨rfl, hgx⟩; have hBx : Below w.heap.size w wC := (by repeat' (first | (with_reducible exact Below.refl _ _) | (with_reducible assumption) | (with_reducible refine kept_alloc ?_ _) | (with_reducible refine kept_drewN ?_ _) | (with_reducible refine Below.drew ?_) | (with_reducible refine Below.setCell ?_ (by first | omega | (simp; omega) | (simp; done)) _) | (refine kept_trans ?_ (by with_reducible assumption)))); (try replace hk0 := Bk.kept (by first | exact hk0 | exact Bk.past hk0 | exact Bk.past (Bk.past hk0)) hgx); (try replace hC := kept_trans hC hgx); replace hB := hBx; clear hBx hgx
  go_wp2
  go_ret
  exact ⟨rfl, hB⟩
end Go.Proofs.Ytbbfdaehaiimiaa
