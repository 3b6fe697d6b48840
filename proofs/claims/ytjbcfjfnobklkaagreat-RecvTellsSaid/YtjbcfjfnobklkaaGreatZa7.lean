/- Texts merged: LdsP, FabEP, FactsP, FabTP, FabKP, OwnP, ThEP, ThIP, ThGP, ThMP, FabLP, FabMP, TailP, FabNP. -/
import Derived.Test.YtjbcfjfnobklkaaGreatZa6
import Derived.Test.YtjbcfjfnobklkaaGreatZa1
import Derived.BigRegion
import Derived.Deep.RegionLaw
import Derived.StillTail
/- Loads, stores and new variables of the api's types, at boxes known by whole rows: a law for each type. Written by tools/lds.py. -/
namespace Go.Proofs.YtjbcfjfnobklkaaGreat
set_option linter.unusedVariables false
set_option linter.unusedSimpArgs false
open Go.ChangeShapes Go.WideShapes Go.ChangeAt Go.RowKit
theorem Bk.off {W W' : World} {b c : Nat} {cs : List Value} (h : Bk W b cs) (ho : Out [c] W W') (hne : b < c ∨ c < b) : Bk W' b cs := h.out ho (not_one hne)
section
variable {ops : Array Oper} {rest : List Oper} {o : Oper} {a : Act} {w : World} {Q : Exit → Act → World → Prop} {b off : Nat} {cs : List Value}
theorem ldoS (hgd : Region.wanted o (yielded ops a.tmps) = true) {x : Operand} (ho : o.op = .load 33 x) (hx : a.eval x = .pointer (some ⟨b, off, none⟩)) (hb : Bk w b cs) {u0 u1 u2 u3 u4 u5 u6 u7 u8 u9 u10 u11 u12 u13 u14 u15 u16 u17 u18 u19 : Value} (hp : cs[off + 0]? = some u0 ∧ cs[off + 1]? = some u1 ∧ cs[off + 2]? = some u2 ∧ cs[off + 3]? = some u3 ∧ cs[off + 4]? = some u4 ∧ cs[off + 5]? = some u5 ∧ cs[off + 6]? = some u6 ∧ cs[off + 7]? = some u7 ∧ cs[off + 8]? = some u8 ∧ cs[off + 9]? = some u9 ∧ cs[off + 10]? = some u10 ∧ cs[off + 11]? = some u11 ∧ cs[off + 12]? = some u12 ∧ cs[off + 13]? = some u13 ∧ cs[off + 14]? = some u14 ∧ cs[off + 15]? = some u15 ∧ cs[off + 16]? = some u16 ∧ cs[off + 17]? = some u17 ∧ cs[off + 18]? = some u18 ∧ cs[off + 19]? = some u19) (h : wpList Tryz.prog ops Q rest (a.put o.dst (.agg #[u0, u1, u2, u3, u4, u5, u6, u7, u8, u9, u10, u11, u12, u13, u14, u15, u16, u17, u18, u19])) w) : wpList Tryz.prog ops Q (o :: rest) a w := by
  obtain ⟨h0, h1, h2, h3, h4, h5, h6, h7, h8, h9, h10, h11, h12, h13, h14, h15, h16, h17, h18, h19⟩ := hp
  exact wpList_loadL hgd 33 x ho hx hb Tryz.underlying33 rfl [u0, u1, u2, u3, u4, u5, u6, u7, u8, u9, u10, u11, u12, u13, u14, u15, u16, u17, u18, u19] (by kernel_rfl) (fun j v hv => by
    have hj : j < 20 := (List.getElem?_eq_some_iff.1 hv).1
    match j, hj with
    | 0, _ => exact h0.trans hv
    | 1, _ => exact h1.trans hv
    | 2, _ => exact h2.trans hv
    | 3, _ => exact h3.trans hv
    | 4, _ => exact h4.trans hv
    | 5, _ => exact h5.trans hv
    | 6, _ => exact h6.trans hv
    | 7, _ => exact h7.trans hv
    | 8, _ => exact h8.trans hv
    | 9, _ => exact h9.trans hv
    | 10, _ => exact h10.trans hv
    | 11, _ => exact h11.trans hv
    | 12, _ => exact h12.trans hv
    | 13, _ => exact h13.trans hv
    | 14, _ => exact h14.trans hv
    | 15, _ => exact h15.trans hv
    | 16, _ => exact h16.trans hv
    | 17, _ => exact h17.trans hv
    | 18, _ => exact h18.trans hv
    | 19, _ => exact h19.trans hv) h
theorem stoS (hgd : Region.wanted o (yielded ops a.tmps) = true) {x y : Operand} (ho : o.op = .store 33 x y) (hx : a.eval x = .pointer (some ⟨b, 0, none⟩)) (hb : Bk w b cs) {u0 u1 u2 u3 u4 u5 u6 u7 u8 u9 u10 u11 u12 u13 u14 u15 u16 u17 u18 u19 : Value} (hy : a.eval y = .agg #[u0, u1, u2, u3, u4, u5, u6, u7, u8, u9, u10, u11, u12, u13, u14, u15, u16, u17, u18, u19]) (h1 : [u0, u1, u2, u3, u4, u5, u6, u7, u8, u9, u10, u11, u12, u13, u14, u15, u16, u17, u18, u19].all (·.oneCell') = true) (hl : cs.length = 20) (h : ∀ W', Bk W' b [u0, u1, u2, u3, u4, u5, u6, u7, u8, u9, u10, u11, u12, u13, u14, u15, u16, u17, u18, u19] → Out [b] w W' → wpList Tryz.prog ops Q rest (a.put o.dst undef) W') : wpList Tryz.prog ops Q (o :: rest) a w :=
  wpList_storeW 33 hgd x y ho hx hb (us := [u0, u1, u2, u3, u4, u5, u6, u7, u8, u9, u10, u11, u12, u13, u14, u15, u16, u17, u18, u19]) hy (by kernel_rfl) h1 hl h
theorem ldoC (hgd : Region.wanted o (yielded ops a.tmps) = true) {x : Operand} (ho : o.op = .load 23 x) (hx : a.eval x = .pointer (some ⟨b, off, none⟩)) (hb : Bk w b cs) {u0 u1 u2 u3 u4 u5 u6 : Value} (hp : cs[off + 0]? = some u0 ∧ cs[off + 1]? = some u1 ∧ cs[off + 2]? = some u2 ∧ cs[off + 3]? = some u3 ∧ cs[off + 4]? = some u4 ∧ cs[off + 5]? = some u5 ∧ cs[off + 6]? = some u6) (h : wpList Tryz.prog ops Q rest (a.put o.dst (.agg #[u0, u1, u2, u3, u4, u5, u6])) w) : wpList Tryz.prog ops Q (o :: rest) a w := by
  obtain ⟨h0, h1, h2, h3, h4, h5, h6⟩ := hp
  exact wpList_loadL hgd 23 x ho hx hb Tryz.underlying23 rfl [u0, u1, u2, u3, u4, u5, u6] (by kernel_rfl) (fun j v hv => by
    have hj : j < 7 := (List.getElem?_eq_some_iff.1 hv).1
    match j, hj with
    | 0, _ => exact h0.trans hv
    | 1, _ => exact h1.trans hv
    | 2, _ => exact h2.trans hv
    | 3, _ => exact h3.trans hv
    | 4, _ => exact h4.trans hv
    | 5, _ => exact h5.trans hv
    | 6, _ => exact h6.trans hv) h
theorem ldoW (hgd : Region.wanted o (yielded ops a.tmps) = true) {x : Operand} (ho : o.op = .load 25 x) (hx : a.eval x = .pointer (some ⟨b, off, none⟩)) (hb : Bk w b cs) {u0 u1 u2 : Value} (hp : cs[off + 0]? = some u0 ∧ cs[off + 1]? = some u1 ∧ cs[off + 2]? = some u2) (h : wpList Tryz.prog ops Q rest (a.put o.dst (.agg #[u0, u1, u2])) w) : wpList Tryz.prog ops Q (o :: rest) a w := by
  obtain ⟨h0, h1, h2⟩ := hp
  exact wpList_loadL hgd 25 x ho hx hb Tryz.underlying25 rfl [u0, u1, u2] (by kernel_rfl) (fun j v hv => by
    have hj : j < 3 := (List.getElem?_eq_some_iff.1 hv).1
    match j, hj with
    | 0, _ => exact h0.trans hv
    | 1, _ => exact h1.trans hv
    | 2, _ => exact h2.trans hv) h
theorem ldoE (hgd : Region.wanted o (yielded ops a.tmps) = true) {x : Operand} (ho : o.op = .load 29 x) (hx : a.eval x = .pointer (some ⟨b, off, none⟩)) (hb : Bk w b cs) {u0 u1 : Value} (hp : cs[off + 0]? = some u0 ∧ cs[off + 1]? = some u1) (h : wpList Tryz.prog ops Q rest (a.put o.dst (.agg #[u0, u1])) w) : wpList Tryz.prog ops Q (o :: rest) a w := by
  obtain ⟨h0, h1⟩ := hp
  exact wpList_loadL hgd 29 x ho hx hb Tryz.underlying29 rfl [u0, u1] (by kernel_rfl) (fun j v hv => by
    have hj : j < 2 := (List.getElem?_eq_some_iff.1 hv).1
    match j, hj with
    | 0, _ => exact h0.trans hv
    | 1, _ => exact h1.trans hv) h
theorem ldoT (hgd : Region.wanted o (yielded ops a.tmps) = true) {x : Operand} (ho : o.op = .load 44 x) (hx : a.eval x = .pointer (some ⟨b, off, none⟩)) (hb : Bk w b cs) {u0 u1 u2 u3 u4 u5 u6 u7 u8 u9 u10 : Value} (hp : cs[off + 0]? = some u0 ∧ cs[off + 1]? = some u1 ∧ cs[off + 2]? = some u2 ∧ cs[off + 3]? = some u3 ∧ cs[off + 4]? = some u4 ∧ cs[off + 5]? = some u5 ∧ cs[off + 6]? = some u6 ∧ cs[off + 7]? = some u7 ∧ cs[off + 8]? = some u8 ∧ cs[off + 9]? = some u9 ∧ cs[off + 10]? = some u10) (h : wpList Tryz.prog ops Q rest (a.put o.dst (.agg #[u0, u1, u2, u3, u4, u5, u6, u7, u8, u9, u10])) w) : wpList Tryz.prog ops Q (o :: rest) a w := by
  obtain ⟨h0, h1, h2, h3, h4, h5, h6, h7, h8, h9, h10⟩ := hp
  exact wpList_loadL hgd 44 x ho hx hb Tryz.underlying44 rfl [u0, u1, u2, u3, u4, u5, u6, u7, u8, u9, u10] (by kernel_rfl) (fun j v hv => by
    have hj : j < 11 := (List.getElem?_eq_some_iff.1 hv).1
    match j, hj with
    | 0, _ => exact h0.trans hv
    | 1, _ => exact h1.trans hv
    | 2, _ => exact h2.trans hv
    | 3, _ => exact h3.trans hv
    | 4, _ => exact h4.trans hv
    | 5, _ => exact h5.trans hv
    | 6, _ => exact h6.trans hv
    | 7, _ => exact h7.trans hv
    | 8, _ => exact h8.trans hv
    | 9, _ => exact h9.trans hv
    | 10, _ => exact h10.trans hv) h
theorem ldoi (hgd : Region.wanted o (yielded ops a.tmps) = true) {x : Operand} (ho : o.op = .load 3 x) (hx : a.eval x = .pointer (some ⟨b, off, none⟩)) (hb : Bk w b cs) {u : Value} (hp : cs[off]? = some u) (h : wpList Tryz.prog ops Q rest (a.put o.dst u) w) : wpList Tryz.prog ops Q (o :: rest) a w :=
  wpList_load1 3 Tryz.underlying3 rfl hgd _ ho hx hb hp h
theorem ldol (hgd : Region.wanted o (yielded ops a.tmps) = true) {x : Operand} (ho : o.op = .load 27 x) (hx : a.eval x = .pointer (some ⟨b, off, none⟩)) (hb : Bk w b cs) {u : Value} (hp : cs[off]? = some u) (h : wpList Tryz.prog ops Q rest (a.put o.dst u) w) : wpList Tryz.prog ops Q (o :: rest) a w :=
  wpList_load1 27 Tryz.underlying27 rfl hgd _ ho hx hb hp h
theorem ldos (hgd : Region.wanted o (yielded ops a.tmps) = true) {x : Operand} (ho : o.op = .load 26 x) (hx : a.eval x = .pointer (some ⟨b, off, none⟩)) (hb : Bk w b cs) {u : Value} (hp : cs[off]? = some u) (h : wpList Tryz.prog ops Q rest (a.put o.dst u) w) : wpList Tryz.prog ops Q (o :: rest) a w :=
  wpList_load1 26 Tryz.underlying26 rfl hgd _ ho hx hb hp h
theorem ldot (hgd : Region.wanted o (yielded ops a.tmps) = true) {x : Operand} (ho : o.op = .load 30 x) (hx : a.eval x = .pointer (some ⟨b, off, none⟩)) (hb : Bk w b cs) {u : Value} (hp : cs[off]? = some u) (h : wpList Tryz.prog ops Q rest (a.put o.dst u) w) : wpList Tryz.prog ops Q (o :: rest) a w :=
  wpList_load1 30 Tryz.underlying30 rfl hgd _ ho hx hb hp h
theorem stot (hgd : Region.wanted o (yielded ops a.tmps) = true) {x y : Operand} (ho : o.op = .store 30 x y) (hx : a.eval x = .pointer (some ⟨b, off, none⟩)) (hb : Bk w b cs) {v : Value} (hy : a.eval y = v) (hv : v.cells = #[v]) (h1 : v.oneCell' = true) (hl : Nat.ble (off + 1) cs.length = true) (h : ∀ W', Bk W' b (cs.set off v) → Out [b] w W' → wpList Tryz.prog ops Q rest (a.put o.dst undef) W') : wpList Tryz.prog ops Q (o :: rest) a w :=
  wpList_store1 30 hgd x y ho hx hb hy hv (by kernel_rfl) h1 (Nat.le_of_ble_eq_true hl) h
end
end Go.Proofs.YtjbcfjfnobklkaaGreat

/- Layer 13: Check; whether a state has a thread; what lies at a position. -/
namespace Go.Proofs.YtjbcfjfnobklkaaGreat
set_option linter.unusedVariables false
set_option linter.unusedSimpArgs false
open Go.ChangeShapes Go.WideShapes Go.ChangeAt Go.RowKit
set_option maxHeartbeats 2000000 in
theorem fcheck_any (s : St) (z : Pz) (w : World) (hs : StAt w s z) (ho : s.ok) : Calls Tryz.prog 21 #[.agg #[.int .i64 s.cf.lg, .int .i64 s.cf.th, .int .i64 s.cf.po, .int .i64 s.cf.wt, .int .i64 s.cf.sp, .int .i64 s.cf.yi, .bool s.cf.si, .int .i64 s.hd, .int .i64 s.tl, .int .i64 s.md, .slice z.p1 s.sl.length z.k1, .slice z.p2 s.sn.length z.k2, .slice z.p3 s.rc.length z.k3, .int .i64 s.fe, .slice z.p4 s.fl.length z.k4, .int .i64 s.ee, .slice z.p5 s.el.length z.k5, .int .i64 s.nw, .slice z.p6 s.th.length z.k6, .slice z.p7 s.lg.length z.k7]] w fun e w' => e = .returned (.bool (stB s)) ∧ Kept w w' := by
  have HS := Lib.hid hs
  have HO := Lib.hid ho
  obtain ⟨A0, h0⟩ : ∃ A, cfB s.cf = A := ⟨_, rfl⟩
  obtain ⟨A1, h1⟩ : ∃ A, ringSt s = A := ⟨_, rfl⟩
  obtain ⟨A2, h2⟩ : ∃ A, lnsSt s = A := ⟨_, rfl⟩
  obtain ⟨A3, h3⟩ : ∃ A, okE s.fe s.fl = A := ⟨_, rfl⟩
  obtain ⟨A4, h4⟩ : ∃ A, okE s.ee s.el = A := ⟨_, rfl⟩
  have H0 := Lib.hid h0
  have H1 := Lib.hid h1
  have H2 := Lib.hid h2
  have H3 := Lib.hid h3
  have H4 := Lib.hid h4
  clear hs ho h0 h1 h2 h3 h4
  go_enter Tryz.func21, Tryz.ntmps21; go_upto_region 1 with fail; refine wp_abs (fun W => Below w.heap.size w W ∧ Bk W (w.heap.size) [.int .i64 s.cf.lg , .int .i64 s.cf.th , .int .i64 s.cf.po , .int .i64 s.cf.wt , .int .i64 s.cf.sp , .int .i64 s.cf.yi , .bool s.cf.si , .int .i64 s.hd , .int .i64 s.tl , .int .i64 s.md , .slice z.p1 s.sl.length z.k1 , .slice z.p2 s.sn.length z.k2 , .slice z.p3 s.rc.length z.k3 , .int .i64 s.fe , .slice z.p4 s.fl.length z.k4 , .int .i64 s.ee , .slice z.p5 s.el.length z.k5 , .int .i64 s.nw , .slice z.p6 s.th.length z.k6 , .slice z.p7 s.lg.length z.k7]) ⟨by repeat' (first | (with_reducible exact Below.refl _ _) | (with_reducible assumption) | (with_reducible refine kept_alloc ?_ _) | (with_reducible refine kept_drewN ?_ _) | (with_reducible refine Below.drew ?_) | (with_reducible refine Below.setCell ?_ (by first | omega | (simp; omega) | (simp; done)) _) | (refine kept_trans ?_ (by with_reducible assumption))), (by repeat (first | (exact Bk.new (by first | rfl | (simp; done) | (simp; omega))) | (refine Bk.past ?_)))⟩ ?_; rintro V ⟨hB, hk0⟩
  go_wp2_with ((first | (refine ldoS (by rfl) rfl rfl (by first | assumption | exact Bk.past (by assumption)) (by repeat' (first | rfl | (refine ⟨?_, ?_⟩))) ?_) | (refine ldoC (by rfl) rfl rfl (by first | assumption | exact Bk.past (by assumption)) (by repeat' (first | rfl | (refine ⟨?_, ?_⟩))) ?_) | (refine ldoE (by rfl) rfl rfl (by first | assumption | exact Bk.past (by assumption)) (by repeat' (first | rfl | (refine ⟨?_, ?_⟩))) ?_) | (refine ldoi (by rfl) rfl rfl (by first | assumption | exact Bk.past (by assumption)) rfl ?_) | (refine ldol (by rfl) rfl rfl (by first | assumption | exact Bk.past (by assumption)) rfl ?_))); refine (ccheck_val H0 _).mono ?_; rintro e w1 ⟨rfl, hgx⟩; have hBx : Below w.heap.size w w1 := (by repeat' (first | (with_reducible exact Below.refl _ _) | (with_reducible assumption) | (with_reducible refine kept_alloc ?_ _) | (with_reducible refine kept_drewN ?_ _) | (with_reducible refine Below.drew ?_) | (with_reducible refine Below.setCell ?_ (by first | omega | (simp; omega) | (simp; done)) _) | (refine kept_trans ?_ (by with_reducible assumption)))); (try replace hk0 := Bk.kept (by first | exact hk0 | exact Bk.past hk0 | exact Bk.past (Bk.past hk0)) hgx); (try replace hC := kept_trans hC hgx); replace hB := hBx; clear hBx hgx
  cases A0
  · go_wp2; go_ret; exact ⟨ret_bool (stB_1 H0.out).symm, by repeat' (first | (with_reducible exact Below.refl _ _) | (with_reducible assumption) | (with_reducible refine kept_alloc ?_ _) | (with_reducible refine kept_drewN ?_ _) | (with_reducible refine Below.drew ?_) | (with_reducible refine Below.setCell ?_ (by first | omega | (simp; omega) | (simp; done)) _) | (refine kept_trans ?_ (by with_reducible assumption)))⟩
  go_wp2_with ((first | (refine ldoS (by rfl) rfl rfl (by first | assumption | exact Bk.past (by assumption)) (by repeat' (first | rfl | (refine ⟨?_, ?_⟩))) ?_) | (refine ldoC (by rfl) rfl rfl (by first | assumption | exact Bk.past (by assumption)) (by repeat' (first | rfl | (refine ⟨?_, ?_⟩))) ?_) | (refine ldoE (by rfl) rfl rfl (by first | assumption | exact Bk.past (by assumption)) (by repeat' (first | rfl | (refine ⟨?_, ?_⟩))) ?_) | (refine ldoi (by rfl) rfl rfl (by first | assumption | exact Bk.past (by assumption)) rfl ?_) | (refine ldol (by rfl) rfl rfl (by first | assumption | exact Bk.past (by assumption)) rfl ?_))); refine (fring_val H1.out z _ (HS.out.kept hB) HO.out).mono ?_; rintro e w2 ⟨rfl, hgx⟩; have hBx : Below w.heap.size w w2 := (by repeat' (first | (with_reducible exact Below.refl _ _) | (with_reducible assumption) | (with_reducible refine kept_alloc ?_ _) | (with_reducible refine kept_drewN ?_ _) | (with_reducible refine Below.drew ?_) | (with_reducible refine Below.setCell ?_ (by first | omega | (simp; omega) | (simp; done)) _) | (refine kept_trans ?_ (by with_reducible assumption)))); (try replace hk0 := Bk.kept (by first | exact hk0 | exact Bk.past hk0 | exact Bk.past (Bk.past hk0)) hgx); (try replace hC := kept_trans hC hgx); replace hB := hBx; clear hBx hgx
  cases A1
  · go_wp2; go_ret; exact ⟨ret_bool (stB_2 H1.out).symm, by repeat' (first | (with_reducible exact Below.refl _ _) | (with_reducible assumption) | (with_reducible refine kept_alloc ?_ _) | (with_reducible refine kept_drewN ?_ _) | (with_reducible refine Below.drew ?_) | (with_reducible refine Below.setCell ?_ (by first | omega | (simp; omega) | (simp; done)) _) | (refine kept_trans ?_ (by with_reducible assumption)))⟩
  go_wp2_with ((first | (refine ldoS (by rfl) rfl rfl (by first | assumption | exact Bk.past (by assumption)) (by repeat' (first | rfl | (refine ⟨?_, ?_⟩))) ?_) | (refine ldoC (by rfl) rfl rfl (by first | assumption | exact Bk.past (by assumption)) (by repeat' (first | rfl | (refine ⟨?_, ?_⟩))) ?_) | (refine ldoE (by rfl) rfl rfl (by first | assumption | exact Bk.past (by assumption)) (by repeat' (first | rfl | (refine ⟨?_, ?_⟩))) ?_) | (refine ldoi (by rfl) rfl rfl (by first | assumption | exact Bk.past (by assumption)) rfl ?_) | (refine ldol (by rfl) rfl rfl (by first | assumption | exact Bk.past (by assumption)) rfl ?_))); refine (fstand_four H2.out z w2 _ (HS.out.kept hB) rfl).mono ?_; rintro e w3 ⟨rfl, hgx⟩; have hBx : Below w.heap.size w w3 := (by repeat' (first | (with_reducible exact Below.refl _ _) | (with_reducible assumption) | (with_reducible refine kept_alloc ?_ _) | (with_reducible refine kept_drewN ?_ _) | (with_reducible refine Below.drew ?_) | (with_reducible refine Below.setCell ?_ (by first | omega | (simp; omega) | (simp; done)) _) | (refine kept_trans ?_ (by with_reducible assumption)))); (try replace hk0 := Bk.kept (by first | exact hk0 | exact Bk.past hk0 | exact Bk.past (Bk.past hk0)) hgx); (try replace hC := kept_trans hC hgx); replace hB := hBx; clear hBx hgx
  cases A2
  · go_wp2; go_ret; exact ⟨ret_bool (stB_3 H2.out).symm, by repeat' (first | (with_reducible exact Below.refl _ _) | (with_reducible assumption) | (with_reducible refine kept_alloc ?_ _) | (with_reducible refine kept_drewN ?_ _) | (with_reducible refine Below.drew ?_) | (with_reducible refine Below.setCell ?_ (by first | omega | (simp; omega) | (simp; done)) _) | (refine kept_trans ?_ (by with_reducible assumption)))⟩
  go_wp2_with ((first | (refine ldoS (by rfl) rfl rfl (by first | assumption | exact Bk.past (by assumption)) (by repeat' (first | rfl | (refine ⟨?_, ?_⟩))) ?_) | (refine ldoC (by rfl) rfl rfl (by first | assumption | exact Bk.past (by assumption)) (by repeat' (first | rfl | (refine ⟨?_, ?_⟩))) ?_) | (refine ldoE (by rfl) rfl rfl (by first | assumption | exact Bk.past (by assumption)) (by repeat' (first | rfl | (refine ⟨?_, ?_⟩))) ?_) | (refine ldoi (by rfl) rfl rfl (by first | assumption | exact Bk.past (by assumption)) rfl ?_) | (refine ldol (by rfl) rfl rfl (by first | assumption | exact Bk.past (by assumption)) rfl ?_))); refine (echeck_val H3.out z.p4 z.k4 _ (HS.out.fl.kept hB)).mono ?_; rintro e w4 ⟨rfl, hgx⟩; have hBx : Below w.heap.size w w4 := (by repeat' (first | (with_reducible exact Below.refl _ _) | (with_reducible assumption) | (with_reducible refine kept_alloc ?_ _) | (with_reducible refine kept_drewN ?_ _) | (with_reducible refine Below.drew ?_) | (with_reducible refine Below.setCell ?_ (by first | omega | (simp; omega) | (simp; done)) _) | (refine kept_trans ?_ (by with_reducible assumption)))); (try replace hk0 := Bk.kept (by first | exact hk0 | exact Bk.past hk0 | exact Bk.past (Bk.past hk0)) hgx); (try replace hC := kept_trans hC hgx); replace hB := hBx; clear hBx hgx
  cases A3
  · go_wp2; go_ret; exact ⟨ret_bool (stB_4 H3.out).symm, by repeat' (first | (with_reducible exact Below.refl _ _) | (with_reducible assumption) | (with_reducible refine kept_alloc ?_ _) | (with_reducible refine kept_drewN ?_ _) | (with_reducible refine Below.drew ?_) | (with_reducible refine Below.setCell ?_ (by first | omega | (simp; omega) | (simp; done)) _) | (refine kept_trans ?_ (by with_reducible assumption)))⟩
  go_wp2_with ((first | (refine ldoS (by rfl) rfl rfl (by first | assumption | exact Bk.past (by assumption)) (by repeat' (first | rfl | (refine ⟨?_, ?_⟩))) ?_) | (refine ldoC (by rfl) rfl rfl (by first | assumption | exact Bk.past (by assumption)) (by repeat' (first | rfl | (refine ⟨?_, ?_⟩))) ?_) | (refine ldoE (by rfl) rfl rfl (by first | assumption | exact Bk.past (by assumption)) (by repeat' (first | rfl | (refine ⟨?_, ?_⟩))) ?_) | (refine ldoi (by rfl) rfl rfl (by first | assumption | exact Bk.past (by assumption)) rfl ?_) | (refine ldol (by rfl) rfl rfl (by first | assumption | exact Bk.past (by assumption)) rfl ?_))); refine (echeck_val H4.out z.p5 z.k5 _ (HS.out.el.kept hB)).mono ?_; rintro e w5 ⟨rfl, hgx⟩; have hBx : Below w.heap.size w w5 := (by repeat' (first | (with_reducible exact Below.refl _ _) | (with_reducible assumption) | (with_reducible refine kept_alloc ?_ _) | (with_reducible refine kept_drewN ?_ _) | (with_reducible refine Below.drew ?_) | (with_reducible refine Below.setCell ?_ (by first | omega | (simp; omega) | (simp; done)) _) | (refine kept_trans ?_ (by with_reducible assumption)))); (try replace hk0 := Bk.kept (by first | exact hk0 | exact Bk.past hk0 | exact Bk.past (Bk.past hk0)) hgx); (try replace hC := kept_trans hC hgx); replace hB := hBx; clear hBx hgx
  cases A4
  · go_wp2; go_ret; exact ⟨ret_bool (stB_5 H4.out).symm, by repeat' (first | (with_reducible exact Below.refl _ _) | (with_reducible assumption) | (with_reducible refine kept_alloc ?_ _) | (with_reducible refine kept_drewN ?_ _) | (with_reducible refine Below.drew ?_) | (with_reducible refine Below.setCell ?_ (by first | omega | (simp; omega) | (simp; done)) _) | (refine kept_trans ?_ (by with_reducible assumption)))⟩
  cases h5 : decide (0 ≤ s.nw)
  · have H5 := Lib.hid h5
    go_wp2_with (first | (refine ldoS (by rfl) rfl rfl (by first | assumption | exact Bk.past (by assumption)) (by repeat' (first | rfl | (refine ⟨?_, ?_⟩))) ?_) | (refine ldoC (by rfl) rfl rfl (by first | assumption | exact Bk.past (by assumption)) (by repeat' (first | rfl | (refine ⟨?_, ?_⟩))) ?_) | (refine ldoE (by rfl) rfl rfl (by first | assumption | exact Bk.past (by assumption)) (by repeat' (first | rfl | (refine ⟨?_, ?_⟩))) ?_) | (refine ldoi (by rfl) rfl rfl (by first | assumption | exact Bk.past (by assumption)) rfl ?_) | (refine ldol (by rfl) rfl rfl (by first | assumption | exact Bk.past (by assumption)) rfl ?_))
    go_ret
    exact ⟨ret_bool (stB_6 H5.out).symm, by repeat' (first | (with_reducible exact Below.refl _ _) | (with_reducible assumption) | (with_reducible refine kept_alloc ?_ _) | (with_reducible refine kept_drewN ?_ _) | (with_reducible refine Below.drew ?_) | (with_reducible refine Below.setCell ?_ (by first | omega | (simp; omega) | (simp; done)) _) | (refine kept_trans ?_ (by with_reducible assumption)))⟩
  cases h6 : decide (s.nw ≤ 1099511627776)
  · have H6 := Lib.hid h6
    go_wp2_with (first | (refine ldoS (by rfl) rfl rfl (by first | assumption | exact Bk.past (by assumption)) (by repeat' (first | rfl | (refine ⟨?_, ?_⟩))) ?_) | (refine ldoC (by rfl) rfl rfl (by first | assumption | exact Bk.past (by assumption)) (by repeat' (first | rfl | (refine ⟨?_, ?_⟩))) ?_) | (refine ldoE (by rfl) rfl rfl (by first | assumption | exact Bk.past (by assumption)) (by repeat' (first | rfl | (refine ⟨?_, ?_⟩))) ?_) | (refine ldoi (by rfl) rfl rfl (by first | assumption | exact Bk.past (by assumption)) rfl ?_) | (refine ldol (by rfl) rfl rfl (by first | assumption | exact Bk.past (by assumption)) rfl ?_))
    go_ret
    exact ⟨ret_bool (stB_7 H6.out).symm, by repeat' (first | (with_reducible exact Below.refl _ _) | (with_reducible assumption) | (with_reducible refine kept_alloc ?_ _) | (with_reducible refine kept_drewN ?_ _) | (with_reducible refine Below.drew ?_) | (with_reducible refine Below.setCell ?_ (by first | omega | (simp; omega) | (simp; done)) _) | (refine kept_trans ?_ (by with_reducible assumption)))⟩
  have hsb : Hid (stB s = thsSt s) := Lib.hid (by simp [stB, H0.out, H1.out, H2.out, H3.out, H4.out, h5, h6])
  obtain ⟨A7, h7⟩ : ∃ A, thsSt s = A := ⟨_, rfl⟩
  have H7 := Lib.hid h7
  clear h7
  go_wp2_with ((first | (refine ldoS (by rfl) rfl rfl (by first | assumption | exact Bk.past (by assumption)) (by repeat' (first | rfl | (refine ⟨?_, ?_⟩))) ?_) | (refine ldoC (by rfl) rfl rfl (by first | assumption | exact Bk.past (by assumption)) (by repeat' (first | rfl | (refine ⟨?_, ?_⟩))) ?_) | (refine ldoE (by rfl) rfl rfl (by first | assumption | exact Bk.past (by assumption)) (by repeat' (first | rfl | (refine ⟨?_, ?_⟩))) ?_) | (refine ldoi (by rfl) rfl rfl (by first | assumption | exact Bk.past (by assumption)) rfl ?_) | (refine ldol (by rfl) rfl rfl (by first | assumption | exact Bk.past (by assumption)) rfl ?_))); refine (fthreads_val H7.out z _ (HS.out.kept hB) HO.out).mono ?_; rintro e w6 ⟨rfl, hgx⟩; have hBx : Below w.heap.size w w6 := (by repeat' (first | (with_reducible exact Below.refl _ _) | (with_reducible assumption) | (with_reducible refine kept_alloc ?_ _) | (with_reducible refine kept_drewN ?_ _) | (with_reducible refine Below.drew ?_) | (with_reducible refine Below.setCell ?_ (by first | omega | (simp; omega) | (simp; done)) _) | (refine kept_trans ?_ (by with_reducible assumption)))); (try replace hk0 := Bk.kept (by first | exact hk0 | exact Bk.past hk0 | exact Bk.past (Bk.past hk0)) hgx); (try replace hC := kept_trans hC hgx); replace hB := hBx; clear hBx hgx
  go_wp2
  go_ret
  exact ⟨ret_bool (by rw [hsb.out, H7.out]), by repeat' (first | (with_reducible exact Below.refl _ _) | (with_reducible assumption) | (with_reducible refine kept_alloc ?_ _) | (with_reducible refine kept_drewN ?_ _) | (with_reducible refine Below.drew ?_) | (with_reducible refine Below.setCell ?_ (by first | omega | (simp; omega) | (simp; done)) _) | (refine kept_trans ?_ (by with_reducible assumption)))⟩
theorem fcheck_val {b : Bool} {s : St} (hb : stB s = b) (z : Pz) (w : World) (hs : StAt w s z) (ho : s.ok) : Calls Tryz.prog 21 #[.agg #[.int .i64 s.cf.lg, .int .i64 s.cf.th, .int .i64 s.cf.po, .int .i64 s.cf.wt, .int .i64 s.cf.sp, .int .i64 s.cf.yi, .bool s.cf.si, .int .i64 s.hd, .int .i64 s.tl, .int .i64 s.md, .slice z.p1 s.sl.length z.k1, .slice z.p2 s.sn.length z.k2, .slice z.p3 s.rc.length z.k3, .int .i64 s.fe, .slice z.p4 s.fl.length z.k4, .int .i64 s.ee, .slice z.p5 s.el.length z.k5, .int .i64 s.nw, .slice z.p6 s.th.length z.k6, .slice z.p7 s.lg.length z.k7]] w fun e w' => e = .returned (.bool b) ∧ Kept w w' := hb ▸ fcheck_any s z w hs ho
set_option maxHeartbeats 1000000 in
theorem fhas_any (s : St) (z : Pz) (i : Int) (w : World) (hs : StAt w s z) (ho : s.ok) : Calls Tryz.prog 145 #[.agg #[.int .i64 s.cf.lg, .int .i64 s.cf.th, .int .i64 s.cf.po, .int .i64 s.cf.wt, .int .i64 s.cf.sp, .int .i64 s.cf.yi, .bool s.cf.si, .int .i64 s.hd, .int .i64 s.tl, .int .i64 s.md, .slice z.p1 s.sl.length z.k1, .slice z.p2 s.sn.length z.k2, .slice z.p3 s.rc.length z.k3, .int .i64 s.fe, .slice z.p4 s.fl.length z.k4, .int .i64 s.ee, .slice z.p5 s.el.length z.k5, .int .i64 s.nw, .slice z.p6 s.th.length z.k6, .slice z.p7 s.lg.length z.k7], .int .i64 i] w fun e w' => e = .returned (.bool (hasB s i)) ∧ Kept w w' := by
  have HS := Lib.hid hs
  have HO := Lib.hid ho
  obtain ⟨A, hA⟩ : ∃ A, stB s = A := ⟨_, rfl⟩
  have HA := Lib.hid hA
  unfold hasB
  rw [hA]
  clear hs ho hA
  go_enter Tryz.func145, Tryz.ntmps145; go_upto_region 1 with fail; refine wp_abs (fun W => Below w.heap.size w W ∧ Bk W (w.heap.size) [.int .i64 s.cf.lg , .int .i64 s.cf.th , .int .i64 s.cf.po , .int .i64 s.cf.wt , .int .i64 s.cf.sp , .int .i64 s.cf.yi , .bool s.cf.si , .int .i64 s.hd , .int .i64 s.tl , .int .i64 s.md , .slice z.p1 s.sl.length z.k1 , .slice z.p2 s.sn.length z.k2 , .slice z.p3 s.rc.length z.k3 , .int .i64 s.fe , .slice z.p4 s.fl.length z.k4 , .int .i64 s.ee , .slice z.p5 s.el.length z.k5 , .int .i64 s.nw , .slice z.p6 s.th.length z.k6 , .slice z.p7 s.lg.length z.k7]) ⟨by repeat' (first | (with_reducible exact Below.refl _ _) | (with_reducible assumption) | (with_reducible refine kept_alloc ?_ _) | (with_reducible refine kept_drewN ?_ _) | (with_reducible refine Below.drew ?_) | (with_reducible refine Below.setCell ?_ (by first | omega | (simp; omega) | (simp; done)) _) | (refine kept_trans ?_ (by with_reducible assumption))), (by repeat (first | (exact Bk.new (by first | rfl | (simp; done) | (simp; omega))) | (refine Bk.past ?_)))⟩ ?_; rintro V ⟨hB, hk0⟩
  go_wp2_with ((first | (refine ldoS (by rfl) rfl rfl (by first | assumption | exact Bk.past (by assumption)) (by repeat' (first | rfl | (refine ⟨?_, ?_⟩))) ?_) | (refine ldot (by rfl) rfl rfl (by first | assumption | exact Bk.past (by assumption)) rfl ?_))); refine (fcheck_val HA.out z _ (HS.out.kept hB) HO.out).mono ?_; rintro e w1 ⟨rfl, hgx⟩; have hBx : Below w.heap.size w w1 := (by repeat' (first | (with_reducible exact Below.refl _ _) | (with_reducible assumption) | (with_reducible refine kept_alloc ?_ _) | (with_reducible refine kept_drewN ?_ _) | (with_reducible refine Below.drew ?_) | (with_reducible refine Below.setCell ?_ (by first | omega | (simp; omega) | (simp; done)) _) | (refine kept_trans ?_ (by with_reducible assumption)))); (try replace hk0 := Bk.kept (by first | exact hk0 | exact Bk.past hk0 | exact Bk.past (Bk.past hk0)) hgx); (try replace hC := kept_trans hC hgx); replace hB := hBx; clear hBx hgx
  cases A
  · go_wp2_with (first | (refine ldot (by rfl) rfl rfl (by first | assumption | exact Bk.past (by assumption)) rfl ?_))
    go_ret
    exact ⟨rfl, by repeat' (first | (with_reducible exact Below.refl _ _) | (with_reducible assumption) | (with_reducible refine kept_alloc ?_ _) | (with_reducible refine kept_drewN ?_ _) | (with_reducible refine Below.drew ?_) | (with_reducible refine Below.setCell ?_ (by first | omega | (simp; omega) | (simp; done)) _) | (refine kept_trans ?_ (by with_reducible assumption)))⟩
  cases h1 : decide (0 ≤ i)
  · have H1 := Lib.hid h1
    go_wp2_with (first | (refine ldot (by rfl) rfl rfl (by first | assumption | exact Bk.past (by assumption)) rfl ?_))
    go_ret
    exact ⟨ret_bool (by rw [H1.out]; rfl), by repeat' (first | (with_reducible exact Below.refl _ _) | (with_reducible assumption) | (with_reducible refine kept_alloc ?_ _) | (with_reducible refine kept_drewN ?_ _) | (with_reducible refine Below.drew ?_) | (with_reducible refine Below.setCell ?_ (by first | omega | (simp; omega) | (simp; done)) _) | (refine kept_trans ?_ (by with_reducible assumption)))⟩
  have H1 := Lib.hid h1
  cases h2 : decide (i < (s.th.length : Int))
  · have H2 := Lib.hid h2
    go_wp2_with (first | (refine ldot (by rfl) rfl rfl (by first | assumption | exact Bk.past (by assumption)) rfl ?_))
    go_ret
    exact ⟨ret_bool (by rw [H1.out, H2.out]; rfl), by repeat' (first | (with_reducible exact Below.refl _ _) | (with_reducible assumption) | (with_reducible refine kept_alloc ?_ _) | (with_reducible refine kept_drewN ?_ _) | (with_reducible refine Below.drew ?_) | (with_reducible refine Below.setCell ?_ (by first | omega | (simp; omega) | (simp; done)) _) | (refine kept_trans ?_ (by with_reducible assumption)))⟩
  · have H2 := Lib.hid h2
    go_wp2_with (first | (refine ldot (by rfl) rfl rfl (by first | assumption | exact Bk.past (by assumption)) rfl ?_))
    go_ret
    exact ⟨ret_bool (by rw [H1.out, H2.out]; rfl), by repeat' (first | (with_reducible exact Below.refl _ _) | (with_reducible assumption) | (with_reducible refine kept_alloc ?_ _) | (with_reducible refine kept_drewN ?_ _) | (with_reducible refine Below.drew ?_) | (with_reducible refine Below.setCell ?_ (by first | omega | (simp; omega) | (simp; done)) _) | (refine kept_trans ?_ (by with_reducible assumption)))⟩
theorem fhas_val {b : Bool} {s : St} {i : Int} (hb : hasB s i = b) (z : Pz) (w : World) (hs : StAt w s z) (ho : s.ok) : Calls Tryz.prog 145 #[.agg #[.int .i64 s.cf.lg, .int .i64 s.cf.th, .int .i64 s.cf.po, .int .i64 s.cf.wt, .int .i64 s.cf.sp, .int .i64 s.cf.yi, .bool s.cf.si, .int .i64 s.hd, .int .i64 s.tl, .int .i64 s.md, .slice z.p1 s.sl.length z.k1, .slice z.p2 s.sn.length z.k2, .slice z.p3 s.rc.length z.k3, .int .i64 s.fe, .slice z.p4 s.fl.length z.k4, .int .i64 s.ee, .slice z.p5 s.el.length z.k5, .int .i64 s.nw, .slice z.p6 s.th.length z.k6, .slice z.p7 s.lg.length z.k7], .int .i64 i] w fun e w' => e = .returned (.bool b) ∧ Kept w w' := hb ▸ fhas_any s z i w hs ho
set_option maxHeartbeats 1000000 in
theorem fat_any (s : St) (z : Pz) (p : Int) (w : World) (hs : StAt w s z) (hk : okSl s.sl = true) (hp : 0 ≤ p) (hpi : In64 p) : Calls Tryz.prog 66 #[.agg #[.int .i64 s.cf.lg, .int .i64 s.cf.th, .int .i64 s.cf.po, .int .i64 s.cf.wt, .int .i64 s.cf.sp, .int .i64 s.cf.yi, .bool s.cf.si, .int .i64 s.hd, .int .i64 s.tl, .int .i64 s.md, .slice z.p1 s.sl.length z.k1, .slice z.p2 s.sn.length z.k2, .slice z.p3 s.rc.length z.k3, .int .i64 s.fe, .slice z.p4 s.fl.length z.k4, .int .i64 s.ee, .slice z.p5 s.el.length z.k5, .int .i64 s.nw, .slice z.p6 s.th.length z.k6, .slice z.p7 s.lg.length z.k7], .int .i64 p] w fun e w' => e = .returned (.int .i64 (atV s p)) ∧ Kept w w' := by
  have hsl := hs.sl
  obtain ⟨hi, hpl⟩ := plc_lt (lies_iff.2 ⟨hp, hk⟩)
  have hm := (ok_iff.1 hk).1
  obtain ⟨_, _, e1, _, _, _, hne⟩ := hsl.is
  cases e1
  obtain ⟨b, o, hpe, hb, -⟩ := hne (by intro h; rw [h] at hi; simp at hi)
  rw [hpe] at hsl ⊢
  obtain ⟨-, c2⟩ := ss_at hsl hi
  unfold atV
  obtain ⟨N, hN⟩ : ∃ N, s.sl.length = N := ⟨_, rfl⟩
  rw [hN] at hm hi hpl ⊢
  generalize plc s.sl p = i at *
  have hM : Hid (placeI p N = i) := Lib.hid hpl
  have b1 : (0 : Int) ≤ (i : Int) := by omega
  have b2 : (i : Int) < (N : Int) := by omega
  generalize gs s.sl i = y at *
  clear hN hsl hne hpl hs hk hpe
  go_enter Tryz.func66, Tryz.ntmps66
  go_wp2
  (refine wp_region_kept (w := w) [(w.heap.size, 10, .slice (some ⟨b, o, none⟩) N z.k1), (b, o + i * 2 + 1, .int .i64 y.vl)] (by kernel_rfl) (by kernel_rfl) (by repeat' (first | (with_reducible exact Below.refl _ _) | (with_reducible assumption) | (with_reducible refine kept_alloc ?_ _) | (with_reducible refine kept_drewN ?_ _) | (with_reducible refine Below.drew ?_) | (with_reducible refine Below.setCell ?_ (by first | omega | (simp; omega) | (simp; done)) _) | (refine kept_trans ?_ (by with_reducible assumption)))) (by first | (simp [CellsAt, *, World.cell?_alloc_past, World.cell?_alloc_at]; done) | (simp [CellsAt, *, World.cell?_alloc_past, World.cell?_alloc_at]; omega)) (fun hne => ?_); (have hq0 : ∀ xwd : Wd w [(w.heap.size, 10, .slice (some ⟨b, o, none⟩) N z.k1), (b, o + i * 2 + 1, .int .i64 y.vl)], xwd.at.cell? ⟨w.heap.size, 10, none⟩ = some (.slice (some ⟨b, o, none⟩) N z.k1) := fun xwd => xwd.cells.1.2; have hq1 : ∀ xwd : Wd w [(w.heap.size, 10, .slice (some ⟨b, o, none⟩) N z.k1), (b, o + i * 2 + 1, .int .i64 y.vl)], xwd.at.cell? ⟨b, o + i * 2 + 1, none⟩ = some (.int .i64 y.vl) := fun xwd => xwd.cells.2.1.2); (try simp only [List.append_eq, List.cons_append, List.nil_append]); (repeat (go_big_quiet_step ((first | (go_at_call 131; exact quiet_call (place_val hM.out (by omega) (by omega) _)))))); (refine wpQuiet_nil ?_); intro wq hwq; obtain ⟨xwd, hxwd⟩ := hwq; have hgx : Below w.heap.size w wq := (by rw [hxwd]; exact xwd.kept); have hcs := (show CellsAt wq [(w.heap.size, 10, .slice (some ⟨b, o, none⟩) N z.k1), (b, o + i * 2 + 1, .int .i64 y.vl)] by rw [hxwd]; exact xwd.cells); clear hxwd xwd hne)
  go_wp2
  go_ret
  exact ⟨rfl, by repeat' (first | (with_reducible exact Below.refl _ _) | (with_reducible assumption) | (with_reducible refine kept_alloc ?_ _) | (with_reducible refine kept_drewN ?_ _) | (with_reducible refine Below.drew ?_) | (with_reducible refine Below.setCell ?_ (by first | omega | (simp; omega) | (simp; done)) _) | (refine kept_trans ?_ (by with_reducible assumption)))⟩
set_option maxHeartbeats 1000000 in
theorem fvalue_any (s : St) (z : Pz) (p : Int) (w : World) (hs : StAt w s z) (ho : s.ok) (hpi : In64 p) : Calls Tryz.prog 155 #[.agg #[.int .i64 s.cf.lg, .int .i64 s.cf.th, .int .i64 s.cf.po, .int .i64 s.cf.wt, .int .i64 s.cf.sp, .int .i64 s.cf.yi, .bool s.cf.si, .int .i64 s.hd, .int .i64 s.tl, .int .i64 s.md, .slice z.p1 s.sl.length z.k1, .slice z.p2 s.sn.length z.k2, .slice z.p3 s.rc.length z.k3, .int .i64 s.fe, .slice z.p4 s.fl.length z.k4, .int .i64 s.ee, .slice z.p5 s.el.length z.k5, .int .i64 s.nw, .slice z.p6 s.th.length z.k6, .slice z.p7 s.lg.length z.k7], .int .i64 p] w fun e w' => e = .returned (.int .i64 (valV s p)) ∧ Kept w w' := by
  have HS := Lib.hid hs
  have HO := Lib.hid ho
  obtain ⟨A, hA⟩ : ∃ A, stB s = A := ⟨_, rfl⟩
  have HA := Lib.hid hA
  unfold valV
  rw [hA]
  clear hs ho hA
  cases h1 : decide (p < 0)
  · rw [if_neg (by simpa using h1)]
    go_enter Tryz.func155, Tryz.ntmps155; go_upto_region 1 with fail; refine wp_abs (fun W => Below w.heap.size w W ∧ Bk W (w.heap.size) [.int .i64 s.cf.lg , .int .i64 s.cf.th , .int .i64 s.cf.po , .int .i64 s.cf.wt , .int .i64 s.cf.sp , .int .i64 s.cf.yi , .bool s.cf.si , .int .i64 s.hd , .int .i64 s.tl , .int .i64 s.md , .slice z.p1 s.sl.length z.k1 , .slice z.p2 s.sn.length z.k2 , .slice z.p3 s.rc.length z.k3 , .int .i64 s.fe , .slice z.p4 s.fl.length z.k4 , .int .i64 s.ee , .slice z.p5 s.el.length z.k5 , .int .i64 s.nw , .slice z.p6 s.th.length z.k6 , .slice z.p7 s.lg.length z.k7]) ⟨by repeat' (first | (with_reducible exact Below.refl _ _) | (with_reducible assumption) | (with_reducible refine kept_alloc ?_ _) | (with_reducible refine kept_drewN ?_ _) | (with_reducible refine Below.drew ?_) | (with_reducible refine Below.setCell ?_ (by first | omega | (simp; omega) | (simp; done)) _) | (refine kept_trans ?_ (by with_reducible assumption))), (by repeat (first | (exact Bk.new (by first | rfl | (simp; done) | (simp; omega))) | (refine Bk.past ?_)))⟩ ?_; rintro V ⟨hB, hk0⟩
    go_wp2_with ((first | (refine ldoS (by rfl) rfl rfl (by first | assumption | exact Bk.past (by assumption)) (by repeat' (first | rfl | (refine ⟨?_, ?_⟩))) ?_))); refine (fcheck_val HA.out z _ (HS.out.kept hB) HO.out).mono ?_; rintro e w1 ⟨rfl, hgx⟩; have hBx : Below w.heap.size w w1 := (by repeat' (first | (with_reducible exact Below.refl _ _) | (with_reducible assumption) | (with_reducible refine kept_alloc ?_ _) | (with_reducible refine kept_drewN ?_ _) | (with_reducible refine Below.drew ?_) | (with_reducible refine Below.setCell ?_ (by first | omega | (simp; omega) | (simp; done)) _) | (refine kept_trans ?_ (by with_reducible assumption)))); (try replace hk0 := Bk.kept (by first | exact hk0 | exact Bk.past hk0 | exact Bk.past (Bk.past hk0)) hgx); (try replace hC := kept_trans hC hgx); replace hB := hBx; clear hBx hgx
    cases A
    · go_wp2
      go_ret
      exact ⟨rfl, by repeat' (first | (with_reducible exact Below.refl _ _) | (with_reducible assumption) | (with_reducible refine kept_alloc ?_ _) | (with_reducible refine kept_drewN ?_ _) | (with_reducible refine Below.drew ?_) | (with_reducible refine Below.setCell ?_ (by first | omega | (simp; omega) | (simp; done)) _) | (refine kept_trans ?_ (by with_reducible assumption)))⟩
    · go_wp2_with ((first | (refine ldoS (by rfl) rfl rfl (by first | assumption | exact Bk.past (by assumption)) (by repeat' (first | rfl | (refine ⟨?_, ?_⟩))) ?_))); refine (fat_any s z p _ (HS.out.kept hB) (by have h := (st_iff.1 HA.out).2.1; simp only [ringSt, Bool.and_eq_true] at h; exact h.2.2) (by simpa using h1) hpi).mono ?_; rintro e w2 ⟨rfl, hgx⟩; have hBx : Below w.heap.size w w2 := (by repeat' (first | (with_reducible exact Below.refl _ _) | (with_reducible assumption) | (with_reducible refine kept_alloc ?_ _) | (with_reducible refine kept_drewN ?_ _) | (with_reducible refine Below.drew ?_) | (with_reducible refine Below.setCell ?_ (by first | omega | (simp; omega) | (simp; done)) _) | (refine kept_trans ?_ (by with_reducible assumption)))); (try replace hk0 := Bk.kept (by first | exact hk0 | exact Bk.past hk0 | exact Bk.past (Bk.past hk0)) hgx); (try replace hC := kept_trans hC hgx); replace hB := hBx; clear hBx hgx
      go_wp2
      go_ret
      exact ⟨rfl, by repeat' (first | (with_reducible exact Below.refl _ _) | (with_reducible assumption) | (with_reducible refine kept_alloc ?_ _) | (with_reducible refine kept_drewN ?_ _) | (with_reducible refine Below.drew ?_) | (with_reducible refine Below.setCell ?_ (by first | omega | (simp; omega) | (simp; done)) _) | (refine kept_trans ?_ (by with_reducible assumption)))⟩
  · rw [if_pos (by simpa using h1)]
    go_enter Tryz.func155, Tryz.ntmps155
    go_wp2
    go_ret
    exact ⟨rfl, by repeat' (first | (with_reducible exact Below.refl _ _) | (with_reducible assumption) | (with_reducible refine kept_alloc ?_ _) | (with_reducible refine kept_drewN ?_ _) | (with_reducible refine Below.drew ?_) | (with_reducible refine Below.setCell ?_ (by first | omega | (simp; omega) | (simp; done)) _) | (refine kept_trans ?_ (by with_reducible assumption)))⟩
end Go.Proofs.YtjbcfjfnobklkaaGreat

/- A region that draws its order, each of whose operations hands back one value: by a fact on each value, whatever the order. -/
namespace Go.Proofs.YtjbcfjfnobklkaaGreat
set_option linter.unusedVariables false
set_option linter.unusedSimpArgs false
open Go.RowKit
section
variable {P : Program} {Q : Exit → Act → World → Prop}

/-- What is known while the region runs: what was there is kept; of each value of D (by number: in which temporary it stands) whose operation is done, a fact. -/
structure Facts (D : List Nat) (F : Nat → Value → World → Prop) (a : Act) (w : World) (done : Nat → Bool) (b : Act) (W : World) : Prop where
  kept : Below w.heap.size w W
  defers : b.defers = a.defers
  size : b.tmps.size = a.tmps.size
  rest : ∀ t, t ∉ D → b.tmps[t]? = a.tmps[t]?
  fact : ∀ i d, D[i]? = some d → done i = true → ∃ v, b.tmps[d]? = some v ∧ F i v W

theorem Facts.base {D : List Nat} {F : Nat → Value → World → Prop} {a b : Act} {w W : World} {done : Nat → Bool} (h : Facts D F a w done b W) (t : Nat) {v : Value} (ht : t ∉ D) (hv : a.tmps[t]? = some v) : b.tmps.getD t undef = v := by
  simp [h.rest t ht, hv]
theorem act_lit {b : Act} {n : Nat} {ds : List Deferred} (hz : b.tmps.size = n) (hd : b.defers = ds) : b = ⟨((List.range n).map fun i => b.tmps.getD i undef).toArray, ds⟩ := by
  obtain ⟨tm, df⟩ := b
  subst hz hd
  congr 1
  apply Array.ext
  · simp
  · intro i h1 h2
    simp [Array.getD, h1]
end
end Go.Proofs.YtjbcfjfnobklkaaGreat

/- A region that draws its order: its head hands back values, a fact on each, whatever the order; its tail waits for all that stands ahead and is walked in the text's order. -/
namespace Go.Proofs.YtjbcfjfnobklkaaGreat
set_option linter.unusedVariables false
set_option linter.unusedSimpArgs false
open Go.RowKit
/-- Operation i waits for j, as it says itself. -/
def waitB (l : List Oper) (i j : Nat) : Bool := match l[i]? with | some o => o.after.any fun e => Region.binds .any e && e.on == j | none => false
theorem waitB_spec {l : List Oper} {i j : Nat} {o : Oper} (h : waitB l i j = true) (hi : l[i]? = some o) : ∃ e ∈ o.after, Region.binds .any e = true ∧ e.on = j := by
  simp only [waitB, hi] at h
  obtain ⟨k, hk, h3⟩ := Array.any_eq_true.1 h
  simp only [Bool.and_eq_true, beq_iff_eq] at h3
  exact ⟨_, Array.getElem_mem hk, h3.1, h3.2⟩
/-- The same, by as many between as f. -/
def waitN (l : List Oper) : Nat → Nat → Nat → Bool
  | 0, i, j => waitB l i j
  | f + 1, i, j => waitB l i j || (List.range l.length).any fun k => waitB l i k && waitN l f k j
/-- From number n on each operation waits for all ahead of it, by itself or by some between. -/
def tailB (l : List Oper) (n : Nat) : Bool := (List.range l.length).all fun i => decide (i < n) || (List.range i).all fun j => waitN l 9 i j
/-- What is done waited for what is done. -/
def Closed (l : List Oper) (listed : Array Bool) : Prop := ∀ (k : Nat) (o : Oper), l[k]? = some o → listed.getD k false = true → ∀ e ∈ o.after, Region.binds .any e = true → listed.getD e.on false = true
theorem Closed.set {l : List Oper} {listed : Array Bool} {i : Nat} {o : Oper} (h : Closed l listed) (hi : l[i]? = some o) (hw : ∀ e ∈ o.after, Region.binds .any e = true → listed.getD e.on false = true) : Closed l (listed.setIfInBounds i true) := by
  have hmono : ∀ j, listed.getD j false = true → (listed.setIfInBounds i true).getD j false = true := fun j hj => by
    by_cases hjz : j < listed.size
    · by_cases e : i = j
      · subst e; simp [Array.getD, hjz]
      · simpa [Array.getD, hjz, Array.getElem_setIfInBounds, e] using hj
    · simp [Array.getD, hjz] at hj
  intro k o' hk hl e he hb
  by_cases e1 : k = i
  · subst e1
    rw [hi] at hk; cases hk
    exact hmono _ (hw e he hb)
  · refine hmono _ (h k o' hk ?_ e he hb)
    by_cases hkz : k < listed.size
    · simpa [Array.getD, hkz, Array.getElem_setIfInBounds, Ne.symm e1] using hl
    · simp [Array.getD, hkz] at hl
theorem waitN_listed {l : List Oper} {j : Nat} {listed : Array Bool} (hc : Closed l listed) : ∀ (f i : Nat) (o : Oper), waitN l f i j = true → l[i]? = some o → (∀ e ∈ o.after, Region.binds .any e = true → listed.getD e.on false = true) → listed.getD j false = true
  | 0, i, o, h, hi, hw => by
    obtain ⟨e, he, hb, rfl⟩ := waitB_spec h hi
    exact hw e he hb
  | f + 1, i, o, h, hi, hw => by
    simp only [waitN, Bool.or_eq_true] at h
    rcases h with h | h
    · obtain ⟨e, he, hb, rfl⟩ := waitB_spec h hi
      exact hw e he hb
    · obtain ⟨k, hk, h3⟩ := List.any_eq_true.1 h
      simp only [Bool.and_eq_true] at h3
      obtain ⟨e, he, hb, rfl⟩ := waitB_spec h3.1 hi
      have hkl : e.on < l.length := List.mem_range.1 hk
      exact waitN_listed hc f _ _ h3.2 (List.getElem?_eq_getElem hkl) (hc _ _ (List.getElem?_eq_getElem hkl) (hw e he hb))
theorem tail_waits' {l : List Oper} {n i j : Nat} {o : Oper} {listed : Array Bool} (h : tailB l n = true) (hi : l[i]? = some o) (hn : n ≤ i) (hj : j < i) (hc : Closed l listed) (hw : ∀ e ∈ o.after, Region.binds .any e = true → listed.getD e.on false = true) : listed.getD j false = true := by
  have hil : i < l.length := (List.getElem?_eq_some_iff.1 hi).1
  have h1 := List.all_eq_true.1 h i (List.mem_range.2 hil)
  simp only [Bool.or_eq_true, decide_eq_true_eq] at h1
  rcases h1 with h1 | h1
  · omega
  · exact waitN_listed hc 9 i o (List.all_eq_true.1 h1 j (List.mem_range.2 hj)) hi hw
section
variable {P : Program} {Q : Exit → Act → World → Prop}
theorem wpOp_of_list {l : List Oper} {i : Nat} {o : Oper} {rest : List Oper} {a : Act} {w : World} (hi : l[i]? = some o) (h : wpList P l.toArray Q (o :: rest) a w) : wpOp P l.toArray Q i (wpList P l.toArray Q rest) a w := by
  have hi' : l.toArray[i]? = some o := by simpa using hi
  unfold wpOp
  simp only [hi']
  exact h
end
end Go.Proofs.YtjbcfjfnobklkaaGreat

/- Layer 13: a state copied. -/
namespace Go.Proofs.YtjbcfjfnobklkaaGreat
set_option linter.unusedVariables false
set_option linter.unusedSimpArgs false
open Go.ChangeShapes Go.WideShapes Go.ChangeAt Go.RowKit
/-- In which block a list lies. -/
def pbk (p : Option Addr) : Option Nat := p.map (·.block)
theorem own_pbk (p : Option Addr) (n k : Nat) : (Value.slice p n k).ownBlock = pbk p := by cases p <;> rfl
/-- Two lists that lie in no one block. -/
def NoSh (p q : Option Addr) : Prop := ∀ g, pbk p = some g → pbk q ≠ some g
theorem NoSh.symm {p q : Option Addr} (h : NoSh p q) : NoSh q p := fun g h1 h2 => h g h2 h1
theorem Ow.up {α : Type} {W : World} {base k n c : Nat} {e : TypeId} {enc : α → List Value} {xs : List α} {p : Option Addr} (h : Ow W base e k enc xs (.slice p n c)) : ∀ g, pbk p = some g → g < W.heap.size := fun g hg => (h.lt g (by rw [own_pbk]; exact hg)).2
theorem Ow.lo {α : Type} {W : World} {base k n c : Nat} {e : TypeId} {enc : α → List Value} {xs : List α} {p : Option Addr} (h : Ow W base e k enc xs (.slice p n c)) : ∀ g, pbk p = some g → base ≤ g := fun g hg => (h.lt g (by rw [own_pbk]; exact hg)).1
/-- A state whose lists are all the call's own (in no block below base), its threads, and its log, each in a block that no other list lies in. -/
structure StOw (W : World) (base : Nat) (s : St) (z : Pz) : Prop where
  sl : Ow W base 64 2 Slo.cells s.sl (.slice z.p1 s.sl.length z.k1)
  sn : Ow W base 3 1 intC s.sn (.slice z.p2 s.sn.length z.k2)
  rc : Ow W base 3 1 intC s.rc (.slice z.p3 s.rc.length z.k3)
  fl : Ow W base 3 1 intC s.fl (.slice z.p4 s.fl.length z.k4)
  el : Ow W base 3 1 intC s.el (.slice z.p5 s.el.length z.k5)
  th : Ow W base 44 11 Th.cells s.th (.slice z.p6 s.th.length z.k6)
  lg : Ow W base 60 5 En.cells s.lg (.slice z.p7 s.lg.length z.k7)
  a6 : NoSh z.p1 z.p6 ∧ NoSh z.p2 z.p6 ∧ NoSh z.p3 z.p6 ∧ NoSh z.p4 z.p6 ∧ NoSh z.p5 z.p6
  a7 : NoSh z.p1 z.p7 ∧ NoSh z.p2 z.p7 ∧ NoSh z.p3 z.p7 ∧ NoSh z.p4 z.p7 ∧ NoSh z.p5 z.p7 ∧ NoSh z.p6 z.p7
theorem StOw.at {W : World} {base : Nat} {s : St} {z : Pz} (h : StOw W base s z) : StAt W s z := ⟨Ow.sl Slo.enc h.sl, Ow.sl intEnc h.sn, Ow.sl intEnc h.rc, Ow.sl intEnc h.fl, Ow.sl intEnc h.el, Ow.sl Th.enc h.th, Ow.sl En.enc h.lg⟩
theorem StOw.kept {W W' : World} {base : Nat} {s : St} {z : Pz} (h : StOw W base s z) (hg : Below W.heap.size W W') : StOw W' base s z := ⟨Ow.kept h.sl hg, Ow.kept h.sn hg, Ow.kept h.rc hg, Ow.kept h.fl hg, Ow.kept h.el hg, Ow.kept h.th hg, Ow.kept h.lg hg, h.a6, h.a7⟩
theorem StOw.mono {W : World} {base base' : Nat} {s : St} {z : Pz} (h : StOw W base s z) (hb : base' ≤ base) : StOw W base' s z := ⟨ow_mono h.sl hb, ow_mono h.sn hb, ow_mono h.rc hb, ow_mono h.fl hb, ow_mono h.el hb, ow_mono h.th hb, ow_mono h.lg hb, h.a6, h.a7⟩
theorem StOw.out {W W' : World} {base b : Nat} {s : St} {z : Pz} (h : StOw W base s z) (ho : Out [b] W W') (hb : b < base) : StOw W' base s z := ⟨Ow.out h.sl ho hb, Ow.out h.sn ho hb, Ow.out h.rc ho hb, Ow.out h.fl ho hb, Ow.out h.el ho hb, Ow.out h.th ho hb, Ow.out h.lg ho hb, h.a6, h.a7⟩
/-- No list of a state is long. -/
structure St.few (s : St) : Prop where
  sl : s.sl.length ≤ 1000
  sn : s.sn.length ≤ 1000
  rc : s.rc.length ≤ 1000
  fl : s.fl.length ≤ 1000
  el : s.el.length ≤ 1000
  th : s.th.length ≤ 1000
  lg : s.lg.length ≤ 1000
theorem st_size : (Tryz.prog.info? 33).map (·.size) = some 20 := by kernel_rfl

/-- A list of integers copied, in no block below base. -/
def CopI (base : Nat) (l : List Int) (v : Value) (W : World) : Prop := ∃ q c, v = .slice q l.length c ∧ Ow W base 3 1 intC l (.slice q l.length c)
theorem CopI.kept {base : Nat} {l : List Int} {v : Value} {W W' : World} (h : CopI base l v W) (hg : Below W.heap.size W W') : CopI base l v W' := by
  obtain ⟨q, c, rfl, h⟩ := h
  exact ⟨q, c, rfl, Ow.kept h hg⟩
end Go.Proofs.YtjbcfjfnobklkaaGreat

/- STORES INTO A ROW OF THE CALL's OWN: a whole element, or one cell of it. -/
namespace Go.Proofs.YtjbcfjfnobklkaaGreat
set_option linter.unusedVariables false
set_option linter.unusedSimpArgs false
open Go.ChangeShapes Go.WideShapes Go.ChangeAt Go.RowKit
section
variable {α : Type} {k : Nat} {enc : α → List Value}
theorem flat_set (h : Enc k enc) : ∀ (l : List α) (i : Nat) (x : α), i < l.length → (l.set i x).flatMap enc = (l.flatMap enc).take (i * k) ++ enc x ++ (l.flatMap enc).drop (i * k + k)
  | [], i, x, hi => by simp at hi
  | y :: l, 0, x, _ => by
    simp only [List.set_cons_zero, List.flatMap_cons, Nat.zero_mul, List.take_zero, List.nil_append, Nat.zero_add]
    rw [List.drop_append_of_le_length (by rw [h.len]; exact Nat.le_refl _), List.drop_of_length_le (by rw [h.len]; exact Nat.le_refl _), List.nil_append]
  | y :: l, i + 1, x, hi => by
    have ih := flat_set h l i x (by simpa using hi)
    have e : (i + 1) * k = (enc y).length + i * k := by rw [h.len, Nat.add_mul]; omega
    simp only [List.set_cons_succ, List.flatMap_cons]
    rw [e, List.take_length_add_append, Nat.add_assoc, List.drop_length_add_append, ih]
    simp [List.append_assoc]
/-- A row's block: what it holds. -/
theorem Ow.block {W : World} {base : Nat} {e : TypeId} {l : List α} {g n c : Nat} (h : Ow W base e k enc l (.slice (some ⟨g, 0, none⟩) n c)) : ∃ cur : Array Value, W.heap[g]? = some (.cells cur e (0, 0)) ∧ l.length = n ∧ n ≤ c ∧ c ≤ maxLen ∧ cur.size = c * k ∧ cur.toList.take (l.length * k) = l.flatMap enc := by
  obtain ⟨h0, ⟨h1, _⟩ | ⟨_, _, cur, h1, hb, hg, hl, hm, hs, ht⟩⟩ := h
  · cases h1
  cases h1
  exact ⟨cur, hg, rfl, hl, hm, hs, ht⟩
theorem Ow.pos {W : World} {base : Nat} {e : TypeId} {l : List α} {p : Option Addr} {n c : Nat} (h : Ow W base e k enc l (.slice p n c)) (hn : 0 < l.length) : ∃ g, p = some ⟨g, 0, none⟩ := by
  obtain ⟨_, ⟨h1, h2⟩ | ⟨g, _, _, h1, _⟩⟩ := h
  · omega
  · cases h1; exact ⟨g, rfl⟩
theorem Ow.rowset (he : Enc k enc) {W W' : World} {base : Nat} {e : TypeId} {l : List α} {g n c : Nat} (h : Ow W base e k enc l (.slice (some ⟨g, 0, none⟩) n c)) {i : Nat} (hi : i < l.length) (x : α) {cur : Array Value} (hc : W.heap[g]? = some (.cells cur e (0, 0)))
    (hW : W'.heap[g]? = some (.cells (cur.toList.take (i * k) ++ enc x ++ cur.toList.drop (i * k + k)).toArray e (0, 0))) : Ow W' base e k enc (l.set i x) (.slice (some ⟨g, 0, none⟩) n c) := by
  have hb := (Ow.lt h g rfl).1
  obtain ⟨cur', hg, hn, hl, hm, hs, ht⟩ := Ow.block h
  rw [hc] at hg
  cases hg
  have hik : i * k + k ≤ l.length * k := by
    have := Nat.mul_le_mul_right k (show i + 1 ≤ l.length by omega)
    rw [Nat.add_mul] at this; omega
  have hlk : l.length * k ≤ cur.size := by rw [hs]; exact Nat.mul_le_mul_right k (by omega)
  have hex := he.len x
  refine ⟨flat_len he _, .inr ⟨g, c, _, by rw [List.length_set, hn], hb, hW, by rw [List.length_set]; omega, hm, by simp [hex]; omega, ?_⟩⟩
  rw [List.length_set, flat_set he l i x hi, ← ht]
  rw [List.take_take, Nat.min_eq_left (by omega : i * k ≤ l.length * k)]
  apply List.ext_getElem?
  intro j
  simp only [List.getElem?_take, List.getElem?_append, List.length_take, List.length_append, List.getElem?_drop, Array.length_toList, hex]
  have h3 : min (i * k) cur.size = i * k := by omega
  rw [h3]
  by_cases h1 : j < i * k + k
  · have : j < l.length * k := by omega
    simp [h1, this]
  · by_cases h2 : j < l.length * k
    · have h5 : i * k + k + (j - (i * k + k)) < l.length * k := by omega
      simp [h1, h2, h5]
    · have h5 : ¬ i * k + k + (j - (i * k + k)) < l.length * k := by omega
      have h6 : ¬ j < i * k := by omega
      simp [h1, h2, h5, h6]
end
section
variable {P : Program} {ops : Array Oper} {rest : List Oper} {o : Oper} {a : Act} {w : World} {Q : Exit → Act → World → Prop}
theorem wpList_storeOw {α : Type} {k : Nat} {enc : α → List Value} (ty : TypeId) (hgd : Region.wanted o (yielded ops a.tmps) = true) (x y : Operand) (ho : o.op = .store ty x y) {g i base n c : Nat} {e : TypeId} {l : List α} (hx : a.eval x = .pointer (some ⟨g, i * k, none⟩)) (he : Enc k enc)
    (hO : Ow w base e k enc l (.slice (some ⟨g, 0, none⟩) n c)) (hi : i < l.length) {v : Value} (hy : a.eval y = v) (u : α) (hv : v.cells.toList = enc u) (hk : (P.info? ty).map (·.size) = some k)
    (h : ∀ W', Ow W' base e k enc (l.set i u) (.slice (some ⟨g, 0, none⟩) n c) → Out [g] w W' → wpList P ops Q rest (a.put o.dst undef) W') : wpList P ops Q (o :: rest) a w :=
  wpList_want hgd fun _ hK => by
    obtain ⟨cur, hg, hn, hl, hm, hs, ht⟩ := Ow.block hO
    have hik : i * k + k ≤ l.length * k := by
      have := Nat.mul_le_mul_right k (show i + 1 ≤ l.length by omega)
      rw [Nat.add_mul] at this; omega
    have hlk : l.length * k ≤ cur.size := by rw [hs]; exact Nat.mul_le_mul_right k (by omega)
    have heu := he.len u
    have hrun := run_storeB (P := P) (w := w) (b := g) (off := i * k) (cs := cur.toList) (us := enc u) ty hv (by rw [heu]; exact hk) (List.all_eq_true.2 (he.one u)) (by rw [heu]; simp; omega) (t := e) (by simpa using hg)
    unfold Oper.wp execOp
    simp only [ho, hx, hy, Instr.storeAt, Instr.sureAddr, Sem.run_bind, Sem.run_pure, Result.andThen_ok, hrun]
    refine hK _ _ (h _ (Ow.rowset he hO hi u hg ?_) (store_out (off := i * k) (us := enc u) (cs := cur.toList) (t := e) (by simpa using hg) _))
    have := setRow_heap w g cur (List.take (i * k) cur.toList ++ enc u ++ List.drop (i * k + (enc u).length) cur.toList).toArray e (0, 0) hg
    rw [heu] at this
    rw [heu]
    exact this
end
end Go.Proofs.YtjbcfjfnobklkaaGreat

/- Layer 12: a thread parked, woken, and done: the program's, and the document's. -/
namespace Go.Proofs.YtjbcfjfnobklkaaGreat
set_option linter.unusedVariables false
set_option linter.unusedSimpArgs false
open Go.ChangeShapes Go.WideShapes Go.ChangeAt Go.RowKit

end Go.Proofs.YtjbcfjfnobklkaaGreat

/- Layer 12: what begins on a thread: the program's, and the document's. -/
namespace Go.Proofs.YtjbcfjfnobklkaaGreat
set_option linter.unusedVariables false
set_option linter.unusedSimpArgs false
open Go.ChangeShapes Go.WideShapes Go.ChangeAt Go.RowKit
end Go.Proofs.YtjbcfjfnobklkaaGreat

/- Layer 12: whether a thread may be: the document's. -/
namespace Go.Proofs.YtjbcfjfnobklkaaGreat
set_option linter.unusedVariables false
set_option linter.unusedSimpArgs false
open Go.ChangeShapes Go.WideShapes Go.ChangeAt Go.RowKit
set_option maxHeartbeats 8000000 in
set_option maxRecDepth 100000 in
theorem rtcheck_any {st ki va un pc re se tr rs go : Int} {la : Bool} (w : World) : Calls Tryz.prog 219 #[.agg #[.int .i64 st, .int .i64 ki, .int .i64 va, .int .i64 un, .int .i64 pc, .int .i64 re, .int .i64 se, .int .i64 tr, .bool la, .int .i64 rs, .int .i64 go]] w fun e w' => e = .returned (.bool (thB ⟨st, ki, va, un, pc, re, se, tr, la, rs, go⟩)) ∧ Kept w w' := by
  by_cases hk : ki = 0
  · subst hk
    by_cases hs : st = 0
    · subst hs
      have hcs : CellsAt (w.alloc (.cells #[.int .i64 0, .int .i64 0, .int .i64 va, .int .i64 un, .int .i64 pc, .int .i64 re, .int .i64 se, .int .i64 tr, .bool la, .int .i64 rs, .int .i64 go] 44)) [(w.heap.size, 0, .int .i64 0), (w.heap.size, 1, .int .i64 0), (w.heap.size, 2, .int .i64 va), (w.heap.size, 3, .int .i64 un), (w.heap.size, 4, .int .i64 pc), (w.heap.size, 5, .int .i64 re), (w.heap.size, 6, .int .i64 se), (w.heap.size, 7, .int .i64 tr), (w.heap.size, 8, .bool la), (w.heap.size, 9, .int .i64 rs), (w.heap.size, 10, .int .i64 go)] := by (simp only [CellsAt]; (repeat' (first | exact trivial | (refine And.intro ?_ ?_))); all_goals (first | (focus ((try simp only [World.size_setCell, World.size_alloc]); omega)) | (repeat (first | rfl | assumption | (refine (World.cell?_alloc_past _ _ _ ?_).trans ?_; focus ((try simp only [World.size_setCell, World.size_alloc]); omega)) | (refine (World.cell?_alloc_at _ _ _ _ ?_).trans ?_; focus ((try simp only [World.size_setCell, World.size_alloc]); done)) | (refine (World.cell?_setCell_other _ _ _ _ ?_).trans ?_; focus (simp; done)) | (refine (World.cell?_setCell_other _ _ _ _ ?_).trans ?_; focus (simp; omega)) | (refine World.cell?_setCell_same' _ _ _ ?_; focus (simp; done))))))
      go_enter Tryz.func219, Tryz.ntmps219
      go_wp2_with (first | (go_at_call 242; refine (rotimed_any _ _).mono ?_; rintro e wx ⟨rfl, hgx⟩; try (have hcs := cells_keep hgx hcs; have hq0 := hcs.1.2; have hq1 := hcs.2.1.2; have hq2 := hcs.2.2.1.2; have hq3 := hcs.2.2.2.1.2; have hq4 := hcs.2.2.2.2.1.2; have hq5 := hcs.2.2.2.2.2.1.2; have hq6 := hcs.2.2.2.2.2.2.1.2; have hq7 := hcs.2.2.2.2.2.2.2.1.2; have hq8 := hcs.2.2.2.2.2.2.2.2.1.2; have hq9 := hcs.2.2.2.2.2.2.2.2.2.1.2; have hq10 := hcs.2.2.2.2.2.2.2.2.2.2.1.2; have hz0 := hcs.1.1)))
      all_goals (go_ret; exact ⟨ret_bool (by (rw [Bool.eq_iff_iff, thB_iff]); (clear hcs); (try clear hq0 hq1 hq2 hq3 hq4 hq5 hq6 hq7 hq8 hq9 hq10 hz0 hgx); cases la <;> (first | (simp [opTimed, bI] at *; done) | (simp [opTimed, bI] at *; omega))), by repeat' (first | (with_reducible exact Below.refl _ _) | (with_reducible assumption) | (with_reducible refine kept_alloc ?_ _) | (with_reducible refine kept_drewN ?_ _) | (with_reducible refine Below.drew ?_) | (with_reducible refine Below.setCell ?_ (by first | omega | (simp; omega) | (simp; done)) _) | (refine kept_trans ?_ (by with_reducible assumption)))⟩)
    · have d0 : (st == 0) = false := by simpa using hs
      have d1 : (st != 0) = true := by simpa using hs
      have hcs : CellsAt (w.alloc (.cells #[.int .i64 st, .int .i64 0, .int .i64 va, .int .i64 un, .int .i64 pc, .int .i64 re, .int .i64 se, .int .i64 tr, .bool la, .int .i64 rs, .int .i64 go] 44)) [(w.heap.size, 0, .int .i64 st), (w.heap.size, 1, .int .i64 0), (w.heap.size, 2, .int .i64 va), (w.heap.size, 3, .int .i64 un), (w.heap.size, 4, .int .i64 pc), (w.heap.size, 5, .int .i64 re), (w.heap.size, 6, .int .i64 se), (w.heap.size, 7, .int .i64 tr), (w.heap.size, 8, .bool la), (w.heap.size, 9, .int .i64 rs), (w.heap.size, 10, .int .i64 go)] := by (simp only [CellsAt]; (repeat' (first | exact trivial | (refine And.intro ?_ ?_))); all_goals (first | (focus ((try simp only [World.size_setCell, World.size_alloc]); omega)) | (repeat (first | rfl | assumption | (refine (World.cell?_alloc_past _ _ _ ?_).trans ?_; focus ((try simp only [World.size_setCell, World.size_alloc]); omega)) | (refine (World.cell?_alloc_at _ _ _ _ ?_).trans ?_; focus ((try simp only [World.size_setCell, World.size_alloc]); done)) | (refine (World.cell?_setCell_other _ _ _ _ ?_).trans ?_; focus (simp; done)) | (refine (World.cell?_setCell_other _ _ _ _ ?_).trans ?_; focus (simp; omega)) | (refine World.cell?_setCell_same' _ _ _ ?_; focus (simp; done))))))
      go_enter Tryz.func219, Tryz.ntmps219
      go_wp2_with (first | (go_at_call 242; refine (rotimed_any _ _).mono ?_; rintro e wx ⟨rfl, hgx⟩; try (have hcs := cells_keep hgx hcs; have hq0 := hcs.1.2; have hq1 := hcs.2.1.2; have hq2 := hcs.2.2.1.2; have hq3 := hcs.2.2.2.1.2; have hq4 := hcs.2.2.2.2.1.2; have hq5 := hcs.2.2.2.2.2.1.2; have hq6 := hcs.2.2.2.2.2.2.1.2; have hq7 := hcs.2.2.2.2.2.2.2.1.2; have hq8 := hcs.2.2.2.2.2.2.2.2.1.2; have hq9 := hcs.2.2.2.2.2.2.2.2.2.1.2; have hq10 := hcs.2.2.2.2.2.2.2.2.2.2.1.2; have hz0 := hcs.1.1)))
      all_goals (go_ret; exact ⟨ret_bool (by (rw [Bool.eq_iff_iff, thB_iff]); (clear hcs); (try clear hq0 hq1 hq2 hq3 hq4 hq5 hq6 hq7 hq8 hq9 hq10 hz0 hgx); cases la <;> (first | (simp [opTimed, bI] at *; done) | (simp [opTimed, bI] at *; omega))), by repeat' (first | (with_reducible exact Below.refl _ _) | (with_reducible assumption) | (with_reducible refine kept_alloc ?_ _) | (with_reducible refine kept_drewN ?_ _) | (with_reducible refine Below.drew ?_) | (with_reducible refine Below.setCell ?_ (by first | omega | (simp; omega) | (simp; done)) _) | (refine kept_trans ?_ (by with_reducible assumption)))⟩)
  · have k0 : (ki == 0) = false := by simpa using hk
    have hcs : CellsAt (w.alloc (.cells #[.int .i64 st, .int .i64 ki, .int .i64 va, .int .i64 un, .int .i64 pc, .int .i64 re, .int .i64 se, .int .i64 tr, .bool la, .int .i64 rs, .int .i64 go] 44)) [(w.heap.size, 0, .int .i64 st), (w.heap.size, 1, .int .i64 ki), (w.heap.size, 2, .int .i64 va), (w.heap.size, 3, .int .i64 un), (w.heap.size, 4, .int .i64 pc), (w.heap.size, 5, .int .i64 re), (w.heap.size, 6, .int .i64 se), (w.heap.size, 7, .int .i64 tr), (w.heap.size, 8, .bool la), (w.heap.size, 9, .int .i64 rs), (w.heap.size, 10, .int .i64 go)] := by (simp only [CellsAt]; (repeat' (first | exact trivial | (refine And.intro ?_ ?_))); all_goals (first | (focus ((try simp only [World.size_setCell, World.size_alloc]); omega)) | (repeat (first | rfl | assumption | (refine (World.cell?_alloc_past _ _ _ ?_).trans ?_; focus ((try simp only [World.size_setCell, World.size_alloc]); omega)) | (refine (World.cell?_alloc_at _ _ _ _ ?_).trans ?_; focus ((try simp only [World.size_setCell, World.size_alloc]); done)) | (refine (World.cell?_setCell_other _ _ _ _ ?_).trans ?_; focus (simp; done)) | (refine (World.cell?_setCell_other _ _ _ _ ?_).trans ?_; focus (simp; omega)) | (refine World.cell?_setCell_same' _ _ _ ?_; focus (simp; done))))))
    go_enter Tryz.func219, Tryz.ntmps219
    go_wp2_with (first | (go_at_call 242; refine (rotimed_any _ _).mono ?_; rintro e wx ⟨rfl, hgx⟩; try (have hcs := cells_keep hgx hcs; have hq0 := hcs.1.2; have hq1 := hcs.2.1.2; have hq2 := hcs.2.2.1.2; have hq3 := hcs.2.2.2.1.2; have hq4 := hcs.2.2.2.2.1.2; have hq5 := hcs.2.2.2.2.2.1.2; have hq6 := hcs.2.2.2.2.2.2.1.2; have hq7 := hcs.2.2.2.2.2.2.2.1.2; have hq8 := hcs.2.2.2.2.2.2.2.2.1.2; have hq9 := hcs.2.2.2.2.2.2.2.2.2.1.2; have hq10 := hcs.2.2.2.2.2.2.2.2.2.2.1.2; have hz0 := hcs.1.1)))
    all_goals (go_ret; exact ⟨ret_bool (by (rw [Bool.eq_iff_iff, thB_iff]); (clear hcs); (try clear hq0 hq1 hq2 hq3 hq4 hq5 hq6 hq7 hq8 hq9 hq10 hz0 hgx); cases la <;> (first | (simp [opTimed, bI] at *; done) | (simp [opTimed, bI] at *; omega))), by repeat' (first | (with_reducible exact Below.refl _ _) | (with_reducible assumption) | (with_reducible refine kept_alloc ?_ _) | (with_reducible refine kept_drewN ?_ _) | (with_reducible refine Below.drew ?_) | (with_reducible refine Below.setCell ?_ (by first | omega | (simp; omega) | (simp; done)) _) | (refine kept_trans ?_ (by with_reducible assumption)))⟩)
end Go.Proofs.YtjbcfjfnobklkaaGreat

/- Layer 12: values given; what every statement asks first. -/
namespace Go.Proofs.YtjbcfjfnobklkaaGreat
set_option linter.unusedVariables false
set_option linter.unusedSimpArgs false
open Go.ChangeShapes Go.WideShapes Go.ChangeAt Go.RowKit
theorem beg_ok_u {t : Th} {k v u : Int} (h : t.st = 0) (h1 : opB k = true) (h2 : opTimed k = false) : thBeg t k v u 0 ⟨1, k, v, 0, 0, 0, 0, 0, false, 0, 0⟩ := .inr (.inr (.inl ⟨h, h1, h2, rfl, rfl⟩))
end Go.Proofs.YtjbcfjfnobklkaaGreat

/- Layer 13: a state of which one thread is changed; what a thread begins. -/
namespace Go.Proofs.YtjbcfjfnobklkaaGreat
set_option linter.unusedVariables false
set_option linter.unusedSimpArgs false
open Go.ChangeShapes Go.WideShapes Go.ChangeAt Go.RowKit
theorem Ow.outN {α : Type} {W W' : World} {base k n c g : Nat} {e : TypeId} {enc : α → List Value} {xs : List α} {p : Option Addr} (h : Ow W base e k enc xs (.slice p n c)) (ho : Out [g] W W') (hne : NoSh p (some ⟨g, 0, none⟩)) : Ow W' base e k enc xs (.slice p n c) :=
  Ow.of_block h fun b hb => ho.block b (h.lt b hb).2 (by
    rw [own_pbk] at hb
    have := hne b hb
    intro h2
    exact this (by simp at h2; subst h2; rfl))
theorem StOw.setT {W W' : World} {base g : Nat} {s : St} {z : Pz} {n : Nat} {t : Th} (h : StOw W base s z) (hp : z.p6 = some ⟨g, 0, none⟩) (hT : Ow W' base 44 11 Th.cells (s.th.set n t) (.slice (some ⟨g, 0, none⟩) s.th.length z.k6)) (ho : Out [g] W W') : StOw W' base (s.setTh n t) z := by
  obtain ⟨a, b, c, d, e, f, i, a6, a7⟩ := h
  rw [hp] at a6 a7
  refine ⟨Ow.outN a ho a6.1, Ow.outN b ho a6.2.1, Ow.outN c ho a6.2.2.1, Ow.outN d ho a6.2.2.2.1, Ow.outN e ho a6.2.2.2.2, ?_, Ow.outN i ho a7.2.2.2.2.2.symm, by rw [hp]; exact a6, by rw [hp]; exact a7⟩
  show Ow W' base _ _ _ (s.th.set n t) (.slice z.p6 (s.th.set n t).length z.k6)
  rw [List.length_set, hp]
  exact hT
end Go.Proofs.YtjbcfjfnobklkaaGreat

/- Layer 13: Invoke. -/
namespace Go.Proofs.YtjbcfjfnobklkaaGreat
set_option linter.unusedVariables false
set_option linter.unusedSimpArgs false
open Go.ChangeShapes Go.WideShapes Go.ChangeAt Go.RowKit
end Go.Proofs.YtjbcfjfnobklkaaGreat

/- A region that draws its order, whose operations read, reckon and call what keeps the world, and which ends in stores, one behind the other ('return q, f(q) && g(q)', a struct among the results): one walk in the text's order, its head over a class of worlds, its tail as a list. -/
namespace Go.Proofs.YtjbcfjfnobklkaaGreat
set_option linter.unusedVariables false
set_option linter.unusedSimpArgs false
open Go.RowKit
section
variable {P : Program} {ops : Array Oper} {md : Region.Mode} {C : World → Prop}

end

/-- These blocks hold these objects. -/
def ObjsAt (W : World) : List (Nat × Obj) → Prop
  | [] => True
  | x :: r => W.heap[x.1]? = some x.2 ∧ ObjsAt W r
/-- THE CLASS OF WORLDS: what was there is kept, and these blocks hold these objects. -/
def Wo (w : World) (l : List (Nat × Obj)) : Type := { w' : World // Below w.heap.size w w' ∧ ObjsAt w' l }
def Wo.at {w : World} {l : List (Nat × Obj)} (x : Wo w l) : World := x.1
theorem Wo.kept {w : World} {l : List (Nat × Obj)} (x : Wo w l) : Below w.heap.size w x.at := x.2.1
theorem Wo.mk {w W : World} {l : List (Nat × Obj)} (h : Below w.heap.size w W) (c : ObjsAt W l) : ∃ x : Wo w l, W = x.at := ⟨⟨W, h, c⟩, rfl⟩
end Go.Proofs.YtjbcfjfnobklkaaGreat

/- Layer 13: Tell. -/
namespace Go.Proofs.YtjbcfjfnobklkaaGreat
set_option linter.unusedVariables false
set_option linter.unusedSimpArgs false
open Go.ChangeShapes Go.WideShapes Go.ChangeAt Go.RowKit
theorem Bk.grown {W W' : World} {b : Nat} {cs : List Value} {row : Option Nat} (h : Bk W b cs) (hg : W.grownBy W' row) (hne : row ≠ some b) : Bk W' b cs := by
  obtain ⟨t, ht⟩ := h
  exact ⟨t, (hg.block b (Array.getElem?_eq_some_iff.1 ht).1 (fun e => hne e.symm)).trans ht⟩
/-- No list of it lies in that block. -/
def Pz.free (z : Pz) (b : Nat) : Prop := (pbk z.p1 ≠ some b ∧ pbk z.p2 ≠ some b ∧ pbk z.p3 ≠ some b ∧ pbk z.p4 ≠ some b ∧ pbk z.p5 ≠ some b) ∧ pbk z.p6 ≠ some b ∧ pbk z.p7 ≠ some b
theorem Ow.outP {α : Type} {W W' : World} {base k n c b : Nat} {e : TypeId} {enc : α → List Value} {xs : List α} {p : Option Addr} (h : Ow W base e k enc xs (.slice p n c)) (ho : Out [b] W W') (hne : pbk p ≠ some b) : Ow W' base e k enc xs (.slice p n c) :=
  Ow.of_block h fun g hg => ho.block g (h.lt g hg).2 (by
    rw [own_pbk] at hg
    intro h2
    simp at h2; subst h2; exact hne hg)
theorem StOw.outN {W W' : World} {base b : Nat} {s : St} {z : Pz} (h : StOw W base s z) (ho : Out [b] W W') (hf : z.free b) : StOw W' base s z :=
  ⟨Ow.outP h.sl ho hf.1.1, Ow.outP h.sn ho hf.1.2.1, Ow.outP h.rc ho hf.1.2.2.1, Ow.outP h.fl ho hf.1.2.2.2.1, Ow.outP h.el ho hf.1.2.2.2.2, Ow.outP h.th ho hf.2.1, Ow.outP h.lg ho hf.2.2, h.a6, h.a7⟩
theorem Ow.grownP {α : Type} {W W' : World} {base k n c : Nat} {e : TypeId} {enc : α → List Value} {xs : List α} {p q : Option Addr} (h : Ow W base e k enc xs (.slice p n c)) (hg : W.grownBy W' (pbk q)) (hne : NoSh p q) : Ow W' base e k enc xs (.slice p n c) :=
  Ow.grown h hg fun g hg => by rw [own_pbk] at hg; exact hne g hg
/-- A state behind an append to its log. -/
theorem StOw.app {W W' : World} {base : Nat} {s : St} {z : Pz} {x : En} {p : Option Addr} {n c : Nat} (h : StOw W base s z) (hA : Ow W' base 60 5 En.cells (s.lg ++ [x]) (.slice p n c)) (hn : n = (s.lg ++ [x]).length) (hg : W.grownBy W' (pbk z.p7)) (hp : ∀ g, pbk p = some g → pbk z.p7 = some g ∨ g = W.heap.size) :
    StOw W' base (s.addLg x) ⟨z.p1, z.k1, z.p2, z.k2, z.p3, z.k3, z.p4, z.k4, z.p5, z.k5, z.p6, z.k6, p, c⟩ := by
  subst hn
  have f : ∀ {u : Option Addr}, (∀ g, pbk u = some g → g < W.heap.size) → NoSh u z.p7 → NoSh u p := fun hu hne g h1 h2 => by
    rcases hp g h2 with h3 | h3
    · exact hne g h1 h3
    · have := hu g h1; omega
  exact ⟨Ow.grownP h.sl hg h.a7.1, Ow.grownP h.sn hg h.a7.2.1, Ow.grownP h.rc hg h.a7.2.2.1, Ow.grownP h.fl hg h.a7.2.2.2.1, Ow.grownP h.el hg h.a7.2.2.2.2.1, Ow.grownP h.th hg h.a7.2.2.2.2.2, hA, h.a6,
    f (Ow.up h.sl) h.a7.1, f (Ow.up h.sn) h.a7.2.1, f (Ow.up h.rc) h.a7.2.2.1, f (Ow.up h.fl) h.a7.2.2.2.1, f (Ow.up h.el) h.a7.2.2.2.2.1, f (Ow.up h.th) h.a7.2.2.2.2.2⟩
/-- A literal of one entry. -/
def OneE (x : En) (v : Value) (W : World) : Prop := ∃ g, v = .slice (some ⟨g, 0, none⟩) 1 1 ∧ Sl W 5 En.cells [x] (.slice (some ⟨g, 0, none⟩) 1 1)
theorem OneE.kept {x : En} {v : Value} {W W' : World} (h : OneE x v W) (hg : Below W.heap.size W W') : OneE x v W' := by
  obtain ⟨g, rfl, h⟩ := h
  exact ⟨g, rfl, h.kept hg⟩
end Go.Proofs.YtjbcfjfnobklkaaGreat
