/- Texts merged: AcPP, AcQP, AcRP. -/
import Derived.Test.YtfllnpcoggmepaaGreatZa11
import Derived.Test.YtfllnpcoggmepaaGreatZa7
/- The head of the laws of layer 14 (awake), by contracts told by abstract values. -/
namespace Go.Proofs.YtfllnpcoggmepaaGreat
set_option linter.unusedVariables false
set_option linter.unusedSimpArgs false
open Go.RowKit
def cW : Cf := ⟨1, 2, 0, 0, 0, 0, false⟩
def sW : St := newSt cW
def uW : St := sW.setTh 0 ⟨1, 1, 7, 0, 0, 0, 0, 0, false, 0, 0⟩
def eW : En := ⟨0, 1, 7, 1, 0⟩
def aW : St := ⟨cW, 0, 1, 0, [⟨0, 7⟩, ⟨1, 0⟩], [], [], 0, [], 1, [], 0, [⟨0, 1, 7, 0, 0, 0, 0, 0, false, 1, 0⟩, th0], [eW]⟩
def bW : St := ⟨cW, 0, 1, 0, [⟨0, 7⟩, ⟨1, 0⟩], [0], [], 0, [], 0, [], 0, [⟨1, 1, 7, 0, 6, 0, 0, 0, false, 1, 0⟩, th0], [eW]⟩
theorem w_a : sendK uW 0 100 = (aW, 7) := by rfl
theorem w_b : sendK uW 0 5 = (bW, 5) := by rfl
theorem w_c : sendK uW 1 100 = (uW, 0) := by rfl
theorem w_q : quV aW = ⟨[7], 2, 0, 0⟩ := by rfl
theorem cW_b : cfB cW = true := by decide
theorem sW_b : stB sW = true := new_stB cW_b
theorem uW_b : stB uW = true := by decide
theorem aW_b : stB aW = true := by decide
theorem cW_in : cW.ok := by simp [cW, Cf.ok, In64]
theorem sW_in : sW.ok := ok_of sW_b ⟨cW_in, fun x hx => by
  have hx' : x = ⟨0, 0⟩ ∨ x = ⟨1, 0⟩ := by
    have : sW.sl = [⟨0, 0⟩, ⟨1, 0⟩] := rfl
    rw [this] at hx; simpa using hx
  rcases hx' with rfl | rfl <;> (constructor <;> decide), fun t ht => by
  have ht' : t = th0 := by
    have : sW.th = [th0, th0] := rfl
    rw [this] at ht; simpa using ht
  subst ht'
  constructor <;> (constructor <;> decide)⟩ (by decide)
theorem uW_in : uW.ok := ok_of uW_b ⟨sW_in.cf, fun x hx => (sW_in.sl.1 x hx).2, fun t ht => by
  rcases List.mem_or_eq_of_mem_set ht with h | rfl
  · have := sW_in.th.1 t h; exact ⟨this.2.2.1, this.2.2.2.2.2.2.2.2.2⟩
  · constructor <;> (constructor <;> decide)⟩ (by decide)
theorem aW_in : aW.ok := by
  refine ok_of aW_b ⟨sW_in.cf, fun x hx => ?_, fun t ht => ?_⟩ (by decide)
  · have hx' : x = ⟨0, 7⟩ ∨ x = ⟨1, 0⟩ := by simpa [aW] using hx
    rcases hx' with rfl | rfl <;> (constructor <;> decide)
  · have ht' : t = ⟨0, 1, 7, 0, 0, 0, 0, 0, false, 1, 0⟩ ∨ t = th0 := by simpa [aW] using ht
    rcases ht' with rfl | rfl <;> (constructor <;> (constructor <;> decide))
theorem w_inv : stBeg sW 0 1 7 0 0 uW := .inr (.inr ⟨sW_b, by decide, 0, ⟨1, 1, 7, 0, 0, 0, 0, 0, false, 0, 0⟩, rfl, by decide, beg_ok_u (t := gth sW.th 0) (v := 7) (u := 0) (by decide) (by decide) (by decide), rfl⟩)
theorem st_W {i m : Int} {k : Nat} {r : St} {c : Nat} (hk : (min m 1000).toNat = k) (h : sendK uW i k = (r, c)) : AC Tryz.prog 12 [stT uW, .int .i64 i, .int .i64 m] (.tuple #[stT r, .int .i64 c]) := by
  have := ac_psteps (i := i) (m := m) uW_in (fit_of uW_b (by decide)) (by decide) (by decide)
  rw [hk, h] at this
  exact this
set_option maxRecDepth 100000 in
theorem ac_awake : AC Tryz.prog 10 [] (.bool true) :=
  ac_path mixed (ext := [22, 23, 12, 24, 28]) (fuel := 9) (n := 6)
    (orc := [.tuple #[stT sW, .int .i64 0], .tuple #[stT uW, .int .i64 0], .tuple #[stT aW, .int .i64 7], .tuple #[stT bW, .int .i64 5], .tuple #[stT uW, .int .i64 0], .nilFunc, .nilFunc, .nilFunc, quT ⟨[7], 2, 0, 0⟩, .nilFunc, vD true, thT ⟨0, 1, 7, 0, 0, 0, 0, 0, false, 1, 0⟩, .nilFunc, thT ⟨0, 1, 7, 0, 0, 0, 0, 0, false, 1, 0⟩, .nilFunc, .nilFunc, enT eW, .bool true, .nilFunc, .nilFunc, thT ⟨1, 1, 7, 0, 6, 0, 0, 0, false, 1, 0⟩, .nilFunc, .nilFunc, .nilFunc, .nilFunc, .nilFunc, .nilFunc, .nilFunc, .nilFunc, .nilFunc, .nilFunc, .nilFunc, .nilFunc, .nilFunc, .nilFunc, .nilFunc, .nilFunc])
    (an (ac_pnew cW_b) <| an (ac_pinvoke w_inv sW_in (fit_of sW_b (by decide))) <| an (st_W (i := 0) (m := 100) (by decide) w_a) <| an (st_W (i := 0) (m := 5) (by decide) w_b) <| an (st_W (i := 1) (m := 100) (by decide) w_c) <| an (ac_pqueue w_q aW_in) <| an (len_map (f := (Value.int .i64 ·)) [7]) <| an (ac_rints [7] (by decide)) <|
      an (ixT (l := aW.th) (n := 0) (by decide)) <| an (ixT (l := aW.th) (n := 0) (by decide)) <| an (ixEn (l := aW.lg) (i := 0) (by decide)) <| an (ask_bin (fun x y W => (guard_agg (by kernel_rfl) x y _ _ W).2) (fun W => by simpa using en_eql eW eW W) (.tmp 87) (.tmp 88)) <| an (ixT (l := bW.th) (n := 0) (by decide)) trivial) (by kernel_rfl)
end Go.Proofs.YtfllnpcoggmepaaGreat

/- What the laws of layer 14 call: Few, the program's Step, Steps of any state. -/
namespace Go.Proofs.YtfllnpcoggmepaaGreat
set_option linter.unusedVariables false
set_option linter.unusedSimpArgs false
open Go.RowKit
theorem nil_no {s : St} (h : s.th = []) : stB s = false := by
  cases hB : stB s
  · rfl
  · have := (th_len hB).2.1; rw [h] at this; simp at this
theorem sendK_no {s : St} {i : Int} (h : stB s = false) (k : Nat) : sendK s i k = (s, 0) := by
  cases k with
  | zero => rfl
  | succ k => simp [sendK, runsB, hasB, h]
set_option maxRecDepth 100000 in
theorem ac_psteps_nil {s : St} {i m : Int} (h : s.th = []) (ho : s.ok) (hf : s.fit) : AC Tryz.prog 12 [stT s, .int .i64 i, .int .i64 m] (.tuple #[stT s, .int .i64 0]) := by
  cases hm : decide ((0 : Int) < min m 1000)
  · exact ac_path mixed (ext := [71, 21]) (fuel := 9) (n := 5) (orc := [stT s, .bool false]) (an (ac_keep (neg_no s) ho hf) <| an hm trivial) (by kernel_rfl)
  · exact ac_path mixed (ext := [71, 21]) (fuel := 9) (n := 5) (orc := [stT s, .bool true, vD false]) (an (ac_keep (neg_no s) ho hf) <| an hm <| an (ac_pcheck (nil_no h) ho) trivial) (by kernel_rfl)
/-- Some steps of the program, of any state. -/
theorem ac_pst {s : St} {i m : Int} (ho : s.ok) (hf : s.fit) (hl : s.lg.length ≤ 800000) : AC Tryz.prog 12 [stT s, .int .i64 i, .int .i64 m] (.tuple #[stT (sendK s i (min m 1000).toNat).1, .int .i64 (sendK s i (min m 1000).toNat).2]) := by
  by_cases h : s.th = []
  · rw [sendK_no (nil_no h)]; exact ac_psteps_nil h ho hf
  · exact ac_psteps ho hf h hl
theorem sendK_1 (s : St) (i : Int) : (sendK s i 1).1 = sendS s i := by
  cases h : runsB s i 1 <;> simp [sendK, h, sendS]
set_option maxRecDepth 100000 in
theorem ac_pstep {s : St} {i : Int} (ho : s.ok) (hf : s.fit) (hl : s.lg.length ≤ 800000) : AC Tryz.prog 15 [stT s, .int .i64 i] (stT (sendS s i)) := by
  rw [← sendK_1]
  exact ac_path mixed (ext := [12]) (fuel := 9) (n := 3) (orc := [.tuple #[stT (sendK s i 1).1, .int .i64 (sendK s i 1).2]]) (an (ac_pst (i := i) (m := 1) ho hf hl) trivial) (by kernel_rfl)
def fewB (s : St) : Bool := decide ((s.sl.length : Int) ≤ 100) && (decide ((s.th.length : Int) ≤ 100) && (decide ((s.sn.length : Int) ≤ 100) && (decide ((s.rc.length : Int) ≤ 100) && (decide ((s.fl.length : Int) ≤ 100) && (decide ((s.el.length : Int) ≤ 100) && decide ((s.lg.length : Int) ≤ 200))))))
set_option maxRecDepth 100000 in
theorem ac_rfew (s : St) : AC Tryz.prog 11 [stT s] (.bool (fewB s)) := by
  unfold fewB
  cases h1 : decide ((s.sl.length : Int) ≤ 100)
  · exact ac_path mixed (ext := []) (fuel := 9) (n := 3) (orc := [.bool false]) (an h1 trivial) (by kernel_rfl)
  cases h2 : decide ((s.th.length : Int) ≤ 100)
  · exact ac_path mixed (ext := []) (fuel := 9) (n := 3) (orc := [.bool true, .bool false]) (an h1 <| an h2 trivial) (by kernel_rfl)
  cases h3 : decide ((s.sn.length : Int) ≤ 100)
  · exact ac_path mixed (ext := []) (fuel := 9) (n := 3) (orc := [.bool true, .bool true, .bool false]) (an h1 <| an h2 <| an h3 trivial) (by kernel_rfl)
  cases h4 : decide ((s.rc.length : Int) ≤ 100)
  · exact ac_path mixed (ext := []) (fuel := 9) (n := 3) (orc := [.bool true, .bool true, .bool true, .bool false]) (an h1 <| an h2 <| an h3 <| an h4 trivial) (by kernel_rfl)
  cases h5 : decide ((s.fl.length : Int) ≤ 100)
  · exact ac_path mixed (ext := []) (fuel := 9) (n := 3) (orc := [.bool true, .bool true, .bool true, .bool true, .bool false]) (an h1 <| an h2 <| an h3 <| an h4 <| an h5 trivial) (by kernel_rfl)
  cases h6 : decide ((s.el.length : Int) ≤ 100)
  · exact ac_path mixed (ext := []) (fuel := 9) (n := 3) (orc := [.bool true, .bool true, .bool true, .bool true, .bool true, .bool false]) (an h1 <| an h2 <| an h3 <| an h4 <| an h5 <| an h6 trivial) (by kernel_rfl)
  exact ac_path mixed (ext := []) (fuel := 9) (n := 3) (orc := [.bool true, .bool true, .bool true, .bool true, .bool true, .bool true]) (an h1 <| an h2 <| an h3 <| an h4 <| an h5 <| an h6 trivial) (by kernel_rfl)
theorem few_is {s : St} (h : fewB s = true) : s.few ∧ s.fit ∧ s.lg.length ≤ 200 := by
  simp only [fewB, Bool.and_eq_true, decide_eq_true_eq] at h
  obtain ⟨h1, h2, h3, h4, h5, h6, h7⟩ := h
  exact ⟨⟨by omega, by omega, by omega, by omega, by omega, by omega, by omega⟩, ⟨by omega, by omega, by omega, by omega, by omega, by omega, by omega⟩, by omega⟩
theorem sendK_few {i : Int} (k : Nat) : ∀ {s : St}, stB s = true → s.lg.length + k ≤ 1000 → (sendK s i k).1.few ∧ (sendK s i k).1.lg.length ≤ 1000000 := by
  induction k with
  | zero => intro s hB hl; exact ⟨few_of (s := s) hB (by omega), by show s.lg.length ≤ 1000000; omega⟩
  | succ k ih =>
    intro s hB hl
    cases hr : runsB s i 1
    · have : sendK s i (k + 1) = (s, 0) := by simp [sendK, hr]
      rw [this]; exact ⟨few_of (s := s) hB (by omega), by show s.lg.length ≤ 1000000; omega⟩
    · obtain ⟨h1, h2, h3⟩ := runs_iff.1 hr
      obtain ⟨-, hi0, hi1⟩ := has_iff.1 h1
      obtain ⟨n, rfl⟩ : ∃ n : Nat, i = n := ⟨i.toNat, by omega⟩
      have hn : n < s.th.length := by omega
      rw [Int.toNat_natCast] at h2
      have hs1 : (gth s.th n).st ≠ 0 := by omega
      have e : sendK s n (k + 1) = ((sendK (sendN s n) n k).1, (sendK (sendN s n) n k).2 + 1) := by simp only [sendK, hr, if_true, sendS_is hr]
      rw [e]
      have hl' := sendN_lg hB hn
      exact ih (sendN_stB hB hn hs1) (by omega)
/-- A contract, as a law's walk is asked. -/
theorem law_of {g : FuncId} {args : List Value} {vs : Array Value} {W : World} (h : AC Tryz.prog g args (.bool true)) (hv : AtAll (Rp nowhere (fun _ => False) W) args.toArray vs) : Calls Tryz.prog g vs W fun e W' => e = .returned (.bool true) ∧ Kept W W' := by
  refine (h (fun _ => False) W vs (fun g hg => hg.elim) hv).mono ?_
  rintro e W' ⟨c, rfl, hr, hk⟩
  rw [rp_bool] at hr
  exact ⟨by rw [hr], hk⟩
theorem st_free {W : World} {s : St} {z : Pz} (h : StAt W s z) : Rp nowhere (fun _ => False) W (stT s) (.agg #[.int .i64 s.cf.lg, .int .i64 s.cf.th, .int .i64 s.cf.po, .int .i64 s.cf.wt, .int .i64 s.cf.sp, .int .i64 s.cf.yi, .bool s.cf.si, .int .i64 s.hd, .int .i64 s.tl, .int .i64 s.md, .slice z.p1 s.sl.length z.k1, .slice z.p2 s.sn.length z.k2, .slice z.p3 s.rc.length z.k3, .int .i64 s.fe, .slice z.p4 s.fl.length z.k4, .int .i64 s.ee, .slice z.p5 s.el.length z.k5, .int .i64 s.nw, .slice z.p6 s.th.length z.k6, .slice z.p7 s.lg.length z.k7]) := rp_stT.2 ⟨z, rfl, h.loc.mono fun _ _ h => h⟩
end Go.Proofs.YtfllnpcoggmepaaGreat

/- Layer 14's first law (SendTells): its walk, by contracts told by abstract values. -/
namespace Go.Proofs.YtfllnpcoggmepaaGreat
set_option linter.unusedVariables false
set_option linter.unusedSimpArgs false
open Go.RowKit
theorem ask_bb {a b : Bool} (h : a = b) (x y : Operand) : AskP Tryz.prog (.binOp .eql 4 x y 4) [.bool a, .bool b] (.bool true) := by
  intro W o f ho hm
  obtain ⟨h1, h2⟩ := two_is hm
  subst h
  have hu : Tryz.prog.underlying 4 = some .bool := by kernel_rfl
  have : (binOp .eql 4 (.bool a) (.bool a)).run Tryz.prog W = .ok (.bool true) W := by
    have h := run_equalIn_bool' (P := Tryz.prog) W 9999 4 a a hu
    have h' : (Op.equal 4 (.bool a) (.bool a)).run Tryz.prog W = .ok true W := by
      unfold Op.equal Op.maxDepth
      rw [h]; simp
    simp [binOp, h']
  simp [execOp, ho, h1, h2, eqGuard, this]
set_option maxRecDepth 100000 in
theorem ac_inside {pc : Int} {b : Bool} (h : (decide (0 < pc) && decide (pc < 12)) = b) : AC Tryz.prog 17 [.int .i64 pc] (.bool b) := by
  subst h
  cases h1 : decide (0 < pc)
  · exact ac_path mixed (ext := []) (fuel := 9) (n := 3) (orc := [.bool false]) (an h1 trivial) (by kernel_rfl)
  · exact ac_path mixed (ext := []) (fuel := 9) (n := 3) (orc := [.bool true]) (an h1 trivial) (by kernel_rfl)
set_option maxRecDepth 100000 in
theorem ac_near4 {pc : Int} (h : (pc == 4) = true) : AC Tryz.prog 18 [.int .i64 pc] (.int .i64 2) := ac_path mixed (ext := []) (fuel := 9) (n := 3) (orc := [.bool true]) (an h trivial) (by kernel_rfl)
set_option maxRecDepth 100000 in
theorem ac_near6 {pc : Int} (h : (pc == 4) = false) (h6 : (pc == 6) = true) : AC Tryz.prog 18 [.int .i64 pc] (.int .i64 1) := ac_path mixed (ext := []) (fuel := 9) (n := 3) (orc := [.bool false, .bool true]) (an h <| an h6 trivial) (by kernel_rfl)
set_option maxRecDepth 100000 in
theorem ac_near0 {pc : Int} (h : (pc == 4) = false) (h6 : (pc == 6) = false) : AC Tryz.prog 18 [.int .i64 pc] (.int .i64 0) := ac_path mixed (ext := []) (fuel := 9) (n := 3) (orc := [.bool false, .bool false]) (an h <| an h6 trivial) (by kernel_rfl)
section
variable {s u v : St} {i m pc : Int} {k : Nat}
set_option maxRecDepth 100000 in
theorem tells_yes (hF : fewB s = true) (hm : decide (30 < m) = false) (hP : AC Tryz.prog 12 [stT s, .int .i64 i, .int .i64 m] (.tuple #[stT u, .int .i64 k])) (hR : AC Tryz.prog 13 [stT s, .int .i64 i, .int .i64 m] (.tuple #[stT u, .int .i64 k]))
    (hp : AC Tryz.prog 15 [stT s, .int .i64 i] (stT v)) (hr : AC Tryz.prog 16 [stT s, .int .i64 i] (stT v)) (hv : AC Tryz.prog 14 [stT v, stT v] (.bool true)) (hu : AC Tryz.prog 14 [stT u, stT u] (.bool true)) :
    AC Tryz.prog 3 [stT s, .int .i64 i, .int .i64 m, .int .i64 pc] (.bool true) := by
  cases h4 : (pc == 4)
  · cases h6 : (pc == 6)
    · by_cases h1 : 1 ≤ pc
      · by_cases h2 : pc ≤ 11
        · exact ac_path mixed (ext := [10, 11, 12, 13, 15, 16, 14, 17, 18]) (fuel := 9) (n := 6) (orc := [vD true, vD true, .bool false, .tuple #[stT u, .int .i64 k], .tuple #[stT u, .int .i64 k], .bool false, .bool false, stT v, stT v, vD true, vD true, .bool true, vD true, .bool true, .bool true, .nilFunc, .int .i64 0])
            (an ac_awake <| an (hF ▸ ac_rfew s) <| an hm <| an hP <| an hR <| an h4 <| an h6 <| an hp <| an hr <| an hv <| an hu <| an (show ((k : Int) == k) = true by simp) <| an (ac_inside (pc := pc) (b := true) (by simp; omega)) <| an (show decide (1 ≤ pc) = true by simp [h1]) <| an (ask_bb (a := true) (b := decide (pc ≤ 11)) (by simp [h2]) (.tmp 64) (.tmp 70)) <| an (ac_near0 h4 h6) trivial) (by kernel_rfl)
        · exact ac_path mixed (ext := [10, 11, 12, 13, 15, 16, 14, 17, 18]) (fuel := 9) (n := 6) (orc := [vD true, vD true, .bool false, .tuple #[stT u, .int .i64 k], .tuple #[stT u, .int .i64 k], .bool false, .bool false, stT v, stT v, vD true, vD true, .bool true, vD false, .bool true, .bool true, .nilFunc, .int .i64 0])
            (an ac_awake <| an (hF ▸ ac_rfew s) <| an hm <| an hP <| an hR <| an h4 <| an h6 <| an hp <| an hr <| an hv <| an hu <| an (show ((k : Int) == k) = true by simp) <| an (ac_inside (pc := pc) (b := false) (by simp; omega)) <| an (show decide (1 ≤ pc) = true by simp [h1]) <| an (ask_bb (a := false) (b := decide (pc ≤ 11)) (by simp; omega) (.tmp 64) (.tmp 70)) <| an (ac_near0 h4 h6) trivial) (by kernel_rfl)
      · exact ac_path mixed (ext := [10, 11, 12, 13, 15, 16, 14, 17, 18]) (fuel := 9) (n := 6) (orc := [vD true, vD true, .bool false, .tuple #[stT u, .int .i64 k], .tuple #[stT u, .int .i64 k], .bool false, .bool false, stT v, stT v, vD true, vD true, .bool true, vD false, .bool false, .bool true, .nilFunc, .int .i64 0])
          (an ac_awake <| an (hF ▸ ac_rfew s) <| an hm <| an hP <| an hR <| an h4 <| an h6 <| an hp <| an hr <| an hv <| an hu <| an (show ((k : Int) == k) = true by simp) <| an (ac_inside (pc := pc) (b := false) (by simp; omega)) <| an (show decide (1 ≤ pc) = false by simp; omega) <| an (ask_bb (a := false) (b := false) rfl (.tmp 64) (.tmp 70)) <| an (ac_near0 h4 h6) trivial) (by kernel_rfl)
    · have e : pc = 6 := by simpa using h6
      exact ac_path mixed (ext := [10, 11, 12, 13, 15, 16, 14, 17, 18]) (fuel := 9) (n := 6) (orc := [vD true, vD true, .bool false, .tuple #[stT u, .int .i64 k], .tuple #[stT u, .int .i64 k], .bool false, .bool true, stT v, stT v, vD true, vD true, .bool true, vD true, .bool true, .bool true, .nilFunc, .int .i64 1])
        (an ac_awake <| an (hF ▸ ac_rfew s) <| an hm <| an hP <| an hR <| an h4 <| an h6 <| an hp <| an hr <| an hv <| an hu <| an (show ((k : Int) == k) = true by simp) <| an (ac_inside (pc := pc) (b := true) (by simp; omega)) <| an (show decide (1 ≤ pc) = true by simp; omega) <| an (ask_bb (a := true) (b := decide (pc ≤ 11)) (by simp; omega) (.tmp 64) (.tmp 70)) <| an (ac_near6 h4 h6) trivial) (by kernel_rfl)
  · have e : pc = 4 := by simpa using h4
    have h6 : (pc == 6) = false := by simp [e]
    exact ac_path mixed (ext := [10, 11, 12, 13, 15, 16, 14, 17, 18]) (fuel := 9) (n := 6) (orc := [vD true, vD true, .bool false, .tuple #[stT u, .int .i64 k], .tuple #[stT u, .int .i64 k], .bool true, .bool false, stT v, stT v, vD true, vD true, .bool true, vD true, .bool true, .bool true, .nilFunc, .int .i64 2])
      (an ac_awake <| an (hF ▸ ac_rfew s) <| an hm <| an hP <| an hR <| an h4 <| an h6 <| an hp <| an hr <| an hv <| an hu <| an (show ((k : Int) == k) = true by simp) <| an (ac_inside (pc := pc) (b := true) (by simp; omega)) <| an (show decide (1 ≤ pc) = true by simp; omega) <| an (ask_bb (a := true) (b := decide (pc ≤ 11)) (by simp; omega) (.tmp 64) (.tmp 70)) <| an (ac_near4 h4) trivial) (by kernel_rfl)
end
end Go.Proofs.YtfllnpcoggmepaaGreat
