/- Texts merged: AcQQ, CcEQ, RecvFQ, RecvVQ, AcRQ, SdKQ, StepFQ, StepDQ, RcEQ, RcFQ, RcGQ, FxQ, RgmQ. -/
import Derived.Test.YtcakapmpifnfpaaGreatZa10
import Derived.Test.YtcakapmpifnfpaaGreatZa9
import Derived.Test.YtcakapmpifnfpaaGreatZa8
import Derived.Test.YtcakapmpifnfpaaGreatZa4
import Derived.Test.YtcakapmpifnfpaaGreatZa6
/- What the laws of layer 14 call: Few, the program's Step, Steps of any state. -/
namespace Go.Proofs.YtcakapmpifnfpaaGreat
set_option linter.unusedVariables false
set_option linter.unusedSimpArgs false
open Go.RowKit
theorem nil_no {s : St} (h : s.th = []) : stB s = false := by
  cases hB : stB s
  · rfl
  · have := (th_len hB).2.1; rw [h] at this; simp at this
theorem sendK_no {s : St} {i : Int} (h : stB s = false) (k : Nat) : sendK s i k = (s, 0) := by
  cases k with
  | zero => rfl
  | succ k => simp [sendK, runsB, hasB, h]
set_option maxRecDepth 100000 in
theorem ac_psteps_nil {s : St} {i m : Int} (h : s.th = []) (ho : s.ok) (hf : s.fit) : AC Tryz.prog 84 [stT s, .int .i64 i, .int .i64 m] (.tuple #[stT s, .int .i64 0]) := by
  cases hm : decide ((0 : Int) < min m 1000)
  · exact ac_path mixed (ext := [40, 11]) (fuel := 9) (n := 5) (orc := [stT s, .bool false]) (an (ac_keep (neg_no s) ho hf) <| an hm trivial) (by kernel_rfl)
  · exact ac_path mixed (ext := [40, 11]) (fuel := 9) (n := 5) (orc := [stT s, .bool true, vD false]) (an (ac_keep (neg_no s) ho hf) <| an hm <| an (ac_pcheck (nil_no h) ho) trivial) (by kernel_rfl)
/-- Some steps of the program, of any state. -/
theorem ac_pst {s : St} {i m : Int} (ho : s.ok) (hf : s.fit) (hl : s.lg.length ≤ 800000) : AC Tryz.prog 84 [stT s, .int .i64 i, .int .i64 m] (.tuple #[stT (sendK s i (min m 1000).toNat).1, .int .i64 (sendK s i (min m 1000).toNat).2]) := by
  by_cases h : s.th = []
  · rw [sendK_no (nil_no h)]; exact ac_psteps_nil h ho hf
  · exact ac_psteps ho hf h hl
theorem sendK_1 (s : St) (i : Int) : (sendK s i 1).1 = sendS s i := by
  cases h : runsB s i 1 <;> simp [sendK, h, sendS]
set_option maxRecDepth 100000 in
theorem ac_pstep {s : St} {i : Int} (ho : s.ok) (hf : s.fit) (hl : s.lg.length ≤ 800000) : AC Tryz.prog 70 [stT s, .int .i64 i] (stT (sendS s i)) := by
  rw [← sendK_1]
  exact ac_path mixed (ext := [84]) (fuel := 9) (n := 3) (orc := [.tuple #[stT (sendK s i 1).1, .int .i64 (sendK s i 1).2]]) (an (ac_pst (i := i) (m := 1) ho hf hl) trivial) (by kernel_rfl)
def fewB (s : St) : Bool := decide ((s.sl.length : Int) ≤ 100) && (decide ((s.th.length : Int) ≤ 100) && (decide ((s.sn.length : Int) ≤ 100) && (decide ((s.rc.length : Int) ≤ 100) && (decide ((s.fl.length : Int) ≤ 100) && (decide ((s.el.length : Int) ≤ 100) && decide ((s.lg.length : Int) ≤ 200))))))
set_option maxRecDepth 100000 in
theorem ac_rfew (s : St) : AC Tryz.prog 8 [stT s] (.bool (fewB s)) := by
  unfold fewB
  cases h1 : decide ((s.sl.length : Int) ≤ 100)
  · exact ac_path mixed (ext := []) (fuel := 9) (n := 3) (orc := [.bool false]) (an h1 trivial) (by kernel_rfl)
  cases h2 : decide ((s.th.length : Int) ≤ 100)
  · exact ac_path mixed (ext := []) (fuel := 9) (n := 3) (orc := [.bool true, .bool false]) (an h1 <| an h2 trivial) (by kernel_rfl)
  cases h3 : decide ((s.sn.length : Int) ≤ 100)
  · exact ac_path mixed (ext := []) (fuel := 9) (n := 3) (orc := [.bool true, .bool true, .bool false]) (an h1 <| an h2 <| an h3 trivial) (by kernel_rfl)
  cases h4 : decide ((s.rc.length : Int) ≤ 100)
  · exact ac_path mixed (ext := []) (fuel := 9) (n := 3) (orc := [.bool true, .bool true, .bool true, .bool false]) (an h1 <| an h2 <| an h3 <| an h4 trivial) (by kernel_rfl)
  cases h5 : decide ((s.fl.length : Int) ≤ 100)
  · exact ac_path mixed (ext := []) (fuel := 9) (n := 3) (orc := [.bool true, .bool true, .bool true, .bool true, .bool false]) (an h1 <| an h2 <| an h3 <| an h4 <| an h5 trivial) (by kernel_rfl)
  cases h6 : decide ((s.el.length : Int) ≤ 100)
  · exact ac_path mixed (ext := []) (fuel := 9) (n := 3) (orc := [.bool true, .bool true, .bool true, .bool true, .bool true, .bool false]) (an h1 <| an h2 <| an h3 <| an h4 <| an h5 <| an h6 trivial) (by kernel_rfl)
  exact ac_path mixed (ext := []) (fuel := 9) (n := 3) (orc := [.bool true, .bool true, .bool true, .bool true, .bool true, .bool true]) (an h1 <| an h2 <| an h3 <| an h4 <| an h5 <| an h6 trivial) (by kernel_rfl)
theorem few_is {s : St} (h : fewB s = true) : s.few ∧ s.fit ∧ s.lg.length ≤ 200 := by
  simp only [fewB, Bool.and_eq_true, decide_eq_true_eq] at h
  obtain ⟨h1, h2, h3, h4, h5, h6, h7⟩ := h
  exact ⟨⟨by omega, by omega, by omega, by omega, by omega, by omega, by omega⟩, ⟨by omega, by omega, by omega, by omega, by omega, by omega, by omega⟩, by omega⟩
/-- A contract, as a law's walk is asked. -/
theorem law_of {g : FuncId} {args : List Value} {vs : Array Value} {W : World} (h : AC Tryz.prog g args (.bool true)) (hv : AtAll (Rp nowhere (fun _ => False) W) args.toArray vs) : Calls Tryz.prog g vs W fun e W' => e = .returned (.bool true) ∧ Kept W W' := calls_of h hv
end Go.Proofs.YtcakapmpifnfpaaGreat

/- The program's Steps of who closes, of any state: as many as there are; Step, Near. -/
namespace Go.Proofs.YtcakapmpifnfpaaGreat
set_option linter.unusedVariables false
set_option linter.unusedSimpArgs false
open Go.RowKit
/-! ### Plain -/
theorem closeK_le3 (s : St) (i : Int) (k : Nat) : (closeK s i k).2 ≤ 3 := by
  cases hr : runsB s i 3
  · rw [closeK_off hr]; show 0 ≤ 3; omega
  · obtain ⟨hh, -⟩ := runs_iff.1 hr
    obtain ⟨-, h0, -⟩ := has_iff.1 hh
    obtain ⟨n, rfl⟩ : ∃ n : Nat, i = n := ⟨i.toNat, by omega⟩
    exact closeK_three k
theorem closeK_no {s : St} {i : Int} (h : stB s = false) (k : Nat) : closeK s i k = (s, 0) := closeK_off (by simp [runsB, hasB, h]) k
theorem closeK_1 (s : St) (i : Int) : (closeK s i 1).1 = closeS s i := by
  cases h : runsB s i 3
  · rw [closeK_off h]; simp [closeS, h]
  · rw [closeK_on h]; rfl
theorem closeK_wk {N : Nat} (i : Int) : ∀ (k : Nat) {s : St}, Wk s N → Wk (closeK s i k).1 (N + k)
  | 0, s, h => h
  | k + 1, s, h => by
    cases hr : runsB s i 3
    · rw [closeK_off hr]; exact ⟨h.b, h.v, by have := h.l; show s.lg.length ≤ _; omega⟩
    · obtain ⟨hh, h1, -⟩ := runs_iff.1 hr
      obtain ⟨-, h0, h3⟩ := has_iff.1 hh
      rw [closeK_on hr, closeS_is hr]
      have := closeK_wk i k (closeN_wk h (n := i.toNat) (by omega) (by omega))
      exact ⟨this.b, this.v, by have := this.l; show (closeK (closeN s i.toNat) i k).1.lg.length ≤ _; omega⟩
theorem closeS_wk {N : Nat} {s : St} (h : Wk s N) (i : Int) : Wk (closeS s i) (N + 1) := closeK_1 s i ▸ closeK_wk i 1 h
/-! ### The whole -/
section
variable {s : St} {n : Nat} {m o : Int} {x : Exit} {S : Sg}
theorem cgp_to {u v : St} {N : Nat} (h : GotoP Tryz.prog 0 (gotoOf Tryz.prog 86) (hdC u n m o u.th.length) x S) (e : v = u) (hN : N = u.th.length) : GotoP Tryz.prog 0 (gotoOf Tryz.prog 86) (hdC v n m o N) x S := by subst e hN; exact h
theorem cl_step (lt : decide (m ≤ o) = false) (w : Wk s 999999) (hn : n < s.th.length) (h1 : (gth s.th n).st = 1) (h2 : opSide (gth s.th n).ki = 3) (o1 : In64 (o + 1)) (hL : GotoP Tryz.prog 0 (gotoOf Tryz.prog 86) (hdC (closeN s n) n m (o + 1) (closeN s n).th.length) x S) : GotoP Tryz.prog 0 (gotoOf Tryz.prog 86) (hdC s n m o s.th.length) x S := by
  have hv : ∀ {c : Int}, (gth s.th n).pc = c → Cv s n (gth s.th n) c m o := fun hc => ⟨lt, w, hn, by rw [← hc]; rfl, h1, h2, o1⟩
  have hk9 : (gth s.th n).ki ≠ 9 := fun e => by rw [e] at h2; exact absurd h2 (by decide)
  have ne2 : (gth s.th n).st ≠ 2 := by omega
  by_cases p0 : (gth s.th n).pc = 0
  · rw [closeN_0 p0] at hL
    have e : shutC s n = (S0 s n (gth s.th n) (clM s.md (modeI (gth s.th n).ki))).setTh n (pcT (rgT (gth s.th n) 1 0) 1) := told_is (s := s.toWord s.hd s.tl (clM s.md (modeI (gth s.th n).ki))) (c := 0) (shut_word w.b _) hn hk9
    refine cv_shut (hv p0) (cgp_to hL e.symm ?_)
    rw [e]; exact len_set
  · by_cases p1 : (gth s.th n).pc = 1
    · rw [closeN_1 p1, fullC_is w.b] at hL
      have hw := wk_full w hn (by omega)
      have hw0 : Wk (s.toFull (nxE s.fe) []) 1000000 := by
        obtain ⟨e1, e2, -⟩ := nt_all (full_lines w.b).2.2.2.2.1
        have := full_off w.b
        rw [e1, e2] at this
        exact ⟨this, ⟨w.v.cf, w.v.sl, w.v.th⟩, by have := w.l; show s.lg.length ≤ _; omega⟩
      have hl := line_le (full_lines w.b).2.2.1
      have eo := wakes_on (f := (pcT · 2)) s.fl (u := s.toFull (nxE s.fe) []) hw0.b hw.b hn ne2 ne2
      have hg := wakes_same s.fl (u := s.toFull (nxE s.fe) []) hw0.b hn ne2
      have hg' : gth (s.toFull (nxE s.fe) []).th n = gth s.th n := rfl
      rw [hg'] at hg
      have hlen : (wakesS s.fl (s.toFull (nxE s.fe) [])).th.length = s.th.length := (wakes_rest _ _).2.2.2
      refine cv_full (u := wakesS s.fl (s.toFull (nxE s.fe) [])) (hv p1) (ac_pnotifyAll (full_lines w.b).2.2.2.2.1) (wkc_all (by omega) n hw0) (by rw [hlen]; exact hn) (by rw [hg, ← p1]; rfl) (cgp_to hL ?_ ?_)
      · rw [eo]; unfold St.onTh; rw [hg]
      · rw [eo]; exact len1
    · rw [closeN_2 p0 p1, emptyC_is w.b] at hL
      have hw := wk_empty w hn (by omega)
      have hw0 : Wk (s.toEmpty (nxE s.ee) []) 1000000 := by
        obtain ⟨e1, e2, -⟩ := nt_all (full_lines w.b).2.2.2.2.2
        have := empty_off w.b
        rw [e1, e2] at this
        exact ⟨this, ⟨w.v.cf, w.v.sl, w.v.th⟩, by have := w.l; show s.lg.length ≤ _; omega⟩
      have hl := line_le (full_lines w.b).2.2.2.1
      have eo := wakes_on (f := doneT) s.el (u := s.toEmpty (nxE s.ee) []) hw0.b hw.b hn ne2 (show (0 : Int) ≠ 2 by decide)
      have hg := wakes_same s.el (u := s.toEmpty (nxE s.ee) []) hw0.b hn ne2
      have hg' : gth (s.toEmpty (nxE s.ee) []).th n = gth s.th n := rfl
      rw [hg'] at hg
      have hlen : (wakesS s.el (s.toEmpty (nxE s.ee) [])).th.length = s.th.length := (wakes_rest _ _).2.2.2
      refine cv_empty (u := wakesS s.el (s.toEmpty (nxE s.ee) [])) (hv rfl) (bne_of p0) (bne_of p1) (ac_pnotifyAll (full_lines w.b).2.2.2.2.2) (wkc_all (by omega) n hw0) (by rw [hlen]; exact hn) hg (cgp_to hL ?_ ?_)
      · rw [eo]; unfold St.onTh; rw [hg]
      · rw [eo]; exact len1
end
theorem cl_lp {i m : Int} : ∀ (j : Nat) {s : St} {o : Int}, s.ok → s.lg.length + j ≤ 900000 → 0 ≤ o → o + j ≤ 1000000 → (closeK s i (m - o).toNat).2 ≤ j → GotoP Tryz.prog 0 (gotoOf Tryz.prog 86) (hdC s i m o s.th.length) .ret (enC (closeK s i (m - o).toNat).1 (o + (closeK s i (m - o).toNat).2) (closeK s i (m - o).toNat).1.th.length) := by
  have stop : ∀ {s : St} {o : Int}, GotoP Tryz.prog 0 (gotoOf Tryz.prog 86) (hdC s i m o s.th.length) .ret (enC s o s.th.length) → GotoP Tryz.prog 0 (gotoOf Tryz.prog 86) (hdC s i m o s.th.length) .ret (enC s (o + ((0 : Nat) : Int)) s.th.length) := fun h => by simpa using h
  intro j
  induction j with
  | zero =>
    intro s o ho hl h0 h2 hk
    cases hr : runsB s i 3
    · rw [closeK_off hr]; exact stop (ce_not ho hr)
    · by_cases hm : m ≤ o
      · rw [show (m - o).toNat = 0 by omega]; exact stop (ce_many (by simp [hm]))
      · rw [show (m - o).toNat = (m - o - 1).toNat + 1 by omega, closeK_on hr] at hk
        exact absurd hk (by show ¬ _ + 1 ≤ 0; omega)
  | succ j ih =>
    intro s o ho hl h0 h2 hk
    cases hr : runsB s i 3
    · rw [closeK_off hr]; exact stop (ce_not ho hr)
    · by_cases hm : m ≤ o
      · rw [show (m - o).toNat = 0 by omega]; exact stop (ce_many (by simp [hm]))
      · have ek : (m - o).toNat = (m - (o + 1)).toNat + 1 := by omega
        rw [ek, closeK_on hr] at hk
        rw [ek, closeK_on hr]
        obtain ⟨hh, h3, h4⟩ := runs_iff.1 hr
        obtain ⟨hB, h5, h6⟩ := has_iff.1 hh
        rw [closeS_is hr] at hk ⊢
        obtain ⟨n, rfl⟩ : ∃ n : Nat, i = n := ⟨i.toNat, by omega⟩
        rw [Int.toNat_natCast] at h3 h4 hk ⊢
        have hn : n < s.th.length := by omega
        have w : Wk s s.lg.length := ⟨hB, .of ho, Nat.le_refl _⟩
        have w1 := closeN_wk w hn (by omega)
        have hk' : (closeK (closeN s n) n (m - (o + 1)).toNat).2 + 1 ≤ j + 1 := hk
        have := ih (s := closeN s n) (o := o + 1) (w1.ok (by omega)) (by have := w1.l; omega) (by omega) (by omega) (by omega)
        refine cl_step (by simp; omega) ⟨hB, .of ho, by omega⟩ hn h3 h4 (by constructor <;> omega) ?_
        show GotoP _ _ _ _ _ (enC (closeK (closeN s n) n (m - (o + 1)).toNat).1 (o + (((closeK (closeN s n) n (m - (o + 1)).toNat).2 + 1 : Nat) : Int)) _)
        rw [show o + (((closeK (closeN s n) n (m - (o + 1)).toNat).2 + 1 : Nat) : Int) = o + 1 + ((closeK (closeN s n) n (m - (o + 1)).toNat).2 : Int) by omega]
        exact this
section
variable {s u : St} {i m o : Int}
set_option maxRecDepth 100000 in
theorem ac_csteps0 (hL : GotoP Tryz.prog 0 (gotoOf Tryz.prog 86) (hdC s i m 0 s.th.length) .ret (enC u o u.th.length)) (ho : s.ok) (hf : s.fit) (ht : s.th ≠ []) : AC Tryz.prog 86 [stT s, .int .i64 i, .int .i64 m] (.tuple #[stT u, .int .i64 o]) :=
  ac_path mixed (ext := [40]) (fuel := 9) (n := 9) (orc := [.iface 1000004 (.func (.yield 18) #[.agg (stL s), .int .i64 11] #[]), oL [5, 4, 1, 6] [2, 6, 8, 9, 10] (-1) [(6, pt 0), (7, .int .i64 o)] [bEc u u.th.length, bT u.th u.th.length]])
    (an (ao_keep (neg_no s) ho hf ht) <| an hL <| an (len_map (f := thT) u.th) trivial) (by kernel_rfl)
def hdCn (s : St) (i m : Int) : Sg := ⟨mkT 35 [(2, .int .i64 m), (6, pt 1), (8, pt 0), (9, .func (.func 131) #[] #[pt 2]), (10, .int .i64 0)], [some ⟨true, false, 21, 1, [.agg ((stL s).toList ++ [Value.int .i64 i]).toArray]⟩, bZ, bBc 0]⟩
def enCn (s : St) : Sg := ⟨mkT 35 [(6, pt 0), (7, .int .i64 0)], [bS s]⟩
set_option maxRecDepth 100000 in
theorem ac_csteps_nil (h : s.th = []) (ho : s.ok) (hf : s.fit) : AC Tryz.prog 86 [stT s, .int .i64 i, .int .i64 m] (.tuple #[stT s, .int .i64 0]) := by
  have hL : GotoP Tryz.prog 0 (gotoOf Tryz.prog 86) (hdCn s i m) .ret (enCn s) := by
    cases hm : decide (m ≤ 0)
    · exact goto_end mixed (fuel := 9) (n := 9) (im := [1]) (keep := [6, 7]) (ext := cPX) (orc := [.bool false, vD false]) (an hm <| an (ac_pcheck (nil_no h) ho) trivial) (by intro l e; cases e) (by kernel_rfl)
    · exact goto_end mixed (fuel := 9) (n := 9) (im := [1]) (keep := [6, 7]) (ext := cPX) (orc := [.bool true]) (an hm trivial) (by intro l e; cases e) (by kernel_rfl)
  exact ac_path mixed (ext := [40]) (fuel := 9) (n := 9) (orc := [stT s, oL [4, 1, 5] [2, 6, 8, 9, 10] (-1) [(6, pt 0), (7, .int .i64 0)] [bS s]]) (an (ac_keep (neg_no s) ho hf) <| an hL trivial) (by kernel_rfl)
/-- Some steps of the program, of any state. -/
theorem ac_cst (ho : s.ok) (hf : s.fit) (hl : s.lg.length ≤ 800000) : AC Tryz.prog 86 [stT s, .int .i64 i, .int .i64 m] (.tuple #[stT (closeK s i m.toNat).1, .int .i64 (closeK s i m.toNat).2]) := by
  by_cases h : s.th = []
  · rw [closeK_no (nil_no h)]; exact ac_csteps_nil h ho hf
  · have := cl_lp (i := i) (m := m) 3 (s := s) (o := 0) ho (by omega) (by omega) (by omega) (closeK_le3 _ _ _)
    rw [show m - 0 = m by omega, Int.zero_add] at this
    exact ac_csteps0 this ho hf h
set_option maxRecDepth 100000 in
theorem ac_cstep (ho : s.ok) (hf : s.fit) (hl : s.lg.length ≤ 800000) : AC Tryz.prog 72 [stT s, .int .i64 i] (stT (closeS s i)) := by
  rw [← closeK_1]
  exact ac_path mixed (ext := [86]) (fuel := 9) (n := 3) (orc := [.tuple #[stT (closeK s i 1).1, .int .i64 (closeK s i 1).2]]) (an (ac_cst (i := i) (m := 1) ho hf hl) trivial) (by kernel_rfl)
end
end Go.Proofs.YtcakapmpifnfpaaGreat

/- Layer 15: a step of who receives, as a plain function; what may be stays so; what it changes; what it tells. -/
namespace Go.Proofs.YtcakapmpifnfpaaGreat
set_option linter.unusedVariables false
set_option linter.unusedSimpArgs false
def gotT (t : Th) (g p : Int) : Th := ⟨t.st, t.ki, t.va, t.un, p, t.re, t.se, t.tr, t.la, t.rs, g⟩
/-- What one is told who looks. -/
def seesR (s : St) : Int := tkR s.hd s.tl s.md s.sl.length
def firstR (s : St) (n : Nat) : St :=
  if plI s.rc n = 0 then s.onTh n (pcT · 2)
  else if (gth s.th n).la = true then toldS s n (gth s.th n).ki 5 0 9
  else s.onTh n onT
def lookR (s : St) (n : Nat) : St :=
  if seesR s = 1 then s.onTh n (pcT · 3)
  else if seesR s ≠ 4 then toldS s n (gth s.th n).ki (seesR s) 0 9
  else if (gth s.th n).ki = 5 then toldS s n (gth s.th n).ki 4 0 9
  else if (gth s.th n).la = true then toldS s n (gth s.th n).ki 5 0 9
  else if waySt s (gth s.th n).tr = 2 then s.onTh n (pcT · 5)
  else s.onTh n onT
def takeR (s : St) (n : Nat) : St :=
  if seesR s = 4 then s.onTh n (pcT · 2)
  else if seesR s ≠ 1 then toldS s n (gth s.th n).ki (seesR s) 0 9
  else toldS ((s.toWord (s.hd + 1) s.tl s.md).onTh n (regT · s.hd 4)) n (gth s.th n).ki 1 (valV s s.hd) 4
def readR (s : St) (n : Nat) : St := (s.toSl (rlL s.sl (gth s.th n).re)).onTh n (gotT · (rdV s.sl (gth s.th n).re) 6)
def notifyR (s : St) (n : Nat) : St :=
  if hdB (ntT 1 s.fe s.fl) = true then wakeS ((s.toFull (ntE s.fe s.fl) (ntL 1 s.fe s.fl)).onTh n (pcT · 9)) (hdI (ntT 1 s.fe s.fl))
  else (s.toFull (ntE s.fe s.fl) (ntL 1 s.fe s.fl)).onTh n (pcT · 9)
def commitR (s : St) (n : Nat) : St :=
  if (gth s.th n).la = true then s.onTh n (pcT · 2)
  else if cmB s.ee s.el (gth s.th n).se n = true then (s.toEmpty s.ee (s.el ++ [(n : Int)])).onTh n (parkT · 2)
  else s.onTh n (pcT · 2)
/-- A step of thread n, which receives. -/
def recvN (s : St) (n : Nat) : St :=
  if (gth s.th n).pc = 0 then (s.toRc (entL s.rc n)).onTh n (pcT · 1)
  else if (gth s.th n).pc = 1 then firstR s n
  else if (gth s.th n).pc = 2 then lookR s n
  else if (gth s.th n).pc = 3 then takeR s n
  else if (gth s.th n).pc = 4 then readR s n
  else if (gth s.th n).pc = 5 then s.onTh n (seenT · s.ee 7)
  else if (gth s.th n).pc = 6 then notifyR s n
  else if (gth s.th n).pc = 7 then (if seesR s = 4 ∧ (gth s.th n).la = false then s.onTh n (pcT · 8) else s.onTh n (pcT · 2))
  else if (gth s.th n).pc = 8 then commitR s n
  else (s.toRc (lvL s.rc n)).onTh n doneT
def recvS (s : St) (i : Int) : St := if runsB s i 2 = true then recvN s i.toNat else s
/-- Some steps of who receives, and how many there were. -/
def recvK (s : St) (i : Int) : Nat → St × Nat
  | 0 => (s, 0)
  | k + 1 => if runsB s i 2 = true then ((recvK (recvS s i) i k).1, (recvK (recvS s i) i k).2 + 1) else (s, 0)
theorem recvN_ind {P : St → Prop} {s : St} {n : Nat} (h0 : P ((s.toRc (entL s.rc n)).onTh n (pcT · 1))) (h1 : P (firstR s n)) (h2 : P (lookR s n)) (h3 : P (takeR s n)) (h4 : P (readR s n)) (h5 : P (s.onTh n (seenT · s.ee 7))) (h6 : P (notifyR s n)) (h7 : P (if seesR s = 4 ∧ (gth s.th n).la = false then s.onTh n (pcT · 8) else s.onTh n (pcT · 2))) (h8 : P (commitR s n)) (h9 : P ((s.toRc (lvL s.rc n)).onTh n doneT)) : P (recvN s n) := by
  unfold recvN
  by_cases c0 : (gth s.th n).pc = 0
  · rw [if_pos c0]; exact h0
  rw [if_neg c0]
  by_cases c1 : (gth s.th n).pc = 1
  · rw [if_pos c1]; exact h1
  rw [if_neg c1]
  by_cases c2 : (gth s.th n).pc = 2
  · rw [if_pos c2]; exact h2
  rw [if_neg c2]
  by_cases c3 : (gth s.th n).pc = 3
  · rw [if_pos c3]; exact h3
  rw [if_neg c3]
  by_cases c4 : (gth s.th n).pc = 4
  · rw [if_pos c4]; exact h4
  rw [if_neg c4]
  by_cases c5 : (gth s.th n).pc = 5
  · rw [if_pos c5]; exact h5
  rw [if_neg c5]
  by_cases c6 : (gth s.th n).pc = 6
  · rw [if_pos c6]; exact h6
  rw [if_neg c6]
  by_cases c7 : (gth s.th n).pc = 7
  · rw [if_pos c7]; exact h7
  rw [if_neg c7]
  by_cases c8 : (gth s.th n).pc = 8
  · rw [if_pos c8]; exact h8
  rw [if_neg c8]
  exact h9
theorem recvN_0 {s : St} {n : Nat} (h : (gth s.th n).pc = 0) : recvN s n = (s.toRc (entL s.rc n)).onTh n (pcT · 1) := by unfold recvN; rw [h]; rfl
theorem recvN_1 {s : St} {n : Nat} (h : (gth s.th n).pc = 1) : recvN s n = firstR s n := by unfold recvN; rw [h]; rfl
theorem recvN_2 {s : St} {n : Nat} (h : (gth s.th n).pc = 2) : recvN s n = lookR s n := by unfold recvN; rw [h]; rfl
theorem recvN_3 {s : St} {n : Nat} (h : (gth s.th n).pc = 3) : recvN s n = takeR s n := by unfold recvN; rw [h]; rfl
theorem recvN_4 {s : St} {n : Nat} (h : (gth s.th n).pc = 4) : recvN s n = readR s n := by unfold recvN; rw [h]; rfl
theorem recvN_5 {s : St} {n : Nat} (h : (gth s.th n).pc = 5) : recvN s n = s.onTh n (seenT · s.ee 7) := by unfold recvN; rw [h]; rfl
theorem recvN_6 {s : St} {n : Nat} (h : (gth s.th n).pc = 6) : recvN s n = notifyR s n := by unfold recvN; rw [h]; rfl
theorem recvN_7 {s : St} {n : Nat} (h : (gth s.th n).pc = 7) : recvN s n = (if seesR s = 4 ∧ (gth s.th n).la = false then s.onTh n (pcT · 8) else s.onTh n (pcT · 2)) := by unfold recvN; rw [h]; rfl
theorem recvN_8 {s : St} {n : Nat} (h : (gth s.th n).pc = 8) : recvN s n = commitR s n := by unfold recvN; rw [h]; rfl
theorem recvN_9 {s : St} {n : Nat} (h : (gth s.th n).pc = 9 ∨ (gth s.th n).pc = 10 ∨ (gth s.th n).pc = 11) : recvN s n = (s.toRc (lvL s.rc n)).onTh n doneT := by unfold recvN; rcases h with h | h | h <;> rw [h] <;> rfl
/-! ### What may be stays so -/
theorem gotT_ok {t : Th} (h : thB t = true) (h1 : t.st ≠ 0) {g p : Int} (hp : 0 ≤ p ∧ p ≤ 11) : thB (gotT t g p) = true := by
  obtain ⟨st, ki, va, un, pc, re, se, tr, la, rs, go⟩ := t
  simp only [gotT] at *; rw [thB_iff] at *; omega
theorem seesR_bd (s : St) : 0 ≤ seesR s ∧ seesR s ≤ 7 := by
  unfold seesR tkR; repeat' split
  all_goals omega
/-- What one is told who looks for something. -/
theorem seesR_or {s : St} (h : stB s = true) : (seesR s = 1 ∧ s.md ≠ 2 ∧ s.hd < s.tl) ∨ (seesR s = 4 ∧ s.md = 0 ∧ s.hd = s.tl) ∨ (seesR s = 6 ∧ s.md = 1 ∧ s.hd = s.tl) ∨ (seesR s = 7 ∧ s.md = 2) := by
  have c := (word_ok h).1
  have hl := check_len c
  unfold seesR tkR haltB
  rw [c, some_iff c]
  by_cases h2 : s.md = 2
  · simp [h2]
  · by_cases hs : s.hd < s.tl
    · simp [h2, hs]
    · by_cases h1 : s.md = 1
      · simp [h1, hs]; omega
      · simp [h1, h2, hs]; omega
theorem takeW_ok {s : St} (h : stB s = true) (hs : seesR s = 1) : stB (s.toWord (s.hd + 1) s.tl s.md) = true := by
  have hl := check_len (word_ok h).1
  refine word_stB h (check_iff.2 ?_)
  rcases seesR_or h with ⟨-, h2, h3⟩ | ⟨h1, -⟩ | ⟨h1, -⟩ | ⟨h1, -⟩ <;> omega
theorem firstR_stB {s : St} (h : stB s = true) {n : Nat} (hn : n < s.th.length) (h1 : (gth s.th n).st ≠ 0) : stB (firstR s n) = true := by
  unfold firstR
  repeat' split
  · exact onTh_stB h (pcT_ok (gth_ok h hn) h1 (by decide))
  · exact told_stB h hn h1 (by decide) (by decide)
  · exact onTh_stB h (onT_ok (gth_ok h hn) h1)
theorem lookR_stB {s : St} (h : stB s = true) {n : Nat} (hn : n < s.th.length) (h1 : (gth s.th n).st ≠ 0) : stB (lookR s n) = true := by
  unfold lookR
  repeat' split
  · exact onTh_stB h (pcT_ok (gth_ok h hn) h1 (by decide))
  · exact told_stB h hn h1 (seesR_bd s) (by decide)
  · exact told_stB h hn h1 (by decide) (by decide)
  · exact told_stB h hn h1 (by decide) (by decide)
  · exact onTh_stB h (pcT_ok (gth_ok h hn) h1 (by decide))
  · exact onTh_stB h (onT_ok (gth_ok h hn) h1)
theorem gth_on {s : St} {n : Nat} (hn : n < s.th.length) (f : Th → Th) : gth (s.onTh n f).th n = f (gth s.th n) := by show gth (s.th.set n _) n = _; rw [gth_set hn, if_pos rfl]
theorem takeB_ok {s : St} (h : stB s = true) {n : Nat} (hn : n < s.th.length) (h1 : (gth s.th n).st ≠ 0) (hs : seesR s = 1) : stB ((s.toWord (s.hd + 1) s.tl s.md).onTh n (regT · s.hd 4)) = true := by
  have hl := check_len (word_ok h).1
  exact onTh_stB (takeW_ok h hs) (regT_ok (gth_ok h hn) h1 (by omega) (by decide))
theorem takeR_stB {s : St} (h : stB s = true) {n : Nat} (hn : n < s.th.length) (h1 : (gth s.th n).st ≠ 0) : stB (takeR s n) = true := by
  unfold takeR
  repeat' split
  · exact onTh_stB h (pcT_ok (gth_ok h hn) h1 (by decide))
  · exact told_stB h hn h1 (seesR_bd s) (by decide)
  · next h2 h3 =>
    have hs : seesR s = 1 := Classical.not_not.1 h3
    refine told_stB (takeB_ok h hn h1 hs) (by show n < (s.th.set n _).length; simpa using hn) ?_ (by decide) (by decide)
    have := gth_on (s := s.toWord (s.hd + 1) s.tl s.md) (n := n) hn (regT · s.hd 4)
    rw [this]; exact h1
theorem readR_stB {s : St} (h : stB s = true) {n : Nat} (hn : n < s.th.length) (h1 : (gth s.th n).st ≠ 0) : stB (readR s n) = true :=
  onTh_stB (sl_stB h (rl_len _ _) (rlL_ok (word_ok h).2.1 _)) (gotT_ok (gth_ok h hn) h1 (by decide))
theorem notifyR_stB {s : St} (h : stB s = true) {n : Nat} (hn : n < s.th.length) (h1 : (gth s.th n).st ≠ 0) : stB (notifyR s n) = true := by
  obtain ⟨-, -, d, -, e, -⟩ := full_lines h
  have h2 : stB (s.toFull (ntE s.fe s.fl) (ntL 1 s.fe s.fl)) = true := by
    refine full_stB h ?_ ?_
    · simp only [ntE, ntL, e, if_true]; exact okE_nx e (ok_drop (okE_ln e) 1)
    · simp only [ntL, e, if_true]; exact stn_sub d (ok_drop (okE_ln e) 1) (fun x hx => List.mem_of_mem_drop hx)
  have h3 : stB ((s.toFull (ntE s.fe s.fl) (ntL 1 s.fe s.fl)).onTh n (pcT · 9)) = true := onTh_stB h2 (pcT_ok (gth_ok h hn) h1 (by decide))
  unfold notifyR
  split
  · exact wake_stB h3 _
  · exact h3
theorem commitR_stB {s : St} (h : stB s = true) {n : Nat} (hn : n < s.th.length) (h1 : (gth s.th n).st ≠ 0) : stB (commitR s n) = true := by
  obtain ⟨-, -, -, c, -, e⟩ := full_lines h
  unfold commitR
  repeat' split
  · exact onTh_stB h (pcT_ok (gth_ok h hn) h1 (by decide))
  · next hb =>
    have hE : entE s.el n = 0 := by simp only [cmB, Bool.and_eq_true, beq_iff_eq] at hb; exact hb.1.2
    have h2 := stn_ent c (ok_th h hn).1
    rw [ent_yes hE] at h2
    exact onTh_stB (s := s.toEmpty s.ee (s.el ++ [(n : Int)])) (empty_stB h (okE_with e (ok_snoc hE)) h2) (parkT_ok (gth_ok h hn) h1 (by decide))
  · exact onTh_stB h (pcT_ok (gth_ok h hn) h1 (by decide))
theorem recvN_stB {s : St} (h : stB s = true) {n : Nat} (hn : n < s.th.length) (h1 : (gth s.th n).st ≠ 0) : stB (recvN s n) = true := by
  obtain ⟨-, a, -, -, -, e⟩ := full_lines h
  have he := okE_iff.1 e
  have hg := gth_ok h hn
  refine recvN_ind (P := fun u => stB u = true) ?_ ?_ ?_ ?_ ?_ ?_ ?_ ?_ ?_ ?_
  · exact onTh_stB (rc_stB h (stn_ent a (ok_th h hn).1)) (pcT_ok hg h1 (by decide))
  · exact firstR_stB h hn h1
  · exact lookR_stB h hn h1
  · exact takeR_stB h hn h1
  · exact readR_stB h hn h1
  · exact onTh_stB h (seenT_ok hg h1 (by omega) (by decide))
  · exact notifyR_stB h hn h1
  · split
    · exact onTh_stB h (pcT_ok hg h1 (by decide))
    · exact onTh_stB h (pcT_ok hg h1 (by decide))
  · exact commitR_stB h hn h1
  · exact onTh_stB (rc_stB h (stn_lv a)) (doneT_ok hg h1)
/-- What may be stays so, and what may not be is left. -/
theorem recvS_stB (s : St) (i : Int) : stB (recvS s i) = stB s := by
  unfold recvS
  split
  · next hr =>
    obtain ⟨hh, h1, -⟩ := runs_iff.1 hr
    obtain ⟨h, h2, h3⟩ := has_iff.1 hh
    rw [h]
    exact recvN_stB h (by omega) (by omega)
  · rfl

/-! ### Some steps -/
/-! ### What changes -/
theorem recvN_things {s : St} {n : Nat} : thingsN s (recvN s n) ≤ 1 := by
  refine recvN_ind (P := fun u => thingsN s u ≤ 1) ?_ ?_ ?_ ?_ ?_ ?_ ?_ ?_ ?_ ?_
  · rw [things_shr (shr_on _ _ _)]; exact things_rc _ _
  · unfold firstR; refine things_none ?_; (repeat' split) <;> first | exact shr_told _ _ _ _ _ _ | rfl
  · unfold lookR; refine things_none ?_; (repeat' split) <;> first | exact shr_told _ _ _ _ _ _ | rfl
  · unfold takeR; split
    · exact things_none rfl
    · split
      · exact things_none (shr_told _ _ _ _ _ _)
      · rw [things_shr (shr_told _ _ _ _ _ _), things_shr (shr_on _ _ _)]; exact things_word _ _ _ _
  · unfold readR
    rw [things_shr (shr_on _ _ _)]
    refine things_sl _ _ ?_
    unfold rlL; split
    · exact diffL_set _ _ _
    · rw [diffL_self]; omega
  · exact things_none rfl
  · unfold notifyR; split
    · rw [things_shr (shr_wake _ _), things_shr (shr_on _ _ _)]; exact things_full _ _ _
    · rw [things_shr (shr_on _ _ _)]; exact things_full _ _ _
  · refine things_none ?_; split <;> rfl
  · unfold commitR; split
    · exact things_none rfl
    · split
      · rw [things_shr (shr_on _ _ _)]; exact things_empty _ _ _
      · exact things_none rfl
  · rw [things_shr (shr_on _ _ _)]; exact things_rc _ _
theorem recvS_things (s : St) (i : Int) : thingsN s (recvS s i) ≤ 1 := by
  unfold recvS; split
  · exact recvN_things
  · rw [things_self]; omega
theorem recvN_oth {s : St} {n : Nat} : Oth s.th (recvN s n).th n := by
  have tl : ∀ (u : St) (k r g p : Int), u.th = s.th → Oth s.th (toldS u n k r g p).th n := fun u k r g p hu => by
    obtain ⟨t, ht⟩ := th_told u n k r g p
    rw [ht, hu]; exact Oth.set t
  have tl2 : ∀ (u : St) (t : Th) (k r g p : Int), u.th = s.th.set n t → Oth s.th (toldS u n k r g p).th n := fun u t k r g p hu => by
    obtain ⟨t', ht⟩ := th_told u n k r g p
    rw [ht, hu, List.set_set]; exact Oth.set t'
  have on : ∀ (u : St) (f : Th → Th), u.th = s.th → Oth s.th (u.onTh n f).th n := fun u f hu => by
    show Oth s.th (u.th.set n _) n
    rw [hu]; exact Oth.set _
  refine recvN_ind (P := fun u => Oth s.th u.th n) ?_ ?_ ?_ ?_ ?_ ?_ ?_ ?_ ?_ ?_
  · exact on _ _ rfl
  · unfold firstR; (repeat' split) <;> first | exact tl _ _ _ _ _ rfl | exact on _ _ rfl
  · unfold lookR; (repeat' split) <;> first | exact tl _ _ _ _ _ rfl | exact on _ _ rfl
  · unfold takeR; split
    · exact on _ _ rfl
    · split
      · exact tl _ _ _ _ _ rfl
      · exact tl2 _ _ _ _ _ _ rfl
  · exact on _ _ rfl
  · exact on _ _ rfl
  · unfold notifyR wakeS
    repeat' split
    · next hh =>
      have hi := has_iff.1 hh
      refine Oth.wake _ ?_
      have h2 := hi.2.2
      simp only [St.onTh, St.setTh, List.length_set] at h2
      have e : (s.toFull (ntE s.fe s.fl) (ntL 1 s.fe s.fl)).th = s.th := rfl
      rw [e] at h2; omega
    · exact on _ _ rfl
    · exact on _ _ rfl
  · split <;> exact on _ _ rfl
  · unfold commitR; (repeat' split) <;> exact on _ _ rfl
  · exact on _ _ rfl
theorem recvS_oth {s : St} {i : Int} : Oth s.th (recvS s i).th i := by
  unfold recvS; split
  · next h =>
    have := (has_iff.1 (runs_iff.1 h).1).2.1
    have h2 := recvN_oth (s := s) (n := i.toNat)
    rwa [Int.toNat_of_nonneg this] at h2
  · exact Oth.refl _ _
theorem recvN_lgOk {s : St} {n : Nat} : LgOk s.lg (recvN s n).lg ∧ (recvN s n).cf = s.cf ∧ (recvN s n).nw = s.nw := by
  have tl : ∀ (u : St) (k r g p : Int), u.lg = s.lg → u.cf = s.cf → u.nw = s.nw → LgOk s.lg (toldS u n k r g p).lg ∧ (toldS u n k r g p).cf = s.cf ∧ (toldS u n k r g p).nw = s.nw := fun u k r g p h1 h2 h3 =>
    ⟨h1 ▸ lg_told u n k r g p, (cf_tell u n k r g).1.trans h2, (cf_tell u n k r g).2.trans h3⟩
  have no : ∀ (u : St), u.lg = s.lg → u.cf = s.cf → u.nw = s.nw → LgOk s.lg u.lg ∧ u.cf = s.cf ∧ u.nw = s.nw := fun u h1 h2 h3 => ⟨.inl h1, h2, h3⟩
  refine recvN_ind (P := fun u => LgOk s.lg u.lg ∧ u.cf = s.cf ∧ u.nw = s.nw) ?_ ?_ ?_ ?_ ?_ ?_ ?_ ?_ ?_ ?_
  all_goals (try unfold firstR); (try unfold lookR); (try unfold takeR); (try unfold readR); (try unfold notifyR); (try unfold wakeS); (try unfold commitR)
  all_goals (repeat' split) <;> first | exact tl _ _ _ _ _ rfl rfl rfl | exact no _ rfl rfl rfl
theorem recvS_lgOk (s : St) (i : Int) : LgOk s.lg (recvS s i).lg ∧ (recvS s i).cf = s.cf ∧ (recvS s i).nw = s.nw := by
  unfold recvS; split
  · exact recvN_lgOk
  · exact ⟨.inl rfl, rfl, rfl⟩
/-! ### What is told -/
end Go.Proofs.YtcakapmpifnfpaaGreat

/- Layer 15, plain: what stays in its bounds, of who receives. -/
namespace Go.Proofs.YtcakapmpifnfpaaGreat
set_option linter.unusedVariables false
set_option linter.unusedSimpArgs false
open Go.RowKit
/-! ### What stays in its bounds -/
theorem recvN_vk {s : St} {n : Nat} (h : Vk s) (hB : stB s = true) (hn : n < s.th.length) (h1 : (gth s.th n).st ≠ 0) : Vk (recvN s n) := by
  have same : ∀ {u : St}, u.cf = s.cf → u.sl = s.sl → u.th = s.th → Vk u := fun e1 e2 e3 => ⟨e1 ▸ h.cf, fun x hx => h.sl x (e2 ▸ hx), fun t ht => h.th t (e3 ▸ ht)⟩
  have h0 : (0 : Int) = 0 := rfl
  have z : In64 0 := by decide
  refine recvN_ind (P := fun u => Vk u) ?_ ?_ ?_ ?_ ?_ ?_ ?_ ?_ ?_ ?_
  · exact (same (u := s.toRc (entL s.rc n)) rfl rfl rfl).on hn fun _ => ⟨rfl, rfl⟩
  · unfold firstR; repeat' split
    · exact h.on hn fun _ => ⟨rfl, rfl⟩
    · exact h.told hB hn (.inr z)
    · exact h.on hn fun _ => ⟨rfl, rfl⟩
  · unfold lookR; repeat' split
    · exact h.on hn fun _ => ⟨rfl, rfl⟩
    · exact h.told hB hn (.inr z)
    · exact h.told hB hn (.inr z)
    · exact h.told hB hn (.inr z)
    · exact h.on hn fun _ => ⟨rfl, rfl⟩
    · exact h.on hn fun _ => ⟨rfl, rfl⟩
  · unfold takeR; repeat' split
    · exact h.on hn fun _ => ⟨rfl, rfl⟩
    · exact h.told hB hn (.inr z)
    · next h2 h3 =>
      have hs : seesR s = 1 := Classical.not_not.1 h3
      have hv : Vk ((s.toWord (s.hd + 1) s.tl s.md).onTh n (regT · s.hd 4)) := (same (u := s.toWord (s.hd + 1) s.tl s.md) rfl rfl rfl).on hn fun _ => ⟨rfl, rfl⟩
      refine hv.told (takeB_ok hB hn h1 hs) (by show n < (s.th.set n _).length; simpa using hn) (.inr ?_)
      have hg : ∀ q, In64 (gs s.sl q).vl := fun q => by
        unfold gs
        rw [List.getD_eq_getElem?_getD]
        cases hx : s.sl[q]? with
        | none => exact z
        | some x => exact h.sl x (List.mem_of_getElem? hx)
      unfold valV
      repeat' split
      all_goals first | exact z | exact hg _
  · unfold readR
    have hsl : ∀ x ∈ rlL s.sl (gth s.th n).re, In64 x.vl := fun x hx => by
      unfold rlL at hx
      split at hx
      · rcases List.mem_or_eq_of_mem_set hx with h2 | rfl
        · exact h.sl x h2
        · show In64 (gs s.sl _).vl
          unfold gs
          rw [List.getD_eq_getElem?_getD]
          cases hx : s.sl[plc s.sl (gth s.th n).re]? with
          | none => exact z
          | some x => exact h.sl x (List.mem_of_getElem? hx)
      · exact h.sl x hx
    have hv : Vk (s.toSl (rlL s.sl (gth s.th n).re)) := ⟨h.cf, hsl, h.th⟩
    refine hv.set ⟨(h.th _ (gth_mem hn)).1, ?_⟩
    show In64 (rdV s.sl (gth s.th n).re)
    unfold rdV
    split
    · unfold gs
      rw [List.getD_eq_getElem?_getD]
      cases hx : s.sl[plc s.sl (gth s.th n).re]? with
      | none => exact z
      | some x => exact h.sl x (List.mem_of_getElem? hx)
    · exact z
  · exact h.on hn fun _ => ⟨rfl, rfl⟩
  · have hv : Vk ((s.toFull (ntE s.fe s.fl) (ntL 1 s.fe s.fl)).onTh n (pcT · 9)) := (same (u := s.toFull (ntE s.fe s.fl) (ntL 1 s.fe s.fl)) rfl rfl rfl).on hn fun _ => ⟨rfl, rfl⟩
    unfold notifyR; split
    · exact hv.wake _
    · exact hv
  · split <;> exact h.on hn fun _ => ⟨rfl, rfl⟩
  · unfold commitR; repeat' split
    · exact h.on hn fun _ => ⟨rfl, rfl⟩
    · exact (same (u := s.toEmpty s.ee (s.el ++ [(n : Int)])) rfl rfl rfl).on hn fun _ => ⟨rfl, rfl⟩
    · exact h.on hn fun _ => ⟨rfl, rfl⟩
  · exact (same (u := s.toRc (lvL s.rc n)) rfl rfl rfl).on hn fun _ => ⟨rfl, rfl⟩
theorem recvS_is {s : St} {n : Nat} (h : runsB s n 2 = true) : recvS s n = recvN s n := by unfold recvS; rw [if_pos h, Int.toNat_natCast]
theorem recvS_all {s : St} (hB : stB s = true) (ho : s.ok) (hl : s.lg.length ≤ 900000) (i : Int) : (recvS s i).ok ∧ (recvS s i).lg.length ≤ s.lg.length + 1 := by
  have hlg : (recvS s i).lg.length ≤ s.lg.length + 1 := by
    rcases (recvS_lgOk s i).1 with h | ⟨x, h⟩ <;> rw [h] <;> simp
  refine ⟨?_, hlg⟩
  cases hr : runsB s i 2
  · have : recvS s i = s := by simp [recvS, hr]
    rw [this]; exact ho
  · obtain ⟨h1, h2, h3⟩ := runs_iff.1 hr
    obtain ⟨-, hi0, hi1⟩ := has_iff.1 h1
    obtain ⟨n, rfl⟩ : ∃ n : Nat, i = n := ⟨i.toNat, by omega⟩
    have hn : n < s.th.length := by omega
    rw [Int.toNat_natCast] at h2
    rw [recvS_is hr] at hlg ⊢
    exact ok_of (recvN_stB hB hn (by omega)) (recvN_vk (.of ho) hB hn (by omega)) (by omega)
end Go.Proofs.YtcakapmpifnfpaaGreat

/- Layer 14's first law (SendTells): its walk, by contracts told by abstract values. -/
namespace Go.Proofs.YtcakapmpifnfpaaGreat
set_option linter.unusedVariables false
set_option linter.unusedSimpArgs false
open Go.RowKit
theorem ask_bb {a b : Bool} (h : a = b) (x y : Operand) : AskP Tryz.prog (.binOp .eql 4 x y 4) [.bool a, .bool b] (.bool true) := by
  intro W o f ho hm
  obtain ⟨h1, h2⟩ := two_is hm
  subst h
  have hu : Tryz.prog.underlying 4 = some .bool := by kernel_rfl
  have : (binOp .eql 4 (.bool a) (.bool a)).run Tryz.prog W = .ok (.bool true) W := by
    have h := run_equalIn_bool' (P := Tryz.prog) W 9999 4 a a hu
    have h' : (Op.equal 4 (.bool a) (.bool a)).run Tryz.prog W = .ok true W := by
      unfold Op.equal Op.maxDepth
      rw [h]; simp
    simp [binOp, h']
  simp [execOp, ho, h1, h2, eqGuard, this]
section
variable {s u v : St} {i m pc : Int} {k : Nat}
end
end Go.Proofs.YtcakapmpifnfpaaGreat

/- What the laws of layer 14 share: values stay in their bounds, whatever steps there are. -/
namespace Go.Proofs.YtcakapmpifnfpaaGreat
set_option linter.unusedVariables false
set_option linter.unusedSimpArgs false
open Go.ChangeShapes Go.WideShapes Go.ChangeAt Go.RowKit
theorem ask_u8 (v : Int) (h0 : 0 ≤ v) (h1 : v ≤ 255) (x : Operand) : AskP Tryz.prog (.convert 5 3 x) [.int .u8 v] (.int .i64 v) := by
  intro W o f ho hm
  have h : f x = .int .u8 v := by simpa [ho, Op.operands] using hm
  have hu := Tryz.underlying3
  have hw : IntKind.i64.wrap v = v := wrap_in ⟨by omega, by omega⟩
  have hv := Tryz.underlying5
  simp [execOp, ho, h, convert, run_underlying hu, run_underlying hv, Conv.intToInt, hw]
theorem sendS_all {s : St} (hB : stB s = true) (ho : s.ok) (hl : s.lg.length ≤ 900000) (i : Int) : (sendS s i).ok ∧ (sendS s i).lg.length ≤ s.lg.length + 1 := by
  cases hr : runsB s i 1
  · have : sendS s i = s := by simp [sendS, hr]
    rw [this]; exact ⟨ho, by omega⟩
  · obtain ⟨h1, h2, h3⟩ := runs_iff.1 hr
    obtain ⟨-, hi0, hi1⟩ := has_iff.1 h1
    obtain ⟨n, rfl⟩ : ∃ n : Nat, i = n := ⟨i.toNat, by omega⟩
    have hn : n < s.th.length := by omega
    rw [Int.toNat_natCast] at h2
    rw [sendS_is hr]
    have hg := sendN_lg hB hn
    exact ⟨ok_of (sendN_stB hB hn (by omega)) (sendN_vk (.of ho) hB hn (by omega)) (by omega), hg⟩
end Go.Proofs.YtcakapmpifnfpaaGreat

/- Layer 17, plain: a pick, some, rounds; who is active. -/
namespace Go.Proofs.YtcakapmpifnfpaaGreat
set_option linter.unusedVariables false
set_option linter.unusedSimpArgs false
/-- The error that who picks a thread is told. -/
def pickE (s : St) (i : Int) : Int := if stB s = false then 20 else if i < 0 ∨ (s.th.length : Int) ≤ i then 123 else thRuns (gth s.th i.toNat).st
/-- The same, with another log. -/
def St.toLg (s : St) (l : List En) : St := ⟨s.cf, s.hd, s.tl, s.md, s.sl, s.sn, s.rc, s.fe, s.fl, s.ee, s.el, s.nw, s.th, l⟩
/-- A step by what a thread does, of whatever side it is. -/
def stepD (s : St) (i : Int) : St := if opSide (gth s.th i.toNat).ki = 1 then sendS s i else if opSide (gth s.th i.toNat).ki = 2 then recvS s i else closeS s i
/-- A step of a thread that runs: what was told before is put aside. -/
def stepS (s : St) (i : Int) : St := (stepD (s.toLg []) i).toLg (s.lg ++ (stepD (s.toLg []) i).lg)
def pickS (s : St) (i : Int) : St := if pickE s i = 0 then stepS s i else s
def okN (e : Int) : Nat := if e = 0 then 1 else 0
/-- Some picks, and how many had no error. -/
def someS : St → List Int → St × Nat
  | s, [] => (s, 0)
  | s, i :: l => ((someS (pickS s i) l).1, (someS (pickS s i) l).2 + okN (pickE s i))
/-- All threads, in order. -/
def allI (n : Nat) : List Int := (List.range n).map fun (k : Nat) => (k : Int)
def actB (s : St) (k : Nat) : Bool := (gth s.th k).st == 1
/-- Who is active, rising. -/
def actL (s : St) : List Int := if stB s = true then ((List.range s.th.length).filter (actB s)).map fun (k : Nat) => (k : Int) else []
def quietB (s : St) : Bool := (actL s).isEmpty
def roundS (s : St) : St := (someS s (allI s.th.length)).1
/-- Rounds, as many as there are. -/
def roundsS : St → Nat → St × Nat
  | s, 0 => (s, 0)
  | s, k + 1 => if quietB s = true then (s, 0) else ((roundsS (roundS s) k).1, (roundsS (roundS s) k).2 + 1)
theorem st_of {s : St} (h : stB s = true) {n : Nat} (hn : n < s.th.length) : ((gth s.th n).st = 0 ∨ (gth s.th n).st = 1 ∨ (gth s.th n).st = 2) := by
  have h3 := gth_ok h hn
  generalize gth s.th n = t at h3
  obtain ⟨st, ki, va, un, pc, re, se, tr, la, rs, go⟩ := t
  rw [thB_iff] at h3
  simp only
  omega
theorem pick_iff {s : St} {i : Int} : pickE s i = 0 ↔ ∃ n : Nat, i = n ∧ stB s = true ∧ n < s.th.length ∧ (gth s.th n).st = 1 := by
  unfold pickE
  constructor
  · intro h
    split at h
    · cases h
    · next hB =>
      have hB' : stB s = true := by simpa using hB
      split at h
      · cases h
      · obtain ⟨n, rfl⟩ : ∃ n : Nat, i = n := ⟨i.toNat, by omega⟩
        have hn : n < s.th.length := by omega
        rw [Int.toNat_natCast] at h
        have h1 := runs_not h
        have := st_of hB' hn
        exact ⟨n, rfl, hB', hn, by omega⟩
  · rintro ⟨n, rfl, hB, hn, h1⟩
    rw [if_neg (by simp [hB]), if_neg (by omega), Int.toNat_natCast, h1]
    rfl
theorem pick_no {s : St} {i : Int} (h : pickE s i ≠ 0) : pickS s i = s := if_neg h
theorem pick_yes {s : St} {i : Int} (h : pickE s i = 0) : pickS s i = stepS s i := if_pos h
theorem stepD_stB (s : St) (i : Int) : stB (stepD s i) = stB s := by
  unfold stepD; split
  · exact sendS_stB s i
  · split
    · exact recvS_stB s i
    · exact closeS_stB s i
theorem step_stB (s : St) (i : Int) : stB (stepS s i) = stB s := (show stB (stepS s i) = stB (stepD (s.toLg []) i) from rfl).trans ((stepD_stB _ i).trans rfl)
theorem pick_stB (s : St) (i : Int) : stB (pickS s i) = stB s := by
  unfold pickS; split
  · exact step_stB s i
  · rfl
theorem stepD_things (s : St) (i : Int) : thingsN s (stepD s i) ≤ 1 := by
  unfold stepD; split
  · exact sendS_things s i
  · split
    · exact recvS_things s i
    · exact closeS_things s i
theorem step_things (s : St) (i : Int) : thingsN s (stepS s i) ≤ 1 := by
  have h := stepD_things (s.toLg []) i
  unfold stepS
  generalize stepD (s.toLg []) i = u at h ⊢
  have e : thingsN (s.toLg []) u = thingsN s (u.toLg (s.lg ++ u.lg)) := rfl
  omega
theorem pick_things (s : St) (i : Int) : thingsN s (pickS s i) ≤ 1 := by
  unfold pickS; split
  · exact step_things s i
  · rw [things_self]; omega
theorem stepD_cf (s : St) (i : Int) : (stepD s i).cf = s.cf ∧ (stepD s i).nw = s.nw := by
  unfold stepD; split
  · exact (sendS_lgOk s i).2
  · split
    · exact (recvS_lgOk s i).2
    · exact (closeS_lgOk s i).2
theorem pick_cf (s : St) (i : Int) : (pickS s i).cf = s.cf ∧ (pickS s i).nw = s.nw := by
  unfold pickS; split
  · exact stepD_cf (s.toLg []) i
  · exact ⟨rfl, rfl⟩
theorem pick_sl {s : St} (h : stB s = true) (i : Int) : (pickS s i).sl.length = s.sl.length := by
  have a := (word_ok h).2.2
  have b := (word_ok ((pick_stB s i).trans h)).2.2
  rw [(pick_cf s i).1] at b
  omega
theorem OthM.of {l m : List Th} {i : Int} (h : Oth l m i) : OthM l m i := ⟨h.len, fun j hj hne => by
  obtain ⟨w, hw⟩ := h.one
  rcases hw j hj hne with e | ⟨-, e⟩
  · exact .inl e
  · exact .inr e⟩
theorem stepD_oth (s : St) (i : Int) : OthM s.th (stepD s i).th i := by
  unfold stepD; split
  · exact OthM.of sendS_oth
  · split
    · exact OthM.of recvS_oth
    · exact closeS_oth
theorem step_oth (s : St) (i : Int) : OthM s.th (stepS s i).th i := stepD_oth (s.toLg []) i
theorem pick_oth (s : St) (i : Int) : OthM s.th (pickS s i).th i := by
  unfold pickS; split
  · exact step_oth s i
  · exact OthM.refl _ _
theorem stepD_wk {s : St} {N : Nat} (h : Wk s N) (hN : N ≤ 900000) (i : Int) : Wk (stepD s i) (N + 1) := by
  have ho := h.ok (by omega)
  have hl := h.l
  unfold stepD; split
  · obtain ⟨a, b⟩ := sendS_all h.b ho (by omega) i
    exact ⟨(sendS_stB s i).trans h.b, .of a, by omega⟩
  · split
    · obtain ⟨a, b⟩ := recvS_all h.b ho (by omega) i
      exact ⟨(recvS_stB s i).trans h.b, .of a, by omega⟩
    · exact closeS_wk h i
theorem wk_lg {s : St} {N : Nat} (h : Wk s N) : Wk (s.toLg []) 0 := ⟨h.b, ⟨h.v.cf, h.v.sl, h.v.th⟩, by show (0 : Nat) ≤ 0; omega⟩
theorem step_wk {s : St} {N : Nat} (h : Wk s N) (i : Int) : Wk (stepS s i) (N + 1) := by
  have w := stepD_wk (wk_lg h) (by omega) i
  have := w.l
  have := h.l
  exact ⟨w.b, ⟨w.v.cf, w.v.sl, w.v.th⟩, by show (s.lg ++ (stepD (s.toLg []) i).lg).length ≤ N + 1; rw [List.length_append]; omega⟩
theorem pick_wk {s : St} {N : Nat} (h : Wk s N) (i : Int) : Wk (pickS s i) (N + 1) := by
  unfold pickS; split
  · exact step_wk h i
  · exact ⟨h.b, h.v, by have := h.l; omega⟩
theorem some_wk : ∀ (l : List Int) {s : St} {N : Nat}, Wk s N → Wk (someS s l).1 (N + l.length)
  | [], s, N, h => h
  | i :: l, s, N, h => by
    have := some_wk l (pick_wk h i)
    exact ⟨this.b, this.v, by have := this.l; show (someS (pickS s i) l).1.lg.length ≤ N + (l.length + 1); omega⟩
theorem some_app (l m : List Int) : ∀ (s : St), someS s (l ++ m) = ((someS (someS s l).1 m).1, (someS s l).2 + (someS (someS s l).1 m).2) := by
  induction l with
  | nil => intro s; simp [someS]
  | cons i l ih =>
    intro s
    show ((someS (pickS s i) (l ++ m)).1, (someS (pickS s i) (l ++ m)).2 + okN (pickE s i)) = _
    rw [ih (pickS s i)]
    show ((someS (someS (pickS s i) l).1 m).1, (someS (pickS s i) l).2 + (someS (someS (pickS s i) l).1 m).2 + okN (pickE s i)) = ((someS (someS (pickS s i) l).1 m).1, (someS (pickS s i) l).2 + okN (pickE s i) + (someS (someS (pickS s i) l).1 m).2)
    congr 1; omega
theorem some_le : ∀ (l : List Int) (s : St), (someS s l).2 ≤ l.length
  | [], _ => Nat.le_refl _
  | i :: l, s => by
    have := some_le l (pickS s i)
    have h1 : okN (pickE s i) ≤ 1 := by unfold okN; split <;> omega
    show (someS (pickS s i) l).2 + okN (pickE s i) ≤ l.length + 1
    omega
theorem some_no {s : St} : ∀ {l : List Int}, (∀ i ∈ l, pickE s i ≠ 0) → someS s l = (s, 0)
  | [], _ => rfl
  | i :: l, h => by
    have e := h i List.mem_cons_self
    show ((someS (pickS s i) l).1, (someS (pickS s i) l).2 + okN (pickE s i)) = _
    rw [pick_no e, some_no fun j hj => h j (List.mem_cons_of_mem _ hj)]
    unfold okN; rw [if_neg e]
theorem mem_act {s : St} {i : Int} : i ∈ actL s ↔ pickE s i = 0 := by
  rw [pick_iff]
  unfold actL
  constructor
  · intro h
    split at h
    · next hB =>
      obtain ⟨n, hn, rfl⟩ := List.mem_map.1 h
      obtain ⟨h1, h2⟩ := List.mem_filter.1 hn
      exact ⟨n, rfl, hB, List.mem_range.1 h1, by simpa [actB] using h2⟩
    · cases h
  · rintro ⟨n, rfl, hB, hn, h1⟩
    rw [if_pos hB]
    exact List.mem_map.2 ⟨n, List.mem_filter.2 ⟨List.mem_range.2 hn, by simp [actB, h1]⟩, rfl⟩
/-- Whom a pick lets begin, or end, it picks. -/
theorem pick_idle (s : St) (i : Int) {j : Nat} (hj : j < s.th.length) (hne : (j : Int) ≠ i) : (gth (pickS s i).th j).st = 0 ↔ (gth s.th j).st = 0 := by
  rcases (pick_oth s i).one j hj hne with e | ⟨h2, e⟩
  · rw [e]
  · rw [e]; unfold wakeT; rw [if_pos h2]
    constructor
    · intro h; exact absurd h (by show ¬ (1 : Int) = 0; decide)
    · intro h; omega
theorem pick_len (s : St) (i : Int) : (pickS s i).th.length = s.th.length := (pick_oth s i).len
/-- One alone is active: who picks all, picks it, if it wakes nobody. -/
theorem all_alone {s : St} {i : Int} (h : actL s = [i]) (hb : ∀ j : Nat, j < s.th.length → (j : Int) ≠ i → gth (pickS s i).th j = gth s.th j) : roundS s = pickS s i := by
  have hi : pickE s i = 0 := mem_act.1 (by rw [h]; exact List.mem_cons_self)
  obtain ⟨n, rfl, hB, hn, h1⟩ := pick_iff.1 hi
  have only : ∀ j : Nat, (j : Int) ≠ n → pickE s j ≠ 0 := fun j hj e => by
    have := mem_act.2 e
    rw [h] at this
    simp at this; omega
  have only' : ∀ j : Nat, (j : Int) ≠ n → pickE (pickS s n) j ≠ 0 := fun j hj e => by
    obtain ⟨k, hk, -, h2, h3⟩ := pick_iff.1 e
    obtain rfl : j = k := by omega
    rw [pick_len] at h2
    rw [hb j h2 hj] at h3
    exact only j hj (pick_iff.2 ⟨j, rfl, hB, h2, h3⟩)
  have split : allI s.th.length = (allI n) ++ ((n : Int) :: ((List.range (s.th.length - n - 1)).map fun (k : Nat) => ((n + 1 + k : Nat) : Int))) := by
    unfold allI
    obtain ⟨m, hm⟩ : ∃ m, s.th.length = n + (1 + m) := ⟨s.th.length - n - 1, by omega⟩
    rw [hm, show n + (1 + m) - n - 1 = m by omega, List.range_add, List.map_append, List.map_map]
    congr 1
    rw [List.range_add, List.map_append, List.map_map]
    simp only [List.range_one, List.map_cons, List.map_nil, List.cons_append, List.nil_append, Function.comp]
    congr 1
    exact List.map_congr_left fun k _ => by show ((n + (1 + k) : Nat) : Int) = ((n + 1 + k : Nat) : Int); omega
  unfold roundS
  rw [split, some_app, some_no (l := allI n) fun j hj => by
    obtain ⟨k, hk, rfl⟩ := List.mem_map.1 hj
    exact only k (by have := List.mem_range.1 hk; omega)]
  show (someS (pickS s n) _).1 = pickS s n
  rw [some_no fun j hj => by
    obtain ⟨k, hk, rfl⟩ := List.mem_map.1 hj
    exact only' (n + 1 + k) (by omega)]
end Go.Proofs.YtcakapmpifnfpaaGreat

/- Layer 17: what is known at the heads of the loops of Some and Rounds. -/
namespace Go.Proofs.YtcakapmpifnfpaaGreat
set_option linter.unusedVariables false
set_option linter.unusedSimpArgs false
open Go.RowKit
/-- A state's cells but for its log. -/
def stW (s : St) (v : Value) : List Value := [.int .i64 s.cf.lg, .int .i64 s.cf.th, .int .i64 s.cf.po, .int .i64 s.cf.wt, .int .i64 s.cf.sp, .int .i64 s.cf.yi, .bool s.cf.si, .int .i64 s.hd, .int .i64 s.tl, .int .i64 s.md, rowS s.sl, rowI s.sn, rowI s.rc, .int .i64 s.fe, rowI s.fl, .int .i64 s.ee, rowI s.el, .int .i64 s.nw, rowT s.th, v]
def bSt (s : St) (v : Value) : Option Blk := some ⟨true, false, 20, 1, [.agg (stW s v).toArray]⟩
def bLg (l : List En) : Option Blk := some ⟨true, true, 5, l.length, l.map enT⟩
def b1P (v : Value) : Option Blk := some ⟨true, false, 1, 1, [v]⟩
def lgO (l : List En) : Value := .slice (some ⟨8, 0, some 0⟩) l.length 0
def lgN : Value := .slice none 0 0
/-- A side, as the map has it. -/
def sdV (f : FuncId) : Value := .agg #[.func (.func f) #[] #[]]
def bSd : Option Blk := some ⟨true, false, 0, 0, [.agg #[.int .i64 1, sdV 70], .agg #[.int .i64 2, sdV 71], .agg #[.int .i64 3, sdV 72]]⟩
/-- Its blocks: the state, the answer, the state's name twice, whether it may be, the sides, why not, the sides' name. -/
def pkH (s : St) (b : Bool) (v : Value) : List (Option Blk) := [bSt s v, bZ, b1P (pt 0), b1P (pt 0), b1P (vD b), bSd, b1P (.func (.func 55) #[] #[pt 4, pt 3]), b1P (.map (some 5))]
def hO (s : St) (b : Bool) : List (Option Blk) := pkH s b (lgO s.lg) ++ [bLg s.lg]
def hN (s : St) (b : Bool) : List (Option Blk) := pkH s b lgN
def pkF : Value := .func (.func 42) #[] #[pt 6, pt 7, pt 2]
/-- In Some, at its loop's head. -/
def smTl (l : List Int) (o j : Int) : List (Nat × Value) := [(4, pt 1), (6, pt 0), (7, pkF), (8, .int .i64 o), (14, rowI l), (15, .int .i64 l.length), (16, .int .i64 j)]
def smT (l : List Int) (o j : Int) : List Value := mkT 29 (smTl l o j)
/-- In Rounds, at the outer loop's head; at the inner one's. -/
def roTl (m o : Int) : List (Nat × Value) := [(1, .int .i64 m), (4, pt 1), (6, pt 0), (7, pkF), (8, .int .i64 o)]
def roT (m o : Int) : List Value := mkT 36 (roTl m o)
def riTl (m o N j : Int) : List (Nat × Value) := [(1, .int .i64 m), (4, pt 1), (6, pt 0), (7, pkF), (8, .int .i64 o), (24, .int .i64 N), (25, .int .i64 j)]
def riT (m o N j : Int) : List Value := mkT 36 (riTl m o N j)
def pkX : List FuncId := [40, 11, 56, 43, 70, 71, 72]
end Go.Proofs.YtcakapmpifnfpaaGreat

/- The program's receive: what is known at the head of its loop. -/
namespace Go.Proofs.YtcakapmpifnfpaaGreat
set_option linter.unusedVariables false
set_option linter.unusedSimpArgs false
open Go.RowKit
/-- What the map of steps holds: a closure on to one step, and a method value. -/
def vClo (x : Nat) (b : Value) (g : Nat) (k : Int) : Value := .func (.func 119) #[] #[vFz [.func (.func g) #[pt x] #[]], b, vFz [.int .i64 k]]
def vMet (x : Nat) (g : Nat) : Value := .func (.func g) #[pt x] #[]
def vEn (k : Int) (v : Value) : Value := .agg #[.int .i64 k, v]
def els9 (x : Nat) (b : Value) : List Value := [vEn 0 (vClo x b 121 1), vEn 1 (vMet x 122), vEn 2 (vMet x 123), vEn 3 (vMet x 124), vEn 4 (vClo x b 125 6), vEn 5 (vClo x b 126 7), vEn 6 (vClo x b 127 9), vEn 7 (vMet x 128), vEn 8 (vMet x 129)]
def bMp (x : Nat) (b : Value) : Option Blk := some ⟨true, false, 0, 0, els9 x b ++ [vEn 9 (vMet x 130), vEn 10 (vMet x 130), vEn 11 (vMet x 130)]⟩
def bBx (x : Nat) : Option Blk := some ⟨true, false, 1, 1, [pt x]⟩
/-- At the head of the loop: many m, often o. -/
def hdV (s : St) (i m o : Int) (N : Nat) : Sg := ⟨mkT 41 [(2, .int .i64 m), (6, pt 2), (8, pt 0), (9, .map (some 4)), (10, .int .i64 o)], [bX s i N, bT s.th N, bZ, bBx 0, bMp 0 (pt 3)]⟩
theorem ac_pread (l : List Slo) (q : Int) (hm : l.length ≤ 1000) (hq : In64 q) : AC Tryz.prog 161 [rowS l, .int .i64 q] (.tuple #[.int .i64 (rdV l q), .int .i64 (rdE l q)]) := by
  intro O W vs hl hat ; obtain ⟨ys, rfl, _, _, rfl, h0, _, _, rfl, h1, rfl⟩ := args_of hat
  obtain ⟨p, k, rfl, hs⟩ := rp_rowS.1 h0
  rw [rp_int] at h1
  subst h1
  refine (sread_any l q p k W hs.s hm hq).mono ?_
  rintro e W' ⟨rfl, hk⟩
  exact ⟨_, rfl, tup2 (rp_int.2 rfl) (rp_int.2 rfl), hk⟩
/-- One more round: thread n, at step c, receives. -/
structure Rv (s : St) (n : Nat) (t : Th) (c m o : Int) : Prop where
  lt : decide (o < min m 1000) = true
  ck : stB s = true
  ok : s.ok
  hn : n < s.th.length
  ht : gth s.th n = pcT t c
  rs : thRuns t.st = 0
  sd : opSide t.ki = 2
  fit : s.fit
  o1 : In64 (o + 1)
section
variable {s : St} {n : Nat} {t : Th} {c m o : Int}
theorem Rv.ge (_h : Rv s n t c m o) : decide ((n : Int) < 0) = false := by simp
theorem Rv.le (h : Rv s n t c m o) : decide ((s.th.length : Int) ≤ n) = false := by have := h.hn; simp; omega
theorem Rv.el (h : Rv s n t c m o) : ElP (s.th.map thT) (0 + (n : Int).toNat) (thT (pcT t c)) := h.ht ▸ elT h.hn
theorem Rv.ru (h : Rv s n t c m o) : AC Tryz.prog 56 [thT (pcT t c)] (.int .i64 0) := ac_pruns (t := pcT t c) h.rs
theorem Rv.si (h : Rv s n t c m o) : AC Tryz.prog 43 [.int .i64 (pcT t c).ki] (.int .i64 2) := by have := ac_pside (pcT t c).ki; exact h.sd ▸ this
theorem Rv.id (h : Rv s n t c m o) : 0 ≤ (n : Int) ∧ (n : Int).toNat < s.th.length := idT h.hn
theorem Rv.ln (_h : Rv s n t c m o) : LenP s.th.length s.th.length (s.th.map thT) := len_map s.th
theorem Rv.pa {B : Prop} (h : Rv s n t c m o) (k : B) : decide (o < min m 1000) = true ∧ LenP s.th.length s.th.length (s.th.map thT) ∧ AC Tryz.prog 11 [stT s] (.bool true) ∧ decide ((n : Int) < 0) = false ∧ decide ((s.th.length : Int) ≤ n) = false ∧ (0 ≤ (n : Int) ∧ (n : Int).toNat < s.th.length) ∧ ElP (s.th.map thT) (0 + (n : Int).toNat) (thT (pcT t c)) ∧ AC Tryz.prog 56 [thT (pcT t c)] (.int .i64 0) ∧ (0 ≤ (n : Int) ∧ (n : Int).toNat < s.th.length) ∧ ElP (s.th.map thT) (0 + (n : Int).toNat) (thT (pcT t c)) ∧ AC Tryz.prog 43 [.int .i64 (pcT t c).ki] (.int .i64 2) ∧ (0 ≤ (n : Int) ∧ (n : Int).toNat < s.th.length) ∧ ElP (s.th.map thT) (0 + (n : Int).toNat) (thT (pcT t c)) ∧ B := an h.lt <| an h.ln <| an (ac_pcheck h.ck h.ok) <| an h.ge <| an h.le <| an h.id <| an h.el <| an h.ru <| an h.id <| an h.el <| an h.si <| an h.id <| an h.el k
theorem Rv.ln1 (_h : Rv s n t c m o) (u : Th) : LenP s.th.length (s.th.set n u).length ((s.th.set n u).map thT) := ⟨by simp, by simp⟩
theorem Rv.has (h : Rv s n t c m o) : hasB s n = true := has_iff.2 ⟨h.ck, by omega, by have := h.hn; omega⟩
theorem Rv.nk (h : Rv s n t c m o) : (t.ki != 9) = true := by
  have := h.sd
  by_cases e : t.ki = 9
  · rw [e] at this; exact absurd this (by decide)
  · simp [e]
theorem Rv.tell {r : Int} (h : Rv s n t c m o) : AO Tryz.prog 153 [stT s, .int .i64 n, .int .i64 t.ki, .int .i64 r, .int .i64 0] (stL ((s.setTh n (rgT (pcT t c) r 0)).addLg (tlE s n t.ki r 0))) 18 11 := tell_c h.has h.ht h.nk h.ok h.fit
theorem Rv.ids (h : Rv s n t c m o) (u : Th) : 0 ≤ (n : Int) ∧ (n : Int).toNat < (s.th.set n u).length := idT (by rw [List.length_set]; exact h.hn)
theorem Rv.idw (h : Rv s n t c m o) (q : Nat) (u : Th) : 0 ≤ (n : Int) ∧ (n : Int).toNat < (s.th.set q u).length := idT (by rw [List.length_set]; exact h.hn)
theorem Rv.ids2 (h : Rv s n t c m o) (u v : Th) : 0 ≤ (n : Int) ∧ (n : Int).toNat < ((s.th.set n u).set n v).length := idT (by rw [List.length_set, List.length_set]; exact h.hn)
theorem Rv.el22 (h : Rv s n t c m o) (u v : Th) : ElP (((s.th.set n u).set n v).map thT) (0 + (n : Int).toNat) (thT v) := el2 (by rw [List.length_set]; exact h.hn) v
theorem Rv.el23 (h : Rv s n t c m o) (u v w : Th) : ElP ((((s.th.set n u).set n v).set n w).map thT) (0 + (n : Int).toNat) (thT w) := el2 (by rw [List.length_set, List.length_set]; exact h.hn) w
theorem Rv.len (h : Rv s n t c m o) : In64 (s.sl.length : Int) := by have := h.fit.sl; constructor <;> omega
theorem Rv.sees {r : Int} (h : Rv s n t c m o) (hs : seesR s = r) : AC Tryz.prog 168 [wdT s.hd s.tl s.md, .int .i64 s.sl.length] (.tuple #[.int .i64 (seesS s), .int .i64 r]) := hs ▸ ac_psees s.hd s.tl s.md s.sl.length h.ok.hd h.ok.tl h.ok.md h.len
theorem Rv.take {r v p : Int} (h : Rv s n t c m o) (hs : seesR s = r) (hH : tkH s.hd s.tl s.md s.sl.length = v) (hP : tkP s.hd s.tl s.md s.sl.length = p) : AC Tryz.prog 160 [wdT s.hd s.tl s.md, .int .i64 s.sl.length] (.tuple #[wdT v s.tl s.md, .int .i64 p, .int .i64 r]) := hs ▸ hH ▸ hP ▸ ew_take h.ok.hd h.ok.tl h.ok.md h.len
theorem Rv.tell3 {g : Int} (h : Rv s n t c m o) (hA : hasB ((s.toWord (s.hd + 1) s.tl s.md).setTh n (regT t s.hd 3)) n = true) (ho : ((s.toWord (s.hd + 1) s.tl s.md).setTh n (regT t s.hd 3)).ok) (hf : ((s.toWord (s.hd + 1) s.tl s.md).setTh n (regT t s.hd 3)).fit) :
    AO Tryz.prog 153 [stT ((s.toWord (s.hd + 1) s.tl s.md).setTh n (regT t s.hd 3)), .int .i64 n, .int .i64 t.ki, .int .i64 1, .int .i64 g] (stL ((((s.toWord (s.hd + 1) s.tl s.md).setTh n (regT t s.hd 3)).setTh n (rgT (regT t s.hd 3) 1 g)).addLg (tlE ((s.toWord (s.hd + 1) s.tl s.md).setTh n (regT t s.hd 3)) n t.ki 1 g))) 18 11 := by
  have := ao_tell (k := t.ki) (r := 1) (g := g) hA h.nk ho hf
  rw [show gth ((s.toWord (s.hd + 1) s.tl s.md).setTh n (regT t s.hd 3)).th n = regT t s.hd 3 from by show gth (s.th.set n _) n = _; rw [gth_set h.hn, if_pos rfl]] at this
  exact this
end
end Go.Proofs.YtcakapmpifnfpaaGreat

/- The program's receive, round by round: what each does, told by plain states. -/
namespace Go.Proofs.YtcakapmpifnfpaaGreat
set_option linter.unusedVariables false
set_option linter.unusedSimpArgs false
open Go.RowKit
section
variable {s : St} {n : Nat} {t : Th} {m o : Int} {x : Exit} {S : Sg}
set_option maxRecDepth 100000
theorem lv_enter (h : Rv s n t 0 m o) (hm : s.rc.length ≤ 999999) (hL : LoopP Tryz.prog (loopOf Tryz.prog 85 0) (hdV ((s.toRc (entL s.rc n)).setTh n (pcT t 1)) n m (o + 1) (s.th.length)) x S) : LoopP Tryz.prog (loopOf Tryz.prog 85 0) (hdV s n m o s.th.length) x S :=
  loop_more mixed (fuel := 9) (n := 12) (im := [0, 1, 2, 3, 4]) (keep := [2, 6, 8, 9, 10]) (ext := [11, 56, 43, 136]) (orc := sPO t 0 2 ++ [.tuple #[rowI (entL s.rc n), .int .i64 (entE s.rc n)], thT (pcT t 0), vRow s.th.length ((s.th.set n (pcT t 1)).map thT)])
    (h.pa <| an (ac_penter s.rc n hm) <| an (h.id) <| an (h.el) <| an (setT s.th n (pcT t 1)) <|  an h.o1 trivial) (by kernel_rfl) hL
theorem lv_first (h : Rv s n t 1 m o) (hp : (plI s.rc n == 0) = true) (hL : LoopP Tryz.prog (loopOf Tryz.prog 85 0) (hdV (s.setTh n (pcT t 2)) n m (o + 1) (s.th.length)) x S) : LoopP Tryz.prog (loopOf Tryz.prog 85 0) (hdV s n m o s.th.length) x S :=
  loop_more mixed (fuel := 9) (n := 12) (im := [0, 1, 2, 3, 4]) (keep := [2, 6, 8, 9, 10]) (ext := [11, 56, 43, 138]) (orc := sPO t 1 2 ++ [vD true, thT (pcT t 1), vRow s.th.length ((s.th.set n (pcT t 2)).map thT)])
    (h.pa <| an (ac_pfirst hp) <| an (h.id) <| an (h.el) <| an (setT s.th n (pcT t 2)) <|  an h.o1 trivial) (by kernel_rfl) hL
theorem lv_firstL (h : Rv s n t 1 m o) (hp : (plI s.rc n == 0) = false) (hl : t.la = true) (hL : LoopP Tryz.prog (loopOf Tryz.prog 85 0) (hdV (((s.setTh n (rgT (pcT t 1) 5 0)).addLg (tlE s n t.ki 5 0)).setTh n (pcT (rgT t 5 0) 9)) n m (o + 1) ((s.th.set n (rgT (pcT t 1) 5 0)).length)) x S) : LoopP Tryz.prog (loopOf Tryz.prog 85 0) (hdV s n m o s.th.length) x S :=
  loop_more mixed (fuel := 9) (n := 12) (im := [0, 5, 2, 3, 4]) (keep := [2, 6, 8, 9, 10]) (ext := [11, 56, 43, 138, 153]) (orc := sPO t 1 2 ++ [vD false, thT (pcT t 1), .bool true, thT (pcT t 1), .iface 1000004 (.func (.yield 18) #[.agg (stL ((s.setTh n (rgT (pcT t 1) 5 0)).addLg (tlE s n t.ki 5 0))), .int .i64 11] #[]), thT (rgT (pcT t 1) 5 0), vRow (s.th.set n (rgT (pcT t 1) 5 0)).length (((s.th.set n (rgT (pcT t 1) 5 0)).set n (pcT (rgT t 5 0) 9)).map thT)])
    (h.pa <| an (ac_pfirst hp) <| an (h.id) <| an (h.el) <| an (hl) <| an (h.id) <| an (h.el) <| an (h.ln) <| an (h.tell (r := 5)) <| an (h.ids (rgT (pcT t 1) 5 0)) <| an (el2 h.hn (rgT (pcT t 1) 5 0)) <| an (setT (s.th.set n (rgT (pcT t 1) 5 0)) n (pcT (rgT t 5 0) 9)) <|  an h.o1 trivial) (by kernel_rfl) hL
theorem lv_firstT (h : Rv s n t 1 m o) (hp : (plI s.rc n == 0) = false) (hl : t.la = false) (hr : In64 (t.tr + 1)) (hL : LoopP Tryz.prog (loopOf Tryz.prog 85 0) (hdV (s.setTh n (tryT (pcT t 1))) n m (o + 1) (s.th.length)) x S) : LoopP Tryz.prog (loopOf Tryz.prog 85 0) (hdV s n m o s.th.length) x S :=
  loop_more mixed (fuel := 9) (n := 12) (im := [0, 1, 2, 3, 4]) (keep := [2, 6, 8, 9, 10]) (ext := [11, 56, 43, 138]) (orc := sPO t 1 2 ++ [vD false, thT (pcT t 1), .bool false, thT (pcT t 1), thT (pcT t 1), vRow s.th.length ((s.th.set n (tryT (pcT t 1))).map thT)])
    (h.pa <| an (ac_pfirst hp) <| an (h.id) <| an (h.el) <| an (hl) <| an (h.id) <| an (h.el) <| an (hr) <| an (h.el) <| an (setT s.th n (tryT (pcT t 1))) <|  an h.o1 trivial) (by kernel_rfl) hL
theorem lv_lookR (h : Rv s n t 2 m o) (hs : seesR s = 1) (hL : LoopP Tryz.prog (loopOf Tryz.prog 85 0) (hdV (s.setTh n (pcT t 3)) n m (o + 1) (s.th.length)) x S) : LoopP Tryz.prog (loopOf Tryz.prog 85 0) (hdV s n m o s.th.length) x S :=
  loop_more mixed (fuel := 9) (n := 12) (im := [0, 1, 2, 3, 4]) (keep := [2, 6, 8, 9, 10]) (ext := [11, 56, 43, 168]) (orc := sPO t 2 2 ++ [.tuple #[.int .i64 (seesS s), .int .i64 1], .nilFunc, thT (pcT t 2), vRow s.th.length ((s.th.set n (pcT t 3)).map thT)])
    (h.pa <| an (h.sees hs) <| an (h.id) <| an (h.el) <| an (setT s.th n (pcT t 3)) <|  an h.o1 trivial) (by kernel_rfl) hL
theorem lv_lookB (h : Rv s n t 2 m o) (hs : seesR s = 4) (hk : opOnce t.ki = true) (hL : LoopP Tryz.prog (loopOf Tryz.prog 85 0) (hdV (((s.setTh n (rgT (pcT t 2) 4 0)).addLg (tlE s n t.ki 4 0)).setTh n (pcT (rgT t 4 0) 9)) n m (o + 1) ((s.th.set n (rgT (pcT t 2) 4 0)).length)) x S) : LoopP Tryz.prog (loopOf Tryz.prog 85 0) (hdV s n m o s.th.length) x S :=
  loop_more mixed (fuel := 9) (n := 12) (im := [0, 5, 2, 3, 4]) (keep := [2, 6, 8, 9, 10]) (ext := [11, 56, 43, 168, 153, 187]) (orc := sPO t 2 2 ++ [.tuple #[.int .i64 (seesS s), .int .i64 4], .nilFunc, .nilFunc, thT (pcT t 2), vD true, thT (pcT t 2), .iface 1000004 (.func (.yield 18) #[.agg (stL ((s.setTh n (rgT (pcT t 2) 4 0)).addLg (tlE s n t.ki 4 0))), .int .i64 11] #[]), thT (rgT (pcT t 2) 4 0), vRow (s.th.set n (rgT (pcT t 2) 4 0)).length (((s.th.set n (rgT (pcT t 2) 4 0)).set n (pcT (rgT t 4 0) 9)).map thT)])
    (h.pa <| an (h.sees hs) <| an (h.id) <| an (h.el) <| an (ac_ponce hk) <| an (h.id) <| an (h.el) <| an (h.ln) <| an (h.tell (r := 4)) <| an (h.ids (rgT (pcT t 2) 4 0)) <| an (el2 h.hn (rgT (pcT t 2) 4 0)) <| an (setT (s.th.set n (rgT (pcT t 2) 4 0)) n (pcT (rgT t 4 0) 9)) <|  an h.o1 trivial) (by kernel_rfl) hL
theorem lv_lookL (h : Rv s n t 2 m o) (hs : seesR s = 4) (hk : opOnce t.ki = false) (hl : t.la = true) (hL : LoopP Tryz.prog (loopOf Tryz.prog 85 0) (hdV (((s.setTh n (rgT (pcT t 2) 5 0)).addLg (tlE s n t.ki 5 0)).setTh n (pcT (rgT t 5 0) 9)) n m (o + 1) ((s.th.set n (rgT (pcT t 2) 5 0)).length)) x S) : LoopP Tryz.prog (loopOf Tryz.prog 85 0) (hdV s n m o s.th.length) x S :=
  loop_more mixed (fuel := 9) (n := 12) (im := [0, 5, 2, 3, 4]) (keep := [2, 6, 8, 9, 10]) (ext := [11, 56, 43, 168, 153, 187]) (orc := sPO t 2 2 ++ [.tuple #[.int .i64 (seesS s), .int .i64 4], .nilFunc, .nilFunc, thT (pcT t 2), vD false, thT (pcT t 2), .bool true, thT (pcT t 2), .iface 1000004 (.func (.yield 18) #[.agg (stL ((s.setTh n (rgT (pcT t 2) 5 0)).addLg (tlE s n t.ki 5 0))), .int .i64 11] #[]), thT (rgT (pcT t 2) 5 0), vRow (s.th.set n (rgT (pcT t 2) 5 0)).length (((s.th.set n (rgT (pcT t 2) 5 0)).set n (pcT (rgT t 5 0) 9)).map thT)])
    (h.pa <| an (h.sees hs) <| an (h.id) <| an (h.el) <| an (ac_ponce hk) <| an (h.el) <| an (hl) <| an (h.id) <| an (h.el) <| an (h.ln) <| an (h.tell (r := 5)) <| an (h.ids (rgT (pcT t 2) 5 0)) <| an (el2 h.hn (rgT (pcT t 2) 5 0)) <| an (setT (s.th.set n (rgT (pcT t 2) 5 0)) n (pcT (rgT t 5 0) 9)) <|  an h.o1 trivial) (by kernel_rfl) hL
theorem lv_lookP (h : Rv s n t 2 m o) (hs : seesR s = 4) (hk : opOnce t.ki = false) (hl : t.la = false) (hn : waySt s (max t.tr 0) = 2) (hL : LoopP Tryz.prog (loopOf Tryz.prog 85 0) (hdV (s.setTh n (pcT t 5)) n m (o + 1) (s.th.length)) x S) : LoopP Tryz.prog (loopOf Tryz.prog 85 0) (hdV s n m o s.th.length) x S :=
  loop_more mixed (fuel := 9) (n := 12) (im := [0, 1, 2, 3, 4]) (keep := [2, 6, 8, 9, 10]) (ext := [11, 56, 43, 168, 187, 188]) (orc := sPO t 2 2 ++ [.tuple #[.int .i64 (seesS s), .int .i64 4], .nilFunc, .nilFunc, thT (pcT t 2), vD false, thT (pcT t 2), .bool false, thT (pcT t 2), .int .i64 2, .nilFunc, thT (pcT t 2), vRow s.th.length ((s.th.set n (pcT t 5)).map thT)])
    (h.pa <| an (h.sees hs) <| an (h.id) <| an (h.el) <| an (ac_ponce hk) <| an (h.el) <| an (hl) <| an (h.el) <| an (ac_pnext' hn) <| an (h.id) <| an (h.el) <| an (setT s.th n (pcT t 5)) <|  an h.o1 trivial) (by kernel_rfl) hL
theorem lv_lookT (h : Rv s n t 2 m o) (hs : seesR s = 4) (hk : opOnce t.ki = false) (hl : t.la = false) {r : Int} (hn : waySt s (max t.tr 0) = r) (hr2 : (r == 2) = false) (hr : In64 (t.tr + 1)) (hL : LoopP Tryz.prog (loopOf Tryz.prog 85 0) (hdV (s.setTh n (tryT (pcT t 2))) n m (o + 1) (s.th.length)) x S) : LoopP Tryz.prog (loopOf Tryz.prog 85 0) (hdV s n m o s.th.length) x S :=
  loop_more mixed (fuel := 9) (n := 12) (im := [0, 1, 2, 3, 4]) (keep := [2, 6, 8, 9, 10]) (ext := [11, 56, 43, 168, 187, 188]) (orc := sPO t 2 2 ++ [.tuple #[.int .i64 (seesS s), .int .i64 4], .nilFunc, .nilFunc, thT (pcT t 2), vD false, thT (pcT t 2), .bool false, thT (pcT t 2), .int .i64 r, .bool false, thT (pcT t 2), thT (pcT t 2), vRow s.th.length ((s.th.set n (tryT (pcT t 2))).map thT)])
    (h.pa <| an (h.sees hs) <| an (h.id) <| an (h.el) <| an (ac_ponce hk) <| an (h.el) <| an (hl) <| an (h.el) <| an (ac_pnext' hn) <| an (hr2) <| an (h.id) <| an (h.el) <| an (hr) <| an (h.el) <| an (setT s.th n (tryT (pcT t 2))) <|  an h.o1 trivial) (by kernel_rfl) hL
theorem lv_lookE (h : Rv s n t 2 m o) {r : Int} (hs : seesR s = r) (h1 : (r == 1) = false) (h2 : (r == 4) = false) (hL : LoopP Tryz.prog (loopOf Tryz.prog 85 0) (hdV (((s.setTh n (rgT (pcT t 2) r 0)).addLg (tlE s n t.ki r 0)).setTh n (pcT (rgT t r 0) 9)) n m (o + 1) ((s.th.set n (rgT (pcT t 2) r 0)).length)) x S) : LoopP Tryz.prog (loopOf Tryz.prog 85 0) (hdV s n m o s.th.length) x S :=
  loop_more mixed (fuel := 9) (n := 12) (im := [0, 5, 2, 3, 4]) (keep := [2, 6, 8, 9, 10]) (ext := [11, 56, 43, 168, 153]) (orc := sPO t 2 2 ++ [.tuple #[.int .i64 (seesS s), .int .i64 r], .bool false, .bool false, thT (pcT t 2), .iface 1000004 (.func (.yield 18) #[.agg (stL ((s.setTh n (rgT (pcT t 2) r 0)).addLg (tlE s n t.ki r 0))), .int .i64 11] #[]), thT (rgT (pcT t 2) r 0), vRow (s.th.set n (rgT (pcT t 2) r 0)).length (((s.th.set n (rgT (pcT t 2) r 0)).set n (pcT (rgT t r 0) 9)).map thT)])
    (h.pa <| an (h.sees hs) <| an (h1) <| an (h2) <| an (h.id) <| an (h.el) <| an (h.ln) <| an (h.tell (r := r)) <| an (h.ids (rgT (pcT t 2) r 0)) <| an (el2 h.hn (rgT (pcT t 2) r 0)) <| an (setT (s.th.set n (rgT (pcT t 2) r 0)) n (pcT (rgT t r 0) 9)) <|  an h.o1 trivial) (by kernel_rfl) hL
theorem lv_takeR (h : Rv s n t 3 m o) (hs : seesR s = 1) (hH : tkH s.hd s.tl s.md s.sl.length = s.hd + 1) (hP : tkP s.hd s.tl s.md s.sl.length = s.hd) {g : Int} (hv : valV ((s.toWord (s.hd + 1) s.tl s.md).setTh n (regT t s.hd 3)) s.hd = g) (hA : hasB ((s.toWord (s.hd + 1) s.tl s.md).setTh n (regT t s.hd 3)) n = true) (ho : ((s.toWord (s.hd + 1) s.tl s.md).setTh n (regT t s.hd 3)).ok) (hf : ((s.toWord (s.hd + 1) s.tl s.md).setTh n (regT t s.hd 3)).fit) (hL : LoopP Tryz.prog (loopOf Tryz.prog 85 0) (hdV (((((s.toWord (s.hd + 1) s.tl s.md).setTh n (regT t s.hd 3)).setTh n (rgT (regT t s.hd 3) 1 g)).addLg (tlE ((s.toWord (s.hd + 1) s.tl s.md).setTh n (regT t s.hd 3)) n t.ki 1 g)).setTh n (pcT (rgT (regT t s.hd 3) 1 g) 4)) n m (o + 1) (((s.th.set n (regT t s.hd 3)).set n (rgT (regT t s.hd 3) 1 g)).length)) x S) : LoopP Tryz.prog (loopOf Tryz.prog 85 0) (hdV s n m o s.th.length) x S :=
  loop_more mixed (fuel := 9) (n := 12) (im := [0, 6, 2, 3, 4]) (keep := [2, 6, 8, 9, 10]) (ext := [11, 56, 43, 160, 154, 153]) (orc := sPO t 3 2 ++ [.tuple #[wdT (s.hd + 1) s.tl s.md, .int .i64 s.hd, .int .i64 1], .nilFunc, thT (pcT t 3), vRow (s.th.set n (regT t s.hd 3)).length ((s.th.set n (regT t s.hd 3)).map thT), .int .i64 g, thT (regT t s.hd 3), .iface 1000004 (.func (.yield 18) #[.agg (stL ((((s.toWord (s.hd + 1) s.tl s.md).setTh n (regT t s.hd 3)).setTh n (rgT (regT t s.hd 3) 1 g)).addLg (tlE ((s.toWord (s.hd + 1) s.tl s.md).setTh n (regT t s.hd 3)) n t.ki 1 g))), .int .i64 11] #[]), thT (rgT (regT t s.hd 3) 1 g), vRow ((s.th.set n (regT t s.hd 3)).set n (rgT (regT t s.hd 3) 1 g)).length ((((s.th.set n (regT t s.hd 3)).set n (rgT (regT t s.hd 3) 1 g)).set n (pcT (rgT (regT t s.hd 3) 1 g) 9)).map thT), thT (pcT (rgT (regT t s.hd 3) 1 g) 9), vRow ((s.th.set n (regT t s.hd 3)).set n (rgT (regT t s.hd 3) 1 g)).length ((((s.th.set n (regT t s.hd 3)).set n (rgT (regT t s.hd 3) 1 g)).set n (pcT (rgT (regT t s.hd 3) 1 g) 4)).map thT)])
    (h.pa <| an (h.take hs hH hP) <| an (h.id) <| an (h.el) <| an (setT s.th n (regT t s.hd 3)) <| an (h.ln1 (regT t s.hd 3)) <| an (hv ▸ ac_pvalue ((s.toWord (s.hd + 1) s.tl s.md).setTh n (regT t s.hd 3)) s.hd ho h.ok.hd) <| an (h.id) <| an (el2 h.hn (regT t s.hd 3)) <| an (h.ln1 (regT t s.hd 3)) <| an (h.tell3 (g := g) hA ho hf) <| an (h.ids2 (regT t s.hd 3) (rgT (regT t s.hd 3) 1 g)) <| an (h.el22 (regT t s.hd 3) (rgT (regT t s.hd 3) 1 g)) <| an (setT ((s.th.set n (regT t s.hd 3)).set n (rgT (regT t s.hd 3) 1 g)) n (pcT (rgT (regT t s.hd 3) 1 g) 9)) <| an (h.ids2 (regT t s.hd 3) (rgT (regT t s.hd 3) 1 g)) <| an (h.el23 (regT t s.hd 3) (rgT (regT t s.hd 3) 1 g) (pcT (rgT (regT t s.hd 3) 1 g) 9)) <| an (set2 ((s.th.set n (regT t s.hd 3)).set n (rgT (regT t s.hd 3) 1 g)) n (pcT (rgT (regT t s.hd 3) 1 g) 9) (pcT (rgT (regT t s.hd 3) 1 g) 4)) <|  an h.o1 trivial) (by kernel_rfl) hL
theorem lv_takeF (h : Rv s n t 3 m o) (hs : seesR s = 4) (hL : LoopP Tryz.prog (loopOf Tryz.prog 85 0) (hdV (s.setTh n (pcT t 2)) n m (o + 1) (s.th.length)) x S) : LoopP Tryz.prog (loopOf Tryz.prog 85 0) (hdV s n m o s.th.length) x S :=
  loop_more mixed (fuel := 9) (n := 12) (im := [0, 1, 2, 3, 4]) (keep := [2, 6, 8, 9, 10]) (ext := [11, 56, 43, 160]) (orc := sPO t 3 2 ++ [.tuple #[wdT (tkH s.hd s.tl s.md s.sl.length) s.tl s.md, .int .i64 (tkP s.hd s.tl s.md s.sl.length), .int .i64 4], .nilFunc, .nilFunc, thT (pcT t 3), vRow s.th.length ((s.th.set n (pcT t 2)).map thT)])
    (h.pa <| an (h.take hs rfl rfl) <| an (h.id) <| an (h.el) <| an (setT s.th n (pcT t 2)) <|  an h.o1 trivial) (by kernel_rfl) hL
theorem lv_takeE (h : Rv s n t 3 m o) {r : Int} (hs : seesR s = r) (h1 : (r == 1) = false) (h2 : (r == 4) = false) (hL : LoopP Tryz.prog (loopOf Tryz.prog 85 0) (hdV (((s.setTh n (rgT (pcT t 3) r 0)).addLg (tlE s n t.ki r 0)).setTh n (pcT (rgT t r 0) 9)) n m (o + 1) ((s.th.set n (rgT (pcT t 3) r 0)).length)) x S) : LoopP Tryz.prog (loopOf Tryz.prog 85 0) (hdV s n m o s.th.length) x S :=
  loop_more mixed (fuel := 9) (n := 12) (im := [0, 6, 2, 3, 4]) (keep := [2, 6, 8, 9, 10]) (ext := [11, 56, 43, 160, 153]) (orc := sPO t 3 2 ++ [.tuple #[wdT (tkH s.hd s.tl s.md s.sl.length) s.tl s.md, .int .i64 (tkP s.hd s.tl s.md s.sl.length), .int .i64 r], .bool false, .bool false, thT (pcT t 3), .iface 1000004 (.func (.yield 18) #[.agg (stL ((s.setTh n (rgT (pcT t 3) r 0)).addLg (tlE s n t.ki r 0))), .int .i64 11] #[]), thT (rgT (pcT t 3) r 0), vRow (s.th.set n (rgT (pcT t 3) r 0)).length (((s.th.set n (rgT (pcT t 3) r 0)).set n (pcT (rgT t r 0) 9)).map thT)])
    (h.pa <| an (h.take hs rfl rfl) <| an (h1) <| an (h2) <| an (h.id) <| an (h.el) <| an (h.ln) <| an (h.tell (r := r)) <| an (h.ids (rgT (pcT t 3) r 0)) <| an (el2 h.hn (rgT (pcT t 3) r 0)) <| an (setT (s.th.set n (rgT (pcT t 3) r 0)) n (pcT (rgT t r 0) 9)) <|  an h.o1 trivial) (by kernel_rfl) hL
theorem lv_read (h : Rv s n t 4 m o) (hm : s.sl.length ≤ 1000) (hr : In64 t.re) (hL : LoopP Tryz.prog (loopOf Tryz.prog 85 0) (hdV ((s.toSl (rlL s.sl t.re)).setTh n (gotT t (rdV s.sl t.re) 6)) n m (o + 1) (s.th.length)) x S) : LoopP Tryz.prog (loopOf Tryz.prog 85 0) (hdV s n m o s.th.length) x S :=
  loop_more mixed (fuel := 9) (n := 12) (im := [0, 1, 2, 3, 4]) (keep := [2, 6, 8, 9, 10]) (ext := [11, 56, 43, 161, 155]) (orc := sPO t 4 2 ++ [thT (pcT t 4), .tuple #[.int .i64 (rdV s.sl t.re), .int .i64 (rdE s.sl t.re)], thT (pcT t 4), vRow s.th.length ((s.th.set n (gotT t (rdV s.sl t.re) 4)).map thT), thT (gotT t (rdV s.sl t.re) 4), .tuple #[rowS (rlL s.sl t.re), .int .i64 (rlE s.sl t.re)], thT (gotT t (rdV s.sl t.re) 4), vRow s.th.length ((s.th.set n (gotT t (rdV s.sl t.re) 6)).map thT)])
    (h.pa <| an (h.id) <| an (h.el) <| an (ac_pread s.sl t.re hm hr) <| an (h.el) <| an (setT s.th n (gotT t (rdV s.sl t.re) 4)) <| an (el2 h.hn (gotT t (rdV s.sl t.re) 4)) <| an (ac_prelease s.sl t.re hm hr) <| an (h.id) <| an (el2 h.hn (gotT t (rdV s.sl t.re) 4)) <| an (set2 s.th n (gotT t (rdV s.sl t.re) 4) (gotT t (rdV s.sl t.re) 6)) <|  an h.o1 trivial) (by kernel_rfl) hL
theorem lv_prep (h : Rv s n t 5 m o) (he : prE s.ee s.el = s.ee) (hL : LoopP Tryz.prog (loopOf Tryz.prog 85 0) (hdV (s.setTh n (seenT t s.ee 7)) n m (o + 1) (s.th.length)) x S) : LoopP Tryz.prog (loopOf Tryz.prog 85 0) (hdV s n m o s.th.length) x S :=
  loop_more mixed (fuel := 9) (n := 12) (im := [0, 1, 2, 3, 4]) (keep := [2, 6, 8, 9, 10]) (ext := [11, 56, 43, 146]) (orc := sPO t 5 2 ++ [.int .i64 s.ee, thT (pcT t 5), vRow s.th.length ((s.th.set n (seenT t s.ee 5)).map thT), thT (seenT t s.ee 5), vRow s.th.length ((s.th.set n (seenT t s.ee 7)).map thT)])
    (h.pa <| an (h.id) <| an (ac_pprep' he) <| an (h.el) <| an (setT s.th n (seenT t s.ee 5)) <| an (h.id) <| an (el2 h.hn (seenT t s.ee 5)) <| an (set2 s.th n (seenT t s.ee 5) (seenT t s.ee 7)) <|  an h.o1 trivial) (by kernel_rfl) hL
theorem lv_notifyN (h : Rv s n t 6 m o) (hm : s.fl.length ≤ 999999) (hb : hdB (ntT 1 s.fe s.fl) = false) (hL : LoopP Tryz.prog (loopOf Tryz.prog 85 0) (hdV ((s.toFull (ntE s.fe s.fl) (ntL 1 s.fe s.fl)).setTh n (pcT t 9)) n m (o + 1) (s.th.length)) x S) : LoopP Tryz.prog (loopOf Tryz.prog 85 0) (hdV s n m o s.th.length) x S :=
  loop_more mixed (fuel := 9) (n := 12) (im := [0, 1, 2, 3, 4]) (keep := [2, 6, 8, 9, 10]) (ext := [11, 56, 43, 147]) (orc := sPO t 6 2 ++ [.tuple #[evT (ntE s.fe s.fl) (ntL 1 s.fe s.fl), .int .i64 (hdI (ntT 1 s.fe s.fl)), vD false], thT (pcT t 6), vRow s.th.length ((s.th.set n (pcT t 9)).map thT)])
    (h.pa <| an (ac_pnotify hb hm) <| an (h.id) <| an (h.el) <| an (setT s.th n (pcT t 9)) <|  an h.o1 trivial) (by kernel_rfl) hL
theorem lv_notifyW (h : Rv s n t 6 m o) (hm : s.fl.length ≤ 999999) (hb : hdB (ntT 1 s.fe s.fl) = true) {q : Nat} (hq : hdI (ntT 1 s.fe s.fl) = q) (hA : hasB (s.toFull (ntE s.fe s.fl) (ntL 1 s.fe s.fl)) q = true) (ho : (s.toFull (ntE s.fe s.fl) (ntL 1 s.fe s.fl)).ok) (hf : (s.toFull (ntE s.fe s.fl) (ntL 1 s.fe s.fl)).fit) (hg : gth (s.th.set q (wakeT (gth s.th q))) n = pcT t 6) (hL : LoopP Tryz.prog (loopOf Tryz.prog 85 0) (hdV (((s.toFull (ntE s.fe s.fl) (ntL 1 s.fe s.fl)).onTh q wakeT).setTh n (pcT t 9)) n m (o + 1) ((s.th.set q (wakeT (gth s.th q))).length)) x S) : LoopP Tryz.prog (loopOf Tryz.prog 85 0) (hdV s n m o s.th.length) x S :=
  loop_more mixed (fuel := 9) (n := 12) (im := [0, 6, 2, 3, 4]) (keep := [2, 6, 8, 9, 10]) (ext := [11, 56, 43, 147, 40]) (orc := sPO t 6 2 ++ [.tuple #[evT (ntE s.fe s.fl) (ntL 1 s.fe s.fl), .int .i64 q, vD true], .iface 1000004 (.func (.yield 18) #[.agg (stL ((s.toFull (ntE s.fe s.fl) (ntL 1 s.fe s.fl)).onTh q wakeT)), .int .i64 11] #[]), thT (pcT t 6), vRow (s.th.set q (wakeT (gth s.th q))).length (((s.th.set q (wakeT (gth s.th q))).set n (pcT t 9)).map thT)])
    (h.pa <| an (hq ▸ ac_pnotify hb hm) <| an (h.ln) <| an (ao_wake hA ho hf) <| an (h.idw q (wakeT (gth s.th q))) <| an (hg ▸ elT (l := (s.th.set q (wakeT (gth s.th q)))) (by rw [List.length_set]; exact h.hn)) <| an (setT (s.th.set q (wakeT (gth s.th q))) n (pcT t 9)) <|  an h.o1 trivial) (by kernel_rfl) hL
theorem lv_againY (h : Rv s n t 7 m o) (hs : seesR s = 4) (hl : (!t.la) = true) (hL : LoopP Tryz.prog (loopOf Tryz.prog 85 0) (hdV (s.setTh n (pcT t 8)) n m (o + 1) (s.th.length)) x S) : LoopP Tryz.prog (loopOf Tryz.prog 85 0) (hdV s n m o s.th.length) x S :=
  loop_more mixed (fuel := 9) (n := 12) (im := [0, 1, 2, 3, 4]) (keep := [2, 6, 8, 9, 10]) (ext := [11, 56, 43, 168]) (orc := sPO t 7 2 ++ [.tuple #[.int .i64 (seesS s), .int .i64 4], .nilFunc, thT (pcT t 7), .bool true, thT (pcT t 7), vRow s.th.length ((s.th.set n (pcT t 8)).map thT)])
    (h.pa <| an (h.sees hs) <| an (h.id) <| an (h.el) <| an (hl) <| an (h.id) <| an (h.el) <| an (setT s.th n (pcT t 8)) <|  an h.o1 trivial) (by kernel_rfl) hL
theorem lv_againL (h : Rv s n t 7 m o) (hs : seesR s = 4) (hl : (!t.la) = false) (hL : LoopP Tryz.prog (loopOf Tryz.prog 85 0) (hdV (s.setTh n (pcT t 2)) n m (o + 1) (s.th.length)) x S) : LoopP Tryz.prog (loopOf Tryz.prog 85 0) (hdV s n m o s.th.length) x S :=
  loop_more mixed (fuel := 9) (n := 12) (im := [0, 1, 2, 3, 4]) (keep := [2, 6, 8, 9, 10]) (ext := [11, 56, 43, 168]) (orc := sPO t 7 2 ++ [.tuple #[.int .i64 (seesS s), .int .i64 4], .nilFunc, thT (pcT t 7), .bool false, thT (pcT t 7), vRow s.th.length ((s.th.set n (pcT t 2)).map thT)])
    (h.pa <| an (h.sees hs) <| an (h.id) <| an (h.el) <| an (hl) <| an (h.id) <| an (h.el) <| an (setT s.th n (pcT t 2)) <|  an h.o1 trivial) (by kernel_rfl) hL
theorem lv_againN (h : Rv s n t 7 m o) {r : Int} (hs : seesR s = r) (h2 : (r == 4) = false) (hL : LoopP Tryz.prog (loopOf Tryz.prog 85 0) (hdV (s.setTh n (pcT t 2)) n m (o + 1) (s.th.length)) x S) : LoopP Tryz.prog (loopOf Tryz.prog 85 0) (hdV s n m o s.th.length) x S :=
  loop_more mixed (fuel := 9) (n := 12) (im := [0, 1, 2, 3, 4]) (keep := [2, 6, 8, 9, 10]) (ext := [11, 56, 43, 168]) (orc := sPO t 7 2 ++ [.tuple #[.int .i64 (seesS s), .int .i64 r], .bool false, thT (pcT t 7), vRow s.th.length ((s.th.set n (pcT t 2)).map thT)])
    (h.pa <| an (h.sees hs) <| an (h2) <| an (h.id) <| an (h.el) <| an (setT s.th n (pcT t 2)) <|  an h.o1 trivial) (by kernel_rfl) hL
theorem lv_commitL (h : Rv s n t 8 m o) (hl : t.la = true) (hL : LoopP Tryz.prog (loopOf Tryz.prog 85 0) (hdV (s.setTh n (pcT t 2)) n m (o + 1) (s.th.length)) x S) : LoopP Tryz.prog (loopOf Tryz.prog 85 0) (hdV s n m o s.th.length) x S :=
  loop_more mixed (fuel := 9) (n := 12) (im := [0, 1, 2, 3, 4]) (keep := [2, 6, 8, 9, 10]) (ext := [11, 56, 43]) (orc := sPO t 8 2 ++ [thT (pcT t 8), vRow s.th.length ((s.th.set n (pcT t 2)).map thT), thT (pcT t 2), .bool true])
    (h.pa <| an (h.id) <| an (h.el) <| an (setT s.th n (pcT t 2)) <| an (h.id) <| an (el2 h.hn (pcT t 2)) <| an (hl) <|  an h.o1 trivial) (by kernel_rfl) hL
theorem lv_commitW (h : Rv s n t 8 m o) (hl : t.la = false) (hm : s.el.length ≤ 999999) (hb : cmB s.ee s.el t.se n = true) (hL : LoopP Tryz.prog (loopOf Tryz.prog 85 0) (hdV ((s.toEmpty s.ee (cmL s.ee s.el t.se n)).setTh n (parkT t 2)) n m (o + 1) (s.th.length)) x S) : LoopP Tryz.prog (loopOf Tryz.prog 85 0) (hdV s n m o s.th.length) x S :=
  loop_more mixed (fuel := 9) (n := 12) (im := [0, 1, 2, 3, 4]) (keep := [2, 6, 8, 9, 10]) (ext := [11, 56, 43, 148, 149]) (orc := sPO t 8 2 ++ [thT (pcT t 8), vRow s.th.length ((s.th.set n (pcT t 2)).map thT), thT (pcT t 2), .bool false, thT (pcT t 2), .tuple #[evT s.ee (cmL s.ee s.el t.se n), vD true, .int .i64 (cmC s.ee s.el n)], thT (pcT t 2), .tuple #[thT (parkT t 2), .int .i64 0], thT (pcT t 2), vRow s.th.length ((s.th.set n (parkT t 2)).map thT)])
    (h.pa <| an (h.id) <| an (h.el) <| an (setT s.th n (pcT t 2)) <| an (h.id) <| an (el2 h.hn (pcT t 2)) <| an (hl) <| an (h.id) <| an (el2 h.hn (pcT t 2)) <| an (ac_pcommit hb hm) <| an (h.id) <| an (h.id) <| an (el2 h.hn (pcT t 2)) <| an (ac_ppark (park_of (c := 2) h.rs)) <| an (el2 h.hn (pcT t 2)) <| an (set2 s.th n (pcT t 2) (parkT t 2)) <|  an h.o1 trivial) (by kernel_rfl) hL
theorem lv_commitN (h : Rv s n t 8 m o) (hl : t.la = false) (hm : s.el.length ≤ 999999) (hb : cmB s.ee s.el t.se n = false) (hL : LoopP Tryz.prog (loopOf Tryz.prog 85 0) (hdV (s.setTh n (pcT t 2)) n m (o + 1) (s.th.length)) x S) : LoopP Tryz.prog (loopOf Tryz.prog 85 0) (hdV s n m o s.th.length) x S :=
  loop_more mixed (fuel := 9) (n := 12) (im := [0, 1, 2, 3, 4]) (keep := [2, 6, 8, 9, 10]) (ext := [11, 56, 43, 148]) (orc := sPO t 8 2 ++ [thT (pcT t 8), vRow s.th.length ((s.th.set n (pcT t 2)).map thT), thT (pcT t 2), .bool false, thT (pcT t 2), .tuple #[evT s.ee (cmL s.ee s.el t.se n), vD false, .int .i64 (cmC s.ee s.el n)]])
    (h.pa <| an (h.id) <| an (h.el) <| an (setT s.th n (pcT t 2)) <| an (h.id) <| an (el2 h.hn (pcT t 2)) <| an (hl) <| an (h.id) <| an (el2 h.hn (pcT t 2)) <| an (ac_pcommit hb hm) <|  an h.o1 trivial) (by kernel_rfl) hL
theorem lv_leave9 (h : Rv s n t 9 m o) (hm : s.rc.length ≤ 999999) (hL : LoopP Tryz.prog (loopOf Tryz.prog 85 0) (hdV ((s.toRc (lvL s.rc n)).setTh n (doneT t)) n m (o + 1) (s.th.length)) x S) : LoopP Tryz.prog (loopOf Tryz.prog 85 0) (hdV s n m o s.th.length) x S :=
  loop_more mixed (fuel := 9) (n := 12) (im := [0, 1, 2, 3, 4]) (keep := [2, 6, 8, 9, 10]) (ext := [11, 56, 43, 150, 151]) (orc := sPO t 9 2 ++ [.tuple #[rowI (lvL s.rc n), .int .i64 (lvE s.rc n)], thT (pcT t 9), .tuple #[thT (doneT t), .int .i64 0], thT (pcT t 9), vRow s.th.length ((s.th.set n (doneT t)).map thT)])
    (h.pa <| an (ac_pleave s.rc n hm) <| an (h.id) <| an (h.id) <| an (h.el) <| an (ac_pdone (done_of (c := 9) h.rs)) <| an (h.el) <| an (setT s.th n (doneT t)) <|  an h.o1 trivial) (by kernel_rfl) hL
theorem lv_leave10 (h : Rv s n t 10 m o) (hm : s.rc.length ≤ 999999) (hL : LoopP Tryz.prog (loopOf Tryz.prog 85 0) (hdV ((s.toRc (lvL s.rc n)).setTh n (doneT t)) n m (o + 1) (s.th.length)) x S) : LoopP Tryz.prog (loopOf Tryz.prog 85 0) (hdV s n m o s.th.length) x S :=
  loop_more mixed (fuel := 9) (n := 12) (im := [0, 1, 2, 3, 4]) (keep := [2, 6, 8, 9, 10]) (ext := [11, 56, 43, 150, 151]) (orc := sPO t 10 2 ++ [.tuple #[rowI (lvL s.rc n), .int .i64 (lvE s.rc n)], thT (pcT t 10), .tuple #[thT (doneT t), .int .i64 0], thT (pcT t 10), vRow s.th.length ((s.th.set n (doneT t)).map thT)])
    (h.pa <| an (ac_pleave s.rc n hm) <| an (h.id) <| an (h.id) <| an (h.el) <| an (ac_pdone (done_of (c := 10) h.rs)) <| an (h.el) <| an (setT s.th n (doneT t)) <|  an h.o1 trivial) (by kernel_rfl) hL
theorem lv_leave11 (h : Rv s n t 11 m o) (hm : s.rc.length ≤ 999999) (hL : LoopP Tryz.prog (loopOf Tryz.prog 85 0) (hdV ((s.toRc (lvL s.rc n)).setTh n (doneT t)) n m (o + 1) (s.th.length)) x S) : LoopP Tryz.prog (loopOf Tryz.prog 85 0) (hdV s n m o s.th.length) x S :=
  loop_more mixed (fuel := 9) (n := 12) (im := [0, 1, 2, 3, 4]) (keep := [2, 6, 8, 9, 10]) (ext := [11, 56, 43, 150, 151]) (orc := sPO t 11 2 ++ [.tuple #[rowI (lvL s.rc n), .int .i64 (lvE s.rc n)], thT (pcT t 11), .tuple #[thT (doneT t), .int .i64 0], thT (pcT t 11), vRow s.th.length ((s.th.set n (doneT t)).map thT)])
    (h.pa <| an (ac_pleave s.rc n hm) <| an (h.id) <| an (h.id) <| an (h.el) <| an (ac_pdone (done_of (c := 11) h.rs)) <| an (h.el) <| an (setT s.th n (doneT t)) <|  an h.o1 trivial) (by kernel_rfl) hL
end
end Go.Proofs.YtcakapmpifnfpaaGreat

/- A step of the program's receive is the step of plain states. -/
namespace Go.Proofs.YtcakapmpifnfpaaGreat
set_option linter.unusedVariables false
set_option linter.unusedSimpArgs false
open Go.RowKit
/-- What is true of a state that a step is done in. -/
structure Sv (s : St) (n : Nat) (m o : Int) : Prop where
  lt : decide (o < min m 1000) = true
  ck : stB s = true
  ok : s.ok
  hn : n < s.th.length
  st : (gth s.th n).st = 1
  sd : opSide (gth s.th n).ki = 2
  lg : s.lg.length ≤ 999999
  o1 : In64 (o + 1)
section
variable {s : St} {n : Nat} {m o : Int} {x : Exit} {S : Sg}
theorem Sv.rv (h : Sv s n m o) {c : Int} (hc : (gth s.th n).pc = c) : Rv s n (gth s.th n) c m o :=
  ⟨h.lt, h.ck, h.ok, h.hn, by rw [← hc]; rfl, by rw [h.st]; rfl, h.sd, fit_of h.ck (by have := h.lg; omega), h.o1⟩
/-- Whatever numbers tell how many threads there are. -/
def NxV (s : St) (n : Nat) (m o : Int) (x : Exit) (S : Sg) : Prop := ∀ N, N = s.th.length → LoopP Tryz.prog (loopOf Tryz.prog 85 0) (hdV s n m o N) x S
theorem NxV.to {s s' : St} (h : NxV s n m o x S) (e : s = s') {N : Nat} (hN : N = s'.th.length) : LoopP Tryz.prog (loopOf Tryz.prog 85 0) (hdV s' n m o N) x S := by subst e; exact h N hN
theorem Sv.ki (h : Sv s n m o) : (gth s.th n).ki ≠ 9 := fun e => by have := h.sd; rw [e] at this; exact absurd this (by decide)
theorem Sv.tb (h : Sv s n m o) : thB (gth s.th n) = true := gth_ok h.ck h.hn
theorem Sv.tr (h : Sv s n m o) : In64 ((gth s.th n).tr + 1) ∧ In64 (gth s.th n).re ∧ max (gth s.th n).tr 0 = (gth s.th n).tr := by
  have := h.tb
  generalize gth s.th n = t at this
  obtain ⟨st, ki, va, un, pc, re, se, tr, la, rs, go⟩ := t
  rw [thB_iff] at this
  simp only [In64]
  omega
theorem Sv.few (h : Sv s n m o) : s.rc.length ≤ 999999 ∧ s.fl.length ≤ 999999 ∧ s.el.length ≤ 999999 ∧ s.sl.length ≤ 1000 := by
  obtain ⟨a, b, c, d, -, -⟩ := full_lines h.ck
  have h2 := ok_len (stn_iff.1 b).1
  have h4 := ok_len (stn_iff.1 c).1
  have h5 := ok_len (stn_iff.1 d).1
  have h6 := (ok_iff.1 (word_ok h.ck).2.1).1
  omega
theorem first_lv (h : Sv s n m o) (hc : (gth s.th n).pc = 1) (hL : NxV (firstR s n) n m (o + 1) x S) : LoopP Tryz.prog (loopOf Tryz.prog 85 0) (hdV s n m o s.th.length) x S := by
  have hR := h.rv hc
  unfold firstR at hL
  split at hL
  · next hp => exact lv_first hR (by simp [hp]) (hL.to rfl len1)
  · next hp =>
    split at hL
    · next hl => exact lv_firstL hR (bne_of hp) hl (hL.to (told_is h.ck h.hn h.ki) len_set)
    · next hl => exact lv_firstT hR (bne_of hp) (by simpa using hl) h.tr.1 (hL.to (by unfold St.onTh; rw [try_on h.tb hc]) len1)
theorem look_lv (h : Sv s n m o) (hc : (gth s.th n).pc = 2) (hL : NxV (lookR s n) n m (o + 1) x S) : LoopP Tryz.prog (loopOf Tryz.prog 85 0) (hdV s n m o s.th.length) x S := by
  have hR := h.rv hc
  unfold lookR at hL
  split at hL
  · next hs => exact lv_lookR hR hs (hL.to rfl len1)
  · next h1 =>
    split at hL
    · next h2 => exact lv_lookE hR rfl (bne_of h1) (bne_of h2) (hL.to (told_is h.ck h.hn h.ki) len_set)
    · next h2 =>
      have hs : seesR s = 4 := Classical.not_not.1 h2
      split at hL
      · next hk => exact lv_lookB hR hs (by rw [hk]; rfl) (hL.to (told_is h.ck h.hn h.ki) len_set)
      · next hk =>
        have ho : opOnce (gth s.th n).ki = false := by
          have := h.sd
          generalize (gth s.th n).ki = k at this hk
          have h3 : k = 4 ∨ k = 6 := by rcases side_is k with h | h | h | h <;> omega
          rcases h3 with rfl | rfl <;> rfl
        split at hL
        · next hl => exact lv_lookL hR hs ho hl (hL.to (told_is h.ck h.hn h.ki) len_set)
        · next hl =>
          have hl' : (gth s.th n).la = false := by simpa using hl
          split at hL
          · next hw => exact lv_lookP hR hs ho hl' (by rw [h.tr.2.2]; exact hw) (hL.to rfl len1)
          · next hw => exact lv_lookT hR hs ho hl' (by rw [h.tr.2.2]) (bne_of hw) h.tr.1 (hL.to (by unfold St.onTh; rw [try_on h.tb hc]) len1)
theorem again_lv (h : Sv s n m o) (hc : (gth s.th n).pc = 7) (hL : NxV (recvN s n) n m (o + 1) x S) : LoopP Tryz.prog (loopOf Tryz.prog 85 0) (hdV s n m o s.th.length) x S := by
  have hR := h.rv hc
  rw [recvN_7 hc] at hL
  by_cases hs : seesR s = 4
  · cases hl : (gth s.th n).la
    · rw [if_pos ⟨hs, hl⟩] at hL
      exact lv_againY hR hs (by rw [hl]; rfl) (hL.to rfl len1)
    · rw [if_neg (by rw [hl]; simp)] at hL
      exact lv_againL hR hs (by rw [hl]; rfl) (hL.to rfl len1)
  · rw [if_neg (fun e => hs e.1)] at hL
    exact lv_againN hR rfl (bne_of hs) (hL.to rfl len1)
theorem commit_lv (h : Sv s n m o) (hc : (gth s.th n).pc = 8) (hL : NxV (commitR s n) n m (o + 1) x S) : LoopP Tryz.prog (loopOf Tryz.prog 85 0) (hdV s n m o s.th.length) x S := by
  have hR := h.rv hc
  unfold commitR at hL
  split at hL
  · next hl => exact lv_commitL hR hl (hL.to rfl len1)
  · next hl =>
    have hl' : (gth s.th n).la = false := by simpa using hl
    split at hL
    · next hb => exact lv_commitW hR hl' h.few.2.2.1 hb (hL.to (by unfold cmL; rw [if_pos hb]; rfl) len1)
    · next hb => exact lv_commitN hR hl' h.few.2.2.1 (by simpa using hb) (hL.to rfl len1)
theorem take_lv (h : Sv s n m o) (hc : (gth s.th n).pc = 3) (hL : NxV (takeR s n) n m (o + 1) x S) : LoopP Tryz.prog (loopOf Tryz.prog 85 0) (hdV s n m o s.th.length) x S := by
  have hR := h.rv hc
  unfold takeR at hL
  split at hL
  · next hs => exact lv_takeF hR hs (hL.to rfl len1)
  · next h4 =>
    split at hL
    · next h1 => exact lv_takeE hR rfl (bne_of h1) (bne_of h4) (hL.to (told_is h.ck h.hn h.ki) len_set)
    · next h1 =>
      have hs : seesR s = 1 := Classical.not_not.1 h1
      have hl := check_len (word_ok h.ck).1
      have hy := tk_y hs
      have h1' : (gth s.th n).st ≠ 0 := by have := h.st; omega
      have hW := takeW_ok h.ck hs
      have hB : stB ((s.toWord (s.hd + 1) s.tl s.md).setTh n (regT (gth s.th n) s.hd 3)) = true := onTh_stB (f := fun t => regT t s.hd 3) hW (regT_ok h.tb h1' (by omega) (by decide))
      have hB4 := takeB_ok h.ck h.hn h1' hs
      have hv0 := Vk.of h.ok
      have hv : Vk ((s.toWord (s.hd + 1) s.tl s.md).setTh n (regT (gth s.th n) s.hd 3)) := Vk.on (s := s.toWord (s.hd + 1) s.tl s.md) (f := fun t => regT t s.hd 3) ⟨hv0.cf, hv0.sl, hv0.th⟩ h.hn fun _ => ⟨rfl, rfl⟩
      have hlg : ((s.toWord (s.hd + 1) s.tl s.md).setTh n (regT (gth s.th n) s.hd 3)).lg.length ≤ 1000000 := by have := h.lg; show s.lg.length ≤ 1000000; omega
      have e1 : valV ((s.toWord (s.hd + 1) s.tl s.md).setTh n (regT (gth s.th n) s.hd 3)) s.hd = valV s s.hd := by unfold valV; rw [hB, h.ck]; rfl
      refine lv_takeR (g := valV s s.hd) hR hs hy.1 hy.2 e1 (has_of hB (by show n < (s.th.set n _).length; rw [List.length_set]; exact h.hn)) (ok_of hB hv (by omega)) (fit_of hB hlg) (hL.to ?_ (by show ((s.th.set n _).set n _).length = (((s.th.set n _).set n _).set n _).length; simp))
      have hn4 : n < ((s.toWord (s.hd + 1) s.tl s.md).onTh n (regT · s.hd 4)).th.length := by show n < (s.th.set n _).length; rw [List.length_set]; exact h.hn
      have g4 := gth_on (s := s.toWord (s.hd + 1) s.tl s.md) (n := n) h.hn (regT · s.hd 4)
      unfold toldS
      rw [tell_th hB4 hn4, g4]
      unfold St.onTh
      show St.mk _ _ _ _ _ _ _ _ _ _ _ _ (((s.th.set n _).set n _).set n (pcT (gth ((s.th.set n _).set n _) n) 4)) _ = St.mk _ _ _ _ _ _ _ _ _ _ _ _ (((s.th.set n _).set n _).set n _) _
      have hk : (regT (gth s.th n) s.hd 4).ki ≠ 9 := h.ki
      have e2 : tellT (regT (gth s.th n) s.hd 4) (gth s.th n).ki 1 (valV s s.hd) = rgT (regT (gth s.th n) s.hd 4) 1 (valV s s.hd) := by unfold tellT; rw [if_neg h.ki]; rfl
      have e3 : gth ((s.th.set n (regT (gth s.th n) s.hd 4)).set n (rgT (regT (gth s.th n) s.hd 4) 1 (valV s s.hd))) n = rgT (regT (gth s.th n) s.hd 4) 1 (valV s s.hd) := by rw [gth_set (by rw [List.length_set]; exact h.hn), if_pos rfl]
      have e5 : gth (s.th.set n (regT (gth s.th n) s.hd 3)) n = regT (gth s.th n) s.hd 3 := by rw [gth_set h.hn, if_pos rfl]
      have e6 : gth ((s.toWord (s.hd + 1) s.tl s.md).setTh n (regT (gth s.th n) s.hd 3)).th n = regT (gth s.th n) s.hd 3 := e5
      have e7 : gth (s.toWord (s.hd + 1) s.tl s.md).th n = gth s.th n := rfl
      rw [e7, e2, e3, List.set_set, List.set_set, List.set_set, List.set_set]
      unfold tlE
      rw [e6]
      rfl
theorem fullR_ok (h : Sv s n m o) : stB (s.toFull (ntE s.fe s.fl) (ntL 1 s.fe s.fl)) = true ∧ (s.toFull (ntE s.fe s.fl) (ntL 1 s.fe s.fl)).ok := by
  obtain ⟨-, -, d, -, e, -⟩ := full_lines h.ck
  have h1 : okE (ntE s.fe s.fl) (ntL 1 s.fe s.fl) = true := by simp only [ntE, ntL, e, if_true]; exact okE_nx e (ok_drop (okE_ln e) 1)
  have h2 : stnB s.cf.th (ntL 1 s.fe s.fl) = true := by simp only [ntL, e, if_true]; exact stn_sub d (ok_drop (okE_ln e) 1) (fun x hx => List.mem_of_mem_drop hx)
  have h3 := (okE_iff.1 h1).1
  have hb := h.ok.fl
  refine ⟨full_stB h.ck h1 h2, ⟨h.ok.cf, h.ok.hd, h.ok.tl, h.ok.md, (show In64 (ntE s.fe s.fl) by constructor <;> omega), h.ok.ee, h.ok.nw, h.ok.sl, h.ok.sn, h.ok.rc, ?_, h.ok.el, h.ok.th, h.ok.lg⟩⟩
  show (∀ x ∈ ntL 1 s.fe s.fl, In64 x) ∧ (ntL 1 s.fe s.fl).length ≤ maxLen
  simp only [ntL, e, if_true]
  exact ⟨fun x hx => hb.1 x (List.mem_of_mem_drop hx), by rw [List.length_drop]; omega⟩
theorem notify_lv (h : Sv s n m o) (hc : (gth s.th n).pc = 6) (hL : NxV (notifyR s n) n m (o + 1) x S) : LoopP Tryz.prog (loopOf Tryz.prog 85 0) (hdV s n m o s.th.length) x S := by
  have hR := h.rv hc
  obtain ⟨h1, h2⟩ := fullR_ok h
  unfold notifyR at hL
  split at hL
  · next hb =>
    obtain ⟨-, -, d, -, e, -⟩ := full_lines h.ck
    have hth := th_len h.ck
    have hq : ∃ q : Nat, hdI (ntT 1 s.fe s.fl) = q ∧ q < s.th.length := by
      have hb' := hb
      simp only [ntT, e, if_true] at hb' ⊢
      cases hl : s.fl with
      | nil => rw [hl] at hb'; cases hb'
      | cons y r =>
        have hy : y ∈ s.fl := by rw [hl]; exact List.mem_cons_self
        have h3 := (stn_iff.1 d).2 y hy
        have h4 := (okl_iff.1 (stn_iff.1 d).1).1 y hy
        exact ⟨y.toNat, by show y = _; omega, by omega⟩
    obtain ⟨q, hq, hql⟩ := hq
    have h9 : stB ((s.toFull (ntE s.fe s.fl) (ntL 1 s.fe s.fl)).onTh n (pcT · 9)) = true := onTh_stB h1 (pcT_ok h.tb (by have := h.st; omega) (by decide))
    have e6 : gth s.th n = pcT (gth s.th n) 6 := by conv => lhs; rw [show gth s.th n = pcT (gth s.th n) (gth s.th n).pc from rfl, hc]
    have hA : hasB ((s.toFull (ntE s.fe s.fl) (ntL 1 s.fe s.fl)).onTh n (pcT · 9)) q = true := has_of h9 (by show q < (s.th.set n _).length; rw [List.length_set]; exact hql)
    have hg : gth (s.th.set q (wakeT (gth s.th q))) n = pcT (gth s.th n) 6 := by
      rw [gth_set hql]
      split
      · next e => subst e; rw [wake_one h.st]; exact e6
      · exact e6
    refine lv_notifyW hR h.few.2.1 hb hq (has_of h1 hql) h2 (fit_of h1 (by have := h.lg; show s.lg.length ≤ 1000000; omega)) hg (hL.to ?_ len1)
    rw [hq]
    unfold wakeS
    rw [if_pos hA]
    unfold St.onTh
    show St.mk _ _ _ _ _ _ _ _ _ _ _ _ ((s.th.set n (pcT (gth s.th n) 9)).set (q : Int).toNat (wakeT (gth (s.th.set n (pcT (gth s.th n) 9)) (q : Int).toNat))) _ = St.mk _ _ _ _ _ _ _ _ _ _ _ _ ((s.th.set q (wakeT (gth s.th q))).set n (pcT (gth s.th n) 9)) _
    congr 1
    rw [Int.toNat_natCast, gth_set h.hn]
    by_cases hqn : n = q
    · subst hqn
      rw [if_pos rfl, List.set_set, List.set_set, wake_one (show (pcT (gth s.th n) 9).st = 1 from h.st)]
    · rw [if_neg hqn, List.set_comm _ _ hqn]
  · next hb => exact lv_notifyN hR h.few.2.1 (by simpa using hb) (hL.to rfl len1)
/-- A step. -/
theorem step_lv (h : Sv s n m o) (hL : NxV (recvN s n) n m (o + 1) x S) : LoopP Tryz.prog (loopOf Tryz.prog 85 0) (hdV s n m o s.th.length) x S := by
  obtain p | p | p | p | p | p | p | p | p | p | p | p := pc_or h.tb
  · rw [recvN_0 p] at hL; exact lv_enter (h.rv p) h.few.1 (hL.to rfl len1)
  · rw [recvN_1 p] at hL; exact first_lv h p hL
  · rw [recvN_2 p] at hL; exact look_lv h p hL
  · rw [recvN_3 p] at hL; exact take_lv h p hL
  · rw [recvN_4 p] at hL; exact lv_read (h.rv p) h.few.2.2.2 h.tr.2.1 (hL.to rfl len1)
  · rw [recvN_5 p] at hL
    obtain ⟨-, -, -, -, -, e⟩ := full_lines h.ck
    exact lv_prep (h.rv p) (by unfold prE; rw [if_pos e]) (hL.to rfl len1)
  · rw [recvN_6 p] at hL; exact notify_lv h p hL
  · exact again_lv h p hL
  · rw [recvN_8 p] at hL; exact commit_lv h p hL
  · rw [recvN_9 (.inl p)] at hL; exact lv_leave9 (h.rv p) h.few.1 (hL.to rfl len1)
  · rw [recvN_9 (.inr (.inl p))] at hL; exact lv_leave10 (h.rv p) h.few.1 (hL.to rfl len1)
  · rw [recvN_9 (.inr (.inr p))] at hL; exact lv_leave11 (h.rv p) h.few.1 (hL.to rfl len1)
end
end Go.Proofs.YtcakapmpifnfpaaGreat

/- A region that draws its order, stores into boxes of its own among what may come in whatever order: by a list of facts, kept over a relation R between worlds (OutG: what was there is kept but for these blocks, and for them G holds as soon as they change). -/
namespace Go.Proofs.YtcakapmpifnfpaaGreat
set_option linter.unusedVariables false
set_option linter.unusedSimpArgs false
open Go.RowKit
/-- What is known of a value, kept over R. -/
structure KX (R : World → World → Prop) where
  p : Value → World → Prop
  k : ∀ {v : Value} {W W' : World}, p v W → R W W' → p v W'
def KX.eq (R : World → World → Prop) (u : Value) : KX R := ⟨fun v _ => v = u, fun h _ => h⟩
def KX.tt (R : World → World → Prop) : KX R := ⟨fun _ _ => True, fun _ _ => trivial⟩
def FX (R : World → World → Prop) (Fs : List (KX R)) (i : Nat) (v : Value) (W : World) : Prop := (Fs.getD i (KX.tt R)).p v W
structure FactsX (R : World → World → Prop) (D : List (Option Nat)) (F : Nat → Value → World → Prop) (a : Act) (w : World) (done : Nat → Bool) (b : Act) (W : World) : Prop where
  kept : R w W
  defers : b.defers = a.defers
  size : b.tmps.size = a.tmps.size
  rest : ∀ t, some t ∉ D → b.tmps[t]? = a.tmps[t]?
  fact : ∀ i d, D[i]? = some d → done i = true → ∃ v, (∀ t, d = some t → b.tmps[t]? = some v) ∧ F i v W
theorem FactsX.did {R : World → World → Prop} {D : List (Option Nat)} {F : Nat → Value → World → Prop} {a b : Act} {w W : World} {done : Nat → Bool} (h : FactsX R D F a w done b W) (i : Nat) (hi : D[i]? = some none) (hd : done i = true) : ∃ v, F i v W := by
  obtain ⟨v, _, hF⟩ := h.fact i _ hi hd
  exact ⟨v, hF⟩
theorem FactsX.lit {R : World → World → Prop} {D : List (Option Nat)} {F : Nat → Value → World → Prop} {a b : Act} {w W : World} {done : Nat → Bool} (h : FactsX R D F a w done b W) {n : Nat} (hn : a.tmps.size = n) (hd : a.defers = []) :
    ∃ f : Nat → Value, b = ⟨(tab f n []).toArray, []⟩ ∧ ∀ t, b.tmps.getD t undef = f t :=
  ⟨fun t => b.tmps.getD t undef, by rw [tab_eq, List.append_nil]; exact act_lit (h.size.trans hn) (h.defers.trans hd), fun _ => rfl⟩
/-- No slot twice. -/
def onceB (D : List (Option Nat)) : Bool := (List.range D.length).all fun i => (List.range D.length).all fun j => i == j || D.getD i none == none || !(D.getD i none == D.getD j none)
theorem once_spec {D : List (Option Nat)} (h : onceB D = true) {i j d : Nat} (hi : D[i]? = some (some d)) (hj : D[j]? = some (some d)) : i = j := by
  have hil := (List.getElem?_eq_some_iff.1 hi).1
  have hjl := (List.getElem?_eq_some_iff.1 hj).1
  have h1 := List.all_eq_true.1 (List.all_eq_true.1 h i (List.mem_range.2 hil)) j (List.mem_range.2 hjl)
  simpa [List.getD_eq_getElem?_getD, hi, hj] using h1
section
variable {P : Program} {Q : Exit → Act → World → Prop}
end
/-- What was there is kept but for these blocks; if they have changed, G holds. -/
def OutG (X : List Nat) (G : World → Prop) (W W' : World) : Prop := Out X W W' ∧ (Below W.heap.size W W' ∨ G W')
theorem OutG.of {X : List Nat} {G : World → Prop} {W W' : World} (h : Below W.heap.size W W') : OutG X G W W' := ⟨Out.of_kept h, .inl h⟩
theorem OutG.trans {X : List Nat} {G : World → Prop} (hG : ∀ {W W' : World}, G W → Below W.heap.size W W' → G W') {W1 W2 W3 : World} (h : OutG X G W1 W2) (k : OutG X G W2 W3) : OutG X G W1 W3 := by
  refine ⟨h.1.trans k.1 (fun _ h => .inl h), ?_⟩
  rcases k.2 with k2 | k2
  · rcases h.2 with h2 | h2
    · exact .inl (h2.trans (k2.mono h2.size))
    · exact .inr (hG h2 k2)
  · exact .inr k2
/-- A fact kept but for those blocks. -/
def KX.out {X : List Nat} {G : World → Prop} (p : Value → World → Prop) (k : ∀ {v W W'}, p v W → Out X W W' → p v W') : KX (OutG X G) := ⟨p, fun h hk => k h hk.1⟩
def KX.here {X : List Nat} {G : World → Prop} (hG : ∀ {W W' : World}, G W → Below W.heap.size W W' → G W') : KX (OutG X G) := ⟨fun _ W => G W, fun h hk => by rcases hk.2 with h2 | h2; (exact hG h h2); exact h2⟩
end Go.Proofs.YtcakapmpifnfpaaGreat

/- A region that draws its order and fills a map: its rows come in whatever order; a fact on each value that is handed back, kept. -/
namespace Go.Proofs.YtcakapmpifnfpaaGreat
set_option linter.unusedVariables false
set_option linter.unusedSimpArgs false
open Go.RowKit
/-- All was there is kept below N; of what lies above, whatever is no map. -/
structure Rm (N : Nat) (W W' : World) : Prop where
  tape : W'.tape = W.tape
  os : W'.os = W.os
  output : W'.output = W.output
  size : W.heap.size ≤ W'.heap.size
  low : ∀ g : Nat, g < N → W'.heap[g]? = W.heap[g]?
  cels : ∀ (g : Nat) (arr : Array Value) (ty : TypeId) (fz : Nat × Nat), W.heap[g]? = some (.cells arr ty fz) → W'.heap[g]? = W.heap[g]?
theorem Rm.of {N : Nat} {W W' : World} (h : Below W.heap.size W W') (hN : N ≤ W.heap.size) : Rm N W W' :=
  ⟨h.tape, h.os, h.output, h.size, fun g hg => h.block g (by omega), fun g arr ty fz hg => h.block g (Array.getElem?_eq_some_iff.1 hg).1⟩
theorem Rm.trans {N : Nat} {A B C : World} (h : Rm N A B) (k : Rm N B C) : Rm N A C :=
  ⟨k.tape.trans h.tape, k.os.trans h.os, k.output.trans h.output, Nat.le_trans h.size k.size, fun g hg => (k.low g hg).trans (h.low g hg), fun g arr ty fz hg => (k.cels g arr ty fz ((h.cels g arr ty fz hg).trans hg)).trans (h.cels g arr ty fz hg)⟩
theorem Rm.kept {N : Nat} {W W' : World} (h : Rm N W W') (hN : W.heap.size = N) : Kept W W' := { tape := h.tape, os := h.os, output := h.output, size := h.size, block := fun g hg => h.low g (by omega) }
/-- What is known once some are done. -/
structure FactsM (N : Nat) (D : List (Option Nat)) (F : Nat → Value → World → Prop) (a : Act) (w : World) (done : Nat → Bool) (b : Act) (W : World) : Prop where
  kept : Rm N w W
  defers : b.defers = a.defers
  size : b.tmps.size = a.tmps.size
  rest : ∀ t, some t ∉ D → b.tmps[t]? = a.tmps[t]?
  fact : ∀ i d, D[i]? = some d → done i = true → ∃ v, (∀ t, d = some t → b.tmps[t]? = some v) ∧ F i v W
/-- The map, once some rows are laid: a row is the operation that lays it, its key, the operation that its element comes from. -/
structure MapM (N : Nat) (F : Nat → Value → World → Prop) (ins : List (Nat × Int × Nat)) (dm : Nat) (done : Nat → Bool) (b : Act) (W : World) (mb : Nat) (l : List (Int × Value)) : Prop where
  here : b.tmps[dm]? = some (.map (some mb))
  ge : N ≤ mb
  map : IMap W mb l
  nodup : (l.map (·.1)).Nodup
  from_ : ∀ d ∈ l, ∃ r ∈ ins, done r.1 = true ∧ d.1 = r.2.1 ∧ F r.2.2 d.2 W
  all : ∀ r ∈ ins, done r.1 = true → ∃ d ∈ l, d.1 = r.2.1
theorem getD_set_self' {listed : Array Bool} {i : Nat} (h : i < listed.size) : (listed.setIfInBounds i true).getD i false = true := by simp [Array.getD, h]
theorem getD_set_other' {listed : Array Bool} {i j : Nat} (h : j ≠ i) : (listed.setIfInBounds i true).getD j false = listed.getD j false := by
  by_cases hj : j < listed.size
  · simp [Array.getD, hj, Array.getElem_setIfInBounds, Ne.symm h]
  · simp [Array.getD, hj]
section
variable {P : Program} {Q : Exit → Act → World → Prop} {mty kt et : TypeId}
theorem wp_region_mp {id : Nat} {a : Act} {w : World} {l : List Oper} (N n : Nat) (D : List (Option Nat)) (F : Nat → Value → World → Prop) (dm : Nat) (ins : List (Nat × Int × Nat)) (hNw : w.heap.size = N)
    (hu : P.underlying mty = some (.map kt et)) (hd : P.underlying kt = some (.int .i64))
    (hm : P.follows .mixedOrders = true) (ha : acyc l = true) (htl : tailB l n = true) (hn : n ≤ l.length) (hD : (l.take n).map (·.dst) = D) (hN : onceB D = true) (hsz : ∀ d, some d ∈ D → d < a.tmps.size)
    (hg : (l.take n).all (fun o => o.guard.isNone) = true) (hmono : ∀ i v W W', F i v W → Rm N W W' → F i v W')
    (hmk : ∃ o, l[0]? = some o ∧ o.op = .makeMap mty none ∧ o.dst = some dm) (hF0 : ∀ v W, F 0 v W)
    (hins : ∀ r ∈ ins, r.1 < n ∧ r.1 ≠ 0 ∧ ∃ o d, l[r.1]? = some o ∧ o.dst = none ∧ o.op = .insert mty (.tmp dm) (.const (.int .i64 r.2.1)) (.tmp d) ∧ D[r.2.2]? = some (some d) ∧ r.2.2 < n ∧ waitB l r.1 0 = true ∧ waitB l r.1 r.2.2 = true ∧ ∀ v W, F r.1 v W)
    (hk1 : (ins.map (·.1)).Nodup) (hk2 : (ins.map (·.2.1)).Nodup)
    (hstep : ∀ i o, l[i]? = some o → i < n → i ≠ 0 → (∀ r ∈ ins, r.1 ≠ i) → ∀ b W, FactsM N D F a w (fun j => o.after.toList.any fun e => Region.binds .any e && e.on == j) b W →
      ∀ K : Act → World → Prop, (∀ v W', F i v W' → Below W.heap.size W W' → K (b.put o.dst v) W') → o.wp P b W K Q)
    (hend : ∀ b W mb m, FactsM N D F a w (fun _ => true) b W → MapM N F ins dm (fun _ => true) b W mb m → wpList P l.toArray Q (l.drop n) b W) (h0n : 0 < n) : (Code.region id l.toArray true).wp P Q a w := by
  have hln : (l.take n).length = n := by simp; omega
  have hlen : D.length = n := by rw [← hD, List.length_map, hln]
  have htk : ∀ {i : Nat}, i < n → (l.take n)[i]? = l[i]? := fun hi => List.getElem?_take_of_lt hi
  have hdst : ∀ (i : Nat) o, i < n → l[i]? = some o → D[i]? = some o.dst := fun i o hin hi => by
    rw [← hD, List.getElem?_map, htk hin, hi]; rfl
  have hinj : ∀ r ∈ ins, ∀ r' ∈ ins, r.1 = r'.1 → r = r' := fun r hr r' hr' e => by
    obtain ⟨i, hi⟩ := List.getElem?_of_mem hr
    obtain ⟨j, hj⟩ := List.getElem?_of_mem hr'
    have e1 : (ins.map (·.1))[i]? = some r.1 := by simp [hi]
    have e2 : (ins.map (·.1))[j]? = some r.1 := by simp [hj, e]
    have : i = j := (List.getElem?_inj (List.getElem?_eq_some_iff.1 e1).1 hk1).1 (e1.trans e2.symm)
    subst this
    rw [hi] at hj; exact Option.some.inj hj
  have hinj2 : ∀ r ∈ ins, ∀ r' ∈ ins, r.2.1 = r'.2.1 → r = r' := fun r hr r' hr' e => by
    obtain ⟨i, hi⟩ := List.getElem?_of_mem hr
    obtain ⟨j, hj⟩ := List.getElem?_of_mem hr'
    have e1 : (ins.map (·.2.1))[i]? = some r.2.1 := by simp [hi]
    have e2 : (ins.map (·.2.1))[j]? = some r.2.1 := by simp [hj, e]
    have : i = j := (List.getElem?_inj (List.getElem?_eq_some_iff.1 e1).1 hk2).1 (e1.trans e2.symm)
    subst this
    rw [hi] at hj; exact Option.some.inj hj
  refine wp_region_inv (fun listed b W => Closed l listed ∧ (((∀ i, n ≤ i → i < l.length → listed.getD i false = false) ∧ FactsM N D F a w (fun i => decide (i < n) && listed.getD i false) b W ∧
      (listed.getD 0 false = true → ∃ mb m, MapM N F ins dm (fun i => listed.getD i false) b W mb m) ∧ (listed.getD 0 false = false → ∀ r ∈ ins, listed.getD r.1 false = false)) ∨
      ∃ m, n < m ∧ (∀ i, i < l.length → listed.getD i false = decide (i < m)) ∧ wpList P l.toArray Q (l.drop m) b W)) hm ha ?_ ?_ ?_
  · refine ⟨fun k o hk hl => by
      have : k < l.length := (List.getElem?_eq_some_iff.1 hk).1
      simp [Array.getD, this] at hl, .inl ⟨fun i _ hi => ?_, ⟨⟨rfl, rfl, rfl, Nat.le_refl _, fun _ _ => rfl, fun _ _ _ _ _ => rfl⟩, rfl, rfl, fun _ _ => rfl, fun i d hi h => ?_⟩, fun h => ?_, fun _ r hr => ?_⟩⟩
    · simp [Array.getD, hi]
    · simp only [Bool.and_eq_true, decide_eq_true_eq] at h
      have : i < l.length := by omega
      simp [Array.getD, this] at h
    · have : 0 < l.length := by omega
      simp [Array.getD, this] at h
    · have : r.1 < l.length := by have := (hins r hr).1; omega
      simp [Array.getD, this]
  · intro listed b W i o hs hI hi hnl hw
    have hil : i < l.length := (List.getElem?_eq_some_iff.1 hi).1
    have hnl' : listed.getD i false = false := by
      have h1 : i < listed.size := by omega
      simpa [Array.getD, h1] using hnl
    obtain ⟨hC, hI⟩ := hI
    have hC' := hC.set hi hw
    have hset : ∀ j, j ≠ i → (listed.setIfInBounds i true).getD j false = listed.getD j false := fun j hj => getD_set_other' hj
    have hself : (listed.setIfInBounds i true).getD i false = true := getD_set_self' (by omega)
    rcases hI with ⟨hT, hF, hM, hM0⟩ | ⟨m, hnm, hL, hwp⟩
    · by_cases hin : i < n
      · have hdo := hdst i o hin hi
        have hgo : o.guard = none := by
          have := List.all_eq_true.1 hg o (List.mem_of_getElem? ((htk hin).trans hi))
          simpa using this
        have hTn : ∀ j, n ≤ j → j < l.length → (listed.setIfInBounds i true).getD j false = false := fun j hj1 hj2 => by
          rw [hset j (by omega)]; exact hT j hj1 hj2
        -- the facts behind one more
        have hnext : ∀ v W', F i v W' → Rm N W W' → FactsM N D F a w (fun i' => decide (i' < n) && (listed.setIfInBounds i true).getD i' false) (b.put o.dst v) W' := fun v W' hFv hB => by
          have hother : ∀ j dj, D[j]? = some dj → (decide (j < n) && (listed.setIfInBounds i true).getD j false) = true → j ≠ i → ∃ u, (∀ t, dj = some t → b.tmps[t]? = some u) ∧ F j u W' := fun j dj hj hdone hji => by
            simp only [Bool.and_eq_true, decide_eq_true_eq] at hdone
            have h4 : listed.getD j false = true := by rw [← hset j hji]; exact hdone.2
            obtain ⟨u, hu, hFu⟩ := hF.fact j dj hj (by simp [h4, hdone.1])
            exact ⟨u, hu, hmono _ _ _ _ hFu hB⟩
          cases hod : o.dst with
          | none =>
            rw [hod] at hdo
            refine ⟨hF.kept.trans hB, hF.defers, hF.size, hF.rest, fun j dj hj hdone => ?_⟩
            by_cases hji : j = i
            · subst hji
              rw [hdo] at hj; cases hj
              exact ⟨v, fun t ht => (by cases ht), hFv⟩
            · exact hother j dj hj hdone hji
          | some d =>
            rw [hod] at hdo
            have hdm : some d ∈ D := List.mem_of_getElem? hdo
            have hdb : d < b.tmps.size := by rw [hF.size]; exact hsz d hdm
            refine ⟨hF.kept.trans hB, hF.defers, by simpa [Act.put] using hF.size, fun t ht => ?_, fun j dj hj hdone => ?_⟩
            · have hne : t ≠ d := fun h => ht (h ▸ hdm)
              rw [← hF.rest t ht]
              simp [Act.put, Array.getElem?_setIfInBounds, Ne.symm hne]
            · by_cases hji : j = i
              · subst hji
                rw [hdo] at hj; cases hj
                exact ⟨v, fun t ht => (by cases ht; simp [Act.put, hdb]), hFv⟩
              · obtain ⟨u, hu, hFu⟩ := hother j dj hj hdone hji
                refine ⟨u, fun t ht => ?_, hFu⟩
                subst ht
                have hne : t ≠ d := fun h => hji (by subst h; exact once_spec hN hj hdo)
                simpa [Act.put, Array.getElem?_setIfInBounds, Ne.symm hne] using hu t rfl
        obtain ⟨om, hom, hopm, hdstm⟩ := hmk
        have hD0 : D[0]? = some (some dm) := by rw [← hdstm]; exact hdst 0 om h0n hom
        have hNW : N ≤ W.heap.size := by rw [← hNw]; exact hF.kept.size
        have hi' : l.toArray[i]? = some o := by simpa using hi
        have wpo : o.wp P b W (fun b' W' => Closed l (listed.setIfInBounds i true) ∧ (((∀ j, n ≤ j → j < l.length → (listed.setIfInBounds i true).getD j false = false) ∧ FactsM N D F a w (fun j => decide (j < n) && (listed.setIfInBounds i true).getD j false) b' W' ∧
            ((listed.setIfInBounds i true).getD 0 false = true → ∃ mb m, MapM N F ins dm (fun j => (listed.setIfInBounds i true).getD j false) b' W' mb m) ∧ ((listed.setIfInBounds i true).getD 0 false = false → ∀ r ∈ ins, (listed.setIfInBounds i true).getD r.1 false = false)) ∨
            ∃ m, n < m ∧ (∀ j, j < l.length → (listed.setIfInBounds i true).getD j false = decide (j < m)) ∧ wpList P l.toArray Q (l.drop m) b' W')) Q := by
          by_cases hi0 : i = 0
          · subst hi0
            obtain rfl : om = o := Option.some.inj (hom.symm.trans hi)
            have hrun : (execOp b.eval om).run P W = .ok (.value (.map (some W.heap.size))) (W.alloc (.map #[] 0)) := by simp [execOp, hopm, run_makeMap]
            unfold Oper.wp
            rw [hrun]
            have hB : Rm N W (W.alloc (.map #[] 0)) := Rm.of ((show Below W.heap.size W W from ⟨rfl, rfl, rfl, Nat.le_refl _, fun _ _ => rfl⟩).alloc (Nat.le_refl _) _) hNW
            have hnx := hnext (.map (some W.heap.size)) _ (hF0 _ _) hB
            refine ⟨hC', .inl ⟨hTn, hnx, fun _ => ⟨W.heap.size, [], ⟨?_, hNW, IMap.made W, by simp, fun d hd => (by cases hd), fun r hr hdone => ?_⟩⟩, fun h => ?_⟩⟩
            · obtain ⟨v, hv, -⟩ := hnx.fact 0 _ hD0 (by simp [h0n, hself])
              rw [hdstm]
              have hdb : dm < b.tmps.size := by rw [hF.size]; exact hsz dm (List.mem_of_getElem? hD0)
              simp [Act.put, hdb]
            · rw [hset r.1 (hins r hr).2.1, hM0 hnl' r hr] at hdone; cases hdone
            · rw [hself] at h; cases h
          · have h00 : (listed.setIfInBounds i true).getD 0 false = listed.getD 0 false := hset 0 (Ne.symm hi0)
            by_cases hr : ∃ r ∈ ins, r.1 = i
            · obtain ⟨r, hr, rfl⟩ := hr
              obtain ⟨-, -, o', d, ho', hdn, hop, hDs, hsn, hw0, hws, hFi⟩ := hins r hr
              obtain rfl : o' = o := Option.some.inj (ho'.symm.trans hi)
              obtain ⟨e0, he0, hb0, hon0⟩ := waitB_spec hw0 hi
              obtain ⟨e1, he1, hb1, hon1⟩ := waitB_spec hws hi
              have hd0 : listed.getD 0 false = true := hon0 ▸ hw e0 he0 hb0
              have hds : listed.getD r.2.2 false = true := hon1 ▸ hw e1 he1 hb1
              obtain ⟨mb, m, hMM⟩ := hM hd0
              obtain ⟨v, hv, hFv⟩ := hF.fact r.2.2 _ hDs (by simp [hsn, hds])
              have hv' := hv d rfl
              have hnk : ∀ d' ∈ m, d'.1 ≠ r.2.1 := fun d' hd' e => by
                obtain ⟨r', hr', hdone, hk, -⟩ := hMM.from_ d' hd'
                have := hinj2 r' hr' r hr (hk.symm.trans e)
                subst this
                rw [hnl'] at hdone; cases hdone
              obtain ⟨es, ck, hrun, hmap, hoth, -⟩ := imap_put2 (P := P) hu hd hMM.map r.2.1 v hnk
              have hrun' : (execOp b.eval o').run P W = .ok .skip { W with heap := W.heap.setIfInBounds mb (.map es ck) } := by
                have h1 : b.eval (.tmp dm) = .map (some mb) := by simp [Act.eval, hMM.here]
                have h2 : b.eval (.tmp d) = v := by simp [Act.eval, hv']
                have h3 : b.eval (.const (.int .i64 r.2.1)) = .int .i64 r.2.1 := rfl
                simp [execOp, hop, h1, h2, h3, hrun]
              have hmbl := hMM.map.lt
              have hB : Rm N W { W with heap := W.heap.setIfInBounds mb (.map es ck) } := ⟨rfl, rfl, rfl, by simp, fun g hg' => hoth g (by have := hMM.ge; omega), fun g arr ty fz hgc => by
                have hne : g ≠ mb := fun e => by
                  subst e
                  obtain ⟨es, ck, hm1⟩ := hMM.map
                  rw [hm1.obj] at hgc; cases hgc
                exact hoth g hne⟩
              unfold Oper.wp
              rw [hrun']
              have hnx := hnext undef _ (hFi _ _) hB
              refine ⟨hC', .inl ⟨hTn, hnx, fun _ => ⟨mb, m ++ [(r.2.1, v)], ⟨by show (b.put o'.dst undef).tmps[dm]? = _; rw [hdn]; exact hMM.here, hMM.ge, hmap, ?_, fun d' hd' => ?_, fun r' hr' hdone => ?_⟩⟩, fun h => ?_⟩⟩
              · rw [List.map_append]
                refine List.nodup_append.2 ⟨hMM.nodup, by simp, fun p hp q hq => ?_⟩
                simp only [List.map_cons, List.map_nil, List.mem_singleton] at hq
                subst hq
                obtain ⟨d', hd', rfl⟩ := List.mem_map.1 hp
                exact hnk d' hd'
              · rcases List.mem_append.1 hd' with hd' | hd'
                · obtain ⟨r', hr', hdone, hk, hFd⟩ := hMM.from_ d' hd'
                  refine ⟨r', hr', ?_, hk, hmono _ _ _ _ hFd hB⟩
                  by_cases e : r'.1 = r.1
                  · rw [e]; exact hself
                  · rw [hset r'.1 e]; exact hdone
                · simp only [List.mem_singleton] at hd'
                  subst hd'
                  exact ⟨r, hr, hself, rfl, hmono _ _ _ _ hFv hB⟩
              · by_cases e : r'.1 = r.1
                · have := hinj r' hr' r hr e
                  subst this
                  exact ⟨(r'.2.1, v), by simp, rfl⟩
                · rw [hset r'.1 e] at hdone
                  obtain ⟨d', hd', hk⟩ := hMM.all r' hr' hdone
                  exact ⟨d', List.mem_append_left _ hd', hk⟩
              · rw [h00, hd0] at h; cases h
            · have hno : ∀ r ∈ ins, r.1 ≠ i := fun r hr' e => hr ⟨r, hr', e⟩
              refine hstep i o hi hin hi0 hno b W ⟨hF.kept, hF.defers, hF.size, hF.rest, fun j dj hj hdone => by
                obtain ⟨e, he, h2⟩ := List.any_eq_true.1 hdone
                simp only [Bool.and_eq_true, beq_iff_eq] at h2
                have h3 := hw e (Array.mem_toList_iff.1 he) h2.1
                rw [h2.2] at h3
                have hjl : j < n := by rw [← hlen]; exact (List.getElem?_eq_some_iff.1 hj).1
                exact hF.fact j dj hj (by simp [h3, hjl])⟩ _ fun v W' hFv hBl => ?_
              have hB := Rm.of hBl hNW
              have hnx := hnext v W' hFv hB
              refine ⟨hC', .inl ⟨hTn, hnx, fun h => ?_, fun h r hr' => ?_⟩⟩
              · rw [h00] at h
                obtain ⟨mb, m, hMM⟩ := hM h
                refine ⟨mb, m, ?_, hMM.ge, hMM.map.kept hBl, hMM.nodup, fun d' hd' => ?_, fun r' hr' hdone => ?_⟩
                · cases hod : o.dst with
                  | none => exact hMM.here
                  | some d =>
                    have hne : d ≠ dm := fun e => by
                      subst e
                      rw [hod] at hdo
                      exact hi0 (once_spec hN hdo hD0)
                    simpa [Act.put, Array.getElem?_setIfInBounds, hne] using hMM.here
                · obtain ⟨r', hr', hdone, hk, hFd⟩ := hMM.from_ d' hd'
                  exact ⟨r', hr', by rw [hset r'.1 (hno r' hr')]; exact hdone, hk, hmono _ _ _ _ hFd hB⟩
                · rw [hset r'.1 (hno r' hr')] at hdone
                  exact hMM.all r' hr' hdone
              · rw [h00] at h
                rw [hset r.1 (hno r hr')]
                exact hM0 h r hr'
        unfold wpOp
        simp only [hi', Region.wanted, hgo, if_true]
        left
        exact wpo
      · have hall : ∀ j, j < i → listed.getD j false = true := fun j hj => tail_waits' htl hi (by omega) hj hC hw
        have hie : i = n := by
          rcases Nat.lt_or_ge n i with h | h
          · have h1 := hall n h
            rw [hT n (Nat.le_refl _) (by omega)] at h1
            cases h1
          · omega
        subst hie
        obtain ⟨mb, m, hMM⟩ := hM (hall 0 h0n)
        have h1 := hend b W mb m ⟨hF.kept, hF.defers, hF.size, hF.rest, fun j dj hj _ => hF.fact j dj hj (by
          have hjl : j < i := by rw [← hlen]; exact (List.getElem?_eq_some_iff.1 hj).1
          simp [hjl, hall j hjl])⟩ ⟨hMM.here, hMM.ge, hMM.map, hMM.nodup, fun d hd' => let ⟨r, hr, _, hk, hFd⟩ := hMM.from_ d hd'; ⟨r, hr, rfl, hk, hFd⟩, fun r hr _ => hMM.all r hr (hall r.1 (hins r hr).1)⟩
        have hdr : l.drop i = o :: l.drop (i + 1) := by
          rw [List.drop_eq_getElem_cons hil]
          congr 1
          exact (List.getElem?_eq_some_iff.1 hi).2
        rw [hdr] at h1
        refine wpOp_mono (fun a' w' h' => ⟨hC', .inr ⟨i + 1, by omega, fun j hj => ?_, h'⟩⟩) (wpOp_of_list hi h1)
        have hjs : j < listed.size := by omega
        by_cases hji : j = i
        · subst hji; simp [Array.getD, hjs]
        · by_cases hlt : j < i
          · have h4 := hall j hlt
            have : j < i + 1 := by omega
            simpa [Array.getD, hjs, Array.getElem_setIfInBounds, Ne.symm hji, this] using h4
          · have h4 := hT j (by omega) hj
            have : ¬ j < i + 1 := by omega
            simpa [Array.getD, hjs, Array.getElem_setIfInBounds, Ne.symm hji, this] using h4
    · have hin : m ≤ i := by
        have := hL i hil
        rw [hnl'] at this
        simpa using this.symm
      have hie : i = m := by
        rcases Nat.lt_or_ge m i with h | h
        · have h1 := tail_waits' htl hi (by omega) h hC hw
          rw [hL m (by omega)] at h1
          simp at h1
        · omega
      subst hie
      have hdr : l.drop i = o :: l.drop (i + 1) := by
        rw [List.drop_eq_getElem_cons hil]
        congr 1
        exact (List.getElem?_eq_some_iff.1 hi).2
      rw [hdr] at hwp
      refine wpOp_mono (fun a' w' h' => ⟨hC', .inr ⟨i + 1, by omega, fun j hj => ?_, h'⟩⟩) (wpOp_of_list hi hwp)
      have hjs : j < listed.size := by omega
      have h4 := hL j hj
      by_cases hji : j = i
      · subst hji; simp [Array.getD, hjs]
      · have h5 : decide (j < i + 1) = decide (j < i) := by
          by_cases h : j < i <;> simp [h] <;> omega
        rw [h5]
        simpa [Array.getD, hjs, Array.getElem_setIfInBounds, Ne.symm hji] using h4
  · intro b W hI
    rcases hI.2 with ⟨hT, hF, hM, -⟩ | ⟨m, hnm, hL, hwp⟩
    · have hnl : n = l.length := by
        rcases Nat.lt_or_ge n l.length with h | h
        · have := hT n (Nat.le_refl _) h
          simp [Array.getD, h] at this
        · omega
      have hall : ∀ j, j < l.length → (Array.replicate l.length true).getD j false = true := fun j hj => by simp [Array.getD, hj]
      obtain ⟨mb, m, hMM⟩ := hM (hall 0 (by omega))
      have h1 := hend b W mb m ⟨hF.kept, hF.defers, hF.size, hF.rest, fun j dj hj _ => hF.fact j dj hj (by
        have hjl : j < n := by rw [← hlen]; exact (List.getElem?_eq_some_iff.1 hj).1
        simp [hjl, hall j (by omega)])⟩ ⟨hMM.here, hMM.ge, hMM.map, hMM.nodup, fun d hd' => let ⟨r, hr, _, hk, hFd⟩ := hMM.from_ d hd'; ⟨r, hr, rfl, hk, hFd⟩, fun r hr _ => hMM.all r hr (hall r.1 (by have := (hins r hr).1; omega))⟩
      rw [hnl, List.drop_length] at h1
      exact h1
    · have hml : l.length ≤ m := by
        rcases Nat.lt_or_ge m l.length with h | h
        · have := hL m h
          simp [Array.getD, h] at this
        · exact h
      rw [List.drop_of_length_le hml] at hwp
      exact hwp
end
end Go.Proofs.YtcakapmpifnfpaaGreat
