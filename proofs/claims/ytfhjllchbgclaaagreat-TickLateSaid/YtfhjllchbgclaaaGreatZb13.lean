/- Texts merged: ThIQ, ThMQ, AcPQ, AcQQ, CcEQ, RecvFQ, RecvVQ, AcRQ, SdKQ, StepFQ, StepDQ, RcEQ, RcFQ, RcGQ. -/
import Derived.Test.YtfhjllchbgclaaaGreatZb12
import Derived.Test.YtfhjllchbgclaaaGreatZb9
import Derived.Test.YtfhjllchbgclaaaGreatZb10
/- Layer 12: what begins on a thread: the program's, and the document's. -/
namespace Go.Proofs.YtfhjllchbgclaaaGreat
set_option linter.unusedVariables false
set_option linter.unusedSimpArgs false
open Go.ChangeShapes Go.WideShapes Go.ChangeAt Go.RowKit
end Go.Proofs.YtfhjllchbgclaaaGreat

/- Layer 12: values given; what every statement asks first. -/
namespace Go.Proofs.YtfhjllchbgclaaaGreat
set_option linter.unusedVariables false
set_option linter.unusedSimpArgs false
open Go.ChangeShapes Go.WideShapes Go.ChangeAt Go.RowKit
theorem beg_ok_u {t : Th} {k v u : Int} (h : t.st = 0) (h1 : opB k = true) (h2 : opTimed k = false) : thBeg t k v u 0 ⟨1, k, v, 0, 0, 0, 0, 0, false, 0, 0⟩ := .inr (.inr (.inl ⟨h, h1, h2, rfl, rfl⟩))
theorem beg_ok_t {t : Th} {k v u : Int} (h : t.st = 0) (h1 : opB k = true) (h2 : opTimed k = true) (h3 : 0 ≤ u ∧ u ≤ 1099511627776) : thBeg t k v u 0 ⟨1, k, v, u, 0, 0, 0, 0, false, 0, 0⟩ := .inr (.inr (.inr (.inr ⟨h, h1, h2, h3, rfl, rfl⟩)))
end Go.Proofs.YtfhjllchbgclaaaGreat

/- The head of the laws of layer 14 (awake), by contracts told by abstract values. -/
namespace Go.Proofs.YtfhjllchbgclaaaGreat
set_option linter.unusedVariables false
set_option linter.unusedSimpArgs false
open Go.RowKit
end Go.Proofs.YtfhjllchbgclaaaGreat

/- What the laws of layer 14 call: Few, the program's Step, Steps of any state. -/
namespace Go.Proofs.YtfhjllchbgclaaaGreat
set_option linter.unusedVariables false
set_option linter.unusedSimpArgs false
open Go.RowKit
theorem nil_no {s : St} (h : s.th = []) : stB s = false := by
  cases hB : stB s
  · rfl
  · have := (th_len hB).2.1; rw [h] at this; simp at this
theorem sendK_no {s : St} {i : Int} (h : stB s = false) (k : Nat) : sendK s i k = (s, 0) := by
  cases k with
  | zero => rfl
  | succ k => simp [sendK, runsB, hasB, h]
set_option maxRecDepth 100000 in
theorem ac_psteps_nil {s : St} {i m : Int} (h : s.th = []) (ho : s.ok) (hf : s.fit) : AC Tryz.prog 142 [stT s, .int .i64 i, .int .i64 m] (.tuple #[stT s, .int .i64 0]) := by
  cases hm : decide ((0 : Int) < min m 1000)
  · exact ac_path mixed (ext := [53, 22]) (fuel := 9) (n := 5) (orc := [stT s, .bool false]) (an (ac_keep (neg_no s) ho hf) <| an hm trivial) (by kernel_rfl)
  · exact ac_path mixed (ext := [53, 22]) (fuel := 9) (n := 5) (orc := [stT s, .bool true, vD false]) (an (ac_keep (neg_no s) ho hf) <| an hm <| an (ac_pcheck (nil_no h) ho) trivial) (by kernel_rfl)
/-- Some steps of the program, of any state. -/
theorem ac_pst {s : St} {i m : Int} (ho : s.ok) (hf : s.fit) (hl : s.lg.length ≤ 800000) : AC Tryz.prog 142 [stT s, .int .i64 i, .int .i64 m] (.tuple #[stT (sendK s i (min m 1000).toNat).1, .int .i64 (sendK s i (min m 1000).toNat).2]) := by
  by_cases h : s.th = []
  · rw [sendK_no (nil_no h)]; exact ac_psteps_nil h ho hf
  · exact ac_psteps ho hf h hl
theorem sendK_1 (s : St) (i : Int) : (sendK s i 1).1 = sendS s i := by
  cases h : runsB s i 1 <;> simp [sendK, h, sendS]
set_option maxRecDepth 100000 in
theorem ac_pstep {s : St} {i : Int} (ho : s.ok) (hf : s.fit) (hl : s.lg.length ≤ 800000) : AC Tryz.prog 126 [stT s, .int .i64 i] (stT (sendS s i)) := by
  rw [← sendK_1]
  exact ac_path mixed (ext := [142]) (fuel := 9) (n := 3) (orc := [.tuple #[stT (sendK s i 1).1, .int .i64 (sendK s i 1).2]]) (an (ac_pst (i := i) (m := 1) ho hf hl) trivial) (by kernel_rfl)
def fewB (s : St) : Bool := decide ((s.sl.length : Int) ≤ 100) && (decide ((s.th.length : Int) ≤ 100) && (decide ((s.sn.length : Int) ≤ 100) && (decide ((s.rc.length : Int) ≤ 100) && (decide ((s.fl.length : Int) ≤ 100) && (decide ((s.el.length : Int) ≤ 100) && decide ((s.lg.length : Int) ≤ 200))))))
set_option maxRecDepth 100000 in
theorem ac_rfew (s : St) : AC Tryz.prog 10 [stT s] (.bool (fewB s)) := by
  unfold fewB
  cases h1 : decide ((s.sl.length : Int) ≤ 100)
  · exact ac_path mixed (ext := []) (fuel := 9) (n := 3) (orc := [.bool false]) (an h1 trivial) (by kernel_rfl)
  cases h2 : decide ((s.th.length : Int) ≤ 100)
  · exact ac_path mixed (ext := []) (fuel := 9) (n := 3) (orc := [.bool true, .bool false]) (an h1 <| an h2 trivial) (by kernel_rfl)
  cases h3 : decide ((s.sn.length : Int) ≤ 100)
  · exact ac_path mixed (ext := []) (fuel := 9) (n := 3) (orc := [.bool true, .bool true, .bool false]) (an h1 <| an h2 <| an h3 trivial) (by kernel_rfl)
  cases h4 : decide ((s.rc.length : Int) ≤ 100)
  · exact ac_path mixed (ext := []) (fuel := 9) (n := 3) (orc := [.bool true, .bool true, .bool true, .bool false]) (an h1 <| an h2 <| an h3 <| an h4 trivial) (by kernel_rfl)
  cases h5 : decide ((s.fl.length : Int) ≤ 100)
  · exact ac_path mixed (ext := []) (fuel := 9) (n := 3) (orc := [.bool true, .bool true, .bool true, .bool true, .bool false]) (an h1 <| an h2 <| an h3 <| an h4 <| an h5 trivial) (by kernel_rfl)
  cases h6 : decide ((s.el.length : Int) ≤ 100)
  · exact ac_path mixed (ext := []) (fuel := 9) (n := 3) (orc := [.bool true, .bool true, .bool true, .bool true, .bool true, .bool false]) (an h1 <| an h2 <| an h3 <| an h4 <| an h5 <| an h6 trivial) (by kernel_rfl)
  exact ac_path mixed (ext := []) (fuel := 9) (n := 3) (orc := [.bool true, .bool true, .bool true, .bool true, .bool true, .bool true]) (an h1 <| an h2 <| an h3 <| an h4 <| an h5 <| an h6 trivial) (by kernel_rfl)
theorem few_is {s : St} (h : fewB s = true) : s.few ∧ s.fit ∧ s.lg.length ≤ 200 := by
  simp only [fewB, Bool.and_eq_true, decide_eq_true_eq] at h
  obtain ⟨h1, h2, h3, h4, h5, h6, h7⟩ := h
  exact ⟨⟨by omega, by omega, by omega, by omega, by omega, by omega, by omega⟩, ⟨by omega, by omega, by omega, by omega, by omega, by omega, by omega⟩, by omega⟩
/-- A contract, as a law's walk is asked. -/
theorem law_of {g : FuncId} {args : List Value} {vs : Array Value} {W : World} (h : AC Tryz.prog g args (.bool true)) (hv : AtAll (Rp nowhere (fun _ => False) W) args.toArray vs) : Calls Tryz.prog g vs W fun e W' => e = .returned (.bool true) ∧ Kept W W' := calls_of h hv
end Go.Proofs.YtfhjllchbgclaaaGreat

/- The program's Steps of who closes, of any state: as many as there are; Step, Near. -/
namespace Go.Proofs.YtfhjllchbgclaaaGreat
set_option linter.unusedVariables false
set_option linter.unusedSimpArgs false
open Go.RowKit
/-! ### Plain -/
theorem closeK_le3 (s : St) (i : Int) (k : Nat) : (closeK s i k).2 ≤ 3 := by
  cases hr : runsB s i 3
  · rw [closeK_off hr]; show 0 ≤ 3; omega
  · obtain ⟨hh, -⟩ := runs_iff.1 hr
    obtain ⟨-, h0, -⟩ := has_iff.1 hh
    obtain ⟨n, rfl⟩ : ∃ n : Nat, i = n := ⟨i.toNat, by omega⟩
    exact closeK_three k
theorem closeK_no {s : St} {i : Int} (h : stB s = false) (k : Nat) : closeK s i k = (s, 0) := closeK_off (by simp [runsB, hasB, h]) k
theorem closeK_1 (s : St) (i : Int) : (closeK s i 1).1 = closeS s i := by
  cases h : runsB s i 3
  · rw [closeK_off h]; simp [closeS, h]
  · rw [closeK_on h]; rfl
theorem closeK_wk {N : Nat} (i : Int) : ∀ (k : Nat) {s : St}, Wk s N → Wk (closeK s i k).1 (N + k)
  | 0, s, h => h
  | k + 1, s, h => by
    cases hr : runsB s i 3
    · rw [closeK_off hr]; exact ⟨h.b, h.v, by have := h.l; show s.lg.length ≤ _; omega⟩
    · obtain ⟨hh, h1, -⟩ := runs_iff.1 hr
      obtain ⟨-, h0, h3⟩ := has_iff.1 hh
      rw [closeK_on hr, closeS_is hr]
      have := closeK_wk i k (closeN_wk h (n := i.toNat) (by omega) (by omega))
      exact ⟨this.b, this.v, by have := this.l; show (closeK (closeN s i.toNat) i k).1.lg.length ≤ _; omega⟩
theorem closeS_wk {N : Nat} {s : St} (h : Wk s N) (i : Int) : Wk (closeS s i) (N + 1) := closeK_1 s i ▸ closeK_wk i 1 h
/-! ### The whole -/
section
variable {s : St} {n : Nat} {m o : Int} {x : Exit} {S : Sg}
theorem cgp_to {u v : St} {N : Nat} (h : GotoP Tryz.prog 0 (gotoOf Tryz.prog 144) (hdC u n m o u.th.length) x S) (e : v = u) (hN : N = u.th.length) : GotoP Tryz.prog 0 (gotoOf Tryz.prog 144) (hdC v n m o N) x S := by subst e hN; exact h
theorem cl_step (lt : decide (m ≤ o) = false) (w : Wk s 999999) (hn : n < s.th.length) (h1 : (gth s.th n).st = 1) (h2 : opSide (gth s.th n).ki = 3) (o1 : In64 (o + 1)) (hL : GotoP Tryz.prog 0 (gotoOf Tryz.prog 144) (hdC (closeN s n) n m (o + 1) (closeN s n).th.length) x S) : GotoP Tryz.prog 0 (gotoOf Tryz.prog 144) (hdC s n m o s.th.length) x S := by
  have hv : ∀ {c : Int}, (gth s.th n).pc = c → Cv s n (gth s.th n) c m o := fun hc => ⟨lt, w, hn, by rw [← hc]; rfl, h1, h2, o1⟩
  have hk9 : (gth s.th n).ki ≠ 9 := fun e => by rw [e] at h2; exact absurd h2 (by decide)
  have ne2 : (gth s.th n).st ≠ 2 := by omega
  by_cases p0 : (gth s.th n).pc = 0
  · rw [closeN_0 p0] at hL
    have e : shutC s n = (S0 s n (gth s.th n) (clM s.md (modeI (gth s.th n).ki))).setTh n (pcT (rgT (gth s.th n) 1 0) 1) := told_is (s := s.toWord s.hd s.tl (clM s.md (modeI (gth s.th n).ki))) (c := 0) (shut_word w.b _) hn hk9
    refine cv_shut (hv p0) (cgp_to hL e.symm ?_)
    rw [e]; exact len_set
  · by_cases p1 : (gth s.th n).pc = 1
    · rw [closeN_1 p1, fullC_is w.b] at hL
      have hw := wk_full w hn (by omega)
      have hw0 : Wk (s.toFull (nxE s.fe) []) 1000000 := by
        obtain ⟨e1, e2, -⟩ := nt_all (full_lines w.b).2.2.2.2.1
        have := full_off w.b
        rw [e1, e2] at this
        exact ⟨this, ⟨w.v.cf, w.v.sl, w.v.th⟩, by have := w.l; show s.lg.length ≤ _; omega⟩
      have hl := line_le (full_lines w.b).2.2.1
      have eo := wakes_on (f := (pcT · 2)) s.fl (u := s.toFull (nxE s.fe) []) hw0.b hw.b hn ne2 ne2
      have hg := wakes_same s.fl (u := s.toFull (nxE s.fe) []) hw0.b hn ne2
      have hg' : gth (s.toFull (nxE s.fe) []).th n = gth s.th n := rfl
      rw [hg'] at hg
      have hlen : (wakesS s.fl (s.toFull (nxE s.fe) [])).th.length = s.th.length := (wakes_rest _ _).2.2.2
      refine cv_full (u := wakesS s.fl (s.toFull (nxE s.fe) [])) (hv p1) (ac_pnotifyAll (full_lines w.b).2.2.2.2.1) (wkc_all (by omega) n hw0) (by rw [hlen]; exact hn) (by rw [hg, ← p1]; rfl) (cgp_to hL ?_ ?_)
      · rw [eo]; unfold St.onTh; rw [hg]
      · rw [eo]; exact len1
    · rw [closeN_2 p0 p1, emptyC_is w.b] at hL
      have hw := wk_empty w hn (by omega)
      have hw0 : Wk (s.toEmpty (nxE s.ee) []) 1000000 := by
        obtain ⟨e1, e2, -⟩ := nt_all (full_lines w.b).2.2.2.2.2
        have := empty_off w.b
        rw [e1, e2] at this
        exact ⟨this, ⟨w.v.cf, w.v.sl, w.v.th⟩, by have := w.l; show s.lg.length ≤ _; omega⟩
      have hl := line_le (full_lines w.b).2.2.2.1
      have eo := wakes_on (f := doneT) s.el (u := s.toEmpty (nxE s.ee) []) hw0.b hw.b hn ne2 (show (0 : Int) ≠ 2 by decide)
      have hg := wakes_same s.el (u := s.toEmpty (nxE s.ee) []) hw0.b hn ne2
      have hg' : gth (s.toEmpty (nxE s.ee) []).th n = gth s.th n := rfl
      rw [hg'] at hg
      have hlen : (wakesS s.el (s.toEmpty (nxE s.ee) [])).th.length = s.th.length := (wakes_rest _ _).2.2.2
      refine cv_empty (u := wakesS s.el (s.toEmpty (nxE s.ee) [])) (hv rfl) (bne_of p0) (bne_of p1) (ac_pnotifyAll (full_lines w.b).2.2.2.2.2) (wkc_all (by omega) n hw0) (by rw [hlen]; exact hn) hg (cgp_to hL ?_ ?_)
      · rw [eo]; unfold St.onTh; rw [hg]
      · rw [eo]; exact len1
end
theorem cl_lp {i m : Int} : ∀ (j : Nat) {s : St} {o : Int}, s.ok → s.lg.length + j ≤ 900000 → 0 ≤ o → o + j ≤ 1000000 → (closeK s i (m - o).toNat).2 ≤ j → GotoP Tryz.prog 0 (gotoOf Tryz.prog 144) (hdC s i m o s.th.length) .ret (enC (closeK s i (m - o).toNat).1 (o + (closeK s i (m - o).toNat).2) (closeK s i (m - o).toNat).1.th.length) := by
  have stop : ∀ {s : St} {o : Int}, GotoP Tryz.prog 0 (gotoOf Tryz.prog 144) (hdC s i m o s.th.length) .ret (enC s o s.th.length) → GotoP Tryz.prog 0 (gotoOf Tryz.prog 144) (hdC s i m o s.th.length) .ret (enC s (o + ((0 : Nat) : Int)) s.th.length) := fun h => by simpa using h
  intro j
  induction j with
  | zero =>
    intro s o ho hl h0 h2 hk
    cases hr : runsB s i 3
    · rw [closeK_off hr]; exact stop (ce_not ho hr)
    · by_cases hm : m ≤ o
      · rw [show (m - o).toNat = 0 by omega]; exact stop (ce_many (by simp [hm]))
      · rw [show (m - o).toNat = (m - o - 1).toNat + 1 by omega, closeK_on hr] at hk
        exact absurd hk (by show ¬ _ + 1 ≤ 0; omega)
  | succ j ih =>
    intro s o ho hl h0 h2 hk
    cases hr : runsB s i 3
    · rw [closeK_off hr]; exact stop (ce_not ho hr)
    · by_cases hm : m ≤ o
      · rw [show (m - o).toNat = 0 by omega]; exact stop (ce_many (by simp [hm]))
      · have ek : (m - o).toNat = (m - (o + 1)).toNat + 1 := by omega
        rw [ek, closeK_on hr] at hk
        rw [ek, closeK_on hr]
        obtain ⟨hh, h3, h4⟩ := runs_iff.1 hr
        obtain ⟨hB, h5, h6⟩ := has_iff.1 hh
        rw [closeS_is hr] at hk ⊢
        obtain ⟨n, rfl⟩ : ∃ n : Nat, i = n := ⟨i.toNat, by omega⟩
        rw [Int.toNat_natCast] at h3 h4 hk ⊢
        have hn : n < s.th.length := by omega
        have w : Wk s s.lg.length := ⟨hB, .of ho, Nat.le_refl _⟩
        have w1 := closeN_wk w hn (by omega)
        have hk' : (closeK (closeN s n) n (m - (o + 1)).toNat).2 + 1 ≤ j + 1 := hk
        have := ih (s := closeN s n) (o := o + 1) (w1.ok (by omega)) (by have := w1.l; omega) (by omega) (by omega) (by omega)
        refine cl_step (by simp; omega) ⟨hB, .of ho, by omega⟩ hn h3 h4 (by constructor <;> omega) ?_
        show GotoP _ _ _ _ _ (enC (closeK (closeN s n) n (m - (o + 1)).toNat).1 (o + (((closeK (closeN s n) n (m - (o + 1)).toNat).2 + 1 : Nat) : Int)) _)
        rw [show o + (((closeK (closeN s n) n (m - (o + 1)).toNat).2 + 1 : Nat) : Int) = o + 1 + ((closeK (closeN s n) n (m - (o + 1)).toNat).2 : Int) by omega]
        exact this
section
variable {s u : St} {i m o : Int}
set_option maxRecDepth 100000 in
theorem ac_csteps0 (hL : GotoP Tryz.prog 0 (gotoOf Tryz.prog 144) (hdC s i m 0 s.th.length) .ret (enC u o u.th.length)) (ho : s.ok) (hf : s.fit) (ht : s.th ≠ []) : AC Tryz.prog 144 [stT s, .int .i64 i, .int .i64 m] (.tuple #[stT u, .int .i64 o]) :=
  ac_path mixed (ext := [53]) (fuel := 9) (n := 9) (orc := [.iface 1000004 (.func (.yield 18) #[.agg (stL s), .int .i64 11] #[]), oL [5, 4, 1, 6] [2, 6, 8, 9, 10] (-1) [(6, pt 0), (7, .int .i64 o)] [bEc u u.th.length, bT u.th u.th.length]])
    (an (ao_keep (neg_no s) ho hf ht) <| an hL <| an (len_map (f := thT) u.th) trivial) (by kernel_rfl)
def hdCn (s : St) (i m : Int) : Sg := ⟨mkT 35 [(2, .int .i64 m), (6, pt 1), (8, pt 0), (9, .func (.func 187) #[] #[pt 2]), (10, .int .i64 0)], [some ⟨true, false, 21, 1, [.agg ((stL s).toList ++ [Value.int .i64 i]).toArray]⟩, bZ, bBc 0]⟩
def enCn (s : St) : Sg := ⟨mkT 35 [(6, pt 0), (7, .int .i64 0)], [bS s]⟩
set_option maxRecDepth 100000 in
theorem ac_csteps_nil (h : s.th = []) (ho : s.ok) (hf : s.fit) : AC Tryz.prog 144 [stT s, .int .i64 i, .int .i64 m] (.tuple #[stT s, .int .i64 0]) := by
  have hL : GotoP Tryz.prog 0 (gotoOf Tryz.prog 144) (hdCn s i m) .ret (enCn s) := by
    cases hm : decide (m ≤ 0)
    · exact goto_end mixed (fuel := 9) (n := 9) (im := [1]) (keep := [6, 7]) (ext := cPX) (orc := [.bool false, vD false]) (an hm <| an (ac_pcheck (nil_no h) ho) trivial) (by intro l e; cases e) (by kernel_rfl)
    · exact goto_end mixed (fuel := 9) (n := 9) (im := [1]) (keep := [6, 7]) (ext := cPX) (orc := [.bool true]) (an hm trivial) (by intro l e; cases e) (by kernel_rfl)
  exact ac_path mixed (ext := [53]) (fuel := 9) (n := 9) (orc := [stT s, oL [4, 1, 5] [2, 6, 8, 9, 10] (-1) [(6, pt 0), (7, .int .i64 0)] [bS s]]) (an (ac_keep (neg_no s) ho hf) <| an hL trivial) (by kernel_rfl)
/-- Some steps of the program, of any state. -/
theorem ac_cst (ho : s.ok) (hf : s.fit) (hl : s.lg.length ≤ 800000) : AC Tryz.prog 144 [stT s, .int .i64 i, .int .i64 m] (.tuple #[stT (closeK s i m.toNat).1, .int .i64 (closeK s i m.toNat).2]) := by
  by_cases h : s.th = []
  · rw [closeK_no (nil_no h)]; exact ac_csteps_nil h ho hf
  · have := cl_lp (i := i) (m := m) 3 (s := s) (o := 0) ho (by omega) (by omega) (by omega) (closeK_le3 _ _ _)
    rw [show m - 0 = m by omega, Int.zero_add] at this
    exact ac_csteps0 this ho hf h
set_option maxRecDepth 100000 in
theorem ac_cstep (ho : s.ok) (hf : s.fit) (hl : s.lg.length ≤ 800000) : AC Tryz.prog 128 [stT s, .int .i64 i] (stT (closeS s i)) := by
  rw [← closeK_1]
  exact ac_path mixed (ext := [144]) (fuel := 9) (n := 3) (orc := [.tuple #[stT (closeK s i 1).1, .int .i64 (closeK s i 1).2]]) (an (ac_cst (i := i) (m := 1) ho hf hl) trivial) (by kernel_rfl)
end
end Go.Proofs.YtfhjllchbgclaaaGreat

/- Layer 15: a step of who receives, as a plain function; what may be stays so; what it changes; what it tells. -/
namespace Go.Proofs.YtfhjllchbgclaaaGreat
set_option linter.unusedVariables false
set_option linter.unusedSimpArgs false
def gotT (t : Th) (g p : Int) : Th := ⟨t.st, t.ki, t.va, t.un, p, t.re, t.se, t.tr, t.la, t.rs, g⟩
/-- What one is told who looks. -/
def seesR (s : St) : Int := tkR s.hd s.tl s.md s.sl.length
def firstR (s : St) (n : Nat) : St :=
  if plI s.rc n = 0 then s.onTh n (pcT · 2)
  else if (gth s.th n).la = true then toldS s n (gth s.th n).ki 5 0 9
  else s.onTh n onT
def lookR (s : St) (n : Nat) : St :=
  if seesR s = 1 then s.onTh n (pcT · 3)
  else if seesR s ≠ 4 then toldS s n (gth s.th n).ki (seesR s) 0 9
  else if (gth s.th n).ki = 5 then toldS s n (gth s.th n).ki 4 0 9
  else if (gth s.th n).la = true then toldS s n (gth s.th n).ki 5 0 9
  else if waySt s (gth s.th n).tr = 2 then s.onTh n (pcT · 5)
  else s.onTh n onT
def takeR (s : St) (n : Nat) : St :=
  if seesR s = 4 then s.onTh n (pcT · 2)
  else if seesR s ≠ 1 then toldS s n (gth s.th n).ki (seesR s) 0 9
  else toldS ((s.toWord (s.hd + 1) s.tl s.md).onTh n (regT · s.hd 4)) n (gth s.th n).ki 1 (valV s s.hd) 4
def readR (s : St) (n : Nat) : St := (s.toSl (rlL s.sl (gth s.th n).re)).onTh n (gotT · (rdV s.sl (gth s.th n).re) 6)
def notifyR (s : St) (n : Nat) : St :=
  if hdB (ntT 1 s.fe s.fl) = true then wakeS ((s.toFull (ntE s.fe s.fl) (ntL 1 s.fe s.fl)).onTh n (pcT · 9)) (hdI (ntT 1 s.fe s.fl))
  else (s.toFull (ntE s.fe s.fl) (ntL 1 s.fe s.fl)).onTh n (pcT · 9)
def commitR (s : St) (n : Nat) : St :=
  if (gth s.th n).la = true then s.onTh n (pcT · 2)
  else if cmB s.ee s.el (gth s.th n).se n = true then (s.toEmpty s.ee (s.el ++ [(n : Int)])).onTh n (parkT · 2)
  else s.onTh n (pcT · 2)
/-- A step of thread n, which receives. -/
def recvN (s : St) (n : Nat) : St :=
  if (gth s.th n).pc = 0 then (s.toRc (entL s.rc n)).onTh n (pcT · 1)
  else if (gth s.th n).pc = 1 then firstR s n
  else if (gth s.th n).pc = 2 then lookR s n
  else if (gth s.th n).pc = 3 then takeR s n
  else if (gth s.th n).pc = 4 then readR s n
  else if (gth s.th n).pc = 5 then s.onTh n (seenT · s.ee 7)
  else if (gth s.th n).pc = 6 then notifyR s n
  else if (gth s.th n).pc = 7 then (if seesR s = 4 ∧ (gth s.th n).la = false then s.onTh n (pcT · 8) else s.onTh n (pcT · 2))
  else if (gth s.th n).pc = 8 then commitR s n
  else (s.toRc (lvL s.rc n)).onTh n doneT
def recvS (s : St) (i : Int) : St := if runsB s i 2 = true then recvN s i.toNat else s
/-- Some steps of who receives, and how many there were. -/
def recvK (s : St) (i : Int) : Nat → St × Nat
  | 0 => (s, 0)
  | k + 1 => if runsB s i 2 = true then ((recvK (recvS s i) i k).1, (recvK (recvS s i) i k).2 + 1) else (s, 0)
theorem recvN_ind {P : St → Prop} {s : St} {n : Nat} (h0 : P ((s.toRc (entL s.rc n)).onTh n (pcT · 1))) (h1 : P (firstR s n)) (h2 : P (lookR s n)) (h3 : P (takeR s n)) (h4 : P (readR s n)) (h5 : P (s.onTh n (seenT · s.ee 7))) (h6 : P (notifyR s n)) (h7 : P (if seesR s = 4 ∧ (gth s.th n).la = false then s.onTh n (pcT · 8) else s.onTh n (pcT · 2))) (h8 : P (commitR s n)) (h9 : P ((s.toRc (lvL s.rc n)).onTh n doneT)) : P (recvN s n) := by
  unfold recvN
  by_cases c0 : (gth s.th n).pc = 0
  · rw [if_pos c0]; exact h0
  rw [if_neg c0]
  by_cases c1 : (gth s.th n).pc = 1
  · rw [if_pos c1]; exact h1
  rw [if_neg c1]
  by_cases c2 : (gth s.th n).pc = 2
  · rw [if_pos c2]; exact h2
  rw [if_neg c2]
  by_cases c3 : (gth s.th n).pc = 3
  · rw [if_pos c3]; exact h3
  rw [if_neg c3]
  by_cases c4 : (gth s.th n).pc = 4
  · rw [if_pos c4]; exact h4
  rw [if_neg c4]
  by_cases c5 : (gth s.th n).pc = 5
  · rw [if_pos c5]; exact h5
  rw [if_neg c5]
  by_cases c6 : (gth s.th n).pc = 6
  · rw [if_pos c6]; exact h6
  rw [if_neg c6]
  by_cases c7 : (gth s.th n).pc = 7
  · rw [if_pos c7]; exact h7
  rw [if_neg c7]
  by_cases c8 : (gth s.th n).pc = 8
  · rw [if_pos c8]; exact h8
  rw [if_neg c8]
  exact h9
theorem recvN_0 {s : St} {n : Nat} (h : (gth s.th n).pc = 0) : recvN s n = (s.toRc (entL s.rc n)).onTh n (pcT · 1) := by unfold recvN; rw [h]; rfl
theorem recvN_1 {s : St} {n : Nat} (h : (gth s.th n).pc = 1) : recvN s n = firstR s n := by unfold recvN; rw [h]; rfl
theorem recvN_2 {s : St} {n : Nat} (h : (gth s.th n).pc = 2) : recvN s n = lookR s n := by unfold recvN; rw [h]; rfl
theorem recvN_3 {s : St} {n : Nat} (h : (gth s.th n).pc = 3) : recvN s n = takeR s n := by unfold recvN; rw [h]; rfl
theorem recvN_4 {s : St} {n : Nat} (h : (gth s.th n).pc = 4) : recvN s n = readR s n := by unfold recvN; rw [h]; rfl
theorem recvN_5 {s : St} {n : Nat} (h : (gth s.th n).pc = 5) : recvN s n = s.onTh n (seenT · s.ee 7) := by unfold recvN; rw [h]; rfl
theorem recvN_6 {s : St} {n : Nat} (h : (gth s.th n).pc = 6) : recvN s n = notifyR s n := by unfold recvN; rw [h]; rfl
theorem recvN_7 {s : St} {n : Nat} (h : (gth s.th n).pc = 7) : recvN s n = (if seesR s = 4 ∧ (gth s.th n).la = false then s.onTh n (pcT · 8) else s.onTh n (pcT · 2)) := by unfold recvN; rw [h]; rfl
theorem recvN_8 {s : St} {n : Nat} (h : (gth s.th n).pc = 8) : recvN s n = commitR s n := by unfold recvN; rw [h]; rfl
theorem recvN_9 {s : St} {n : Nat} (h : (gth s.th n).pc = 9 ∨ (gth s.th n).pc = 10 ∨ (gth s.th n).pc = 11) : recvN s n = (s.toRc (lvL s.rc n)).onTh n doneT := by unfold recvN; rcases h with h | h | h <;> rw [h] <;> rfl
/-! ### What may be stays so -/
theorem gotT_ok {t : Th} (h : thB t = true) (h1 : t.st ≠ 0) {g p : Int} (hp : 0 ≤ p ∧ p ≤ 11) : thB (gotT t g p) = true := by
  obtain ⟨st, ki, va, un, pc, re, se, tr, la, rs, go⟩ := t
  simp only [gotT] at *; rw [thB_iff] at *; omega
theorem seesR_bd (s : St) : 0 ≤ seesR s ∧ seesR s ≤ 7 := by
  unfold seesR tkR; repeat' split
  all_goals omega
/-- What one is told who looks for something. -/
theorem seesR_or {s : St} (h : stB s = true) : (seesR s = 1 ∧ s.md ≠ 2 ∧ s.hd < s.tl) ∨ (seesR s = 4 ∧ s.md = 0 ∧ s.hd = s.tl) ∨ (seesR s = 6 ∧ s.md = 1 ∧ s.hd = s.tl) ∨ (seesR s = 7 ∧ s.md = 2) := by
  have c := (word_ok h).1
  have hl := check_len c
  unfold seesR tkR haltB
  rw [c, some_iff c]
  by_cases h2 : s.md = 2
  · simp [h2]
  · by_cases hs : s.hd < s.tl
    · simp [h2, hs]
    · by_cases h1 : s.md = 1
      · simp [h1, hs]; omega
      · simp [h1, h2, hs]; omega
theorem takeW_ok {s : St} (h : stB s = true) (hs : seesR s = 1) : stB (s.toWord (s.hd + 1) s.tl s.md) = true := by
  have hl := check_len (word_ok h).1
  refine word_stB h (check_iff.2 ?_)
  rcases seesR_or h with ⟨-, h2, h3⟩ | ⟨h1, -⟩ | ⟨h1, -⟩ | ⟨h1, -⟩ <;> omega
theorem firstR_stB {s : St} (h : stB s = true) {n : Nat} (hn : n < s.th.length) (h1 : (gth s.th n).st ≠ 0) : stB (firstR s n) = true := by
  unfold firstR
  repeat' split
  · exact onTh_stB h (pcT_ok (gth_ok h hn) h1 (by decide))
  · exact told_stB h hn h1 (by decide) (by decide)
  · exact onTh_stB h (onT_ok (gth_ok h hn) h1)
theorem lookR_stB {s : St} (h : stB s = true) {n : Nat} (hn : n < s.th.length) (h1 : (gth s.th n).st ≠ 0) : stB (lookR s n) = true := by
  unfold lookR
  repeat' split
  · exact onTh_stB h (pcT_ok (gth_ok h hn) h1 (by decide))
  · exact told_stB h hn h1 (seesR_bd s) (by decide)
  · exact told_stB h hn h1 (by decide) (by decide)
  · exact told_stB h hn h1 (by decide) (by decide)
  · exact onTh_stB h (pcT_ok (gth_ok h hn) h1 (by decide))
  · exact onTh_stB h (onT_ok (gth_ok h hn) h1)
theorem gth_on {s : St} {n : Nat} (hn : n < s.th.length) (f : Th → Th) : gth (s.onTh n f).th n = f (gth s.th n) := by show gth (s.th.set n _) n = _; rw [gth_set hn, if_pos rfl]
theorem takeB_ok {s : St} (h : stB s = true) {n : Nat} (hn : n < s.th.length) (h1 : (gth s.th n).st ≠ 0) (hs : seesR s = 1) : stB ((s.toWord (s.hd + 1) s.tl s.md).onTh n (regT · s.hd 4)) = true := by
  have hl := check_len (word_ok h).1
  exact onTh_stB (takeW_ok h hs) (regT_ok (gth_ok h hn) h1 (by omega) (by decide))
theorem takeR_stB {s : St} (h : stB s = true) {n : Nat} (hn : n < s.th.length) (h1 : (gth s.th n).st ≠ 0) : stB (takeR s n) = true := by
  unfold takeR
  repeat' split
  · exact onTh_stB h (pcT_ok (gth_ok h hn) h1 (by decide))
  · exact told_stB h hn h1 (seesR_bd s) (by decide)
  · next h2 h3 =>
    have hs : seesR s = 1 := Classical.not_not.1 h3
    refine told_stB (takeB_ok h hn h1 hs) (by show n < (s.th.set n _).length; simpa using hn) ?_ (by decide) (by decide)
    have := gth_on (s := s.toWord (s.hd + 1) s.tl s.md) (n := n) hn (regT · s.hd 4)
    rw [this]; exact h1
theorem readR_stB {s : St} (h : stB s = true) {n : Nat} (hn : n < s.th.length) (h1 : (gth s.th n).st ≠ 0) : stB (readR s n) = true :=
  onTh_stB (sl_stB h (rl_len _ _) (rlL_ok (word_ok h).2.1 _)) (gotT_ok (gth_ok h hn) h1 (by decide))
theorem notifyR_stB {s : St} (h : stB s = true) {n : Nat} (hn : n < s.th.length) (h1 : (gth s.th n).st ≠ 0) : stB (notifyR s n) = true := by
  obtain ⟨-, -, d, -, e, -⟩ := full_lines h
  have h2 : stB (s.toFull (ntE s.fe s.fl) (ntL 1 s.fe s.fl)) = true := by
    refine full_stB h ?_ ?_
    · simp only [ntE, ntL, e, if_true]; exact okE_nx e (ok_drop (okE_ln e) 1)
    · simp only [ntL, e, if_true]; exact stn_sub d (ok_drop (okE_ln e) 1) (fun x hx => List.mem_of_mem_drop hx)
  have h3 : stB ((s.toFull (ntE s.fe s.fl) (ntL 1 s.fe s.fl)).onTh n (pcT · 9)) = true := onTh_stB h2 (pcT_ok (gth_ok h hn) h1 (by decide))
  unfold notifyR
  split
  · exact wake_stB h3 _
  · exact h3
theorem commitR_stB {s : St} (h : stB s = true) {n : Nat} (hn : n < s.th.length) (h1 : (gth s.th n).st ≠ 0) : stB (commitR s n) = true := by
  obtain ⟨-, -, -, c, -, e⟩ := full_lines h
  unfold commitR
  repeat' split
  · exact onTh_stB h (pcT_ok (gth_ok h hn) h1 (by decide))
  · next hb =>
    have hE : entE s.el n = 0 := by simp only [cmB, Bool.and_eq_true, beq_iff_eq] at hb; exact hb.1.2
    have h2 := stn_ent c (ok_th h hn).1
    rw [ent_yes hE] at h2
    exact onTh_stB (s := s.toEmpty s.ee (s.el ++ [(n : Int)])) (empty_stB h (okE_with e (ok_snoc hE)) h2) (parkT_ok (gth_ok h hn) h1 (by decide))
  · exact onTh_stB h (pcT_ok (gth_ok h hn) h1 (by decide))
theorem recvN_stB {s : St} (h : stB s = true) {n : Nat} (hn : n < s.th.length) (h1 : (gth s.th n).st ≠ 0) : stB (recvN s n) = true := by
  obtain ⟨-, a, -, -, -, e⟩ := full_lines h
  have he := okE_iff.1 e
  have hg := gth_ok h hn
  refine recvN_ind (P := fun u => stB u = true) ?_ ?_ ?_ ?_ ?_ ?_ ?_ ?_ ?_ ?_
  · exact onTh_stB (rc_stB h (stn_ent a (ok_th h hn).1)) (pcT_ok hg h1 (by decide))
  · exact firstR_stB h hn h1
  · exact lookR_stB h hn h1
  · exact takeR_stB h hn h1
  · exact readR_stB h hn h1
  · exact onTh_stB h (seenT_ok hg h1 (by omega) (by decide))
  · exact notifyR_stB h hn h1
  · split
    · exact onTh_stB h (pcT_ok hg h1 (by decide))
    · exact onTh_stB h (pcT_ok hg h1 (by decide))
  · exact commitR_stB h hn h1
  · exact onTh_stB (rc_stB h (stn_lv a)) (doneT_ok hg h1)
/-- What may be stays so, and what may not be is left. -/
theorem recvS_stB (s : St) (i : Int) : stB (recvS s i) = stB s := by
  unfold recvS
  split
  · next hr =>
    obtain ⟨hh, h1, -⟩ := runs_iff.1 hr
    obtain ⟨h, h2, h3⟩ := has_iff.1 hh
    rw [h]
    exact recvN_stB h (by omega) (by omega)
  · rfl

/-! ### Some steps -/
/-! ### What changes -/
theorem recvN_lgOk {s : St} {n : Nat} : LgOk s.lg (recvN s n).lg ∧ (recvN s n).cf = s.cf ∧ (recvN s n).nw = s.nw := by
  have tl : ∀ (u : St) (k r g p : Int), u.lg = s.lg → u.cf = s.cf → u.nw = s.nw → LgOk s.lg (toldS u n k r g p).lg ∧ (toldS u n k r g p).cf = s.cf ∧ (toldS u n k r g p).nw = s.nw := fun u k r g p h1 h2 h3 =>
    ⟨h1 ▸ lg_told u n k r g p, (cf_tell u n k r g).1.trans h2, (cf_tell u n k r g).2.trans h3⟩
  have no : ∀ (u : St), u.lg = s.lg → u.cf = s.cf → u.nw = s.nw → LgOk s.lg u.lg ∧ u.cf = s.cf ∧ u.nw = s.nw := fun u h1 h2 h3 => ⟨.inl h1, h2, h3⟩
  refine recvN_ind (P := fun u => LgOk s.lg u.lg ∧ u.cf = s.cf ∧ u.nw = s.nw) ?_ ?_ ?_ ?_ ?_ ?_ ?_ ?_ ?_ ?_
  all_goals (try unfold firstR); (try unfold lookR); (try unfold takeR); (try unfold readR); (try unfold notifyR); (try unfold wakeS); (try unfold commitR)
  all_goals (repeat' split) <;> first | exact tl _ _ _ _ _ rfl rfl rfl | exact no _ rfl rfl rfl
theorem recvS_lgOk (s : St) (i : Int) : LgOk s.lg (recvS s i).lg ∧ (recvS s i).cf = s.cf ∧ (recvS s i).nw = s.nw := by
  unfold recvS; split
  · exact recvN_lgOk
  · exact ⟨.inl rfl, rfl, rfl⟩
/-! ### What is told -/
end Go.Proofs.YtfhjllchbgclaaaGreat

/- Layer 15, plain: what stays in its bounds, of who receives. -/
namespace Go.Proofs.YtfhjllchbgclaaaGreat
set_option linter.unusedVariables false
set_option linter.unusedSimpArgs false
open Go.RowKit
/-! ### What stays in its bounds -/
theorem recvN_vk {s : St} {n : Nat} (h : Vk s) (hB : stB s = true) (hn : n < s.th.length) (h1 : (gth s.th n).st ≠ 0) : Vk (recvN s n) := by
  have same : ∀ {u : St}, u.cf = s.cf → u.sl = s.sl → u.th = s.th → Vk u := fun e1 e2 e3 => ⟨e1 ▸ h.cf, fun x hx => h.sl x (e2 ▸ hx), fun t ht => h.th t (e3 ▸ ht)⟩
  have h0 : (0 : Int) = 0 := rfl
  have z : In64 0 := by decide
  refine recvN_ind (P := fun u => Vk u) ?_ ?_ ?_ ?_ ?_ ?_ ?_ ?_ ?_ ?_
  · exact (same (u := s.toRc (entL s.rc n)) rfl rfl rfl).on hn fun _ => ⟨rfl, rfl⟩
  · unfold firstR; repeat' split
    · exact h.on hn fun _ => ⟨rfl, rfl⟩
    · exact h.told hB hn (.inr z)
    · exact h.on hn fun _ => ⟨rfl, rfl⟩
  · unfold lookR; repeat' split
    · exact h.on hn fun _ => ⟨rfl, rfl⟩
    · exact h.told hB hn (.inr z)
    · exact h.told hB hn (.inr z)
    · exact h.told hB hn (.inr z)
    · exact h.on hn fun _ => ⟨rfl, rfl⟩
    · exact h.on hn fun _ => ⟨rfl, rfl⟩
  · unfold takeR; repeat' split
    · exact h.on hn fun _ => ⟨rfl, rfl⟩
    · exact h.told hB hn (.inr z)
    · next h2 h3 =>
      have hs : seesR s = 1 := Classical.not_not.1 h3
      have hv : Vk ((s.toWord (s.hd + 1) s.tl s.md).onTh n (regT · s.hd 4)) := (same (u := s.toWord (s.hd + 1) s.tl s.md) rfl rfl rfl).on hn fun _ => ⟨rfl, rfl⟩
      refine hv.told (takeB_ok hB hn h1 hs) (by show n < (s.th.set n _).length; simpa using hn) (.inr ?_)
      have hg : ∀ q, In64 (gs s.sl q).vl := fun q => by
        unfold gs
        rw [List.getD_eq_getElem?_getD]
        cases hx : s.sl[q]? with
        | none => exact z
        | some x => exact h.sl x (List.mem_of_getElem? hx)
      unfold valV
      repeat' split
      all_goals first | exact z | exact hg _
  · unfold readR
    have hsl : ∀ x ∈ rlL s.sl (gth s.th n).re, In64 x.vl := fun x hx => by
      unfold rlL at hx
      split at hx
      · rcases List.mem_or_eq_of_mem_set hx with h2 | rfl
        · exact h.sl x h2
        · show In64 (gs s.sl _).vl
          unfold gs
          rw [List.getD_eq_getElem?_getD]
          cases hx : s.sl[plc s.sl (gth s.th n).re]? with
          | none => exact z
          | some x => exact h.sl x (List.mem_of_getElem? hx)
      · exact h.sl x hx
    have hv : Vk (s.toSl (rlL s.sl (gth s.th n).re)) := ⟨h.cf, hsl, h.th⟩
    refine hv.set ⟨(h.th _ (gth_mem hn)).1, ?_⟩
    show In64 (rdV s.sl (gth s.th n).re)
    unfold rdV
    split
    · unfold gs
      rw [List.getD_eq_getElem?_getD]
      cases hx : s.sl[plc s.sl (gth s.th n).re]? with
      | none => exact z
      | some x => exact h.sl x (List.mem_of_getElem? hx)
    · exact z
  · exact h.on hn fun _ => ⟨rfl, rfl⟩
  · have hv : Vk ((s.toFull (ntE s.fe s.fl) (ntL 1 s.fe s.fl)).onTh n (pcT · 9)) := (same (u := s.toFull (ntE s.fe s.fl) (ntL 1 s.fe s.fl)) rfl rfl rfl).on hn fun _ => ⟨rfl, rfl⟩
    unfold notifyR; split
    · exact hv.wake _
    · exact hv
  · split <;> exact h.on hn fun _ => ⟨rfl, rfl⟩
  · unfold commitR; repeat' split
    · exact h.on hn fun _ => ⟨rfl, rfl⟩
    · exact (same (u := s.toEmpty s.ee (s.el ++ [(n : Int)])) rfl rfl rfl).on hn fun _ => ⟨rfl, rfl⟩
    · exact h.on hn fun _ => ⟨rfl, rfl⟩
  · exact (same (u := s.toRc (lvL s.rc n)) rfl rfl rfl).on hn fun _ => ⟨rfl, rfl⟩
theorem recvS_is {s : St} {n : Nat} (h : runsB s n 2 = true) : recvS s n = recvN s n := by unfold recvS; rw [if_pos h, Int.toNat_natCast]
theorem recvS_all {s : St} (hB : stB s = true) (ho : s.ok) (hl : s.lg.length ≤ 900000) (i : Int) : (recvS s i).ok ∧ (recvS s i).lg.length ≤ s.lg.length + 1 := by
  have hlg : (recvS s i).lg.length ≤ s.lg.length + 1 := by
    rcases (recvS_lgOk s i).1 with h | ⟨x, h⟩ <;> rw [h] <;> simp
  refine ⟨?_, hlg⟩
  cases hr : runsB s i 2
  · have : recvS s i = s := by simp [recvS, hr]
    rw [this]; exact ho
  · obtain ⟨h1, h2, h3⟩ := runs_iff.1 hr
    obtain ⟨-, hi0, hi1⟩ := has_iff.1 h1
    obtain ⟨n, rfl⟩ : ∃ n : Nat, i = n := ⟨i.toNat, by omega⟩
    have hn : n < s.th.length := by omega
    rw [Int.toNat_natCast] at h2
    rw [recvS_is hr] at hlg ⊢
    exact ok_of (recvN_stB hB hn (by omega)) (recvN_vk (.of ho) hB hn (by omega)) (by omega)
end Go.Proofs.YtfhjllchbgclaaaGreat

/- Layer 14's first law (SendTells): its walk, by contracts told by abstract values. -/
namespace Go.Proofs.YtfhjllchbgclaaaGreat
set_option linter.unusedVariables false
set_option linter.unusedSimpArgs false
open Go.RowKit
theorem ask_bb {a b : Bool} (h : a = b) (x y : Operand) : AskP Tryz.prog (.binOp .eql 4 x y 4) [.bool a, .bool b] (.bool true) := by
  intro W o f ho hm
  obtain ⟨h1, h2⟩ := two_is hm
  subst h
  have hu : Tryz.prog.underlying 4 = some .bool := by kernel_rfl
  have : (binOp .eql 4 (.bool a) (.bool a)).run Tryz.prog W = .ok (.bool true) W := by
    have h := run_equalIn_bool' (P := Tryz.prog) W 9999 4 a a hu
    have h' : (Op.equal 4 (.bool a) (.bool a)).run Tryz.prog W = .ok true W := by
      unfold Op.equal Op.maxDepth
      rw [h]; simp
    simp [binOp, h']
  simp [execOp, ho, h1, h2, eqGuard, this]
section
variable {s u v : St} {i m pc : Int} {k : Nat}
end
end Go.Proofs.YtfhjllchbgclaaaGreat

/- What the laws of layer 14 share: values stay in their bounds, whatever steps there are. -/
namespace Go.Proofs.YtfhjllchbgclaaaGreat
set_option linter.unusedVariables false
set_option linter.unusedSimpArgs false
open Go.ChangeShapes Go.WideShapes Go.ChangeAt Go.RowKit
theorem sendS_all {s : St} (hB : stB s = true) (ho : s.ok) (hl : s.lg.length ≤ 900000) (i : Int) : (sendS s i).ok ∧ (sendS s i).lg.length ≤ s.lg.length + 1 := by
  cases hr : runsB s i 1
  · have : sendS s i = s := by simp [sendS, hr]
    rw [this]; exact ⟨ho, by omega⟩
  · obtain ⟨h1, h2, h3⟩ := runs_iff.1 hr
    obtain ⟨-, hi0, hi1⟩ := has_iff.1 h1
    obtain ⟨n, rfl⟩ : ∃ n : Nat, i = n := ⟨i.toNat, by omega⟩
    have hn : n < s.th.length := by omega
    rw [Int.toNat_natCast] at h2
    rw [sendS_is hr]
    have hg := sendN_lg hB hn
    exact ⟨ok_of (sendN_stB hB hn (by omega)) (sendN_vk (.of ho) hB hn (by omega)) (by omega), hg⟩
end Go.Proofs.YtfhjllchbgclaaaGreat

/- Layer 17, plain: a pick, some, rounds; who is active. -/
namespace Go.Proofs.YtfhjllchbgclaaaGreat
set_option linter.unusedVariables false
set_option linter.unusedSimpArgs false
/-- The error that who picks a thread is told. -/
def pickE (s : St) (i : Int) : Int := if stB s = false then 20 else if i < 0 ∨ (s.th.length : Int) ≤ i then 123 else thRuns (gth s.th i.toNat).st
/-- The same, with another log. -/
def St.toLg (s : St) (l : List En) : St := ⟨s.cf, s.hd, s.tl, s.md, s.sl, s.sn, s.rc, s.fe, s.fl, s.ee, s.el, s.nw, s.th, l⟩
/-- A step by what a thread does, of whatever side it is. -/
def stepD (s : St) (i : Int) : St := if opSide (gth s.th i.toNat).ki = 1 then sendS s i else if opSide (gth s.th i.toNat).ki = 2 then recvS s i else closeS s i
/-- A step of a thread that runs: what was told before is put aside. -/
def stepS (s : St) (i : Int) : St := (stepD (s.toLg []) i).toLg (s.lg ++ (stepD (s.toLg []) i).lg)
def pickS (s : St) (i : Int) : St := if pickE s i = 0 then stepS s i else s
def okN (e : Int) : Nat := if e = 0 then 1 else 0
/-- Some picks, and how many had no error. -/
def someS : St → List Int → St × Nat
  | s, [] => (s, 0)
  | s, i :: l => ((someS (pickS s i) l).1, (someS (pickS s i) l).2 + okN (pickE s i))
theorem pick_no {s : St} {i : Int} (h : pickE s i ≠ 0) : pickS s i = s := if_neg h
theorem pick_yes {s : St} {i : Int} (h : pickE s i = 0) : pickS s i = stepS s i := if_pos h
theorem OthM.of {l m : List Th} {i : Int} (h : Oth l m i) : OthM l m i := ⟨h.len, fun j hj hne => by
  obtain ⟨w, hw⟩ := h.one
  rcases hw j hj hne with e | ⟨-, e⟩
  · exact .inl e
  · exact .inr e⟩
theorem stepD_wk {s : St} {N : Nat} (h : Wk s N) (hN : N ≤ 900000) (i : Int) : Wk (stepD s i) (N + 1) := by
  have ho := h.ok (by omega)
  have hl := h.l
  unfold stepD; split
  · obtain ⟨a, b⟩ := sendS_all h.b ho (by omega) i
    exact ⟨(sendS_stB s i).trans h.b, .of a, by omega⟩
  · split
    · obtain ⟨a, b⟩ := recvS_all h.b ho (by omega) i
      exact ⟨(recvS_stB s i).trans h.b, .of a, by omega⟩
    · exact closeS_wk h i
theorem wk_lg {s : St} {N : Nat} (h : Wk s N) : Wk (s.toLg []) 0 := ⟨h.b, ⟨h.v.cf, h.v.sl, h.v.th⟩, by show (0 : Nat) ≤ 0; omega⟩
theorem step_wk {s : St} {N : Nat} (h : Wk s N) (i : Int) : Wk (stepS s i) (N + 1) := by
  have w := stepD_wk (wk_lg h) (by omega) i
  have := w.l
  have := h.l
  exact ⟨w.b, ⟨w.v.cf, w.v.sl, w.v.th⟩, by show (s.lg ++ (stepD (s.toLg []) i).lg).length ≤ N + 1; rw [List.length_append]; omega⟩
theorem pick_wk {s : St} {N : Nat} (h : Wk s N) (i : Int) : Wk (pickS s i) (N + 1) := by
  unfold pickS; split
  · exact step_wk h i
  · exact ⟨h.b, h.v, by have := h.l; omega⟩
theorem some_wk : ∀ (l : List Int) {s : St} {N : Nat}, Wk s N → Wk (someS s l).1 (N + l.length)
  | [], s, N, h => h
  | i :: l, s, N, h => by
    have := some_wk l (pick_wk h i)
    exact ⟨this.b, this.v, by have := this.l; show (someS (pickS s i) l).1.lg.length ≤ N + (l.length + 1); omega⟩
theorem some_no {s : St} : ∀ {l : List Int}, (∀ i ∈ l, pickE s i ≠ 0) → someS s l = (s, 0)
  | [], _ => rfl
  | i :: l, h => by
    have e := h i List.mem_cons_self
    show ((someS (pickS s i) l).1, (someS (pickS s i) l).2 + okN (pickE s i)) = _
    rw [pick_no e, some_no fun j hj => h j (List.mem_cons_of_mem _ hj)]
    unfold okN; rw [if_neg e]
end Go.Proofs.YtfhjllchbgclaaaGreat

/- Layer 17: what is known at the heads of the loops of Some and Rounds. -/
namespace Go.Proofs.YtfhjllchbgclaaaGreat
set_option linter.unusedVariables false
set_option linter.unusedSimpArgs false
open Go.RowKit
/-- A state's cells but for its log. -/
def stW (s : St) (v : Value) : List Value := [.int .i64 s.cf.lg, .int .i64 s.cf.th, .int .i64 s.cf.po, .int .i64 s.cf.wt, .int .i64 s.cf.sp, .int .i64 s.cf.yi, .bool s.cf.si, .int .i64 s.hd, .int .i64 s.tl, .int .i64 s.md, rowS s.sl, rowI s.sn, rowI s.rc, .int .i64 s.fe, rowI s.fl, .int .i64 s.ee, rowI s.el, .int .i64 s.nw, rowT s.th, v]
def bSt (s : St) (v : Value) : Option Blk := some ⟨true, false, 20, 1, [.agg (stW s v).toArray]⟩
def bLg (l : List En) : Option Blk := some ⟨true, true, 5, l.length, l.map enT⟩
def b1P (v : Value) : Option Blk := some ⟨true, false, 1, 1, [v]⟩
def lgO (l : List En) : Value := .slice (some ⟨8, 0, some 0⟩) l.length 0
def lgN : Value := .slice none 0 0
/-- A side, as the map has it. -/
def sdV (f : FuncId) : Value := .agg #[.func (.func f) #[] #[]]
def bSd : Option Blk := some ⟨true, false, 0, 0, [.agg #[.int .i64 1, sdV 126], .agg #[.int .i64 2, sdV 127], .agg #[.int .i64 3, sdV 128]]⟩
/-- Its blocks: the state, the answer, the state's name twice, whether it may be, the sides, why not, the sides' name. -/
def pkH (s : St) (b : Bool) (v : Value) : List (Option Blk) := [bSt s v, bZ, b1P (pt 0), b1P (pt 0), b1P (vD b), bSd, b1P (.func (.func 124) #[] #[pt 4, pt 3]), b1P (.map (some 5))]
def hO (s : St) (b : Bool) : List (Option Blk) := pkH s b (lgO s.lg) ++ [bLg s.lg]
def hN (s : St) (b : Bool) : List (Option Blk) := pkH s b lgN
def pkF : Value := .func (.func 99) #[] #[pt 6, pt 7, pt 2]
/-- In Some, at its loop's head. -/
def smTl (l : List Int) (o j : Int) : List (Nat × Value) := [(4, pt 1), (6, pt 0), (7, pkF), (8, .int .i64 o), (14, rowI l), (15, .int .i64 l.length), (16, .int .i64 j)]
def smT (l : List Int) (o j : Int) : List Value := mkT 29 (smTl l o j)
def pkX : List FuncId := [53, 22, 125, 93, 126, 127, 128]
end Go.Proofs.YtfhjllchbgclaaaGreat

/- The program's receive: what is known at the head of its loop. -/
namespace Go.Proofs.YtfhjllchbgclaaaGreat
set_option linter.unusedVariables false
set_option linter.unusedSimpArgs false
open Go.RowKit
/-- What the map of steps holds: a closure on to one step, and a method value. -/
def vClo (x : Nat) (b : Value) (g : Nat) (k : Int) : Value := .func (.func 175) #[] #[vFz [.func (.func g) #[pt x] #[]], b, vFz [.int .i64 k]]
def vMet (x : Nat) (g : Nat) : Value := .func (.func g) #[pt x] #[]
def vEn (k : Int) (v : Value) : Value := .agg #[.int .i64 k, v]
def els9 (x : Nat) (b : Value) : List Value := [vEn 0 (vClo x b 177 1), vEn 1 (vMet x 178), vEn 2 (vMet x 179), vEn 3 (vMet x 180), vEn 4 (vClo x b 181 6), vEn 5 (vClo x b 182 7), vEn 6 (vClo x b 183 9), vEn 7 (vMet x 184), vEn 8 (vMet x 185)]
def bMp (x : Nat) (b : Value) : Option Blk := some ⟨true, false, 0, 0, els9 x b ++ [vEn 9 (vMet x 186), vEn 10 (vMet x 186), vEn 11 (vMet x 186)]⟩
def bBx (x : Nat) : Option Blk := some ⟨true, false, 1, 1, [pt x]⟩
/-- At the head of the loop: many m, often o. -/
def hdV (s : St) (i m o : Int) (N : Nat) : Sg := ⟨mkT 41 [(2, .int .i64 m), (6, pt 2), (8, pt 0), (9, .map (some 4)), (10, .int .i64 o)], [bX s i N, bT s.th N, bZ, bBx 0, bMp 0 (pt 3)]⟩
/-- One more round: thread n, at step c, receives. -/
structure Rv (s : St) (n : Nat) (t : Th) (c m o : Int) : Prop where
  lt : decide (o < min m 1000) = true
  ck : stB s = true
  ok : s.ok
  hn : n < s.th.length
  ht : gth s.th n = pcT t c
  rs : thRuns t.st = 0
  sd : opSide t.ki = 2
  fit : s.fit
  o1 : In64 (o + 1)
section
variable {s : St} {n : Nat} {t : Th} {c m o : Int}
theorem Rv.ge (_h : Rv s n t c m o) : decide ((n : Int) < 0) = false := by simp
theorem Rv.le (h : Rv s n t c m o) : decide ((s.th.length : Int) ≤ n) = false := by have := h.hn; simp; omega
theorem Rv.el (h : Rv s n t c m o) : ElP (s.th.map thT) (0 + (n : Int).toNat) (thT (pcT t c)) := h.ht ▸ elT h.hn
theorem Rv.ru (h : Rv s n t c m o) : AC Tryz.prog 125 [thT (pcT t c)] (.int .i64 0) := ac_pruns (t := pcT t c) h.rs
theorem Rv.si (h : Rv s n t c m o) : AC Tryz.prog 93 [.int .i64 (pcT t c).ki] (.int .i64 2) := by have := ac_pside (pcT t c).ki; exact h.sd ▸ this
theorem Rv.id (h : Rv s n t c m o) : 0 ≤ (n : Int) ∧ (n : Int).toNat < s.th.length := idT h.hn
theorem Rv.ln (_h : Rv s n t c m o) : LenP s.th.length s.th.length (s.th.map thT) := len_map s.th
theorem Rv.pa {B : Prop} (h : Rv s n t c m o) (k : B) : decide (o < min m 1000) = true ∧ LenP s.th.length s.th.length (s.th.map thT) ∧ AC Tryz.prog 22 [stT s] (.bool true) ∧ decide ((n : Int) < 0) = false ∧ decide ((s.th.length : Int) ≤ n) = false ∧ (0 ≤ (n : Int) ∧ (n : Int).toNat < s.th.length) ∧ ElP (s.th.map thT) (0 + (n : Int).toNat) (thT (pcT t c)) ∧ AC Tryz.prog 125 [thT (pcT t c)] (.int .i64 0) ∧ (0 ≤ (n : Int) ∧ (n : Int).toNat < s.th.length) ∧ ElP (s.th.map thT) (0 + (n : Int).toNat) (thT (pcT t c)) ∧ AC Tryz.prog 93 [.int .i64 (pcT t c).ki] (.int .i64 2) ∧ (0 ≤ (n : Int) ∧ (n : Int).toNat < s.th.length) ∧ ElP (s.th.map thT) (0 + (n : Int).toNat) (thT (pcT t c)) ∧ B := an h.lt <| an h.ln <| an (ac_pcheck h.ck h.ok) <| an h.ge <| an h.le <| an h.id <| an h.el <| an h.ru <| an h.id <| an h.el <| an h.si <| an h.id <| an h.el k
theorem Rv.ln1 (_h : Rv s n t c m o) (u : Th) : LenP s.th.length (s.th.set n u).length ((s.th.set n u).map thT) := ⟨by simp, by simp⟩
theorem Rv.has (h : Rv s n t c m o) : hasB s n = true := has_iff.2 ⟨h.ck, by omega, by have := h.hn; omega⟩
theorem Rv.nk (h : Rv s n t c m o) : (t.ki != 9) = true := by
  have := h.sd
  by_cases e : t.ki = 9
  · rw [e] at this; exact absurd this (by decide)
  · simp [e]
theorem Rv.tell {r : Int} (h : Rv s n t c m o) : AO Tryz.prog 208 [stT s, .int .i64 n, .int .i64 t.ki, .int .i64 r, .int .i64 0] (stL ((s.setTh n (rgT (pcT t c) r 0)).addLg (tlE s n t.ki r 0))) 18 11 := tell_c h.has h.ht h.nk h.ok h.fit
theorem Rv.ids (h : Rv s n t c m o) (u : Th) : 0 ≤ (n : Int) ∧ (n : Int).toNat < (s.th.set n u).length := idT (by rw [List.length_set]; exact h.hn)
theorem Rv.idw (h : Rv s n t c m o) (q : Nat) (u : Th) : 0 ≤ (n : Int) ∧ (n : Int).toNat < (s.th.set q u).length := idT (by rw [List.length_set]; exact h.hn)
theorem Rv.ids2 (h : Rv s n t c m o) (u v : Th) : 0 ≤ (n : Int) ∧ (n : Int).toNat < ((s.th.set n u).set n v).length := idT (by rw [List.length_set, List.length_set]; exact h.hn)
theorem Rv.el22 (h : Rv s n t c m o) (u v : Th) : ElP (((s.th.set n u).set n v).map thT) (0 + (n : Int).toNat) (thT v) := el2 (by rw [List.length_set]; exact h.hn) v
theorem Rv.el23 (h : Rv s n t c m o) (u v w : Th) : ElP ((((s.th.set n u).set n v).set n w).map thT) (0 + (n : Int).toNat) (thT w) := el2 (by rw [List.length_set, List.length_set]; exact h.hn) w
theorem Rv.len (h : Rv s n t c m o) : In64 (s.sl.length : Int) := by have := h.fit.sl; constructor <;> omega
theorem Rv.sees {r : Int} (h : Rv s n t c m o) (hs : seesR s = r) : AC Tryz.prog 221 [wdT s.hd s.tl s.md, .int .i64 s.sl.length] (.tuple #[.int .i64 (seesS s), .int .i64 r]) := hs ▸ ac_psees s.hd s.tl s.md s.sl.length h.ok.hd h.ok.tl h.ok.md h.len
theorem Rv.take {r v p : Int} (h : Rv s n t c m o) (hs : seesR s = r) (hH : tkH s.hd s.tl s.md s.sl.length = v) (hP : tkP s.hd s.tl s.md s.sl.length = p) : AC Tryz.prog 215 [wdT s.hd s.tl s.md, .int .i64 s.sl.length] (.tuple #[wdT v s.tl s.md, .int .i64 p, .int .i64 r]) := hs ▸ hH ▸ hP ▸ ew_take h.ok.hd h.ok.tl h.ok.md h.len
theorem Rv.tell3 {g : Int} (h : Rv s n t c m o) (hA : hasB ((s.toWord (s.hd + 1) s.tl s.md).setTh n (regT t s.hd 3)) n = true) (ho : ((s.toWord (s.hd + 1) s.tl s.md).setTh n (regT t s.hd 3)).ok) (hf : ((s.toWord (s.hd + 1) s.tl s.md).setTh n (regT t s.hd 3)).fit) :
    AO Tryz.prog 208 [stT ((s.toWord (s.hd + 1) s.tl s.md).setTh n (regT t s.hd 3)), .int .i64 n, .int .i64 t.ki, .int .i64 1, .int .i64 g] (stL ((((s.toWord (s.hd + 1) s.tl s.md).setTh n (regT t s.hd 3)).setTh n (rgT (regT t s.hd 3) 1 g)).addLg (tlE ((s.toWord (s.hd + 1) s.tl s.md).setTh n (regT t s.hd 3)) n t.ki 1 g))) 18 11 := by
  have := ao_tell (k := t.ki) (r := 1) (g := g) hA h.nk ho hf
  rw [show gth ((s.toWord (s.hd + 1) s.tl s.md).setTh n (regT t s.hd 3)).th n = regT t s.hd 3 from by show gth (s.th.set n _) n = _; rw [gth_set h.hn, if_pos rfl]] at this
  exact this
end
end Go.Proofs.YtfhjllchbgclaaaGreat

/- The program's receive, round by round: what each does, told by plain states. -/
namespace Go.Proofs.YtfhjllchbgclaaaGreat
set_option linter.unusedVariables false
set_option linter.unusedSimpArgs false
open Go.RowKit
section
variable {s : St} {n : Nat} {t : Th} {m o : Int} {x : Exit} {S : Sg}
set_option maxRecDepth 100000
theorem lv_enter (h : Rv s n t 0 m o) (hm : s.rc.length ≤ 999999) (hL : LoopP Tryz.prog (loopOf Tryz.prog 143 0) (hdV ((s.toRc (entL s.rc n)).setTh n (pcT t 1)) n m (o + 1) (s.th.length)) x S) : LoopP Tryz.prog (loopOf Tryz.prog 143 0) (hdV s n m o s.th.length) x S :=
  loop_more mixed (fuel := 9) (n := 12) (im := [0, 1, 2, 3, 4]) (keep := [2, 6, 8, 9, 10]) (ext := [22, 125, 93, 192]) (orc := sPO t 0 2 ++ [.tuple #[rowI (entL s.rc n), .int .i64 (entE s.rc n)], thT (pcT t 0), vRow s.th.length ((s.th.set n (pcT t 1)).map thT)])
    (h.pa <| an (ac_penter s.rc n hm) <| an (h.id) <| an (h.el) <| an (setT s.th n (pcT t 1)) <|  an h.o1 trivial) (by kernel_rfl) hL
theorem lv_first (h : Rv s n t 1 m o) (hp : (plI s.rc n == 0) = true) (hL : LoopP Tryz.prog (loopOf Tryz.prog 143 0) (hdV (s.setTh n (pcT t 2)) n m (o + 1) (s.th.length)) x S) : LoopP Tryz.prog (loopOf Tryz.prog 143 0) (hdV s n m o s.th.length) x S :=
  loop_more mixed (fuel := 9) (n := 12) (im := [0, 1, 2, 3, 4]) (keep := [2, 6, 8, 9, 10]) (ext := [22, 125, 93, 194]) (orc := sPO t 1 2 ++ [vD true, thT (pcT t 1), vRow s.th.length ((s.th.set n (pcT t 2)).map thT)])
    (h.pa <| an (ac_pfirst hp) <| an (h.id) <| an (h.el) <| an (setT s.th n (pcT t 2)) <|  an h.o1 trivial) (by kernel_rfl) hL
theorem lv_firstL (h : Rv s n t 1 m o) (hp : (plI s.rc n == 0) = false) (hl : t.la = true) (hL : LoopP Tryz.prog (loopOf Tryz.prog 143 0) (hdV (((s.setTh n (rgT (pcT t 1) 5 0)).addLg (tlE s n t.ki 5 0)).setTh n (pcT (rgT t 5 0) 9)) n m (o + 1) ((s.th.set n (rgT (pcT t 1) 5 0)).length)) x S) : LoopP Tryz.prog (loopOf Tryz.prog 143 0) (hdV s n m o s.th.length) x S :=
  loop_more mixed (fuel := 9) (n := 12) (im := [0, 5, 2, 3, 4]) (keep := [2, 6, 8, 9, 10]) (ext := [22, 125, 93, 194, 208]) (orc := sPO t 1 2 ++ [vD false, thT (pcT t 1), .bool true, thT (pcT t 1), .iface 1000004 (.func (.yield 18) #[.agg (stL ((s.setTh n (rgT (pcT t 1) 5 0)).addLg (tlE s n t.ki 5 0))), .int .i64 11] #[]), thT (rgT (pcT t 1) 5 0), vRow (s.th.set n (rgT (pcT t 1) 5 0)).length (((s.th.set n (rgT (pcT t 1) 5 0)).set n (pcT (rgT t 5 0) 9)).map thT)])
    (h.pa <| an (ac_pfirst hp) <| an (h.id) <| an (h.el) <| an (hl) <| an (h.id) <| an (h.el) <| an (h.ln) <| an (h.tell (r := 5)) <| an (h.ids (rgT (pcT t 1) 5 0)) <| an (el2 h.hn (rgT (pcT t 1) 5 0)) <| an (setT (s.th.set n (rgT (pcT t 1) 5 0)) n (pcT (rgT t 5 0) 9)) <|  an h.o1 trivial) (by kernel_rfl) hL
theorem lv_firstT (h : Rv s n t 1 m o) (hp : (plI s.rc n == 0) = false) (hl : t.la = false) (hr : In64 (t.tr + 1)) (hL : LoopP Tryz.prog (loopOf Tryz.prog 143 0) (hdV (s.setTh n (tryT (pcT t 1))) n m (o + 1) (s.th.length)) x S) : LoopP Tryz.prog (loopOf Tryz.prog 143 0) (hdV s n m o s.th.length) x S :=
  loop_more mixed (fuel := 9) (n := 12) (im := [0, 1, 2, 3, 4]) (keep := [2, 6, 8, 9, 10]) (ext := [22, 125, 93, 194]) (orc := sPO t 1 2 ++ [vD false, thT (pcT t 1), .bool false, thT (pcT t 1), thT (pcT t 1), vRow s.th.length ((s.th.set n (tryT (pcT t 1))).map thT)])
    (h.pa <| an (ac_pfirst hp) <| an (h.id) <| an (h.el) <| an (hl) <| an (h.id) <| an (h.el) <| an (hr) <| an (h.el) <| an (setT s.th n (tryT (pcT t 1))) <|  an h.o1 trivial) (by kernel_rfl) hL
theorem lv_lookR (h : Rv s n t 2 m o) (hs : seesR s = 1) (hL : LoopP Tryz.prog (loopOf Tryz.prog 143 0) (hdV (s.setTh n (pcT t 3)) n m (o + 1) (s.th.length)) x S) : LoopP Tryz.prog (loopOf Tryz.prog 143 0) (hdV s n m o s.th.length) x S :=
  loop_more mixed (fuel := 9) (n := 12) (im := [0, 1, 2, 3, 4]) (keep := [2, 6, 8, 9, 10]) (ext := [22, 125, 93, 221]) (orc := sPO t 2 2 ++ [.tuple #[.int .i64 (seesS s), .int .i64 1], .nilFunc, thT (pcT t 2), vRow s.th.length ((s.th.set n (pcT t 3)).map thT)])
    (h.pa <| an (h.sees hs) <| an (h.id) <| an (h.el) <| an (setT s.th n (pcT t 3)) <|  an h.o1 trivial) (by kernel_rfl) hL
theorem lv_lookB (h : Rv s n t 2 m o) (hs : seesR s = 4) (hk : opOnce t.ki = true) (hL : LoopP Tryz.prog (loopOf Tryz.prog 143 0) (hdV (((s.setTh n (rgT (pcT t 2) 4 0)).addLg (tlE s n t.ki 4 0)).setTh n (pcT (rgT t 4 0) 9)) n m (o + 1) ((s.th.set n (rgT (pcT t 2) 4 0)).length)) x S) : LoopP Tryz.prog (loopOf Tryz.prog 143 0) (hdV s n m o s.th.length) x S :=
  loop_more mixed (fuel := 9) (n := 12) (im := [0, 5, 2, 3, 4]) (keep := [2, 6, 8, 9, 10]) (ext := [22, 125, 93, 221, 208, 238]) (orc := sPO t 2 2 ++ [.tuple #[.int .i64 (seesS s), .int .i64 4], .nilFunc, .nilFunc, thT (pcT t 2), vD true, thT (pcT t 2), .iface 1000004 (.func (.yield 18) #[.agg (stL ((s.setTh n (rgT (pcT t 2) 4 0)).addLg (tlE s n t.ki 4 0))), .int .i64 11] #[]), thT (rgT (pcT t 2) 4 0), vRow (s.th.set n (rgT (pcT t 2) 4 0)).length (((s.th.set n (rgT (pcT t 2) 4 0)).set n (pcT (rgT t 4 0) 9)).map thT)])
    (h.pa <| an (h.sees hs) <| an (h.id) <| an (h.el) <| an (ac_ponce hk) <| an (h.id) <| an (h.el) <| an (h.ln) <| an (h.tell (r := 4)) <| an (h.ids (rgT (pcT t 2) 4 0)) <| an (el2 h.hn (rgT (pcT t 2) 4 0)) <| an (setT (s.th.set n (rgT (pcT t 2) 4 0)) n (pcT (rgT t 4 0) 9)) <|  an h.o1 trivial) (by kernel_rfl) hL
theorem lv_lookL (h : Rv s n t 2 m o) (hs : seesR s = 4) (hk : opOnce t.ki = false) (hl : t.la = true) (hL : LoopP Tryz.prog (loopOf Tryz.prog 143 0) (hdV (((s.setTh n (rgT (pcT t 2) 5 0)).addLg (tlE s n t.ki 5 0)).setTh n (pcT (rgT t 5 0) 9)) n m (o + 1) ((s.th.set n (rgT (pcT t 2) 5 0)).length)) x S) : LoopP Tryz.prog (loopOf Tryz.prog 143 0) (hdV s n m o s.th.length) x S :=
  loop_more mixed (fuel := 9) (n := 12) (im := [0, 5, 2, 3, 4]) (keep := [2, 6, 8, 9, 10]) (ext := [22, 125, 93, 221, 208, 238]) (orc := sPO t 2 2 ++ [.tuple #[.int .i64 (seesS s), .int .i64 4], .nilFunc, .nilFunc, thT (pcT t 2), vD false, thT (pcT t 2), .bool true, thT (pcT t 2), .iface 1000004 (.func (.yield 18) #[.agg (stL ((s.setTh n (rgT (pcT t 2) 5 0)).addLg (tlE s n t.ki 5 0))), .int .i64 11] #[]), thT (rgT (pcT t 2) 5 0), vRow (s.th.set n (rgT (pcT t 2) 5 0)).length (((s.th.set n (rgT (pcT t 2) 5 0)).set n (pcT (rgT t 5 0) 9)).map thT)])
    (h.pa <| an (h.sees hs) <| an (h.id) <| an (h.el) <| an (ac_ponce hk) <| an (h.el) <| an (hl) <| an (h.id) <| an (h.el) <| an (h.ln) <| an (h.tell (r := 5)) <| an (h.ids (rgT (pcT t 2) 5 0)) <| an (el2 h.hn (rgT (pcT t 2) 5 0)) <| an (setT (s.th.set n (rgT (pcT t 2) 5 0)) n (pcT (rgT t 5 0) 9)) <|  an h.o1 trivial) (by kernel_rfl) hL
theorem lv_lookP (h : Rv s n t 2 m o) (hs : seesR s = 4) (hk : opOnce t.ki = false) (hl : t.la = false) (hn : waySt s (max t.tr 0) = 2) (hL : LoopP Tryz.prog (loopOf Tryz.prog 143 0) (hdV (s.setTh n (pcT t 5)) n m (o + 1) (s.th.length)) x S) : LoopP Tryz.prog (loopOf Tryz.prog 143 0) (hdV s n m o s.th.length) x S :=
  loop_more mixed (fuel := 9) (n := 12) (im := [0, 1, 2, 3, 4]) (keep := [2, 6, 8, 9, 10]) (ext := [22, 125, 93, 221, 238, 239]) (orc := sPO t 2 2 ++ [.tuple #[.int .i64 (seesS s), .int .i64 4], .nilFunc, .nilFunc, thT (pcT t 2), vD false, thT (pcT t 2), .bool false, thT (pcT t 2), .int .i64 2, .nilFunc, thT (pcT t 2), vRow s.th.length ((s.th.set n (pcT t 5)).map thT)])
    (h.pa <| an (h.sees hs) <| an (h.id) <| an (h.el) <| an (ac_ponce hk) <| an (h.el) <| an (hl) <| an (h.el) <| an (ac_pnext' hn) <| an (h.id) <| an (h.el) <| an (setT s.th n (pcT t 5)) <|  an h.o1 trivial) (by kernel_rfl) hL
theorem lv_lookT (h : Rv s n t 2 m o) (hs : seesR s = 4) (hk : opOnce t.ki = false) (hl : t.la = false) {r : Int} (hn : waySt s (max t.tr 0) = r) (hr2 : (r == 2) = false) (hr : In64 (t.tr + 1)) (hL : LoopP Tryz.prog (loopOf Tryz.prog 143 0) (hdV (s.setTh n (tryT (pcT t 2))) n m (o + 1) (s.th.length)) x S) : LoopP Tryz.prog (loopOf Tryz.prog 143 0) (hdV s n m o s.th.length) x S :=
  loop_more mixed (fuel := 9) (n := 12) (im := [0, 1, 2, 3, 4]) (keep := [2, 6, 8, 9, 10]) (ext := [22, 125, 93, 221, 238, 239]) (orc := sPO t 2 2 ++ [.tuple #[.int .i64 (seesS s), .int .i64 4], .nilFunc, .nilFunc, thT (pcT t 2), vD false, thT (pcT t 2), .bool false, thT (pcT t 2), .int .i64 r, .bool false, thT (pcT t 2), thT (pcT t 2), vRow s.th.length ((s.th.set n (tryT (pcT t 2))).map thT)])
    (h.pa <| an (h.sees hs) <| an (h.id) <| an (h.el) <| an (ac_ponce hk) <| an (h.el) <| an (hl) <| an (h.el) <| an (ac_pnext' hn) <| an (hr2) <| an (h.id) <| an (h.el) <| an (hr) <| an (h.el) <| an (setT s.th n (tryT (pcT t 2))) <|  an h.o1 trivial) (by kernel_rfl) hL
theorem lv_lookE (h : Rv s n t 2 m o) {r : Int} (hs : seesR s = r) (h1 : (r == 1) = false) (h2 : (r == 4) = false) (hL : LoopP Tryz.prog (loopOf Tryz.prog 143 0) (hdV (((s.setTh n (rgT (pcT t 2) r 0)).addLg (tlE s n t.ki r 0)).setTh n (pcT (rgT t r 0) 9)) n m (o + 1) ((s.th.set n (rgT (pcT t 2) r 0)).length)) x S) : LoopP Tryz.prog (loopOf Tryz.prog 143 0) (hdV s n m o s.th.length) x S :=
  loop_more mixed (fuel := 9) (n := 12) (im := [0, 5, 2, 3, 4]) (keep := [2, 6, 8, 9, 10]) (ext := [22, 125, 93, 221, 208]) (orc := sPO t 2 2 ++ [.tuple #[.int .i64 (seesS s), .int .i64 r], .bool false, .bool false, thT (pcT t 2), .iface 1000004 (.func (.yield 18) #[.agg (stL ((s.setTh n (rgT (pcT t 2) r 0)).addLg (tlE s n t.ki r 0))), .int .i64 11] #[]), thT (rgT (pcT t 2) r 0), vRow (s.th.set n (rgT (pcT t 2) r 0)).length (((s.th.set n (rgT (pcT t 2) r 0)).set n (pcT (rgT t r 0) 9)).map thT)])
    (h.pa <| an (h.sees hs) <| an (h1) <| an (h2) <| an (h.id) <| an (h.el) <| an (h.ln) <| an (h.tell (r := r)) <| an (h.ids (rgT (pcT t 2) r 0)) <| an (el2 h.hn (rgT (pcT t 2) r 0)) <| an (setT (s.th.set n (rgT (pcT t 2) r 0)) n (pcT (rgT t r 0) 9)) <|  an h.o1 trivial) (by kernel_rfl) hL
theorem lv_takeR (h : Rv s n t 3 m o) (hs : seesR s = 1) (hH : tkH s.hd s.tl s.md s.sl.length = s.hd + 1) (hP : tkP s.hd s.tl s.md s.sl.length = s.hd) {g : Int} (hv : valV ((s.toWord (s.hd + 1) s.tl s.md).setTh n (regT t s.hd 3)) s.hd = g) (hA : hasB ((s.toWord (s.hd + 1) s.tl s.md).setTh n (regT t s.hd 3)) n = true) (ho : ((s.toWord (s.hd + 1) s.tl s.md).setTh n (regT t s.hd 3)).ok) (hf : ((s.toWord (s.hd + 1) s.tl s.md).setTh n (regT t s.hd 3)).fit) (hL : LoopP Tryz.prog (loopOf Tryz.prog 143 0) (hdV (((((s.toWord (s.hd + 1) s.tl s.md).setTh n (regT t s.hd 3)).setTh n (rgT (regT t s.hd 3) 1 g)).addLg (tlE ((s.toWord (s.hd + 1) s.tl s.md).setTh n (regT t s.hd 3)) n t.ki 1 g)).setTh n (pcT (rgT (regT t s.hd 3) 1 g) 4)) n m (o + 1) (((s.th.set n (regT t s.hd 3)).set n (rgT (regT t s.hd 3) 1 g)).length)) x S) : LoopP Tryz.prog (loopOf Tryz.prog 143 0) (hdV s n m o s.th.length) x S :=
  loop_more mixed (fuel := 9) (n := 12) (im := [0, 6, 2, 3, 4]) (keep := [2, 6, 8, 9, 10]) (ext := [22, 125, 93, 215, 209, 208]) (orc := sPO t 3 2 ++ [.tuple #[wdT (s.hd + 1) s.tl s.md, .int .i64 s.hd, .int .i64 1], .nilFunc, thT (pcT t 3), vRow (s.th.set n (regT t s.hd 3)).length ((s.th.set n (regT t s.hd 3)).map thT), .int .i64 g, thT (regT t s.hd 3), .iface 1000004 (.func (.yield 18) #[.agg (stL ((((s.toWord (s.hd + 1) s.tl s.md).setTh n (regT t s.hd 3)).setTh n (rgT (regT t s.hd 3) 1 g)).addLg (tlE ((s.toWord (s.hd + 1) s.tl s.md).setTh n (regT t s.hd 3)) n t.ki 1 g))), .int .i64 11] #[]), thT (rgT (regT t s.hd 3) 1 g), vRow ((s.th.set n (regT t s.hd 3)).set n (rgT (regT t s.hd 3) 1 g)).length ((((s.th.set n (regT t s.hd 3)).set n (rgT (regT t s.hd 3) 1 g)).set n (pcT (rgT (regT t s.hd 3) 1 g) 9)).map thT), thT (pcT (rgT (regT t s.hd 3) 1 g) 9), vRow ((s.th.set n (regT t s.hd 3)).set n (rgT (regT t s.hd 3) 1 g)).length ((((s.th.set n (regT t s.hd 3)).set n (rgT (regT t s.hd 3) 1 g)).set n (pcT (rgT (regT t s.hd 3) 1 g) 4)).map thT)])
    (h.pa <| an (h.take hs hH hP) <| an (h.id) <| an (h.el) <| an (setT s.th n (regT t s.hd 3)) <| an (h.ln1 (regT t s.hd 3)) <| an (hv ▸ ac_pvalue ((s.toWord (s.hd + 1) s.tl s.md).setTh n (regT t s.hd 3)) s.hd ho h.ok.hd) <| an (h.id) <| an (el2 h.hn (regT t s.hd 3)) <| an (h.ln1 (regT t s.hd 3)) <| an (h.tell3 (g := g) hA ho hf) <| an (h.ids2 (regT t s.hd 3) (rgT (regT t s.hd 3) 1 g)) <| an (h.el22 (regT t s.hd 3) (rgT (regT t s.hd 3) 1 g)) <| an (setT ((s.th.set n (regT t s.hd 3)).set n (rgT (regT t s.hd 3) 1 g)) n (pcT (rgT (regT t s.hd 3) 1 g) 9)) <| an (h.ids2 (regT t s.hd 3) (rgT (regT t s.hd 3) 1 g)) <| an (h.el23 (regT t s.hd 3) (rgT (regT t s.hd 3) 1 g) (pcT (rgT (regT t s.hd 3) 1 g) 9)) <| an (set2 ((s.th.set n (regT t s.hd 3)).set n (rgT (regT t s.hd 3) 1 g)) n (pcT (rgT (regT t s.hd 3) 1 g) 9) (pcT (rgT (regT t s.hd 3) 1 g) 4)) <|  an h.o1 trivial) (by kernel_rfl) hL
theorem lv_takeF (h : Rv s n t 3 m o) (hs : seesR s = 4) (hL : LoopP Tryz.prog (loopOf Tryz.prog 143 0) (hdV (s.setTh n (pcT t 2)) n m (o + 1) (s.th.length)) x S) : LoopP Tryz.prog (loopOf Tryz.prog 143 0) (hdV s n m o s.th.length) x S :=
  loop_more mixed (fuel := 9) (n := 12) (im := [0, 1, 2, 3, 4]) (keep := [2, 6, 8, 9, 10]) (ext := [22, 125, 93, 215]) (orc := sPO t 3 2 ++ [.tuple #[wdT (tkH s.hd s.tl s.md s.sl.length) s.tl s.md, .int .i64 (tkP s.hd s.tl s.md s.sl.length), .int .i64 4], .nilFunc, .nilFunc, thT (pcT t 3), vRow s.th.length ((s.th.set n (pcT t 2)).map thT)])
    (h.pa <| an (h.take hs rfl rfl) <| an (h.id) <| an (h.el) <| an (setT s.th n (pcT t 2)) <|  an h.o1 trivial) (by kernel_rfl) hL
theorem lv_takeE (h : Rv s n t 3 m o) {r : Int} (hs : seesR s = r) (h1 : (r == 1) = false) (h2 : (r == 4) = false) (hL : LoopP Tryz.prog (loopOf Tryz.prog 143 0) (hdV (((s.setTh n (rgT (pcT t 3) r 0)).addLg (tlE s n t.ki r 0)).setTh n (pcT (rgT t r 0) 9)) n m (o + 1) ((s.th.set n (rgT (pcT t 3) r 0)).length)) x S) : LoopP Tryz.prog (loopOf Tryz.prog 143 0) (hdV s n m o s.th.length) x S :=
  loop_more mixed (fuel := 9) (n := 12) (im := [0, 6, 2, 3, 4]) (keep := [2, 6, 8, 9, 10]) (ext := [22, 125, 93, 215, 208]) (orc := sPO t 3 2 ++ [.tuple #[wdT (tkH s.hd s.tl s.md s.sl.length) s.tl s.md, .int .i64 (tkP s.hd s.tl s.md s.sl.length), .int .i64 r], .bool false, .bool false, thT (pcT t 3), .iface 1000004 (.func (.yield 18) #[.agg (stL ((s.setTh n (rgT (pcT t 3) r 0)).addLg (tlE s n t.ki r 0))), .int .i64 11] #[]), thT (rgT (pcT t 3) r 0), vRow (s.th.set n (rgT (pcT t 3) r 0)).length (((s.th.set n (rgT (pcT t 3) r 0)).set n (pcT (rgT t r 0) 9)).map thT)])
    (h.pa <| an (h.take hs rfl rfl) <| an (h1) <| an (h2) <| an (h.id) <| an (h.el) <| an (h.ln) <| an (h.tell (r := r)) <| an (h.ids (rgT (pcT t 3) r 0)) <| an (el2 h.hn (rgT (pcT t 3) r 0)) <| an (setT (s.th.set n (rgT (pcT t 3) r 0)) n (pcT (rgT t r 0) 9)) <|  an h.o1 trivial) (by kernel_rfl) hL
theorem lv_read (h : Rv s n t 4 m o) (hm : s.sl.length ≤ 1000) (hr : In64 t.re) (hL : LoopP Tryz.prog (loopOf Tryz.prog 143 0) (hdV ((s.toSl (rlL s.sl t.re)).setTh n (gotT t (rdV s.sl t.re) 6)) n m (o + 1) (s.th.length)) x S) : LoopP Tryz.prog (loopOf Tryz.prog 143 0) (hdV s n m o s.th.length) x S :=
  loop_more mixed (fuel := 9) (n := 12) (im := [0, 1, 2, 3, 4]) (keep := [2, 6, 8, 9, 10]) (ext := [22, 125, 93, 216, 210]) (orc := sPO t 4 2 ++ [thT (pcT t 4), .tuple #[.int .i64 (rdV s.sl t.re), .int .i64 (rdE s.sl t.re)], thT (pcT t 4), vRow s.th.length ((s.th.set n (gotT t (rdV s.sl t.re) 4)).map thT), thT (gotT t (rdV s.sl t.re) 4), .tuple #[rowS (rlL s.sl t.re), .int .i64 (rlE s.sl t.re)], thT (gotT t (rdV s.sl t.re) 4), vRow s.th.length ((s.th.set n (gotT t (rdV s.sl t.re) 6)).map thT)])
    (h.pa <| an (h.id) <| an (h.el) <| an (ac_pread s.sl t.re hm hr) <| an (h.el) <| an (setT s.th n (gotT t (rdV s.sl t.re) 4)) <| an (el2 h.hn (gotT t (rdV s.sl t.re) 4)) <| an (ac_prelease s.sl t.re hm hr) <| an (h.id) <| an (el2 h.hn (gotT t (rdV s.sl t.re) 4)) <| an (set2 s.th n (gotT t (rdV s.sl t.re) 4) (gotT t (rdV s.sl t.re) 6)) <|  an h.o1 trivial) (by kernel_rfl) hL
theorem lv_prep (h : Rv s n t 5 m o) (he : prE s.ee s.el = s.ee) (hL : LoopP Tryz.prog (loopOf Tryz.prog 143 0) (hdV (s.setTh n (seenT t s.ee 7)) n m (o + 1) (s.th.length)) x S) : LoopP Tryz.prog (loopOf Tryz.prog 143 0) (hdV s n m o s.th.length) x S :=
  loop_more mixed (fuel := 9) (n := 12) (im := [0, 1, 2, 3, 4]) (keep := [2, 6, 8, 9, 10]) (ext := [22, 125, 93, 202]) (orc := sPO t 5 2 ++ [.int .i64 s.ee, thT (pcT t 5), vRow s.th.length ((s.th.set n (seenT t s.ee 5)).map thT), thT (seenT t s.ee 5), vRow s.th.length ((s.th.set n (seenT t s.ee 7)).map thT)])
    (h.pa <| an (h.id) <| an (ac_pprep' he) <| an (h.el) <| an (setT s.th n (seenT t s.ee 5)) <| an (h.id) <| an (el2 h.hn (seenT t s.ee 5)) <| an (set2 s.th n (seenT t s.ee 5) (seenT t s.ee 7)) <|  an h.o1 trivial) (by kernel_rfl) hL
theorem lv_notifyN (h : Rv s n t 6 m o) (hm : s.fl.length ≤ 999999) (hb : hdB (ntT 1 s.fe s.fl) = false) (hL : LoopP Tryz.prog (loopOf Tryz.prog 143 0) (hdV ((s.toFull (ntE s.fe s.fl) (ntL 1 s.fe s.fl)).setTh n (pcT t 9)) n m (o + 1) (s.th.length)) x S) : LoopP Tryz.prog (loopOf Tryz.prog 143 0) (hdV s n m o s.th.length) x S :=
  loop_more mixed (fuel := 9) (n := 12) (im := [0, 1, 2, 3, 4]) (keep := [2, 6, 8, 9, 10]) (ext := [22, 125, 93, 203]) (orc := sPO t 6 2 ++ [.tuple #[evT (ntE s.fe s.fl) (ntL 1 s.fe s.fl), .int .i64 (hdI (ntT 1 s.fe s.fl)), vD false], thT (pcT t 6), vRow s.th.length ((s.th.set n (pcT t 9)).map thT)])
    (h.pa <| an (ac_pnotify hb hm) <| an (h.id) <| an (h.el) <| an (setT s.th n (pcT t 9)) <|  an h.o1 trivial) (by kernel_rfl) hL
theorem lv_notifyW (h : Rv s n t 6 m o) (hm : s.fl.length ≤ 999999) (hb : hdB (ntT 1 s.fe s.fl) = true) {q : Nat} (hq : hdI (ntT 1 s.fe s.fl) = q) (hA : hasB (s.toFull (ntE s.fe s.fl) (ntL 1 s.fe s.fl)) q = true) (ho : (s.toFull (ntE s.fe s.fl) (ntL 1 s.fe s.fl)).ok) (hf : (s.toFull (ntE s.fe s.fl) (ntL 1 s.fe s.fl)).fit) (hg : gth (s.th.set q (wakeT (gth s.th q))) n = pcT t 6) (hL : LoopP Tryz.prog (loopOf Tryz.prog 143 0) (hdV (((s.toFull (ntE s.fe s.fl) (ntL 1 s.fe s.fl)).onTh q wakeT).setTh n (pcT t 9)) n m (o + 1) ((s.th.set q (wakeT (gth s.th q))).length)) x S) : LoopP Tryz.prog (loopOf Tryz.prog 143 0) (hdV s n m o s.th.length) x S :=
  loop_more mixed (fuel := 9) (n := 12) (im := [0, 6, 2, 3, 4]) (keep := [2, 6, 8, 9, 10]) (ext := [22, 125, 93, 203, 53]) (orc := sPO t 6 2 ++ [.tuple #[evT (ntE s.fe s.fl) (ntL 1 s.fe s.fl), .int .i64 q, vD true], .iface 1000004 (.func (.yield 18) #[.agg (stL ((s.toFull (ntE s.fe s.fl) (ntL 1 s.fe s.fl)).onTh q wakeT)), .int .i64 11] #[]), thT (pcT t 6), vRow (s.th.set q (wakeT (gth s.th q))).length (((s.th.set q (wakeT (gth s.th q))).set n (pcT t 9)).map thT)])
    (h.pa <| an (hq ▸ ac_pnotify hb hm) <| an (h.ln) <| an (ao_wake hA ho hf) <| an (h.idw q (wakeT (gth s.th q))) <| an (hg ▸ elT (l := (s.th.set q (wakeT (gth s.th q)))) (by rw [List.length_set]; exact h.hn)) <| an (setT (s.th.set q (wakeT (gth s.th q))) n (pcT t 9)) <|  an h.o1 trivial) (by kernel_rfl) hL
theorem lv_againY (h : Rv s n t 7 m o) (hs : seesR s = 4) (hl : (!t.la) = true) (hL : LoopP Tryz.prog (loopOf Tryz.prog 143 0) (hdV (s.setTh n (pcT t 8)) n m (o + 1) (s.th.length)) x S) : LoopP Tryz.prog (loopOf Tryz.prog 143 0) (hdV s n m o s.th.length) x S :=
  loop_more mixed (fuel := 9) (n := 12) (im := [0, 1, 2, 3, 4]) (keep := [2, 6, 8, 9, 10]) (ext := [22, 125, 93, 221]) (orc := sPO t 7 2 ++ [.tuple #[.int .i64 (seesS s), .int .i64 4], .nilFunc, thT (pcT t 7), .bool true, thT (pcT t 7), vRow s.th.length ((s.th.set n (pcT t 8)).map thT)])
    (h.pa <| an (h.sees hs) <| an (h.id) <| an (h.el) <| an (hl) <| an (h.id) <| an (h.el) <| an (setT s.th n (pcT t 8)) <|  an h.o1 trivial) (by kernel_rfl) hL
theorem lv_againL (h : Rv s n t 7 m o) (hs : seesR s = 4) (hl : (!t.la) = false) (hL : LoopP Tryz.prog (loopOf Tryz.prog 143 0) (hdV (s.setTh n (pcT t 2)) n m (o + 1) (s.th.length)) x S) : LoopP Tryz.prog (loopOf Tryz.prog 143 0) (hdV s n m o s.th.length) x S :=
  loop_more mixed (fuel := 9) (n := 12) (im := [0, 1, 2, 3, 4]) (keep := [2, 6, 8, 9, 10]) (ext := [22, 125, 93, 221]) (orc := sPO t 7 2 ++ [.tuple #[.int .i64 (seesS s), .int .i64 4], .nilFunc, thT (pcT t 7), .bool false, thT (pcT t 7), vRow s.th.length ((s.th.set n (pcT t 2)).map thT)])
    (h.pa <| an (h.sees hs) <| an (h.id) <| an (h.el) <| an (hl) <| an (h.id) <| an (h.el) <| an (setT s.th n (pcT t 2)) <|  an h.o1 trivial) (by kernel_rfl) hL
theorem lv_againN (h : Rv s n t 7 m o) {r : Int} (hs : seesR s = r) (h2 : (r == 4) = false) (hL : LoopP Tryz.prog (loopOf Tryz.prog 143 0) (hdV (s.setTh n (pcT t 2)) n m (o + 1) (s.th.length)) x S) : LoopP Tryz.prog (loopOf Tryz.prog 143 0) (hdV s n m o s.th.length) x S :=
  loop_more mixed (fuel := 9) (n := 12) (im := [0, 1, 2, 3, 4]) (keep := [2, 6, 8, 9, 10]) (ext := [22, 125, 93, 221]) (orc := sPO t 7 2 ++ [.tuple #[.int .i64 (seesS s), .int .i64 r], .bool false, thT (pcT t 7), vRow s.th.length ((s.th.set n (pcT t 2)).map thT)])
    (h.pa <| an (h.sees hs) <| an (h2) <| an (h.id) <| an (h.el) <| an (setT s.th n (pcT t 2)) <|  an h.o1 trivial) (by kernel_rfl) hL
theorem lv_commitL (h : Rv s n t 8 m o) (hl : t.la = true) (hL : LoopP Tryz.prog (loopOf Tryz.prog 143 0) (hdV (s.setTh n (pcT t 2)) n m (o + 1) (s.th.length)) x S) : LoopP Tryz.prog (loopOf Tryz.prog 143 0) (hdV s n m o s.th.length) x S :=
  loop_more mixed (fuel := 9) (n := 12) (im := [0, 1, 2, 3, 4]) (keep := [2, 6, 8, 9, 10]) (ext := [22, 125, 93]) (orc := sPO t 8 2 ++ [thT (pcT t 8), vRow s.th.length ((s.th.set n (pcT t 2)).map thT), thT (pcT t 2), .bool true])
    (h.pa <| an (h.id) <| an (h.el) <| an (setT s.th n (pcT t 2)) <| an (h.id) <| an (el2 h.hn (pcT t 2)) <| an (hl) <|  an h.o1 trivial) (by kernel_rfl) hL
theorem lv_commitW (h : Rv s n t 8 m o) (hl : t.la = false) (hm : s.el.length ≤ 999999) (hb : cmB s.ee s.el t.se n = true) (hL : LoopP Tryz.prog (loopOf Tryz.prog 143 0) (hdV ((s.toEmpty s.ee (cmL s.ee s.el t.se n)).setTh n (parkT t 2)) n m (o + 1) (s.th.length)) x S) : LoopP Tryz.prog (loopOf Tryz.prog 143 0) (hdV s n m o s.th.length) x S :=
  loop_more mixed (fuel := 9) (n := 12) (im := [0, 1, 2, 3, 4]) (keep := [2, 6, 8, 9, 10]) (ext := [22, 125, 93, 204, 205]) (orc := sPO t 8 2 ++ [thT (pcT t 8), vRow s.th.length ((s.th.set n (pcT t 2)).map thT), thT (pcT t 2), .bool false, thT (pcT t 2), .tuple #[evT s.ee (cmL s.ee s.el t.se n), vD true, .int .i64 (cmC s.ee s.el n)], thT (pcT t 2), .tuple #[thT (parkT t 2), .int .i64 0], thT (pcT t 2), vRow s.th.length ((s.th.set n (parkT t 2)).map thT)])
    (h.pa <| an (h.id) <| an (h.el) <| an (setT s.th n (pcT t 2)) <| an (h.id) <| an (el2 h.hn (pcT t 2)) <| an (hl) <| an (h.id) <| an (el2 h.hn (pcT t 2)) <| an (ac_pcommit hb hm) <| an (h.id) <| an (h.id) <| an (el2 h.hn (pcT t 2)) <| an (ac_ppark (park_of (c := 2) h.rs)) <| an (el2 h.hn (pcT t 2)) <| an (set2 s.th n (pcT t 2) (parkT t 2)) <|  an h.o1 trivial) (by kernel_rfl) hL
theorem lv_commitN (h : Rv s n t 8 m o) (hl : t.la = false) (hm : s.el.length ≤ 999999) (hb : cmB s.ee s.el t.se n = false) (hL : LoopP Tryz.prog (loopOf Tryz.prog 143 0) (hdV (s.setTh n (pcT t 2)) n m (o + 1) (s.th.length)) x S) : LoopP Tryz.prog (loopOf Tryz.prog 143 0) (hdV s n m o s.th.length) x S :=
  loop_more mixed (fuel := 9) (n := 12) (im := [0, 1, 2, 3, 4]) (keep := [2, 6, 8, 9, 10]) (ext := [22, 125, 93, 204]) (orc := sPO t 8 2 ++ [thT (pcT t 8), vRow s.th.length ((s.th.set n (pcT t 2)).map thT), thT (pcT t 2), .bool false, thT (pcT t 2), .tuple #[evT s.ee (cmL s.ee s.el t.se n), vD false, .int .i64 (cmC s.ee s.el n)]])
    (h.pa <| an (h.id) <| an (h.el) <| an (setT s.th n (pcT t 2)) <| an (h.id) <| an (el2 h.hn (pcT t 2)) <| an (hl) <| an (h.id) <| an (el2 h.hn (pcT t 2)) <| an (ac_pcommit hb hm) <|  an h.o1 trivial) (by kernel_rfl) hL
theorem lv_leave9 (h : Rv s n t 9 m o) (hm : s.rc.length ≤ 999999) (hL : LoopP Tryz.prog (loopOf Tryz.prog 143 0) (hdV ((s.toRc (lvL s.rc n)).setTh n (doneT t)) n m (o + 1) (s.th.length)) x S) : LoopP Tryz.prog (loopOf Tryz.prog 143 0) (hdV s n m o s.th.length) x S :=
  loop_more mixed (fuel := 9) (n := 12) (im := [0, 1, 2, 3, 4]) (keep := [2, 6, 8, 9, 10]) (ext := [22, 125, 93, 130, 206]) (orc := sPO t 9 2 ++ [.tuple #[rowI (lvL s.rc n), .int .i64 (lvE s.rc n)], thT (pcT t 9), .tuple #[thT (doneT t), .int .i64 0], thT (pcT t 9), vRow s.th.length ((s.th.set n (doneT t)).map thT)])
    (h.pa <| an (ac_pleave s.rc n hm) <| an (h.id) <| an (h.id) <| an (h.el) <| an (ac_pdone (done_of (c := 9) h.rs)) <| an (h.el) <| an (setT s.th n (doneT t)) <|  an h.o1 trivial) (by kernel_rfl) hL
theorem lv_leave10 (h : Rv s n t 10 m o) (hm : s.rc.length ≤ 999999) (hL : LoopP Tryz.prog (loopOf Tryz.prog 143 0) (hdV ((s.toRc (lvL s.rc n)).setTh n (doneT t)) n m (o + 1) (s.th.length)) x S) : LoopP Tryz.prog (loopOf Tryz.prog 143 0) (hdV s n m o s.th.length) x S :=
  loop_more mixed (fuel := 9) (n := 12) (im := [0, 1, 2, 3, 4]) (keep := [2, 6, 8, 9, 10]) (ext := [22, 125, 93, 130, 206]) (orc := sPO t 10 2 ++ [.tuple #[rowI (lvL s.rc n), .int .i64 (lvE s.rc n)], thT (pcT t 10), .tuple #[thT (doneT t), .int .i64 0], thT (pcT t 10), vRow s.th.length ((s.th.set n (doneT t)).map thT)])
    (h.pa <| an (ac_pleave s.rc n hm) <| an (h.id) <| an (h.id) <| an (h.el) <| an (ac_pdone (done_of (c := 10) h.rs)) <| an (h.el) <| an (setT s.th n (doneT t)) <|  an h.o1 trivial) (by kernel_rfl) hL
theorem lv_leave11 (h : Rv s n t 11 m o) (hm : s.rc.length ≤ 999999) (hL : LoopP Tryz.prog (loopOf Tryz.prog 143 0) (hdV ((s.toRc (lvL s.rc n)).setTh n (doneT t)) n m (o + 1) (s.th.length)) x S) : LoopP Tryz.prog (loopOf Tryz.prog 143 0) (hdV s n m o s.th.length) x S :=
  loop_more mixed (fuel := 9) (n := 12) (im := [0, 1, 2, 3, 4]) (keep := [2, 6, 8, 9, 10]) (ext := [22, 125, 93, 130, 206]) (orc := sPO t 11 2 ++ [.tuple #[rowI (lvL s.rc n), .int .i64 (lvE s.rc n)], thT (pcT t 11), .tuple #[thT (doneT t), .int .i64 0], thT (pcT t 11), vRow s.th.length ((s.th.set n (doneT t)).map thT)])
    (h.pa <| an (ac_pleave s.rc n hm) <| an (h.id) <| an (h.id) <| an (h.el) <| an (ac_pdone (done_of (c := 11) h.rs)) <| an (h.el) <| an (setT s.th n (doneT t)) <|  an h.o1 trivial) (by kernel_rfl) hL
end
end Go.Proofs.YtfhjllchbgclaaaGreat

/- A step of the program's receive is the step of plain states. -/
namespace Go.Proofs.YtfhjllchbgclaaaGreat
set_option linter.unusedVariables false
set_option linter.unusedSimpArgs false
open Go.RowKit
/-- What is true of a state that a step is done in. -/
structure Sv (s : St) (n : Nat) (m o : Int) : Prop where
  lt : decide (o < min m 1000) = true
  ck : stB s = true
  ok : s.ok
  hn : n < s.th.length
  st : (gth s.th n).st = 1
  sd : opSide (gth s.th n).ki = 2
  lg : s.lg.length ≤ 999999
  o1 : In64 (o + 1)
section
variable {s : St} {n : Nat} {m o : Int} {x : Exit} {S : Sg}
theorem Sv.rv (h : Sv s n m o) {c : Int} (hc : (gth s.th n).pc = c) : Rv s n (gth s.th n) c m o :=
  ⟨h.lt, h.ck, h.ok, h.hn, by rw [← hc]; rfl, by rw [h.st]; rfl, h.sd, fit_of h.ck (by have := h.lg; omega), h.o1⟩
/-- Whatever numbers tell how many threads there are. -/
def NxV (s : St) (n : Nat) (m o : Int) (x : Exit) (S : Sg) : Prop := ∀ N, N = s.th.length → LoopP Tryz.prog (loopOf Tryz.prog 143 0) (hdV s n m o N) x S
theorem NxV.to {s s' : St} (h : NxV s n m o x S) (e : s = s') {N : Nat} (hN : N = s'.th.length) : LoopP Tryz.prog (loopOf Tryz.prog 143 0) (hdV s' n m o N) x S := by subst e; exact h N hN
theorem Sv.ki (h : Sv s n m o) : (gth s.th n).ki ≠ 9 := fun e => by have := h.sd; rw [e] at this; exact absurd this (by decide)
theorem Sv.tb (h : Sv s n m o) : thB (gth s.th n) = true := gth_ok h.ck h.hn
theorem Sv.tr (h : Sv s n m o) : In64 ((gth s.th n).tr + 1) ∧ In64 (gth s.th n).re ∧ max (gth s.th n).tr 0 = (gth s.th n).tr := by
  have := h.tb
  generalize gth s.th n = t at this
  obtain ⟨st, ki, va, un, pc, re, se, tr, la, rs, go⟩ := t
  rw [thB_iff] at this
  simp only [In64]
  omega
theorem Sv.few (h : Sv s n m o) : s.rc.length ≤ 999999 ∧ s.fl.length ≤ 999999 ∧ s.el.length ≤ 999999 ∧ s.sl.length ≤ 1000 := by
  obtain ⟨a, b, c, d, -, -⟩ := full_lines h.ck
  have h2 := ok_len (stn_iff.1 b).1
  have h4 := ok_len (stn_iff.1 c).1
  have h5 := ok_len (stn_iff.1 d).1
  have h6 := (ok_iff.1 (word_ok h.ck).2.1).1
  omega
theorem first_lv (h : Sv s n m o) (hc : (gth s.th n).pc = 1) (hL : NxV (firstR s n) n m (o + 1) x S) : LoopP Tryz.prog (loopOf Tryz.prog 143 0) (hdV s n m o s.th.length) x S := by
  have hR := h.rv hc
  unfold firstR at hL
  split at hL
  · next hp => exact lv_first hR (by simp [hp]) (hL.to rfl len1)
  · next hp =>
    split at hL
    · next hl => exact lv_firstL hR (bne_of hp) hl (hL.to (told_is h.ck h.hn h.ki) len_set)
    · next hl => exact lv_firstT hR (bne_of hp) (by simpa using hl) h.tr.1 (hL.to (by unfold St.onTh; rw [try_on h.tb hc]) len1)
theorem look_lv (h : Sv s n m o) (hc : (gth s.th n).pc = 2) (hL : NxV (lookR s n) n m (o + 1) x S) : LoopP Tryz.prog (loopOf Tryz.prog 143 0) (hdV s n m o s.th.length) x S := by
  have hR := h.rv hc
  unfold lookR at hL
  split at hL
  · next hs => exact lv_lookR hR hs (hL.to rfl len1)
  · next h1 =>
    split at hL
    · next h2 => exact lv_lookE hR rfl (bne_of h1) (bne_of h2) (hL.to (told_is h.ck h.hn h.ki) len_set)
    · next h2 =>
      have hs : seesR s = 4 := Classical.not_not.1 h2
      split at hL
      · next hk => exact lv_lookB hR hs (by rw [hk]; rfl) (hL.to (told_is h.ck h.hn h.ki) len_set)
      · next hk =>
        have ho : opOnce (gth s.th n).ki = false := by
          have := h.sd
          generalize (gth s.th n).ki = k at this hk
          have h3 : k = 4 ∨ k = 6 := by rcases side_is k with h | h | h | h <;> omega
          rcases h3 with rfl | rfl <;> rfl
        split at hL
        · next hl => exact lv_lookL hR hs ho hl (hL.to (told_is h.ck h.hn h.ki) len_set)
        · next hl =>
          have hl' : (gth s.th n).la = false := by simpa using hl
          split at hL
          · next hw => exact lv_lookP hR hs ho hl' (by rw [h.tr.2.2]; exact hw) (hL.to rfl len1)
          · next hw => exact lv_lookT hR hs ho hl' (by rw [h.tr.2.2]) (bne_of hw) h.tr.1 (hL.to (by unfold St.onTh; rw [try_on h.tb hc]) len1)
theorem again_lv (h : Sv s n m o) (hc : (gth s.th n).pc = 7) (hL : NxV (recvN s n) n m (o + 1) x S) : LoopP Tryz.prog (loopOf Tryz.prog 143 0) (hdV s n m o s.th.length) x S := by
  have hR := h.rv hc
  rw [recvN_7 hc] at hL
  by_cases hs : seesR s = 4
  · cases hl : (gth s.th n).la
    · rw [if_pos ⟨hs, hl⟩] at hL
      exact lv_againY hR hs (by rw [hl]; rfl) (hL.to rfl len1)
    · rw [if_neg (by rw [hl]; simp)] at hL
      exact lv_againL hR hs (by rw [hl]; rfl) (hL.to rfl len1)
  · rw [if_neg (fun e => hs e.1)] at hL
    exact lv_againN hR rfl (bne_of hs) (hL.to rfl len1)
theorem commit_lv (h : Sv s n m o) (hc : (gth s.th n).pc = 8) (hL : NxV (commitR s n) n m (o + 1) x S) : LoopP Tryz.prog (loopOf Tryz.prog 143 0) (hdV s n m o s.th.length) x S := by
  have hR := h.rv hc
  unfold commitR at hL
  split at hL
  · next hl => exact lv_commitL hR hl (hL.to rfl len1)
  · next hl =>
    have hl' : (gth s.th n).la = false := by simpa using hl
    split at hL
    · next hb => exact lv_commitW hR hl' h.few.2.2.1 hb (hL.to (by unfold cmL; rw [if_pos hb]; rfl) len1)
    · next hb => exact lv_commitN hR hl' h.few.2.2.1 (by simpa using hb) (hL.to rfl len1)
theorem take_lv (h : Sv s n m o) (hc : (gth s.th n).pc = 3) (hL : NxV (takeR s n) n m (o + 1) x S) : LoopP Tryz.prog (loopOf Tryz.prog 143 0) (hdV s n m o s.th.length) x S := by
  have hR := h.rv hc
  unfold takeR at hL
  split at hL
  · next hs => exact lv_takeF hR hs (hL.to rfl len1)
  · next h4 =>
    split at hL
    · next h1 => exact lv_takeE hR rfl (bne_of h1) (bne_of h4) (hL.to (told_is h.ck h.hn h.ki) len_set)
    · next h1 =>
      have hs : seesR s = 1 := Classical.not_not.1 h1
      have hl := check_len (word_ok h.ck).1
      have hy := tk_y hs
      have h1' : (gth s.th n).st ≠ 0 := by have := h.st; omega
      have hW := takeW_ok h.ck hs
      have hB : stB ((s.toWord (s.hd + 1) s.tl s.md).setTh n (regT (gth s.th n) s.hd 3)) = true := onTh_stB (f := fun t => regT t s.hd 3) hW (regT_ok h.tb h1' (by omega) (by decide))
      have hB4 := takeB_ok h.ck h.hn h1' hs
      have hv0 := Vk.of h.ok
      have hv : Vk ((s.toWord (s.hd + 1) s.tl s.md).setTh n (regT (gth s.th n) s.hd 3)) := Vk.on (s := s.toWord (s.hd + 1) s.tl s.md) (f := fun t => regT t s.hd 3) ⟨hv0.cf, hv0.sl, hv0.th⟩ h.hn fun _ => ⟨rfl, rfl⟩
      have hlg : ((s.toWord (s.hd + 1) s.tl s.md).setTh n (regT (gth s.th n) s.hd 3)).lg.length ≤ 1000000 := by have := h.lg; show s.lg.length ≤ 1000000; omega
      have e1 : valV ((s.toWord (s.hd + 1) s.tl s.md).setTh n (regT (gth s.th n) s.hd 3)) s.hd = valV s s.hd := by unfold valV; rw [hB, h.ck]; rfl
      refine lv_takeR (g := valV s s.hd) hR hs hy.1 hy.2 e1 (has_of hB (by show n < (s.th.set n _).length; rw [List.length_set]; exact h.hn)) (ok_of hB hv (by omega)) (fit_of hB hlg) (hL.to ?_ (by show ((s.th.set n _).set n _).length = (((s.th.set n _).set n _).set n _).length; simp))
      have hn4 : n < ((s.toWord (s.hd + 1) s.tl s.md).onTh n (regT · s.hd 4)).th.length := by show n < (s.th.set n _).length; rw [List.length_set]; exact h.hn
      have g4 := gth_on (s := s.toWord (s.hd + 1) s.tl s.md) (n := n) h.hn (regT · s.hd 4)
      unfold toldS
      rw [tell_th hB4 hn4, g4]
      unfold St.onTh
      show St.mk _ _ _ _ _ _ _ _ _ _ _ _ (((s.th.set n _).set n _).set n (pcT (gth ((s.th.set n _).set n _) n) 4)) _ = St.mk _ _ _ _ _ _ _ _ _ _ _ _ (((s.th.set n _).set n _).set n _) _
      have hk : (regT (gth s.th n) s.hd 4).ki ≠ 9 := h.ki
      have e2 : tellT (regT (gth s.th n) s.hd 4) (gth s.th n).ki 1 (valV s s.hd) = rgT (regT (gth s.th n) s.hd 4) 1 (valV s s.hd) := by unfold tellT; rw [if_neg h.ki]; rfl
      have e3 : gth ((s.th.set n (regT (gth s.th n) s.hd 4)).set n (rgT (regT (gth s.th n) s.hd 4) 1 (valV s s.hd))) n = rgT (regT (gth s.th n) s.hd 4) 1 (valV s s.hd) := by rw [gth_set (by rw [List.length_set]; exact h.hn), if_pos rfl]
      have e5 : gth (s.th.set n (regT (gth s.th n) s.hd 3)) n = regT (gth s.th n) s.hd 3 := by rw [gth_set h.hn, if_pos rfl]
      have e6 : gth ((s.toWord (s.hd + 1) s.tl s.md).setTh n (regT (gth s.th n) s.hd 3)).th n = regT (gth s.th n) s.hd 3 := e5
      have e7 : gth (s.toWord (s.hd + 1) s.tl s.md).th n = gth s.th n := rfl
      rw [e7, e2, e3, List.set_set, List.set_set, List.set_set, List.set_set]
      unfold tlE
      rw [e6]
      rfl
theorem fullR_ok (h : Sv s n m o) : stB (s.toFull (ntE s.fe s.fl) (ntL 1 s.fe s.fl)) = true ∧ (s.toFull (ntE s.fe s.fl) (ntL 1 s.fe s.fl)).ok := by
  obtain ⟨-, -, d, -, e, -⟩ := full_lines h.ck
  have h1 : okE (ntE s.fe s.fl) (ntL 1 s.fe s.fl) = true := by simp only [ntE, ntL, e, if_true]; exact okE_nx e (ok_drop (okE_ln e) 1)
  have h2 : stnB s.cf.th (ntL 1 s.fe s.fl) = true := by simp only [ntL, e, if_true]; exact stn_sub d (ok_drop (okE_ln e) 1) (fun x hx => List.mem_of_mem_drop hx)
  have h3 := (okE_iff.1 h1).1
  have hb := h.ok.fl
  refine ⟨full_stB h.ck h1 h2, ⟨h.ok.cf, h.ok.hd, h.ok.tl, h.ok.md, (show In64 (ntE s.fe s.fl) by constructor <;> omega), h.ok.ee, h.ok.nw, h.ok.sl, h.ok.sn, h.ok.rc, ?_, h.ok.el, h.ok.th, h.ok.lg⟩⟩
  show (∀ x ∈ ntL 1 s.fe s.fl, In64 x) ∧ (ntL 1 s.fe s.fl).length ≤ maxLen
  simp only [ntL, e, if_true]
  exact ⟨fun x hx => hb.1 x (List.mem_of_mem_drop hx), by rw [List.length_drop]; omega⟩
theorem notify_lv (h : Sv s n m o) (hc : (gth s.th n).pc = 6) (hL : NxV (notifyR s n) n m (o + 1) x S) : LoopP Tryz.prog (loopOf Tryz.prog 143 0) (hdV s n m o s.th.length) x S := by
  have hR := h.rv hc
  obtain ⟨h1, h2⟩ := fullR_ok h
  unfold notifyR at hL
  split at hL
  · next hb =>
    obtain ⟨-, -, d, -, e, -⟩ := full_lines h.ck
    have hth := th_len h.ck
    have hq : ∃ q : Nat, hdI (ntT 1 s.fe s.fl) = q ∧ q < s.th.length := by
      have hb' := hb
      simp only [ntT, e, if_true] at hb' ⊢
      cases hl : s.fl with
      | nil => rw [hl] at hb'; cases hb'
      | cons y r =>
        have hy : y ∈ s.fl := by rw [hl]; exact List.mem_cons_self
        have h3 := (stn_iff.1 d).2 y hy
        have h4 := (okl_iff.1 (stn_iff.1 d).1).1 y hy
        exact ⟨y.toNat, by show y = _; omega, by omega⟩
    obtain ⟨q, hq, hql⟩ := hq
    have h9 : stB ((s.toFull (ntE s.fe s.fl) (ntL 1 s.fe s.fl)).onTh n (pcT · 9)) = true := onTh_stB h1 (pcT_ok h.tb (by have := h.st; omega) (by decide))
    have e6 : gth s.th n = pcT (gth s.th n) 6 := by conv => lhs; rw [show gth s.th n = pcT (gth s.th n) (gth s.th n).pc from rfl, hc]
    have hA : hasB ((s.toFull (ntE s.fe s.fl) (ntL 1 s.fe s.fl)).onTh n (pcT · 9)) q = true := has_of h9 (by show q < (s.th.set n _).length; rw [List.length_set]; exact hql)
    have hg : gth (s.th.set q (wakeT (gth s.th q))) n = pcT (gth s.th n) 6 := by
      rw [gth_set hql]
      split
      · next e => subst e; rw [wake_one h.st]; exact e6
      · exact e6
    refine lv_notifyW hR h.few.2.1 hb hq (has_of h1 hql) h2 (fit_of h1 (by have := h.lg; show s.lg.length ≤ 1000000; omega)) hg (hL.to ?_ len1)
    rw [hq]
    unfold wakeS
    rw [if_pos hA]
    unfold St.onTh
    show St.mk _ _ _ _ _ _ _ _ _ _ _ _ ((s.th.set n (pcT (gth s.th n) 9)).set (q : Int).toNat (wakeT (gth (s.th.set n (pcT (gth s.th n) 9)) (q : Int).toNat))) _ = St.mk _ _ _ _ _ _ _ _ _ _ _ _ ((s.th.set q (wakeT (gth s.th q))).set n (pcT (gth s.th n) 9)) _
    congr 1
    rw [Int.toNat_natCast, gth_set h.hn]
    by_cases hqn : n = q
    · subst hqn
      rw [if_pos rfl, List.set_set, List.set_set, wake_one (show (pcT (gth s.th n) 9).st = 1 from h.st)]
    · rw [if_neg hqn, List.set_comm _ _ hqn]
  · next hb => exact lv_notifyN hR h.few.2.1 (by simpa using hb) (hL.to rfl len1)
/-- A step. -/
theorem step_lv (h : Sv s n m o) (hL : NxV (recvN s n) n m (o + 1) x S) : LoopP Tryz.prog (loopOf Tryz.prog 143 0) (hdV s n m o s.th.length) x S := by
  obtain p | p | p | p | p | p | p | p | p | p | p | p := pc_or h.tb
  · rw [recvN_0 p] at hL; exact lv_enter (h.rv p) h.few.1 (hL.to rfl len1)
  · rw [recvN_1 p] at hL; exact first_lv h p hL
  · rw [recvN_2 p] at hL; exact look_lv h p hL
  · rw [recvN_3 p] at hL; exact take_lv h p hL
  · rw [recvN_4 p] at hL; exact lv_read (h.rv p) h.few.2.2.2 h.tr.2.1 (hL.to rfl len1)
  · rw [recvN_5 p] at hL
    obtain ⟨-, -, -, -, -, e⟩ := full_lines h.ck
    exact lv_prep (h.rv p) (by unfold prE; rw [if_pos e]) (hL.to rfl len1)
  · rw [recvN_6 p] at hL; exact notify_lv h p hL
  · exact again_lv h p hL
  · rw [recvN_8 p] at hL; exact commit_lv h p hL
  · rw [recvN_9 (.inl p)] at hL; exact lv_leave9 (h.rv p) h.few.1 (hL.to rfl len1)
  · rw [recvN_9 (.inr (.inl p))] at hL; exact lv_leave10 (h.rv p) h.few.1 (hL.to rfl len1)
  · rw [recvN_9 (.inr (.inr p))] at hL; exact lv_leave11 (h.rv p) h.few.1 (hL.to rfl len1)
end
end Go.Proofs.YtfhjllchbgclaaaGreat
