/- Texts merged: CcCQ, CcDQ, SlotHQ, AcOQ, AcTQ, ThEQ, ThIQ, ThMQ, AcPQ, AcQQ, CcEQ, CcOQ, EqLQ, AcSQ. -/
import Derived.Test.YtkflpaicohbppaaZa8
import Derived.Test.YtkflpaicohbppaaZa9
import Derived.Laws.StructEq
import Derived.Test.YtkflpaicohbppaaZa7
import Derived.Test.YtkflpaicohbppaaZa6
import Derived.Test.YtkflpaicohbppaaZa4
/- The program's event: all who wait are told, by the engine. -/
namespace Go.Proofs.Ytkflpaicohbppaa
set_option linter.unusedVariables false
set_option linter.unusedSimpArgs false
open Go.RowKit
def tkT (n : Nat) (v : Value) : List (Nat × Value) := [(0, .func (.func 98) #[pt 0] #[]), (1, .func (.func 99) #[] #[vFz [.int .i64 n]]), (5, v)]
def tkB (l : List Int) : Option Blk := some ⟨true, false, 1, 1, [rowI l]⟩
def tkA (l : List Int) : Option Blk := some ⟨true, true, 1, l.length, l.map (.int .i64 ·)⟩
def tk0 (l : List Int) : Sg := ⟨mkT 24 (tkT l.length (.slice none 0 0)), [tkB l]⟩
def tkS (l : List Int) (i : Nat) : Sg := ⟨mkT 24 (tkT l.length (.slice (some ⟨1, 0, some 0⟩) (l.take i).length 0)), [tkB (l.drop i), tkA (l.take i)]⟩
section
variable {l : List Int} {ep : Int}
theorem nx_at (h : okLn l = true) {i : Nat} (hi : i < l.length) : AC Try.prog 101 [rowI (l.drop i)] (.tuple #[.int .i64 l[i], rowI (l.drop (i + 1)), .bool true]) := by
  have hl := ok_len h
  have hd := ok_drop' h i
  have := ac_plnext (l.drop i) (by simp; omega)
  rw [List.drop_eq_getElem_cons hi] at this hd ⊢
  generalize l[i] = x at this hd ⊢
  generalize l.drop (i + 1) = r at this hd ⊢
  have h1 : nxB (x :: r) = true := by simp [nxB, hd]
  rwa [show nxI (x :: r) = x by simp [nxI, h1], show nxL (x :: r) = r by simp [nxL, h1], h1] at this
theorem len_I (l : List Int) : l.length = (l.map (Value.int .i64 ·)).length := by simp
set_option maxRecDepth 100000 in
theorem tk_lp (h : okLn l = true) : ∀ (k i : Nat), l.length - i = k → i ≤ l.length → LoopK Try.prog 1 (loopOf Try.prog 97 0) (tkS l i) (.exit 0) (tkS l l.length)
  | 0, i, hk, hi => by
    have : i = l.length := by omega
    subst this
    exact loopK_end mixed (fuel := 9) (n := 5) (keep := [0, 1, 5]) (ext := [101]) (im := [0, 1]) (orc := [.bool false]) (an (show decide (((l.take l.length).length : Int) < l.length) = false by simp) trivial) (by intro e; cases e) (by kernel_rfl) (by rfl)
  | k + 1, i, hk, hi => by
    have h1 : i < l.length := by omega
    have hl := ok_len h
    have ht : (l.take i).length = i := by simp; omega
    have ht1 : (l.take (i + 1)).length = i + 1 := by simp; omega
    have hs : l.take (i + 1) = l.take i ++ [l[i]] := by simp
    exact loopK_more mixed (fuel := 9) (n := 5) (keep := [0, 1, 5]) (ext := [101]) (im := [0, 3]) (orc := [.bool true, .tuple #[.int .i64 l[i], rowI (l.drop (i + 1)), vD true], rowI (l.take (i + 1))])
      (an (show decide (((l.take i).length : Int) < l.length) = true by rw [ht]; simp; omega) <| an (nx_at h h1) <| an (rfl : (1 : Nat) = 1) <| an (allK_I [l[i]]) <| an (len_I (l.take i)) <|
        an (show AppP (l.take (i + 1)).length ((l.take (i + 1)).map (Value.int .i64 ·)) (l.take i).length ((l.take i).map (Value.int .i64 ·)) 1 [.int .i64 l[i]] from ⟨by omega, by rw [hs, List.map_append]; rfl, by omega⟩) trivial) (by kernel_rfl) (by rfl) (tk_lp h k (i + 1) (by omega) (by omega))
set_option maxRecDepth 100000 in
theorem tk_all (h : okLn l = true) (h0 : 0 < l.length) : LoopK Try.prog 1 (loopOf Try.prog 97 0) (tk0 l) (.exit 0) (tkS l l.length) := by
  have hn := nx_at h h0
  rw [List.drop_zero] at hn
  have ht : (l.take (0 + 1)) = [l[0]] := by
    match l, h0 with
    | x :: r, _ => rfl
  have ih := tk_lp h (l.length - 1) (0 + 1) rfl h0
  unfold tkS at ih
  rw [ht] at ih
  exact loopK_more mixed (fuel := 9) (n := 5) (keep := [0, 1, 5]) (ext := [101]) (im := [0, 2]) (orc := [.bool true, .tuple #[.int .i64 l[0], rowI (l.drop (0 + 1)), vD true], rowI [l[0]]])
    (an (show decide (((0 : Nat) : Int) < l.length) = true by simp; omega) <| an hn <| an (rfl : (1 : Nat) = 1) <| an (allK_I [l[0]]) <| an (show 0 < 1 ∧ AppP [l[0]].length ([l[0]].map (Value.int .i64 ·)) 0 [] 1 [.int .i64 l[0]] from ⟨by omega, by simp, by simp, by omega⟩) trivial) (by kernel_rfl) (by rfl) ih
def evN : List FuncId := [26, 96, 101]
set_option maxRecDepth 100000 in
theorem ac_pnotifyAll (h : okE ep l = true) : AC Try.prog 72 [evT ep l] (.tuple #[evT (nxE ep) [], rowI l]) := by
  have ho := okE_ln h
  have he := (okE_iff.1 h).1
  have hl := ok_len ho
  rw [nxE_min]
  by_cases h0 : l = []
  · subst h0
    exact ac_path mixed (ext := evN) (fuel := 9) (n := 9) (orc := [vD true, evT ep [], .nilFunc]) (an (ac_pecheck h) <| an (ac_pekept ep [] (by simp)) <| an (show In64 (ep + 1) by constructor <;> omega) trivial) (by kernel_rfl)
  · have hp : 0 < l.length := List.length_pos_iff.2 h0
    have hL := tk_all ho hp
    unfold tkS at hL
    rw [List.take_length, List.drop_length] at hL
    exact ac_path mixed (ext := evN) (fuel := 9) (n := 9) (orc := [vD true, evT ep l, oK 1 [14] [0, 1, 5] 0 (tkT l.length (.slice (some ⟨1, 0, some 0⟩) l.length 0)) [tkB [], tkA l]])
      (an (ac_pecheck h) <| an (ac_pekept ep l (by omega)) <| an hL <| an (show In64 (ep + 1) by constructor <;> omega) <| an (len_map (f := (Value.int .i64 ·)) l) trivial) (by kernel_rfl)
end
end Go.Proofs.Ytkflpaicohbppaa

/- The program's Steps of who closes: round by round, and the whole, told by plain states. -/
namespace Go.Proofs.Ytkflpaicohbppaa
set_option linter.unusedVariables false
set_option linter.unusedSimpArgs false
open Go.RowKit
/-! ### Who are woken -/
theorem wake_on {u : St} {n : Nat} {f : Th → Th} (hB : stB u = true) (hB' : stB (u.onTh n f) = true) (hn : n < u.th.length) (h1 : (gth u.th n).st ≠ 2) (h2 : (f (gth u.th n)).st ≠ 2) (i : Int) : wakeS (u.onTh n f) i = (wakeS u i).onTh n f := by
  have hl : (u.onTh n f).th.length = u.th.length := by show (u.th.set n _).length = _; simp
  have hb : hasB (u.onTh n f) i = hasB u i := by unfold hasB; rw [hB, hB', hl]
  unfold wakeS
  rw [hb]
  split
  · next hh =>
    obtain ⟨-, h3, h4⟩ := has_iff.1 hh
    obtain ⟨k, rfl⟩ : ∃ k : Nat, i = k := ⟨i.toNat, by omega⟩
    have hk : k < u.th.length := by omega
    rw [Int.toNat_natCast]
    show St.mk _ _ _ _ _ _ _ _ _ _ _ _ ((u.th.set n (f (gth u.th n))).set k (wakeT (gth (u.th.set n (f (gth u.th n))) k))) _ = St.mk _ _ _ _ _ _ _ _ _ _ _ _ ((u.th.set k (wakeT (gth u.th k))).set n (f (gth (u.th.set k (wakeT (gth u.th k))) n))) _
    by_cases e : n = k
    · subst e
      rw [gth_set hn, if_pos rfl, gth_set hn, if_pos rfl, List.set_set, List.set_set, wkT_not h1, wkT_not h2]; rfl
    · rw [gth_set hn, if_neg e, gth_set hk, if_neg (fun x => e x.symm), List.set_comm _ _ e]; rfl
  · rfl
theorem wakes_on {n : Nat} {f : Th → Th} : ∀ (l : List Int) {u : St}, stB u = true → stB (u.onTh n f) = true → n < u.th.length → (gth u.th n).st ≠ 2 → (f (gth u.th n)).st ≠ 2 → wakesS l (u.onTh n f) = (wakesS l u).onTh n f
  | [], _, _, _, _, _, _ => rfl
  | i :: l, u, hB, hB', hn, h1, h2 => by
    have e := wake_on hB hB' hn h1 h2 i
    have hg : gth (wakeS u i).th n = gth u.th n := by
      rw [wake_th hB i hn]; split
      · exact wkT_not h1
      · rfl
    show wakesS l (wakeS (u.onTh n f) i) = (wakesS l (wakeS u i)).onTh n f
    rw [e]
    exact wakes_on l (wake_stB hB i) (e ▸ wake_stB hB' i) (by rw [(wake_rest u i).2.2.2]; exact hn) (by rw [hg]; exact h1) (by rw [hg]; exact h2)
theorem wakes_same {n : Nat} (l : List Int) {u : St} (hB : stB u = true) (hn : n < u.th.length) (h1 : (gth u.th n).st ≠ 2) : gth (wakesS l u).th n = gth u.th n := by
  rw [wakes_th l hB hn]; split
  · exact wkT_not h1
  · rfl
theorem ao_wakeS {s : St} {i : Int} (ho : s.ok) (hf : s.fit) (ht : s.th ≠ []) : AO Try.prog 39 [stT s, .int .i64 i] (stL (wakeS s i)) 18 11 := by
  cases hA : hasB s i
  · rw [show wakeS s i = s by simp [wakeS, hA]]; exact ao_keep hA ho hf ht
  · obtain ⟨-, h0, h1⟩ := has_iff.1 hA
    obtain ⟨n, rfl⟩ : ∃ n : Nat, i = n := ⟨i.toNat, by omega⟩
    rw [show wakeS s n = s.onTh n wakeT by simp [wakeS, hA]]
    exact ao_wake hA ho hf
def hdWT (l : List Int) (i : Int) : List (Nat × Value) := [(0, pt 0), (6, rowI l), (7, .int .i64 l.length), (8, .int .i64 i)]
def hdW (v : St) (n : Int) (l : List Int) (i : Int) (N : Nat) : Sg := ⟨mkT 22 (hdWT l i), [bX v n N, bT v.th N]⟩
theorem th_ne {s : St} {N : Nat} (h : Wk s N) : s.th ≠ [] := by
  rintro e
  have := (th_len h.b).2.1
  rw [e] at this; simp at this
theorem ixW {l : List Int} {i : Nat} (h : i < l.length) : IxP ((l.map (Value.int .i64 ·)).toArray) (i : Int) (.int .i64 l[i]) := ⟨by omega, by simp [h]⟩
set_option maxRecDepth 100000 in
theorem wkc_lp {l : List Int} (hm : l.length ≤ 1000000) (n : Int) : ∀ (k i : Nat) {v : St}, l.length - i = k → i ≤ l.length → Wk v 1000000 → LoopK Try.prog 1 (loopOf Try.prog 73 0) (hdW v n l i v.th.length) (.exit 0) (hdW (wakesS (l.drop i) v) n l l.length (wakesS (l.drop i) v).th.length)
  | 0, i, v, hk, hi, _ => by
    have : i = l.length := by omega
    subst this
    rw [List.drop_length]
    exact loopK_end mixed (fuel := 9) (n := 9) (keep := [0, 6, 7, 8]) (ext := [39]) (im := [0, 1]) (orc := [.bool false]) (an (show decide ((l.length : Int) < l.length) = false by simp) trivial) (by intro e; cases e) (by kernel_rfl) (by rfl)
  | k + 1, i, v, hk, hi, h => by
    have h1 : i < l.length := by omega
    have ih := wkc_lp hm n k (i + 1) (v := wakeS v l[i]) (by omega) (by omega) (h.wake _)
    rw [show ((i + 1 : Nat) : Int) = (i : Int) + 1 by omega] at ih
    rw [List.drop_eq_getElem_cons h1]
    exact loopK_more mixed (fuel := 9) (n := 9) (keep := [0, 6, 7, 8]) (ext := [39]) (im := [0, 2]) (orc := [.bool true, .int .i64 l[i], .iface 1000004 (.func (.yield 18) #[.agg (stL (wakeS v l[i])), .int .i64 11] #[])])
      (an (show decide ((i : Int) < l.length) = true by simp; omega) <| an (ixW h1) <| an (len_map (f := thT) v.th) <| an (ao_wakeS (i := l[i]) (h.ok (by omega)) (h.fit (by omega)) (th_ne h)) <| an (show In64 ((i : Int) + 1) by constructor <;> omega) trivial) (by kernel_rfl) (by rfl) ih
theorem wkc_all {l : List Int} (hm : l.length ≤ 1000000) (n : Int) {v : St} (h : Wk v 1000000) : LoopK Try.prog 1 (loopOf Try.prog 73 0) (hdW v n l 0 v.th.length) (.exit 0) (hdW (wakesS l v) n l l.length (wakesS l v).th.length) := by
  have := wkc_lp hm n l.length 0 rfl (by omega) h
  rwa [List.drop_zero] at this
/-! ### At the label -/
def bBc (x : Nat) : Option Blk := some ⟨true, false, 1, 1, [pt x]⟩
def hdC (s : St) (i m o : Int) (N : Nat) : Sg := ⟨mkT 35 [(2, .int .i64 m), (6, pt 2), (8, pt 0), (9, .func (.func 40) #[] #[pt 3]), (10, .int .i64 o)], [bX s i N, bT s.th N, bZ, bBc 0]⟩
def bEc (s : St) (N : Nat) : Option Blk := some ⟨true, false, 20, 1, [.agg (stO s 1 N).toArray]⟩
/-- Where it returns. -/
def enC (s : St) (o : Int) (N : Nat) : Sg := ⟨mkT 35 [(6, pt 0), (7, .int .i64 o)], [bEc s N, bT s.th N]⟩
def cPX : List FuncId := [13, 41, 43, 16, 70, 71, 72, 39, 74]
def cPO (t : Th) (c : Int) : List Value := [.bool false, vD true, .bool false, .bool false, thT (pcT t c), .int .i64 0, .nilFunc, thT (pcT t c), .int .i64 3, .nilFunc, thT (pcT t c)]
section
variable {s : St} {i m o : Int}
set_option maxRecDepth 100000 in
theorem ce_many (h : decide (m ≤ o) = true) : GotoP Try.prog 0 (gotoOf Try.prog 12) (hdC s i m o s.th.length) .ret (enC s o s.th.length) := goto_end mixed (fuel := 9) (n := 9) (im := [2, 1]) (keep := [6, 7]) (ext := cPX) (orc := [.bool true]) (an h trivial) (by intro l e; cases e) (by kernel_rfl)
set_option maxRecDepth 100000 in
theorem ce_check (h : decide (m ≤ o) = false) (hB : stB s = false) (ho : s.ok) : GotoP Try.prog 0 (gotoOf Try.prog 12) (hdC s i m o s.th.length) .ret (enC s o s.th.length) := goto_end mixed (fuel := 9) (n := 9) (im := [2, 1]) (keep := [6, 7]) (ext := cPX) (orc := [.bool false, vD false]) (an h <| an (len_map (f := thT) s.th) <| an (ac_pcheck hB ho) trivial) (by intro l e; cases e) (by kernel_rfl)
set_option maxRecDepth 100000 in
theorem ce_low (h : decide (m ≤ o) = false) (hB : stB s = true) (ho : s.ok) (hi : decide (i < 0) = true) : GotoP Try.prog 0 (gotoOf Try.prog 12) (hdC s i m o s.th.length) .ret (enC s o s.th.length) := goto_end mixed (fuel := 9) (n := 9) (im := [2, 1]) (keep := [6, 7]) (ext := cPX) (orc := [.bool false, vD true, .bool true]) (an h <| an (len_map (f := thT) s.th) <| an (ac_pcheck hB ho) <| an hi trivial) (by intro l e; cases e) (by kernel_rfl)
set_option maxRecDepth 100000 in
theorem ce_high (h : decide (m ≤ o) = false) (hB : stB s = true) (ho : s.ok) (hi : decide (i < 0) = false) (hj : decide ((s.th.length : Int) ≤ i) = true) : GotoP Try.prog 0 (gotoOf Try.prog 12) (hdC s i m o s.th.length) .ret (enC s o s.th.length) := goto_end mixed (fuel := 9) (n := 9) (im := [2, 1]) (keep := [6, 7]) (ext := cPX) (orc := [.bool false, vD true, .bool false, .bool true]) (an h <| an (len_map (f := thT) s.th) <| an (ac_pcheck hB ho) <| an hi <| an hj trivial) (by intro l e; cases e) (by kernel_rfl)
variable {n : Nat}
set_option maxRecDepth 100000 in
theorem ce_runs (h : decide (m ≤ o) = false) (hB : stB s = true) (ho : s.ok) (hn : n < s.th.length) (hr : (thRuns (gth s.th n).st == 0) = false) : GotoP Try.prog 0 (gotoOf Try.prog 12) (hdC s n m o s.th.length) .ret (enC s o s.th.length) := goto_end mixed (fuel := 9) (n := 9) (im := [2, 1]) (keep := [6, 7]) (ext := cPX) (orc := [.bool false, vD true, .bool false, .bool false, thT (gth s.th n), .int .i64 (thRuns (gth s.th n).st), .bool false])
  (an h <| an (len_map (f := thT) s.th) <| an (ac_pcheck hB ho) <| an (show decide ((n : Int) < 0) = false by simp) <| an (show decide ((s.th.length : Int) ≤ n) = false by simp; omega) <| an (idT hn) <| an (elT hn) <| an (ac_pruns (t := gth s.th n) rfl) <| an hr trivial) (by intro l e; cases e) (by kernel_rfl)
set_option maxRecDepth 100000 in
theorem ce_side (h : decide (m ≤ o) = false) (hB : stB s = true) (ho : s.ok) (hn : n < s.th.length) (hr : thRuns (gth s.th n).st = 0) (hs : (opSide (gth s.th n).ki == 3) = false) : GotoP Try.prog 0 (gotoOf Try.prog 12) (hdC s n m o s.th.length) .ret (enC s o s.th.length) := goto_end mixed (fuel := 9) (n := 9) (im := [2, 1]) (keep := [6, 7]) (ext := cPX) (orc := [.bool false, vD true, .bool false, .bool false, thT (gth s.th n), .int .i64 0, .nilFunc, thT (gth s.th n), .int .i64 (opSide (gth s.th n).ki), .bool true])
  (an h <| an (len_map (f := thT) s.th) <| an (ac_pcheck hB ho) <| an (show decide ((n : Int) < 0) = false by simp) <| an (show decide ((s.th.length : Int) ≤ n) = false by simp; omega) <| an (idT hn) <| an (elT hn) <| an (ac_pruns (t := gth s.th n) hr) <| an (idT hn) <| an (elT hn) <| an (ac_pside (gth s.th n).ki) <| an (show (!(opSide (gth s.th n).ki == 3)) = true by rw [hs]; rfl) trivial) (by intro l e; cases e) (by kernel_rfl)
/-- Who does not close, makes no step. -/
theorem ce_not (ho : s.ok) (hr : runsB s i 3 = false) : GotoP Try.prog 0 (gotoOf Try.prog 12) (hdC s i m o s.th.length) .ret (enC s o s.th.length) := by
  cases h : decide (m ≤ o)
  · cases hB : stB s
    · exact ce_check h hB ho
    · by_cases h0 : i < 0
      · exact ce_low h hB ho (by simp [h0])
      · by_cases h1 : (s.th.length : Int) ≤ i
        · exact ce_high h hB ho (by simp; omega) (by simp [h1])
        · obtain ⟨n, rfl⟩ : ∃ n : Nat, i = n := ⟨i.toNat, by omega⟩
          have hn : n < s.th.length := by omega
          have hr' : ¬ ((gth s.th n).st = 1 ∧ opSide (gth s.th n).ki = 3) := fun e => by
            have : runsB s n 3 = true := runs_iff.2 ⟨has_of hB hn, by simpa using e⟩
            rw [hr] at this; cases this
          by_cases hs : thRuns (gth s.th n).st = 0
          · refine ce_side h hB ho hn hs (bne_of fun e => hr' ⟨?_, e⟩)
            have h2 := runs_not hs
            have h3 := gth_ok hB hn
            generalize gth s.th n = t at h2 h3
            obtain ⟨st, ki, va, un, pc, re, se, tr, la, rs, go⟩ := t
            rw [thB_iff] at h3
            simp only at h2 ⊢
            omega
          · exact ce_runs h hB ho hn (bne_of hs)
  · exact ce_many h
end
/-- One more round: thread n, at step c, closes. -/
structure Cv (s : St) (n : Nat) (t : Th) (c m o : Int) : Prop where
  lt : decide (m ≤ o) = false
  w : Wk s 999999
  hn : n < s.th.length
  ht : gth s.th n = pcT t c
  st : t.st = 1
  sd : opSide t.ki = 3
  o1 : In64 (o + 1)
section
variable {s : St} {n : Nat} {t : Th} {c m o : Int} {x : Exit} {S : Sg}
theorem Cv.ok (h : Cv s n t c m o) : s.ok := h.w.ok (by omega)
theorem Cv.fit (h : Cv s n t c m o) : s.fit := h.w.fit (by omega)
theorem Cv.rs (h : Cv s n t c m o) : thRuns t.st = 0 := by rw [h.st]; rfl
theorem Cv.el (h : Cv s n t c m o) : ElP (s.th.map thT) (0 + (n : Int).toNat) (thT (pcT t c)) := h.ht ▸ elT h.hn
theorem Cv.id (h : Cv s n t c m o) : 0 ≤ (n : Int) ∧ (n : Int).toNat < s.th.length := idT h.hn
theorem Cv.nk (h : Cv s n t c m o) : (t.ki != 9) = true := by
  have := h.sd
  by_cases e : t.ki = 9
  · rw [e] at this; exact absurd this (by decide)
  · simp [e]
theorem Cv.pa {B : Prop} (h : Cv s n t c m o) (k : B) : decide (m ≤ o) = false ∧ LenP s.th.length s.th.length (s.th.map thT) ∧ AC Try.prog 13 [stT s] (.bool true) ∧ decide ((n : Int) < 0) = false ∧ decide ((s.th.length : Int) ≤ n) = false ∧ (0 ≤ (n : Int) ∧ (n : Int).toNat < s.th.length) ∧ ElP (s.th.map thT) (0 + (n : Int).toNat) (thT (pcT t c)) ∧ AC Try.prog 41 [thT (pcT t c)] (.int .i64 0) ∧ (0 ≤ (n : Int) ∧ (n : Int).toNat < s.th.length) ∧ ElP (s.th.map thT) (0 + (n : Int).toNat) (thT (pcT t c)) ∧ AC Try.prog 43 [.int .i64 (pcT t c).ki] (.int .i64 3) ∧ (0 ≤ (n : Int) ∧ (n : Int).toNat < s.th.length) ∧ ElP (s.th.map thT) (0 + (n : Int).toNat) (thT (pcT t c)) ∧ B :=
  ⟨h.lt, len_map s.th, ac_pcheck h.w.b h.ok, by simp, by have := h.hn; simp; omega, h.id, h.el, ac_pruns (t := pcT t c) h.rs, h.id, h.el, by have := ac_pside (pcT t c).ki; exact h.sd ▸ this, h.id, h.el, k⟩
def S0 (s : St) (n : Nat) (t : Th) (d : Int) : St := ((s.toWord s.hd s.tl d).setTh n (rgT (pcT t 0) 1 0)).addLg (tlE (s.toWord s.hd s.tl d) n t.ki 1 0)
set_option maxRecDepth 100000 in
theorem cv_shut (h : Cv s n t 0 m o) (hL : GotoP Try.prog 0 (gotoOf Try.prog 12) (hdC ((S0 s n t (clM s.md (modeI t.ki))).setTh n (pcT (rgT t 1 0) 1)) n m (o + 1) (s.th.set n (rgT (pcT t 0) 1 0)).length) x S) : GotoP Try.prog 0 (gotoOf Try.prog 12) (hdC s n m o s.th.length) x S :=
  have hw := h.w.shut (modeI t.ki)
  goto_more mixed (fuel := 9) (n := 9) (keep := [2, 6, 8, 9, 10]) (ext := cPX) (im := [0, 4, 2, 3]) (orc := cPO t 0 ++ [.nilFunc, thT (pcT t 0), .int .i64 (modeI t.ki), wdT s.hd s.tl (clM s.md (modeI t.ki)), .iface 1000004 (.func (.yield 18) #[.agg (stL (S0 s n t (clM s.md (modeI t.ki)))), .int .i64 11] #[]), thT (rgT (pcT t 0) 1 0), vRow (s.th.set n (rgT (pcT t 0) 1 0)).length (((s.th.set n (rgT (pcT t 0) 1 0)).set n (pcT (rgT t 1 0) 1)).map thT)])
    (h.pa <| an h.id <| an h.el <| an (ac_pmode t.ki) <| an (ac_pclose (h := s.hd) (t := s.tl) (m := s.md) (mode_is t.ki)) <| an (len_map (f := thT) s.th) <| an (tell_c (s := s.toWord s.hd s.tl (clM s.md (modeI t.ki))) (c := 0) (r := 1) (has_of hw.b h.hn) h.ht h.nk (hw.ok (by omega)) (hw.fit (by omega))) <|
      an (idT (l := s.th.set n (rgT (pcT t 0) 1 0)) (by rw [List.length_set]; exact h.hn)) <| an (el2 h.hn (rgT (pcT t 0) 1 0)) <| an (setT (s.th.set n (rgT (pcT t 0) 1 0)) n (pcT (rgT t 1 0) 1)) <| an h.o1 trivial) (by kernel_rfl) hL
set_option maxRecDepth 100000 in
theorem cv_full {u : St} (h : Cv s n t 1 m o) (he : AC Try.prog 72 [evT s.fe s.fl] (.tuple #[evT (nxE s.fe) [], rowI s.fl])) (hk : LoopK Try.prog 1 (loopOf Try.prog 73 0) (hdW (s.toFull (nxE s.fe) []) n s.fl 0 s.th.length) (.exit 0) (hdW u n s.fl s.fl.length u.th.length)) (hu : n < u.th.length) (hg : gth u.th n = pcT t 1)
    (hL : GotoP Try.prog 0 (gotoOf Try.prog 12) (hdC (u.setTh n (pcT t 2)) n m (o + 1) u.th.length) x S) : GotoP Try.prog 0 (gotoOf Try.prog 12) (hdC s n m o s.th.length) x S :=
  goto_more mixed (fuel := 9) (n := 9) (keep := [2, 6, 8, 9, 10]) (ext := cPX) (im := [0, 6, 2, 3]) (orc := cPO t 1 ++ [.nilFunc, .nilFunc, .tuple #[evT (nxE s.fe) [], rowI s.fl], oK 1 [0, 1] [0, 6, 7, 8] 0 (hdWT s.fl s.fl.length) [bX u n u.th.length, bT u.th u.th.length], thT (pcT t 1), vRow u.th.length ((u.th.set n (pcT t 2)).map thT)])
    (h.pa <| an he <| an hk <| an (idT hu) <| an (hg ▸ elT hu) <| an (setT u.th n (pcT t 2)) <| an h.o1 trivial) (by kernel_rfl) hL
set_option maxRecDepth 100000 in
theorem cv_empty {u : St} (h : Cv s n t c m o) (h0 : (c == 0) = false) (h1 : (c == 1) = false) (he : AC Try.prog 72 [evT s.ee s.el] (.tuple #[evT (nxE s.ee) [], rowI s.el])) (hk : LoopK Try.prog 1 (loopOf Try.prog 73 0) (hdW (s.toEmpty (nxE s.ee) []) n s.el 0 s.th.length) (.exit 0) (hdW u n s.el s.el.length u.th.length)) (hu : n < u.th.length) (hg : gth u.th n = pcT t c)
    (hL : GotoP Try.prog 0 (gotoOf Try.prog 12) (hdC (u.setTh n (doneT t)) n m (o + 1) u.th.length) x S) : GotoP Try.prog 0 (gotoOf Try.prog 12) (hdC s n m o s.th.length) x S :=
  goto_more mixed (fuel := 9) (n := 9) (keep := [2, 6, 8, 9, 10]) (ext := cPX) (im := [0, 6, 2, 3]) (orc := cPO t c ++ [.bool false, .bool false, .tuple #[evT (nxE s.ee) [], rowI s.el], oK 1 [0, 1] [0, 6, 7, 8] 0 (hdWT s.el s.el.length) [bX u n u.th.length, bT u.th u.th.length], thT (pcT t c), .tuple #[thT (doneT t), .int .i64 0], thT (pcT t c), vRow u.th.length ((u.th.set n (doneT t)).map thT)])
    (h.pa <| an h0 <| an h1 <| an he <| an hk <| an (idT hu) <| an (idT hu) <| an (hg ▸ elT hu) <| an (ac_pdone (done_of (c := c) h.rs)) <| an (hg ▸ elT hu) <| an (setT u.th n (doneT t)) <| an h.o1 trivial) (by kernel_rfl) hL
end
end Go.Proofs.Ytkflpaicohbppaa

/- Layer 9: the document's answers. -/
namespace Go.Proofs.Ytkflpaicohbppaa
set_option linter.unusedVariables false
set_option linter.unusedSimpArgs false
open Go.ChangeShapes Go.WideShapes Go.ChangeAt Go.RowKit

theorem slo_equal (a b : Slo) (w : World) : (Op.equal 58 (.agg #[.int .i64 a.st, .int .i64 a.vl]) (.agg #[.int .i64 b.st, .int .i64 b.vl])).run Try.prog w = .ok (decide (a = b)) w := by
  have hu := Try.underlying58
  have h3 := Try.underlying3
  have hp : Try.prog.stoodInHeld 58 = false := by kernel_rfl
  have hc : Try.prog.info? 3 = _ := rfl
  have e : decide (a = b) = (a.st == b.st && a.vl == b.vl) := by
    rw [Bool.eq_iff_iff]; cases a; cases b; simp
  rw [e]
  unfold Op.equal Op.maxDepth
  rw [run_equalIn_struct w 9999 _ _ _ (by unfold Program.fieldsOf; rw [hu]) hp]
  unfold Program.fieldsOf
  rw [hu]
  cases h : (a.st == b.st) <;> cases h2 : (a.vl == b.vl)
  all_goals simp [Op.eqFields, part, isAgg, run_underlying h3, run_equalIn_int _ _ _ _ _ _ _ h3, h, h2]
theorem slo_neq (a b : Slo) (w : World) : (binOp .neq 58 (.agg #[.int .i64 a.st, .int .i64 a.vl]) (.agg #[.int .i64 b.st, .int .i64 b.vl])).run Try.prog w = .ok (.bool (!decide (a = b))) w := by
  have h := slo_equal a b w
  have hu := Try.underlying58
  simp [binOp, h, run_underlying hu, Result.andThen]
theorem gs_take_eq {l m : List Slo} {j : Nat} (hL : l.length = m.length) (hj : j < l.length) (ht : l.take j = m.take j) (h : gs l j = gs m j) : l.take (j + 1) = m.take (j + 1) := by
  rw [gs_take hj, gs_take (by omega), ht, h]

set_option maxHeartbeats 1000000 in
theorem rssame_any (l m : List Slo) (p q : Option Addr) (k k' : Nat) (w : World) (hl : Sl w 2 Slo.cells l (.slice p l.length k)) (hm : Sl w 2 Slo.cells m (.slice q m.length k')) (hlm : l.length ≤ 1000) :
    Calls Try.prog 28 #[.slice p l.length k, .slice q m.length k'] w fun e w' => e = .returned (.bool (decide (l = m))) ∧ Kept w w' := by
  obtain ⟨_, _, e1, k1, _, _, hlc⟩ := hl.is
  obtain ⟨_, _, e2, k2, _, _, hmc⟩ := hm.is
  cases e1
  cases e2
  have HL := Lib.hid hl
  have HM := Lib.hid hm
  clear hl hm
  by_cases hlen : l.length = m.length
  · have hbe : ((l.length : Int) == (m.length : Int)) = true := by simp [hlen]
    have hbn : ((l.length : Int) != (m.length : Int)) = false := by simp [hlen]
    have hL := Lib.hid hlen
    clear hlen
    go_enter Try.func28, Try.ntmps28
    go_wp2
    go_loopw [5] (fun i wr => ∃ j : Nat, j ≤ l.length ∧ i = .int .i64 j ∧ l.take j = m.take j ∧ Below w.heap.size w wr) (fun i _ => l.length - (intOf i).toNat)
    case atStart => exact ⟨0, by omega, rfl, rfl, Below.refl _ _⟩
    case round =>
      obtain ⟨j, hj, rfl, ht, hB⟩ := hrel
      have hT := Lib.hid ht
      clear ht
      by_cases hlt : j < l.length
      · have hlt' : j < m.length := by rw [← hL.out]; exact hlt
        obtain ⟨b, o, rfl, hb, -⟩ := hlc (by intro h; subst h; simp at hlt)
        obtain ⟨b', o', rfl, hb', -⟩ := hmc (by intro h; subst h; simp at hlt')
        obtain ⟨c1, c2⟩ := ss_at (HL.out.kept hB) hlt
        obtain ⟨c3, c4⟩ := ss_at (HM.out.kept hB) hlt'
        clear hlc hmc
        have hbw : b < wr.heap.size := Nat.lt_of_lt_of_le hb hB.size
        have hbw' : b' < wr.heap.size := Nat.lt_of_lt_of_le hb' hB.size
        have hts := fun h => Lib.hid (gs_take_eq hL.out hlt hT.out h)
        have hne : Hid (gs l j ≠ gs m j → l ≠ m) := fun h h' => h (by subst h'; rfl)
        have hcmp := slo_neq (gs l j) (gs m j)
        generalize gs l j = x at *
        generalize gs m j = y at *
        have i1 : (0 : Int) ≤ (j : Int) := by omega
        have i2 : (j : Int) < (l.length : Int) := by omega
        have i3 : (j : Int) < (m.length : Int) := by omega
        cases hxy : decide (x = y)
        · have he : x ≠ y := by simpa using hxy
          rw [hxy] at hcmp
          simp only [Bool.not_false] at hcmp
          have hn := Lib.hid (hne.out he)
          clear hts hne he hxy
          go_wp2
          (refine wp_region_kept (w := w) [(b, o + j * 2, .int .i64 x.st), (b, o + j * 2 + 1, .int .i64 x.vl), (b', o' + j * 2, .int .i64 y.st), (b', o' + j * 2 + 1, .int .i64 y.vl)] (by kernel_rfl) (by kernel_rfl) (by repeat' (first | (with_reducible exact Below.refl _ _) | (with_reducible assumption) | (with_reducible refine kept_alloc ?_ _) | (with_reducible refine kept_drewN ?_ _) | (with_reducible refine Below.drew ?_) | (with_reducible refine Below.setCell ?_ (by first | omega | (simp; omega) | (simp; done)) _) | (refine kept_trans ?_ (by with_reducible assumption)))) (by first | (simp [CellsAt, *, World.cell?_alloc_past, World.cell?_alloc_at]; done) | (simp [CellsAt, *, World.cell?_alloc_past, World.cell?_alloc_at]; omega)) (fun hne => ?_); (have hq0 : ∀ xwd : Wd w [(b, o + j * 2, .int .i64 x.st), (b, o + j * 2 + 1, .int .i64 x.vl), (b', o' + j * 2, .int .i64 y.st), (b', o' + j * 2 + 1, .int .i64 y.vl)], xwd.at.cell? ⟨b, o + j * 2, none⟩ = some (.int .i64 x.st) := fun xwd => xwd.cells.1.2; have hq1 : ∀ xwd : Wd w [(b, o + j * 2, .int .i64 x.st), (b, o + j * 2 + 1, .int .i64 x.vl), (b', o' + j * 2, .int .i64 y.st), (b', o' + j * 2 + 1, .int .i64 y.vl)], xwd.at.cell? ⟨b, o + j * 2 + 1, none⟩ = some (.int .i64 x.vl) := fun xwd => xwd.cells.2.1.2; have hq2 : ∀ xwd : Wd w [(b, o + j * 2, .int .i64 x.st), (b, o + j * 2 + 1, .int .i64 x.vl), (b', o' + j * 2, .int .i64 y.st), (b', o' + j * 2 + 1, .int .i64 y.vl)], xwd.at.cell? ⟨b', o' + j * 2, none⟩ = some (.int .i64 y.st) := fun xwd => xwd.cells.2.2.1.2; have hq3 : ∀ xwd : Wd w [(b, o + j * 2, .int .i64 x.st), (b, o + j * 2 + 1, .int .i64 x.vl), (b', o' + j * 2, .int .i64 y.st), (b', o' + j * 2 + 1, .int .i64 y.vl)], xwd.at.cell? ⟨b', o' + j * 2 + 1, none⟩ = some (.int .i64 y.vl) := fun xwd => xwd.cells.2.2.2.1.2); (try simp only [List.append_eq, List.cons_append, List.nil_append]); (repeat (go_big_quiet_step ((first | fail)))); (refine wpQuiet_nil ?_); intro wq hwq; obtain ⟨xwd, hxwd⟩ := hwq; have hgx : Below w.heap.size w wq := (by rw [hxwd]; exact xwd.kept); have hcs := (show CellsAt wq [(b, o + j * 2, .int .i64 x.st), (b, o + j * 2 + 1, .int .i64 x.vl), (b', o' + j * 2, .int .i64 y.st), (b', o' + j * 2 + 1, .int .i64 y.vl)] by rw [hxwd]; exact xwd.cells); clear hxwd xwd hne)
          go_wp2
          go_ret
          exact ⟨ret_bool (by simp [hn.out]), by repeat' (first | (with_reducible exact Below.refl _ _) | (with_reducible assumption) | (with_reducible refine kept_alloc ?_ _) | (with_reducible refine kept_drewN ?_ _) | (with_reducible refine Below.drew ?_) | (with_reducible refine Below.setCell ?_ (by first | omega | (simp; omega) | (simp; done)) _) | (refine kept_trans ?_ (by with_reducible assumption)))⟩
        · have he : x = y := by simpa using hxy
          rw [hxy] at hcmp
          simp only [Bool.not_true] at hcmp
          have hn := hts he
          clear hts hne he hxy
          go_wp2
          (refine wp_region_kept (w := w) [(b, o + j * 2, .int .i64 x.st), (b, o + j * 2 + 1, .int .i64 x.vl), (b', o' + j * 2, .int .i64 y.st), (b', o' + j * 2 + 1, .int .i64 y.vl)] (by kernel_rfl) (by kernel_rfl) (by repeat' (first | (with_reducible exact Below.refl _ _) | (with_reducible assumption) | (with_reducible refine kept_alloc ?_ _) | (with_reducible refine kept_drewN ?_ _) | (with_reducible refine Below.drew ?_) | (with_reducible refine Below.setCell ?_ (by first | omega | (simp; omega) | (simp; done)) _) | (refine kept_trans ?_ (by with_reducible assumption)))) (by first | (simp [CellsAt, *, World.cell?_alloc_past, World.cell?_alloc_at]; done) | (simp [CellsAt, *, World.cell?_alloc_past, World.cell?_alloc_at]; omega)) (fun hne => ?_); (have hq0 : ∀ xwd : Wd w [(b, o + j * 2, .int .i64 x.st), (b, o + j * 2 + 1, .int .i64 x.vl), (b', o' + j * 2, .int .i64 y.st), (b', o' + j * 2 + 1, .int .i64 y.vl)], xwd.at.cell? ⟨b, o + j * 2, none⟩ = some (.int .i64 x.st) := fun xwd => xwd.cells.1.2; have hq1 : ∀ xwd : Wd w [(b, o + j * 2, .int .i64 x.st), (b, o + j * 2 + 1, .int .i64 x.vl), (b', o' + j * 2, .int .i64 y.st), (b', o' + j * 2 + 1, .int .i64 y.vl)], xwd.at.cell? ⟨b, o + j * 2 + 1, none⟩ = some (.int .i64 x.vl) := fun xwd => xwd.cells.2.1.2; have hq2 : ∀ xwd : Wd w [(b, o + j * 2, .int .i64 x.st), (b, o + j * 2 + 1, .int .i64 x.vl), (b', o' + j * 2, .int .i64 y.st), (b', o' + j * 2 + 1, .int .i64 y.vl)], xwd.at.cell? ⟨b', o' + j * 2, none⟩ = some (.int .i64 y.st) := fun xwd => xwd.cells.2.2.1.2; have hq3 : ∀ xwd : Wd w [(b, o + j * 2, .int .i64 x.st), (b, o + j * 2 + 1, .int .i64 x.vl), (b', o' + j * 2, .int .i64 y.st), (b', o' + j * 2 + 1, .int .i64 y.vl)], xwd.at.cell? ⟨b', o' + j * 2 + 1, none⟩ = some (.int .i64 y.vl) := fun xwd => xwd.cells.2.2.2.1.2); (try simp only [List.append_eq, List.cons_append, List.nil_append]); (repeat (go_big_quiet_step ((first | fail)))); (refine wpQuiet_nil ?_); intro wq hwq; obtain ⟨xwd, hxwd⟩ := hwq; have hgx : Below w.heap.size w wq := (by rw [hxwd]; exact xwd.kept); have hcs := (show CellsAt wq [(b, o + j * 2, .int .i64 x.st), (b, o + j * 2 + 1, .int .i64 x.vl), (b', o' + j * 2, .int .i64 y.st), (b', o' + j * 2 + 1, .int .i64 y.vl)] by rw [hxwd]; exact xwd.cells); clear hxwd xwd hne)
          go_wp2
          exact ⟨⟨j + 1, by omega, by go_num, hn.out, by repeat' (first | (with_reducible exact Below.refl _ _) | (with_reducible assumption) | (with_reducible refine kept_alloc ?_ _) | (with_reducible refine kept_drewN ?_ _) | (with_reducible refine Below.drew ?_) | (with_reducible refine Below.setCell ?_ (by first | omega | (simp; omega) | (simp; done)) _) | (refine kept_trans ?_ (by with_reducible assumption)))⟩, by simp [intOf]; omega⟩
      · have : j = l.length := by omega
        subst this
        have he : Hid (l = m) := Lib.hid (by have := hT.out; rw [List.take_length, hL.out, List.take_length] at this; exact this)
        clear hT hlc hmc
        go_wp2
        go_ret
        exact ⟨ret_bool (by simp [he.out]), by repeat' (first | (with_reducible exact Below.refl _ _) | (with_reducible assumption) | (with_reducible refine kept_alloc ?_ _) | (with_reducible refine kept_drewN ?_ _) | (with_reducible refine Below.drew ?_) | (with_reducible refine Below.setCell ?_ (by first | omega | (simp; omega) | (simp; done)) _) | (refine kept_trans ?_ (by with_reducible assumption)))⟩
  · have hn : Hid (l ≠ m) := Lib.hid (fun h => hlen (by rw [h]))
    have hbn : ((l.length : Int) != (m.length : Int)) = true := by simp; omega
    clear hlen hlc hmc
    go_enter Try.func28, Try.ntmps28
    go_wp2
    go_ret
    exact ⟨ret_bool (by simp [hn.out]), by repeat' (first | (with_reducible exact Below.refl _ _) | (with_reducible assumption) | (with_reducible refine kept_alloc ?_ _) | (with_reducible refine kept_drewN ?_ _) | (with_reducible refine Below.drew ?_) | (with_reducible refine Below.setCell ?_ (by first | omega | (simp; omega) | (simp; done)) _) | (refine kept_trans ?_ (by with_reducible assumption)))⟩
end Go.Proofs.Ytkflpaicohbppaa

/- Contracts told by abstract values: whether two states are one. -/
namespace Go.Proofs.Ytkflpaicohbppaa
set_option linter.unusedVariables false
set_option linter.unusedSimpArgs false
open Go.RowKit
theorem ac_rints (l : List Int) (hm : l.length ≤ 1000000) : AC Try.prog 11 [rowI l, rowI l] (.bool true) := by
  intro O W vs hl hat ; obtain ⟨ys, rfl, _, _, rfl, h0, _, _, rfl, h1, rfl⟩ := args_of hat
  obtain ⟨p, k, rfl, hs⟩ := rp_rowI.1 h0
  obtain ⟨q, k', rfl, ht⟩ := rp_rowI.1 h1
  refine (rints_any l l p q k k' W hs.s ht.s (by omega)).mono ?_
  rintro e W' ⟨rfl, hk⟩
  exact ⟨_, rfl, rp_bool.2 (by simp), hk⟩
theorem ac_rssame (l : List Slo) (hm : l.length ≤ 1000) : AC Try.prog 28 [rowS l, rowS l] (.bool true) := by
  intro O W vs hl hat ; obtain ⟨ys, rfl, _, _, rfl, h0, _, _, rfl, h1, rfl⟩ := args_of hat
  obtain ⟨p, k, rfl, hs⟩ := rp_rowS.1 h0
  obtain ⟨q, k', rfl, ht⟩ := rp_rowS.1 h1
  refine (rssame_any l l p q k k' W hs.s ht.s hm).mono ?_
  rintro e W' ⟨rfl, hk⟩
  exact ⟨_, rfl, rp_bool.2 (by simp), hk⟩
theorem ask_th (t : Th) (x y : Operand) : AskP Try.prog (.binOp .neq 38 x y 38) [thT t, thT t] (.bool false) :=
  ask_bin (fun x y W => (guard_agg (by kernel_rfl) x y _ _ W).1) (fun W => by simpa using th_neq t t W) x y
theorem ask_en (t : En) (x y : Operand) : AskP Try.prog (.binOp .neq 56 x y 56) [enT t, enT t] (.bool false) :=
  ask_bin (fun x y W => (guard_agg (by kernel_rfl) x y _ _ W).1) (fun W => by simpa using en_neq t t W) x y
theorem ask_cf (c : Cf) (x y : Operand) : AskP Try.prog (.binOp .eql 23 x y 23) [cfT c, cfT c] (.bool true) :=
  ask_bin (fun x y W => (guard_agg (by kernel_rfl) x y _ _ W).2) (fun W => by simpa using cf_eql c c W) x y
theorem ask_wd (h t m : Int) (x y : Operand) : AskP Try.prog (.binOp .eql 25 x y 25) [wdT h t m, wdT h t m] (.bool true) :=
  ask_bin (fun x y W => (guard_agg (by kernel_rfl) x y _ _ W).2) (fun W => by simpa using wo_eql ⟨h, t, m⟩ ⟨h, t, m⟩ W) x y
def hdTh (l : List Th) (i : Int) : Sg := ⟨mkT 26 [(0, rowT l), (1, rowT l), (5, .int .i64 i)], []⟩
def hdEn (l : List En) (i : Int) : Sg := ⟨mkT 26 [(0, rowE l), (1, rowE l), (5, .int .i64 i)], []⟩
def gle (l : List En) (i : Nat) : En := l.getD i ⟨0, 0, 0, 0, 0⟩
theorem ixEn {l : List En} {i : Nat} (h : i < l.length) : IxP ((l.map enT).toArray) (i : Int) (enT (gle l i)) := ⟨by omega, by simp [gle, h]⟩
set_option maxRecDepth 100000 in
theorem th_lp (l : List Th) (hm : l.length ≤ 1000000) : ∀ (k i : Nat), l.length - i = k → i ≤ l.length → LoopP Try.prog (loopOf Try.prog 30 0) (hdTh l i) (.exit 0) (hdTh l l.length)
  | 0, i, hk, hi => by
    have : i = l.length := by omega
    subst this
    exact loop_end mixed (fuel := 9) (n := 3) (im := []) (keep := [0, 1, 5]) (ext := []) (orc := [.bool false]) (an (show decide ((l.length : Int) < l.length) = false by simp) trivial) (by intro e; cases e) (by kernel_rfl)
  | k + 1, i, hk, hi => by
    have ih := th_lp l hm k (i + 1) (by omega) (by omega)
    rw [show ((i + 1 : Nat) : Int) = (i : Int) + 1 by omega] at ih
    exact loop_more mixed (fuel := 9) (n := 3) (im := []) (keep := [0, 1, 5]) (ext := []) (orc := [.bool true, thT (gth l i), thT (gth l i), .bool false, .bool false])
      (an (show decide ((i : Int) < l.length) = true by simp; omega) <| an (ixT (l := l) (n := i) (by omega)) <| an (ixT (l := l) (n := i) (by omega)) <| an (ask_th (gth l i) (.tmp 20) (.tmp 24)) <| an (rfl : false = false) <| an (show In64 ((i : Int) + 1) by constructor <;> omega) trivial) (by kernel_rfl) ih
set_option maxRecDepth 100000 in
theorem en_lp (l : List En) (hm : l.length ≤ 1000000) : ∀ (k i : Nat), l.length - i = k → i ≤ l.length → LoopP Try.prog (loopOf Try.prog 31 0) (hdEn l i) (.exit 0) (hdEn l l.length)
  | 0, i, hk, hi => by
    have : i = l.length := by omega
    subst this
    exact loop_end mixed (fuel := 9) (n := 3) (im := []) (keep := [0, 1, 5]) (ext := []) (orc := [.bool false]) (an (show decide ((l.length : Int) < l.length) = false by simp) trivial) (by intro e; cases e) (by kernel_rfl)
  | k + 1, i, hk, hi => by
    have ih := en_lp l hm k (i + 1) (by omega) (by omega)
    rw [show ((i + 1 : Nat) : Int) = (i : Int) + 1 by omega] at ih
    exact loop_more mixed (fuel := 9) (n := 3) (im := []) (keep := [0, 1, 5]) (ext := []) (orc := [.bool true, enT (gle l i), enT (gle l i), .bool false, .bool false])
      (an (show decide ((i : Int) < l.length) = true by simp; omega) <| an (ixEn (l := l) (i := i) (by omega)) <| an (ixEn (l := l) (i := i) (by omega)) <| an (ask_en (gle l i) (.tmp 20) (.tmp 24)) <| an (rfl : false = false) <| an (show In64 ((i : Int) + 1) by constructor <;> omega) trivial) (by kernel_rfl) ih
set_option maxRecDepth 100000 in
theorem ac_rthreads (l : List Th) (hm : l.length ≤ 1000000) : AC Try.prog 30 [rowT l, rowT l] (.bool true) :=
  ac_path mixed (ext := []) (fuel := 9) (n := 3) (orc := [.bool false, oL [] [0, 1, 5] 0 [(0, rowT l), (1, rowT l), (5, .int .i64 l.length)] []])
    (an (show ((l.length : Int) != l.length) = false by simp) <| an (th_lp l hm l.length 0 rfl (by omega)) trivial) (by kernel_rfl)
set_option maxRecDepth 100000 in
theorem ac_rlogs (l : List En) (hm : l.length ≤ 1000000) : AC Try.prog 31 [rowE l, rowE l] (.bool true) :=
  ac_path mixed (ext := []) (fuel := 9) (n := 3) (orc := [.bool false, oL [] [0, 1, 5] 0 [(0, rowE l), (1, rowE l), (5, .int .i64 l.length)] []])
    (an (show ((l.length : Int) != l.length) = false by simp) <| an (en_lp l hm l.length 0 rfl (by omega)) trivial) (by kernel_rfl)
set_option maxRecDepth 100000 in
theorem ac_resame (ep : Int) (l : List Int) (hm : l.length ≤ 1000000) : AC Try.prog 29 [evT ep l, evT ep l] (.bool true) := by
  rw [show (true : Bool) = (ep == ep) by simp]
  exact ac_path mixed (ext := [11]) (fuel := 9) (n := 3) (orc := [vD true]) (an (ac_rints l hm) trivial) (by kernel_rfl)
set_option maxRecDepth 100000 in
/-- A state is the same as itself. -/
theorem ac_rsame {s : St} (hw : s.few) (hl : s.lg.length ≤ 1000000) : AC Try.prog 14 [stT s, stT s] (.bool true) :=
  ac_path mixed (ext := [28, 11, 29, 30, 31]) (fuel := 9) (n := 3)
    (orc := [.bool true, .nilFunc, .bool true, .nilFunc, vD true, vD true, vD true, vD true, vD true, vD true, vD true, .bool true])
    (an (ask_cf s.cf (.tmp 10) (.tmp 12)) <| an (ask_wd s.hd s.tl s.md (.tmp 16) (.tmp 18)) <| an (ac_rssame s.sl hw.sl) <| an (ac_rints s.sn (by have := hw.sn; omega)) <| an (ac_rints s.rc (by have := hw.rc; omega)) <| an (ac_resame s.fe s.fl (by have := hw.fl; omega)) <| an (ac_resame s.ee s.el (by have := hw.el; omega)) <|
      an (ac_rthreads s.th (by have := hw.th; omega)) <| an (ac_rlogs s.lg hl) <| an (show (s.nw == s.nw) = true by simp) trivial) (by kernel_rfl)
end Go.Proofs.Ytkflpaicohbppaa

/- Contracts told by abstract values: the program's New, Invoke, Queue, by the engine. -/
namespace Go.Proofs.Ytkflpaicohbppaa
set_option linter.unusedVariables false
set_option linter.unusedSimpArgs false
open Go.RowKit
theorem ac_croom (c : Cf) : AC Try.prog 38 [cfT c] (.int .i64 (cfR c)) := by
  intro O W vs hl hat ; obtain ⟨ys, rfl, _, _, rfl, h0, rfl⟩ := args_of hat
  rw [rp_cfT] at h0
  subst h0
  refine (croom_any c.lg c.th c.po c.wt c.sp c.yi c.si W).mono ?_
  rintro e W' ⟨rfl, hk⟩
  exact ⟨_, rfl, rp_int.2 rfl, hk⟩
theorem ac_snew (r : Int) (hr : In64 r) : AC Try.prog 37 [.int .i64 r] (rowS (newL r)) := by
  intro O W vs hl hat ; obtain ⟨ys, rfl, _, _, rfl, h0, rfl⟩ := args_of hat
  rw [rp_int] at h0
  subst h0
  refine (snew_any r hr W).mono ?_
  rintro e W' ⟨p, k, rfl, ho, hk⟩
  exact ⟨_, rfl, rowS_own hl ho, hk⟩
theorem ac_omay {c : Cf} {i k r : Int} (h : opMay c.th c.si i k = r) : AC Try.prog 33 [cfT c, .int .i64 i, .int .i64 k] (.int .i64 r) := by
  intro O W vs hl hat ; obtain ⟨ys, rfl, _, _, rfl, h0, _, _, rfl, h1, _, _, rfl, h2, rfl⟩ := args_of hat
  rw [rp_cfT] at h0
  rw [rp_int] at h1 h2
  subst h0 h1 h2
  refine (omay_any c.lg c.th c.po c.wt c.sp c.yi c.si i k W).mono ?_
  rintro e W' ⟨rfl, hk⟩
  exact ⟨_, rfl, rp_int.2 (by rw [h]), hk⟩
theorem make_th {n : Int} (h0 : 0 ≤ n) (h1 : n ≤ 1000) : MakeP n n (List.replicate n.toNat th0).length ((List.replicate n.toNat th0).map thT) (thT th0) := ⟨by simp; omega, by omega, by omega, by simp⟩
set_option maxRecDepth 100000 in
theorem ac_pnew {c : Cf} (hc : cfB c = true) : AC Try.prog 17 [cfT c] (.tuple #[stT (newSt c), .int .i64 0]) :=
  ac_path mixed (ext := [23, 38, 37]) (fuel := 9) (n := 4) (orc := [.int .i64 0, .nilFunc, .int .i64 (cfR c), rowS (newL (cfR c)), rowT (List.replicate c.th.toNat th0)])
    (an (ac_ccheck (c := c) (r := 0) (by simp [hc])) <| an (ac_croom c) <| an (ac_snew (cfR c) (room_in c)) <| an (make_th (n := c.th) (by have := cf_th hc; omega) (by have := cf_th hc; omega)) <| an (len_map (f := thT) (List.replicate c.th.toNat th0)) trivial) (by kernel_rfl)
set_option maxRecDepth 100000 in
theorem ac_pnew_no {c : Cf} (hc : cfB c = false) : AC Try.prog 17 [cfT c] (.tuple #[stT st0, .int .i64 20]) :=
  ac_path mixed (ext := [23, 38, 37]) (fuel := 9) (n := 4) (orc := [.int .i64 20, .nilFunc])
    (an (ac_ccheck (c := c) (r := 20) (by simp [hc])) trivial) (by kernel_rfl)
set_option maxRecDepth 100000 in
theorem ac_pinv_1 {s : St} {i k v u : Int} (hA : stB s = false) (ho : s.ok) (hf : s.fit) : AC Try.prog 15 [stT s, .int .i64 i, .int .i64 k, .int .i64 v, .int .i64 u] (.tuple #[stT s, .int .i64 20]) :=
  ac_path mixed (ext := [13, 58, 57, 60, 59]) (fuel := 9) (n := 5) (orc := [vD false, rowS s.sl, rowI s.sn, rowI s.rc, rowI s.fl, rowI s.el, rowT s.th, rowE s.lg])
    (an (ac_pcheck hA ho) <| an (ac_copS s.sl hf.sl) <| an (ac_copI s.sn hf.sn) <| an (ac_copI s.rc hf.rc) <| an (ac_copI s.fl hf.fl) <| an (ac_copI s.el hf.el) <| an (ac_copT s.th hf.th) <| an (ac_copE s.lg hf.lg) trivial) (by kernel_rfl)
set_option maxRecDepth 100000 in
theorem ac_pinv_2 {s : St} {i k v u E : Int} (hA : stB s = true) (hE : opMay s.cf.th s.cf.si i k = E) (hE0 : E ≠ 0) (ho : s.ok) (hf : s.fit) : AC Try.prog 15 [stT s, .int .i64 i, .int .i64 k, .int .i64 v, .int .i64 u] (.tuple #[stT s, .int .i64 E]) :=
  ac_path mixed (ext := [13, 58, 57, 60, 59, 33]) (fuel := 9) (n := 5) (orc := [vD true, .int .i64 E, .bool true, rowS s.sl, rowI s.sn, rowI s.rc, rowI s.fl, rowI s.el, rowT s.th, rowE s.lg])
    (an (ac_pcheck hA ho) <| an (ac_omay hE) <| an (show (E != 0) = true by simpa using hE0) <| an (ac_copS s.sl hf.sl) <| an (ac_copI s.sn hf.sn) <| an (ac_copI s.rc hf.rc) <| an (ac_copI s.fl hf.fl) <| an (ac_copI s.el hf.el) <| an (ac_copT s.th hf.th) <| an (ac_copE s.lg hf.lg) trivial) (by kernel_rfl)
set_option maxRecDepth 100000 in
theorem ac_pinv_3 {s : St} {n : Nat} {k v u E : Int} {t : Th} (hA : stB s = true) (hM : opMay s.cf.th s.cf.si n k = 0) (hT : thBeg (gth s.th n) k v u E t) (hn : n < s.th.length) (ho : s.ok) (hf : s.fit) :
    AC Try.prog 15 [stT s, .int .i64 n, .int .i64 k, .int .i64 v, .int .i64 u] (.tuple #[stT (s.setTh n t), .int .i64 E]) :=
  ac_path mixed (ext := [13, 58, 57, 60, 33, 34]) (fuel := 9) (n := 5)
    (orc := [vD true, .int .i64 0, .nilFunc, thT (gth s.th n), .tuple #[thT t, .int .i64 E], rowS s.sl, rowI s.sn, rowI s.rc, rowI s.fl, rowI s.el, rowT s.th, rowE s.lg, thT (gth s.th n), rowT (s.th.set n t)])
    (an (ac_pcheck hA ho) <| an (ac_omay hM) <| an (ixT hn) <| an (ac_tbeg hT) <| an (ac_copS s.sl hf.sl) <| an (ac_copI s.sn hf.sn) <| an (ac_copI s.rc hf.rc) <| an (ac_copI s.fl hf.fl) <| an (ac_copI s.el hf.el) <| an (allK_T s.th) <| an (app_nil (f := thT) (lt_ne hn) hf.th) <|
      an (ac_copE s.lg hf.lg) <| an (idT hn) <| an (elT hn) <| an (setT s.th n t) <| an (show LenP s.th.length (s.th.set n t).length ((s.th.set n t).map thT) from ⟨by simp, by simp⟩) trivial) (by kernel_rfl)
theorem ac_pinvoke {s : St} {i k v u E : Int} {r : St} (h : stBeg s i k v u E r) (ho : s.ok) (hf : s.fit) : AC Try.prog 15 [stT s, .int .i64 i, .int .i64 k, .int .i64 v, .int .i64 u] (.tuple #[stT r, .int .i64 E]) := by
  rcases h with ⟨hA, rfl, rfl⟩ | ⟨hA, h0, rfl, rfl⟩ | ⟨hA, h0, n, t, rfl, hn, hT, rfl⟩
  · exact ac_pinv_1 hA ho hf
  · exact ac_pinv_2 hA rfl h0 ho hf
  · exact ac_pinv_3 hA h0 hT hn ho hf

/-! ### What is there -/
section
variable {s : St} {r : Int} {n : Nat}
end
end Go.Proofs.Ytkflpaicohbppaa

/- Layer 12: a thread parked, woken, and done: the program's, and the document's. -/
namespace Go.Proofs.Ytkflpaicohbppaa
set_option linter.unusedVariables false
set_option linter.unusedSimpArgs false
open Go.ChangeShapes Go.WideShapes Go.ChangeAt Go.RowKit

end Go.Proofs.Ytkflpaicohbppaa

/- Layer 12: what begins on a thread: the program's, and the document's. -/
namespace Go.Proofs.Ytkflpaicohbppaa
set_option linter.unusedVariables false
set_option linter.unusedSimpArgs false
open Go.ChangeShapes Go.WideShapes Go.ChangeAt Go.RowKit
end Go.Proofs.Ytkflpaicohbppaa

/- Layer 12: values given; what every statement asks first. -/
namespace Go.Proofs.Ytkflpaicohbppaa
set_option linter.unusedVariables false
set_option linter.unusedSimpArgs false
open Go.ChangeShapes Go.WideShapes Go.ChangeAt Go.RowKit
theorem beg_ok_u {t : Th} {k v u : Int} (h : t.st = 0) (h1 : opB k = true) (h2 : opTimed k = false) : thBeg t k v u 0 ⟨1, k, v, 0, 0, 0, 0, 0, false, 0, 0⟩ := .inr (.inr (.inl ⟨h, h1, h2, rfl, rfl⟩))
end Go.Proofs.Ytkflpaicohbppaa

/- The head of the laws of layer 14 (awake), by contracts told by abstract values. -/
namespace Go.Proofs.Ytkflpaicohbppaa
set_option linter.unusedVariables false
set_option linter.unusedSimpArgs false
open Go.RowKit
end Go.Proofs.Ytkflpaicohbppaa

/- What the laws of layer 14 call: Few, the program's Step, Steps of any state. -/
namespace Go.Proofs.Ytkflpaicohbppaa
set_option linter.unusedVariables false
set_option linter.unusedSimpArgs false
open Go.RowKit
theorem nil_no {s : St} (h : s.th = []) : stB s = false := by
  cases hB : stB s
  · rfl
  · have := (th_len hB).2.1; rw [h] at this; simp at this
def fewB (s : St) : Bool := decide ((s.sl.length : Int) ≤ 100) && (decide ((s.th.length : Int) ≤ 100) && (decide ((s.sn.length : Int) ≤ 100) && (decide ((s.rc.length : Int) ≤ 100) && (decide ((s.fl.length : Int) ≤ 100) && (decide ((s.el.length : Int) ≤ 100) && decide ((s.lg.length : Int) ≤ 200))))))
set_option maxRecDepth 100000 in
theorem ac_rfew (s : St) : AC Try.prog 8 [stT s] (.bool (fewB s)) := by
  unfold fewB
  cases h1 : decide ((s.sl.length : Int) ≤ 100)
  · exact ac_path mixed (ext := []) (fuel := 9) (n := 3) (orc := [.bool false]) (an h1 trivial) (by kernel_rfl)
  cases h2 : decide ((s.th.length : Int) ≤ 100)
  · exact ac_path mixed (ext := []) (fuel := 9) (n := 3) (orc := [.bool true, .bool false]) (an h1 <| an h2 trivial) (by kernel_rfl)
  cases h3 : decide ((s.sn.length : Int) ≤ 100)
  · exact ac_path mixed (ext := []) (fuel := 9) (n := 3) (orc := [.bool true, .bool true, .bool false]) (an h1 <| an h2 <| an h3 trivial) (by kernel_rfl)
  cases h4 : decide ((s.rc.length : Int) ≤ 100)
  · exact ac_path mixed (ext := []) (fuel := 9) (n := 3) (orc := [.bool true, .bool true, .bool true, .bool false]) (an h1 <| an h2 <| an h3 <| an h4 trivial) (by kernel_rfl)
  cases h5 : decide ((s.fl.length : Int) ≤ 100)
  · exact ac_path mixed (ext := []) (fuel := 9) (n := 3) (orc := [.bool true, .bool true, .bool true, .bool true, .bool false]) (an h1 <| an h2 <| an h3 <| an h4 <| an h5 trivial) (by kernel_rfl)
  cases h6 : decide ((s.el.length : Int) ≤ 100)
  · exact ac_path mixed (ext := []) (fuel := 9) (n := 3) (orc := [.bool true, .bool true, .bool true, .bool true, .bool true, .bool false]) (an h1 <| an h2 <| an h3 <| an h4 <| an h5 <| an h6 trivial) (by kernel_rfl)
  exact ac_path mixed (ext := []) (fuel := 9) (n := 3) (orc := [.bool true, .bool true, .bool true, .bool true, .bool true, .bool true]) (an h1 <| an h2 <| an h3 <| an h4 <| an h5 <| an h6 trivial) (by kernel_rfl)
theorem few_is {s : St} (h : fewB s = true) : s.few ∧ s.fit ∧ s.lg.length ≤ 200 := by
  simp only [fewB, Bool.and_eq_true, decide_eq_true_eq] at h
  obtain ⟨h1, h2, h3, h4, h5, h6, h7⟩ := h
  exact ⟨⟨by omega, by omega, by omega, by omega, by omega, by omega, by omega⟩, ⟨by omega, by omega, by omega, by omega, by omega, by omega, by omega⟩, by omega⟩
/-- A contract, as a law's walk is asked. -/
theorem law_of {g : FuncId} {args : List Value} {vs : Array Value} {W : World} (h : AC Try.prog g args (.bool true)) (hv : AtAll (Rp nowhere (fun _ => False) W) args.toArray vs) : Calls Try.prog g vs W fun e W' => e = .returned (.bool true) ∧ Kept W W' := calls_of h hv
end Go.Proofs.Ytkflpaicohbppaa

/- The program's Steps of who closes, of any state: as many as there are; Step, Near. -/
namespace Go.Proofs.Ytkflpaicohbppaa
set_option linter.unusedVariables false
set_option linter.unusedSimpArgs false
open Go.RowKit
/-! ### Plain -/
theorem closeK_stop (i : Int) : ∀ (k : Nat) (s : St), (closeK s i k).2 < k → ∀ j, closeK s i (k + j) = closeK s i k
  | 0, _, h, _ => absurd h (by omega)
  | k + 1, s, h, j => by
    cases hr : runsB s i 3
    · rw [closeK_off hr, closeK_off hr]
    · rw [closeK_on hr] at h
      rw [show k + 1 + j = (k + j) + 1 by omega, closeK_on hr, closeK_on hr, closeK_stop i k (closeS s i) (by have : (closeK (closeS s i) i k).2 + 1 < k + 1 := h; omega) j]
theorem closeK_more {i : Int} : ∀ {k : Nat} {s u v : St} {c : Nat}, closeK s i (k + 1) = (u, c) → closeK s i k = (v, c) → closeK s i k = (u, c)
  | 0, s, u, v, c, h, h' => by
    cases hr : runsB s i 3
    · rw [closeK_off hr] at h ⊢; exact h
    · rw [closeK_on hr] at h
      have e1 : (closeK (closeS s i) i 0).2 + 1 = c := congrArg Prod.snd h
      have e2 : 0 = c := congrArg Prod.snd h'
      omega
  | k + 1, s, u, v, c, h, h' => by
    cases hr : runsB s i 3
    · rw [closeK_off hr] at h ⊢; exact h
    · rw [closeK_on hr] at h h' ⊢
      have e1 : (closeK (closeS s i) i (k + 1)).2 + 1 = c := congrArg Prod.snd h
      have e2 : (closeK (closeS s i) i k).2 + 1 = c := congrArg Prod.snd h'
      have e3 : (closeK (closeS s i) i (k + 1)).1 = u := congrArg Prod.fst h
      have := closeK_more (k := k) (s := closeS s i) (u := u) (v := (closeK (closeS s i) i k).1) (c := (closeK (closeS s i) i k).2) (Prod.ext e3 (show (closeK (closeS s i) i (k + 1)).2 = (closeK (closeS s i) i k).2 by omega)) rfl
      rw [this]
      show (u, (closeK (closeS s i) i k).2 + 1) = (u, c)
      rw [e2]
theorem closeK_le3 (s : St) (i : Int) (k : Nat) : (closeK s i k).2 ≤ 3 := by
  cases hr : runsB s i 3
  · rw [closeK_off hr]; show 0 ≤ 3; omega
  · obtain ⟨hh, -⟩ := runs_iff.1 hr
    obtain ⟨-, h0, -⟩ := has_iff.1 hh
    obtain ⟨n, rfl⟩ : ∃ n : Nat, i = n := ⟨i.toNat, by omega⟩
    exact closeK_three k
theorem closeK_no {s : St} {i : Int} (h : stB s = false) (k : Nat) : closeK s i k = (s, 0) := closeK_off (by simp [runsB, hasB, h]) k
theorem closeK_1 (s : St) (i : Int) : (closeK s i 1).1 = closeS s i := by
  cases h : runsB s i 3
  · rw [closeK_off h]; simp [closeS, h]
  · rw [closeK_on h]; rfl
theorem closeK_wk {N : Nat} (i : Int) : ∀ (k : Nat) {s : St}, Wk s N → Wk (closeK s i k).1 (N + k)
  | 0, s, h => h
  | k + 1, s, h => by
    cases hr : runsB s i 3
    · rw [closeK_off hr]; exact ⟨h.b, h.v, by have := h.l; show s.lg.length ≤ _; omega⟩
    · obtain ⟨hh, h1, -⟩ := runs_iff.1 hr
      obtain ⟨-, h0, h3⟩ := has_iff.1 hh
      rw [closeK_on hr, closeS_is hr]
      have := closeK_wk i k (closeN_wk h (n := i.toNat) (by omega) (by omega))
      exact ⟨this.b, this.v, by have := this.l; show (closeK (closeN s i.toNat) i k).1.lg.length ≤ _; omega⟩
theorem closeS_wk {N : Nat} {s : St} (h : Wk s N) (i : Int) : Wk (closeS s i) (N + 1) := closeK_1 s i ▸ closeK_wk i 1 h
/-! ### The whole -/
section
variable {s : St} {n : Nat} {m o : Int} {x : Exit} {S : Sg}
theorem cgp_to {u v : St} {N : Nat} (h : GotoP Try.prog 0 (gotoOf Try.prog 12) (hdC u n m o u.th.length) x S) (e : v = u) (hN : N = u.th.length) : GotoP Try.prog 0 (gotoOf Try.prog 12) (hdC v n m o N) x S := by subst e hN; exact h
theorem cl_step (lt : decide (m ≤ o) = false) (w : Wk s 999999) (hn : n < s.th.length) (h1 : (gth s.th n).st = 1) (h2 : opSide (gth s.th n).ki = 3) (o1 : In64 (o + 1)) (hL : GotoP Try.prog 0 (gotoOf Try.prog 12) (hdC (closeN s n) n m (o + 1) (closeN s n).th.length) x S) : GotoP Try.prog 0 (gotoOf Try.prog 12) (hdC s n m o s.th.length) x S := by
  have hv : ∀ {c : Int}, (gth s.th n).pc = c → Cv s n (gth s.th n) c m o := fun hc => ⟨lt, w, hn, by rw [← hc]; rfl, h1, h2, o1⟩
  have hk9 : (gth s.th n).ki ≠ 9 := fun e => by rw [e] at h2; exact absurd h2 (by decide)
  have ne2 : (gth s.th n).st ≠ 2 := by omega
  by_cases p0 : (gth s.th n).pc = 0
  · rw [closeN_0 p0] at hL
    have e : shutC s n = (S0 s n (gth s.th n) (clM s.md (modeI (gth s.th n).ki))).setTh n (pcT (rgT (gth s.th n) 1 0) 1) := told_is (s := s.toWord s.hd s.tl (clM s.md (modeI (gth s.th n).ki))) (c := 0) (shut_word w.b _) hn hk9
    refine cv_shut (hv p0) (cgp_to hL e.symm ?_)
    rw [e]; exact len_set
  · by_cases p1 : (gth s.th n).pc = 1
    · rw [closeN_1 p1, fullC_is w.b] at hL
      have hw := wk_full w hn (by omega)
      have hw0 : Wk (s.toFull (nxE s.fe) []) 1000000 := by
        obtain ⟨e1, e2, -⟩ := nt_all (full_lines w.b).2.2.2.2.1
        have := full_off w.b
        rw [e1, e2] at this
        exact ⟨this, ⟨w.v.cf, w.v.sl, w.v.th⟩, by have := w.l; show s.lg.length ≤ _; omega⟩
      have hl := line_le (full_lines w.b).2.2.1
      have eo := wakes_on (f := (pcT · 2)) s.fl (u := s.toFull (nxE s.fe) []) hw0.b hw.b hn ne2 ne2
      have hg := wakes_same s.fl (u := s.toFull (nxE s.fe) []) hw0.b hn ne2
      have hg' : gth (s.toFull (nxE s.fe) []).th n = gth s.th n := rfl
      rw [hg'] at hg
      have hlen : (wakesS s.fl (s.toFull (nxE s.fe) [])).th.length = s.th.length := (wakes_rest _ _).2.2.2
      refine cv_full (u := wakesS s.fl (s.toFull (nxE s.fe) [])) (hv p1) (ac_pnotifyAll (full_lines w.b).2.2.2.2.1) (wkc_all (by omega) n hw0) (by rw [hlen]; exact hn) (by rw [hg, ← p1]; rfl) (cgp_to hL ?_ ?_)
      · rw [eo]; unfold St.onTh; rw [hg]
      · rw [eo]; exact len1
    · rw [closeN_2 p0 p1, emptyC_is w.b] at hL
      have hw := wk_empty w hn (by omega)
      have hw0 : Wk (s.toEmpty (nxE s.ee) []) 1000000 := by
        obtain ⟨e1, e2, -⟩ := nt_all (full_lines w.b).2.2.2.2.2
        have := empty_off w.b
        rw [e1, e2] at this
        exact ⟨this, ⟨w.v.cf, w.v.sl, w.v.th⟩, by have := w.l; show s.lg.length ≤ _; omega⟩
      have hl := line_le (full_lines w.b).2.2.2.1
      have eo := wakes_on (f := doneT) s.el (u := s.toEmpty (nxE s.ee) []) hw0.b hw.b hn ne2 (show (0 : Int) ≠ 2 by decide)
      have hg := wakes_same s.el (u := s.toEmpty (nxE s.ee) []) hw0.b hn ne2
      have hg' : gth (s.toEmpty (nxE s.ee) []).th n = gth s.th n := rfl
      rw [hg'] at hg
      have hlen : (wakesS s.el (s.toEmpty (nxE s.ee) [])).th.length = s.th.length := (wakes_rest _ _).2.2.2
      refine cv_empty (u := wakesS s.el (s.toEmpty (nxE s.ee) [])) (hv rfl) (bne_of p0) (bne_of p1) (ac_pnotifyAll (full_lines w.b).2.2.2.2.2) (wkc_all (by omega) n hw0) (by rw [hlen]; exact hn) hg (cgp_to hL ?_ ?_)
      · rw [eo]; unfold St.onTh; rw [hg]
      · rw [eo]; exact len1
end
theorem cl_lp {i m : Int} : ∀ (j : Nat) {s : St} {o : Int}, s.ok → s.lg.length + j ≤ 900000 → 0 ≤ o → o + j ≤ 1000000 → (closeK s i (m - o).toNat).2 ≤ j → GotoP Try.prog 0 (gotoOf Try.prog 12) (hdC s i m o s.th.length) .ret (enC (closeK s i (m - o).toNat).1 (o + (closeK s i (m - o).toNat).2) (closeK s i (m - o).toNat).1.th.length) := by
  have stop : ∀ {s : St} {o : Int}, GotoP Try.prog 0 (gotoOf Try.prog 12) (hdC s i m o s.th.length) .ret (enC s o s.th.length) → GotoP Try.prog 0 (gotoOf Try.prog 12) (hdC s i m o s.th.length) .ret (enC s (o + ((0 : Nat) : Int)) s.th.length) := fun h => by simpa using h
  intro j
  induction j with
  | zero =>
    intro s o ho hl h0 h2 hk
    cases hr : runsB s i 3
    · rw [closeK_off hr]; exact stop (ce_not ho hr)
    · by_cases hm : m ≤ o
      · rw [show (m - o).toNat = 0 by omega]; exact stop (ce_many (by simp [hm]))
      · rw [show (m - o).toNat = (m - o - 1).toNat + 1 by omega, closeK_on hr] at hk
        exact absurd hk (by show ¬ _ + 1 ≤ 0; omega)
  | succ j ih =>
    intro s o ho hl h0 h2 hk
    cases hr : runsB s i 3
    · rw [closeK_off hr]; exact stop (ce_not ho hr)
    · by_cases hm : m ≤ o
      · rw [show (m - o).toNat = 0 by omega]; exact stop (ce_many (by simp [hm]))
      · have ek : (m - o).toNat = (m - (o + 1)).toNat + 1 := by omega
        rw [ek, closeK_on hr] at hk
        rw [ek, closeK_on hr]
        obtain ⟨hh, h3, h4⟩ := runs_iff.1 hr
        obtain ⟨hB, h5, h6⟩ := has_iff.1 hh
        rw [closeS_is hr] at hk ⊢
        obtain ⟨n, rfl⟩ : ∃ n : Nat, i = n := ⟨i.toNat, by omega⟩
        rw [Int.toNat_natCast] at h3 h4 hk ⊢
        have hn : n < s.th.length := by omega
        have w : Wk s s.lg.length := ⟨hB, .of ho, Nat.le_refl _⟩
        have w1 := closeN_wk w hn (by omega)
        have hk' : (closeK (closeN s n) n (m - (o + 1)).toNat).2 + 1 ≤ j + 1 := hk
        have := ih (s := closeN s n) (o := o + 1) (w1.ok (by omega)) (by have := w1.l; omega) (by omega) (by omega) (by omega)
        refine cl_step (by simp; omega) ⟨hB, .of ho, by omega⟩ hn h3 h4 (by constructor <;> omega) ?_
        show GotoP _ _ _ _ _ (enC (closeK (closeN s n) n (m - (o + 1)).toNat).1 (o + (((closeK (closeN s n) n (m - (o + 1)).toNat).2 + 1 : Nat) : Int)) _)
        rw [show o + (((closeK (closeN s n) n (m - (o + 1)).toNat).2 + 1 : Nat) : Int) = o + 1 + ((closeK (closeN s n) n (m - (o + 1)).toNat).2 : Int) by omega]
        exact this
section
variable {s u : St} {i m o : Int}
set_option maxRecDepth 100000 in
theorem ac_csteps0 (hL : GotoP Try.prog 0 (gotoOf Try.prog 12) (hdC s i m 0 s.th.length) .ret (enC u o u.th.length)) (ho : s.ok) (hf : s.fit) (ht : s.th ≠ []) : AC Try.prog 12 [stT s, .int .i64 i, .int .i64 m] (.tuple #[stT u, .int .i64 o]) :=
  ac_path mixed (ext := [39]) (fuel := 9) (n := 9) (orc := [.iface 1000004 (.func (.yield 18) #[.agg (stL s), .int .i64 11] #[]), oL [5, 4, 1, 6] [2, 6, 8, 9, 10] (-1) [(6, pt 0), (7, .int .i64 o)] [bEc u u.th.length, bT u.th u.th.length]])
    (an (ao_keep (neg_no s) ho hf ht) <| an hL <| an (len_map (f := thT) u.th) trivial) (by kernel_rfl)
def hdCn (s : St) (i m : Int) : Sg := ⟨mkT 35 [(2, .int .i64 m), (6, pt 1), (8, pt 0), (9, .func (.func 40) #[] #[pt 2]), (10, .int .i64 0)], [some ⟨true, false, 21, 1, [.agg ((stL s).toList ++ [Value.int .i64 i]).toArray]⟩, bZ, bBc 0]⟩
def enCn (s : St) : Sg := ⟨mkT 35 [(6, pt 0), (7, .int .i64 0)], [bS s]⟩
set_option maxRecDepth 100000 in
theorem ac_csteps_nil (h : s.th = []) (ho : s.ok) (hf : s.fit) : AC Try.prog 12 [stT s, .int .i64 i, .int .i64 m] (.tuple #[stT s, .int .i64 0]) := by
  have hL : GotoP Try.prog 0 (gotoOf Try.prog 12) (hdCn s i m) .ret (enCn s) := by
    cases hm : decide (m ≤ 0)
    · exact goto_end mixed (fuel := 9) (n := 9) (im := [1]) (keep := [6, 7]) (ext := cPX) (orc := [.bool false, vD false]) (an hm <| an (ac_pcheck (nil_no h) ho) trivial) (by intro l e; cases e) (by kernel_rfl)
    · exact goto_end mixed (fuel := 9) (n := 9) (im := [1]) (keep := [6, 7]) (ext := cPX) (orc := [.bool true]) (an hm trivial) (by intro l e; cases e) (by kernel_rfl)
  exact ac_path mixed (ext := [39]) (fuel := 9) (n := 9) (orc := [stT s, oL [4, 1, 5] [2, 6, 8, 9, 10] (-1) [(6, pt 0), (7, .int .i64 0)] [bS s]]) (an (ac_keep (neg_no s) ho hf) <| an hL trivial) (by kernel_rfl)
/-- Some steps of the program, of any state. -/
theorem ac_cst (ho : s.ok) (hf : s.fit) (hl : s.lg.length ≤ 800000) : AC Try.prog 12 [stT s, .int .i64 i, .int .i64 m] (.tuple #[stT (closeK s i m.toNat).1, .int .i64 (closeK s i m.toNat).2]) := by
  by_cases h : s.th = []
  · rw [closeK_no (nil_no h)]; exact ac_csteps_nil h ho hf
  · have := cl_lp (i := i) (m := m) 3 (s := s) (o := 0) ho (by omega) (by omega) (by omega) (closeK_le3 _ _ _)
    rw [show m - 0 = m by omega, Int.zero_add] at this
    exact ac_csteps0 this ho hf h
set_option maxRecDepth 100000 in
theorem ac_cstep (ho : s.ok) (hf : s.fit) (hl : s.lg.length ≤ 800000) : AC Try.prog 9 [stT s, .int .i64 i] (stT (closeS s i)) := by
  rw [← closeK_1]
  exact ac_path mixed (ext := [12]) (fuel := 9) (n := 3) (orc := [.tuple #[stT (closeK s i 1).1, .int .i64 (closeK s i 1).2]]) (an (ac_cst (i := i) (m := 1) ho hf hl) trivial) (by kernel_rfl)
def nearF (p : Int) : Int := if p = 1 then 1 else 0
def nearE (p : Int) : Int := if p = 1 then 2 else if p = 2 then 1 else 0
set_option maxRecDepth 100000 in
theorem ac_cnear (p : Int) : AC Try.prog 18 [.int .i64 p] (.tuple #[.int .i64 (nearF p), .int .i64 (nearE p)]) := by
  by_cases h1 : p = 1
  · subst h1; exact ac_path mixed (ext := []) (fuel := 9) (n := 3) (orc := [.nilFunc]) trivial (by kernel_rfl)
  · by_cases h2 : p = 2
    · subst h2; exact ac_path mixed (ext := []) (fuel := 9) (n := 3) (orc := [.nilFunc, .nilFunc]) trivial (by kernel_rfl)
    · rw [show nearF p = 0 by simp [nearF, h1], show nearE p = 0 by simp [nearE, h1, h2]]
      exact ac_path mixed (ext := []) (fuel := 9) (n := 3) (orc := [.bool false, .bool false]) (an (show (p == 1) = false by simp [h1]) <| an (show (p == 2) = false by simp [h2]) trivial) (by kernel_rfl)
end
end Go.Proofs.Ytkflpaicohbppaa

/- The head of the laws of layer 16 (awake), by contracts told by abstract values. -/
namespace Go.Proofs.Ytkflpaicohbppaa
set_option linter.unusedVariables false
set_option linter.unusedSimpArgs false
open Go.RowKit
def cC : Cf := ⟨1, 3, 0, 0, 0, 0, false⟩
def t1C : Th := ⟨1, 7, 0, 0, 0, 0, 0, 0, false, 0, 0⟩
def t2C : Th := ⟨1, 8, 0, 0, 0, 0, 0, 0, false, 0, 0⟩
def d1C : Th := ⟨0, 7, 0, 0, 0, 0, 0, 0, false, 1, 0⟩
def d2C : Th := ⟨0, 8, 0, 0, 0, 0, 0, 0, false, 1, 0⟩
def s0C : St := newSt cC
def s1C : St := s0C.setTh 1 t1C
def s2C : St := s1C.setTh 2 t2C
def aC : St := ⟨cC, 0, 0, 1, [⟨0, 0⟩, ⟨1, 0⟩], [], [], 1, [], 1, [], 0, [th0, d1C, t2C], [⟨1, 7, 0, 1, 0⟩]⟩
def bC : St := ⟨cC, 0, 0, 2, [⟨0, 0⟩, ⟨1, 0⟩], [], [], 2, [], 2, [], 0, [th0, d1C, d2C], [⟨1, 7, 0, 1, 0⟩, ⟨2, 8, 0, 1, 0⟩]⟩
theorem k_a : closeK s2C 1 100 = (aC, 3) := by rfl
theorem k_b : closeK aC 2 100 = (bC, 3) := by rfl
theorem k_s : closeK s2C 0 100 = (s2C, 0) := by rfl
theorem cC_b : cfB cC = true := by decide
theorem s0C_b : stB s0C = true := new_stB cC_b
theorem s1C_b : stB s1C = true := by decide
theorem s2C_b : stB s2C = true := by decide
theorem aC_b : stB aC = true := by decide
theorem cC_in : cC.ok := by simp [cC, Cf.ok, In64]
theorem in_smallC {s : St} (hB : stB s = true) (hc : s.cf = cC) (hs : ∀ x ∈ s.sl, 0 ≤ x.vl ∧ x.vl ≤ 100) (ht : ∀ t ∈ s.th, (0 ≤ t.va ∧ t.va ≤ 100) ∧ 0 ≤ t.go ∧ t.go ≤ 100) (hl : s.lg.length ≤ 1000000) : s.ok :=
  ok_of hB ⟨hc ▸ cC_in, fun x hx => by have := hs x hx; constructor <;> omega, fun t h => by have := ht t h; exact ⟨⟨by omega, by omega⟩, ⟨by omega, by omega⟩⟩⟩ hl
theorem s0C_in : s0C.ok := in_smallC s0C_b rfl (by decide) (by decide) (by decide)
theorem s1C_in : s1C.ok := in_smallC s1C_b rfl (by decide) (by decide) (by decide)
theorem s2C_in : s2C.ok := in_smallC s2C_b rfl (by decide) (by decide) (by decide)
theorem aC_in : aC.ok := in_smallC aC_b rfl (by decide) (by decide) (by decide)
theorem v_1 : stBeg s0C 1 7 0 0 0 s1C := .inr (.inr ⟨s0C_b, by decide, 1, t1C, rfl, by decide, beg_ok_u (t := gth s0C.th 1) (v := 0) (u := 0) (by decide) (by decide) (by decide), rfl⟩)
theorem v_2 : stBeg s1C 2 8 0 0 0 s2C := .inr (.inr ⟨s1C_b, by decide, 2, t2C, rfl, by decide, beg_ok_u (t := gth s1C.th 2) (v := 0) (u := 0) (by decide) (by decide) (by decide), rfl⟩)
theorem st_C {s : St} {i : Int} {r : St} {c : Nat} (hB : stB s = true) (ho : s.ok) (hg : s.lg.length ≤ 10) (h : closeK s i 100 = (r, c)) : AC Try.prog 12 [stT s, .int .i64 i, .int .i64 100] (.tuple #[stT r, .int .i64 c]) := by
  have := ac_cst (i := i) (m := 100) ho (fit_of hB (by omega)) (by omega)
  rw [show (100 : Int).toNat = 100 from rfl, h] at this
  exact this
set_option maxRecDepth 100000 in
theorem ac_awakeC : AC Try.prog 7 [] (.bool true) :=
  ac_path mixed (ext := [17, 15, 12, 18, 16]) (fuel := 9) (n := 5)
    (orc := [.tuple #[stT s0C, .int .i64 0], .tuple #[stT s1C, .int .i64 0], .tuple #[stT s2C, .int .i64 0], .tuple #[stT aC, .int .i64 3], .tuple #[stT bC, .int .i64 3], .tuple #[stT s2C, .int .i64 0], .tuple #[.int .i64 1, .int .i64 2], .tuple #[.int .i64 0, .int .i64 1], .nilFunc, .nilFunc, .nilFunc, .nilFunc, .nilFunc, .nilFunc, .nilFunc, .nilFunc, thT d1C, .nilFunc, thT d1C, .nilFunc, .nilFunc, .nilFunc, enT ⟨2, 8, 0, 1, 0⟩, .bool true, .nilFunc, .int .i64 1, .nilFunc, .int .i64 2, .nilFunc, .int .i64 0, .nilFunc, .nilFunc, .nilFunc, .nilFunc])
    (an (ac_pnew cC_b) <| an (ac_pinvoke v_1 s0C_in (fit_of s0C_b (by decide))) <| an (ac_pinvoke v_2 s1C_in (fit_of s1C_b (by decide))) <| an (st_C (i := 1) s2C_b s2C_in (by decide) k_a) <| an (st_C (i := 2) aC_b aC_in (by decide) k_b) <| an (st_C (i := 0) s2C_b s2C_in (by decide) k_s) <| an (ac_cnear 1) <| an (ac_cnear 2) <|
      an (ixT (l := aC.th) (n := 1) (by decide)) <| an (ixT (l := aC.th) (n := 1) (by decide)) <| an (ixEn (l := bC.lg) (i := 1) (by decide)) <| an (ask_bin (fun x y W => (guard_agg (by kernel_rfl) x y _ _ W).2) (fun W => by simpa using en_eql ⟨2, 8, 0, 1, 0⟩ ⟨2, 8, 0, 1, 0⟩ W) (.tmp 121) (.tmp 122)) <| an (ac_pmode 7) <| an (ac_pmode 8) <| an (ac_pmode 4) trivial) (by kernel_rfl)
end Go.Proofs.Ytkflpaicohbppaa

/- '==' on slots, field by field. -/
namespace Go.Proofs.Ytkflpaicohbppaa
set_option linter.unusedVariables false
set_option linter.unusedSimpArgs false
open Go.ChangeShapes Go.WideShapes Go.ChangeAt Go.RowKit
set_option maxHeartbeats 1000000 in
theorem sl_equal (a b : Slo) (w : World) : (Op.equal 58 (.agg #[.int .i64 a.st, .int .i64 a.vl]) (.agg #[.int .i64 b.st, .int .i64 b.vl])).run Try.prog w = .ok (decide (a = b)) w := by
  have hu := Try.underlying58
  have h3 := Try.underlying3
  have h4 := Try.underlying4
  have hp : Try.prog.stoodInHeld 58 = false := by kernel_rfl
  have hc : Try.prog.info? 3 = _ := rfl
  have hd : Try.prog.info? 4 = _ := rfl
  have e : decide (a = b) = (a.st == b.st && (a.vl == b.vl)) := by
    rw [Bool.eq_iff_iff]; cases a; cases b; simp [and_assoc]
  rw [e]
  unfold Op.equal Op.maxDepth
  rw [run_equalIn_struct w 9999 _ _ _ (by unfold Program.fieldsOf; rw [hu]) hp]
  unfold Program.fieldsOf
  rw [hu]
  cases c0 : (a.st == b.st)
  · simp [Op.eqFields, part, isAgg, run_underlying h3, run_underlying h4, run_equalIn_int _ _ _ _ _ _ _ h3, run_equalIn_bool _ _ _ _ _ h4, c0]
  cases c1 : (a.vl == b.vl)
  · simp [Op.eqFields, part, isAgg, run_underlying h3, run_underlying h4, run_equalIn_int _ _ _ _ _ _ _ h3, run_equalIn_bool _ _ _ _ _ h4, c0, c1]
  simp [Op.eqFields, part, isAgg, run_underlying h3, run_underlying h4, run_equalIn_int _ _ _ _ _ _ _ h3, run_equalIn_bool _ _ _ _ _ h4, c0, c1]
theorem sl_neq (a b : Slo) (w : World) : (binOp .neq 58 (.agg #[.int .i64 a.st, .int .i64 a.vl]) (.agg #[.int .i64 b.st, .int .i64 b.vl])).run Try.prog w = .ok (.bool (!decide (a = b))) w := by
  have h := sl_equal a b w
  have hu := Try.underlying58
  simp [binOp, h, run_underlying hu, Result.andThen]
end Go.Proofs.Ytkflpaicohbppaa

/- Contracts told by abstract values: in how many things two states differ. -/
namespace Go.Proofs.Ytkflpaicohbppaa
set_option linter.unusedVariables false
set_option linter.unusedSimpArgs false
open Go.RowKit
def gI (l : List Int) (i : Nat) : Int := l.getD i 0
theorem gI_eq {l : List Int} {i : Nat} (h : i < l.length) : gI l i = l[i] := by simp [gI, h]
theorem ixI' {l : List Int} {i : Nat} (h : i < l.length) : IxP ((l.map (Value.int .i64 ·)).toArray) (i : Int) (.int .i64 (gI l i)) := ⟨by omega, by simp [gI_eq h, h]⟩
theorem ixS {l : List Slo} {i : Nat} (h : i < l.length) : IxP ((l.map slT).toArray) (i : Int) (slT (gs l i)) := ⟨by omega, by simp [gs_eq h, h]⟩
/-! ### Two lists of numbers -/
def hdI2 (a b : List Int) (i : Int) : Sg := ⟨mkT 26 [(0, rowI a), (1, rowI b), (5, .int .i64 i)], []⟩
def hdN2 : Sg := ⟨mkT 26 [(4, vD false)], []⟩
section
variable {a b : List Int}
set_option maxRecDepth 100000 in
theorem in_yes (hl : a.length = b.length) (hm : a.length ≤ 1000000) : ∀ (k i : Nat), a.length - i = k → i ≤ a.length → a.drop i = b.drop i → LoopP Try.prog (loopOf Try.prog 19 0) (hdI2 a b i) (.exit 0) (hdI2 a b a.length)
  | 0, i, hk, hi, _ => by
    have : i = a.length := by omega
    subst this
    exact loop_end mixed (fuel := 9) (n := 3) (im := []) (keep := [0, 1, 5]) (ext := []) (orc := [.bool false]) (an (show decide ((a.length : Int) < a.length) = false by simp) trivial) (by intro e; cases e) (by kernel_rfl)
  | k + 1, i, hk, hi, he => by
    have ha : i < a.length := by omega
    have hb : i < b.length := by omega
    rw [List.drop_eq_getElem_cons ha, List.drop_eq_getElem_cons hb] at he
    have h1 : gI a i = gI b i := by rw [gI_eq ha, gI_eq hb]; exact (List.cons.inj he).1
    have ih := in_yes hl hm k (i + 1) (by omega) (by omega) (List.cons.inj he).2
    rw [show ((i + 1 : Nat) : Int) = (i : Int) + 1 by omega] at ih
    exact loop_more mixed (fuel := 9) (n := 3) (im := []) (keep := [0, 1, 5]) (ext := []) (orc := [.bool true, .int .i64 (gI a i), .int .i64 (gI b i), .bool false])
      (an (show decide ((i : Int) < a.length) = true by simp; omega) <| an (ixI' ha) <| an (ixI' hb) <| an (show (gI a i != gI b i) = false by simp [h1]) <| an (show In64 ((i : Int) + 1) by constructor <;> omega) trivial) (by kernel_rfl) ih
set_option maxRecDepth 100000 in
theorem in_no (hl : a.length = b.length) (hm : a.length ≤ 1000000) : ∀ (k i : Nat), a.length - i = k → i ≤ a.length → a.drop i ≠ b.drop i → LoopP Try.prog (loopOf Try.prog 19 0) (hdI2 a b i) .ret hdN2
  | 0, i, hk, hi, he => absurd (by rw [List.drop_eq_nil_of_le (by omega), List.drop_eq_nil_of_le (by omega)]) he
  | k + 1, i, hk, hi, he => by
    have ha : i < a.length := by omega
    have hb : i < b.length := by omega
    by_cases h1 : gI a i = gI b i
    · have ih := in_no hl hm k (i + 1) (by omega) (by omega) (fun e => he (by rw [List.drop_eq_getElem_cons ha, List.drop_eq_getElem_cons hb, e, ← gI_eq ha, ← gI_eq hb, h1]))
      rw [show ((i + 1 : Nat) : Int) = (i : Int) + 1 by omega] at ih
      exact loop_more mixed (fuel := 9) (n := 3) (im := []) (keep := [0, 1, 5]) (ext := []) (orc := [.bool true, .int .i64 (gI a i), .int .i64 (gI b i), .bool false])
        (an (show decide ((i : Int) < a.length) = true by simp; omega) <| an (ixI' ha) <| an (ixI' hb) <| an (show (gI a i != gI b i) = false by simp [h1]) <| an (show In64 ((i : Int) + 1) by constructor <;> omega) trivial) (by kernel_rfl) ih
    · exact loop_end mixed (fuel := 9) (n := 3) (im := []) (keep := [4]) (ext := []) (orc := [.bool true, .int .i64 (gI a i), .int .i64 (gI b i), .bool true])
        (an (show decide ((i : Int) < a.length) = true by simp; omega) <| an (ixI' ha) <| an (ixI' hb) <| an (show (gI a i != gI b i) = true by simpa using h1) trivial) (by intro e; cases e) (by kernel_rfl)
set_option maxRecDepth 100000 in
theorem ac_ints {r : Bool} (hr : decide (a = b) = r) (hm : a.length ≤ 1000000) : AC Try.prog 19 [rowI a, rowI b] (.bool r) := by
  subst hr
  by_cases hl : a.length = b.length
  · by_cases h : a = b
    · rw [show decide (a = b) = true by simp [h]]
      exact ac_path mixed (ext := []) (fuel := 9) (n := 3) (orc := [.bool false, oL [] [0, 1, 5] 0 [(0, rowI a), (1, rowI b), (5, .int .i64 a.length)] []])
        (an (show ((a.length : Int) != b.length) = false by simp [hl]) <| an (in_yes hl hm a.length 0 rfl (by omega) (by simpa using h)) trivial) (by kernel_rfl)
    · rw [show decide (a = b) = false by simp [h]]
      exact ac_path mixed (ext := []) (fuel := 9) (n := 3) (orc := [.bool false, oL [] [0, 1, 5] (-1) [(4, vD false)] []])
        (an (show ((a.length : Int) != b.length) = false by simp [hl]) <| an (in_no hl hm a.length 0 rfl (by omega) (by simpa using h)) trivial) (by kernel_rfl)
  · rw [show decide (a = b) = false by simp; intro e; exact hl (by rw [e])]
    exact ac_path mixed (ext := []) (fuel := 9) (n := 3) (orc := [.bool true]) (an (show ((a.length : Int) != b.length) = true by simp; omega) trivial) (by kernel_rfl)
end
/-! ### Things -/
theorem ask_sl (s t : Slo) {r : Bool} (h : (!decide (s = t)) = r) (x y : Operand) : AskP Try.prog (.binOp .neq 58 x y 58) [slT s, slT t] (.bool r) :=
  ask_bin (fun x y W => (guard_agg (by kernel_rfl) x y _ _ W).1) (fun W => by rw [← h]; exact sl_neq s t W) x y
def hdTg (a b : St) (n i : Int) : Sg := ⟨mkT 96 [(2, pt 0), (3, pt 1), (5, .int .i64 n), (6, .int .i64 i)], [some ⟨true, false, 20, 1, [stT a]⟩, some ⟨true, false, 20, 1, [stT b]⟩]⟩
theorem diffL_drop {l m : List Slo} {i : Nat} (h1 : i < l.length) (h2 : i < m.length) : diffL (l.drop i) (m.drop i) = (if gs l i = gs m i then 0 else 1) + diffL (l.drop (i + 1)) (m.drop (i + 1)) := by
  rw [List.drop_eq_getElem_cons h1, List.drop_eq_getElem_cons h2, gs_eq h1, gs_eq h2]; rfl
set_option maxRecDepth 100000 in
theorem tg_lp {a b : St} (hl : a.sl.length = b.sl.length) (hm : a.sl.length ≤ 1000) : ∀ (k i n : Nat), a.sl.length - i = k → i ≤ a.sl.length → n ≤ 1000 + i → LoopP Try.prog (loopOf Try.prog 10 0) (hdTg a b n i) (.exit 0) (hdTg a b (n + diffL (a.sl.drop i) (b.sl.drop i) : Nat) a.sl.length)
  | 0, i, n, hk, hi, _ => by
    have : i = a.sl.length := by omega
    subst this
    rw [List.drop_length, show diffL [] (b.sl.drop a.sl.length) = 0 from by simp [diffL], Nat.add_zero]
    exact loop_end mixed (fuel := 9) (n := 3) (im := [0, 1]) (keep := [2, 3, 5, 6]) (ext := []) (orc := [.bool false]) (an (show decide ((a.sl.length : Int) < a.sl.length) = false by simp) trivial) (by intro e; cases e) (by kernel_rfl)
  | k + 1, i, n, hk, hi, hn => by
    have h1 : i < a.sl.length := by omega
    have h2 : i < b.sl.length := by omega
    rw [diffL_drop h1 h2]
    by_cases hs : gs a.sl i = gs b.sl i
    · have ih := tg_lp hl hm k (i + 1) n (by omega) (by omega) (by omega)
      rw [if_pos hs, Nat.zero_add]
      rw [show ((i + 1 : Nat) : Int) = (i : Int) + 1 by omega] at ih
      exact loop_more mixed (fuel := 9) (n := 3) (im := [0, 1]) (keep := [2, 3, 5, 6]) (ext := []) (orc := [.bool true, .bool true, slT (gs a.sl i), slT (gs b.sl i), .bool false, .bool false])
        (an (show decide ((i : Int) < a.sl.length) = true by simp; omega) <| an (show decide ((i : Int) < b.sl.length) = true by simp; omega) <| an (ixS h1) <| an (ixS h2) <| an (ask_sl (gs a.sl i) (gs b.sl i) (r := false) (by simp [hs]) (.tmp 32) (.tmp 37)) <| an (rfl : false = false) <| an (show In64 ((i : Int) + 1) by constructor <;> omega) trivial) (by kernel_rfl) ih
    · have ih := tg_lp hl hm k (i + 1) (n + 1) (by omega) (by omega) (by omega)
      rw [if_neg hs, ← Nat.add_assoc]
      rw [show ((i + 1 : Nat) : Int) = (i : Int) + 1 by omega, show ((n + 1 : Nat) : Int) = (n : Int) + 1 by omega] at ih
      exact loop_more mixed (fuel := 9) (n := 3) (im := [0, 1]) (keep := [2, 3, 5, 6]) (ext := []) (orc := [.bool true, .bool true, slT (gs a.sl i), slT (gs b.sl i), .bool true, .bool true])
        (an (show decide ((i : Int) < a.sl.length) = true by simp; omega) <| an (show decide ((i : Int) < b.sl.length) = true by simp; omega) <| an (ixS h1) <| an (ixS h2) <| an (ask_sl (gs a.sl i) (gs b.sl i) (r := true) (by simp [hs]) (.tmp 32) (.tmp 37)) <| an (rfl : true = true) <| an (show In64 ((n : Int) + 1) by constructor <;> omega) <| an (show In64 ((i : Int) + 1) by constructor <;> omega) trivial) (by kernel_rfl) ih
section
variable {a b : St} (hl : a.sl.length = b.sl.length) (hm : a.sl.length ≤ 1000) (hx : a.sn.length ≤ 1000000 ∧ a.rc.length ≤ 1000000 ∧ a.fl.length ≤ 1000000 ∧ a.el.length ≤ 1000000)
include hl hm hx
set_option maxRecDepth 100000 in
theorem tg_0 (hw : (!decide ((⟨a.hd, a.tl, a.md⟩ : Wo3) = ⟨b.hd, b.tl, b.md⟩)) = false) (hsn : decide (a.sn = b.sn) = true) (hrc : decide (a.rc = b.rc) = true) (hfe : (a.fe != b.fe) = false) (hfl : decide (a.fl = b.fl) = true) (hee : (a.ee != b.ee) = false) (hel : decide (a.el = b.el) = true) : AC Try.prog 10 [stT a, stT b] (.int .i64 (((0 + diffL a.sl b.sl : Nat) : Int))) :=
  ac_path mixed (ext := [19]) (fuel := 9) (n := 3) (orc := [.bool false, .nilFunc, oL [0, 1] [2, 3, 5, 6] 0 [(2, pt 0), (3, pt 1), (5, .int .i64 ((0 + diffL a.sl b.sl : Nat) : Int)), (6, .int .i64 a.sl.length)] (hdTg a b 0 0).H, vD true, vD true, .bool false, vD true, .bool false, vD true])
    (an (ask_wn (q := false) hw (.tmp 8) (.tmp 10)) <| an (tg_lp hl hm a.sl.length 0 0 rfl (by omega) (by omega)) <| an (ac_ints (r := true) hsn (by omega)) <| an (ac_ints (r := true) hrc (by omega)) <| an (show (a.fe != b.fe) = false from hfe) <| an (ac_ints (r := true) hfl (by omega)) <| an (show (a.ee != b.ee) = false from hee) <| an (ac_ints (r := true) hel (by omega)) trivial) (by kernel_rfl)
set_option maxRecDepth 100000 in
theorem tg_w (hw : (!decide ((⟨a.hd, a.tl, a.md⟩ : Wo3) = ⟨b.hd, b.tl, b.md⟩)) = true) (hsn : decide (a.sn = b.sn) = true) (hrc : decide (a.rc = b.rc) = true) (hfe : (a.fe != b.fe) = false) (hfl : decide (a.fl = b.fl) = true) (hee : (a.ee != b.ee) = false) (hel : decide (a.el = b.el) = true) : AC Try.prog 10 [stT a, stT b] (.int .i64 (((1 + diffL a.sl b.sl : Nat) : Int))) :=
  ac_path mixed (ext := [19]) (fuel := 9) (n := 3) (orc := [.bool true, .nilFunc, oL [0, 1] [2, 3, 5, 6] 0 [(2, pt 0), (3, pt 1), (5, .int .i64 ((1 + diffL a.sl b.sl : Nat) : Int)), (6, .int .i64 a.sl.length)] (hdTg a b 0 0).H, vD true, vD true, .bool false, vD true, .bool false, vD true])
    (an (ask_wn (q := true) hw (.tmp 8) (.tmp 10)) <| an (show In64 ((0 : Int) + 1) by decide) <| an (tg_lp hl hm a.sl.length 0 1 rfl (by omega) (by omega)) <| an (ac_ints (r := true) hsn (by omega)) <| an (ac_ints (r := true) hrc (by omega)) <| an (show (a.fe != b.fe) = false from hfe) <| an (ac_ints (r := true) hfl (by omega)) <| an (show (a.ee != b.ee) = false from hee) <| an (ac_ints (r := true) hel (by omega)) trivial) (by kernel_rfl)
set_option maxRecDepth 100000 in
theorem tg_sn (hd : diffL a.sl b.sl ≤ 1000) (hw : (!decide ((⟨a.hd, a.tl, a.md⟩ : Wo3) = ⟨b.hd, b.tl, b.md⟩)) = false) (hsn : decide (a.sn = b.sn) = false) (hrc : decide (a.rc = b.rc) = true) (hfe : (a.fe != b.fe) = false) (hfl : decide (a.fl = b.fl) = true) (hee : (a.ee != b.ee) = false) (hel : decide (a.el = b.el) = true) : AC Try.prog 10 [stT a, stT b] (.int .i64 (((0 + diffL a.sl b.sl : Nat) : Int) + 1)) :=
  ac_path mixed (ext := [19]) (fuel := 9) (n := 3) (orc := [.bool false, .nilFunc, oL [0, 1] [2, 3, 5, 6] 0 [(2, pt 0), (3, pt 1), (5, .int .i64 ((0 + diffL a.sl b.sl : Nat) : Int)), (6, .int .i64 a.sl.length)] (hdTg a b 0 0).H, vD false, vD true, .bool false, vD true, .bool false, vD true])
    (an (ask_wn (q := false) hw (.tmp 8) (.tmp 10)) <| an (tg_lp hl hm a.sl.length 0 0 rfl (by omega) (by omega)) <| an (ac_ints (r := false) hsn (by omega)) <| an (show In64 (((0 + diffL a.sl b.sl : Nat) : Int) + 1) by constructor <;> omega) <| an (ac_ints (r := true) hrc (by omega)) <| an (show (a.fe != b.fe) = false from hfe) <| an (ac_ints (r := true) hfl (by omega)) <| an (show (a.ee != b.ee) = false from hee) <| an (ac_ints (r := true) hel (by omega)) trivial) (by kernel_rfl)
set_option maxRecDepth 100000 in
theorem tg_rc (hd : diffL a.sl b.sl ≤ 1000) (hw : (!decide ((⟨a.hd, a.tl, a.md⟩ : Wo3) = ⟨b.hd, b.tl, b.md⟩)) = false) (hsn : decide (a.sn = b.sn) = true) (hrc : decide (a.rc = b.rc) = false) (hfe : (a.fe != b.fe) = false) (hfl : decide (a.fl = b.fl) = true) (hee : (a.ee != b.ee) = false) (hel : decide (a.el = b.el) = true) : AC Try.prog 10 [stT a, stT b] (.int .i64 (((0 + diffL a.sl b.sl : Nat) : Int) + 1)) :=
  ac_path mixed (ext := [19]) (fuel := 9) (n := 3) (orc := [.bool false, .nilFunc, oL [0, 1] [2, 3, 5, 6] 0 [(2, pt 0), (3, pt 1), (5, .int .i64 ((0 + diffL a.sl b.sl : Nat) : Int)), (6, .int .i64 a.sl.length)] (hdTg a b 0 0).H, vD true, vD false, .bool false, vD true, .bool false, vD true])
    (an (ask_wn (q := false) hw (.tmp 8) (.tmp 10)) <| an (tg_lp hl hm a.sl.length 0 0 rfl (by omega) (by omega)) <| an (ac_ints (r := true) hsn (by omega)) <| an (ac_ints (r := false) hrc (by omega)) <| an (show In64 (((0 + diffL a.sl b.sl : Nat) : Int) + 1) by constructor <;> omega) <| an (show (a.fe != b.fe) = false from hfe) <| an (ac_ints (r := true) hfl (by omega)) <| an (show (a.ee != b.ee) = false from hee) <| an (ac_ints (r := true) hel (by omega)) trivial) (by kernel_rfl)
set_option maxRecDepth 100000 in
theorem tg_fe (hd : diffL a.sl b.sl ≤ 1000) (hw : (!decide ((⟨a.hd, a.tl, a.md⟩ : Wo3) = ⟨b.hd, b.tl, b.md⟩)) = false) (hsn : decide (a.sn = b.sn) = true) (hrc : decide (a.rc = b.rc) = true) (hfe : (a.fe != b.fe) = true) (hee : (a.ee != b.ee) = false) (hel : decide (a.el = b.el) = true) : AC Try.prog 10 [stT a, stT b] (.int .i64 (((0 + diffL a.sl b.sl : Nat) : Int) + 1)) :=
  ac_path mixed (ext := [19]) (fuel := 9) (n := 3) (orc := [.bool false, .nilFunc, oL [0, 1] [2, 3, 5, 6] 0 [(2, pt 0), (3, pt 1), (5, .int .i64 ((0 + diffL a.sl b.sl : Nat) : Int)), (6, .int .i64 a.sl.length)] (hdTg a b 0 0).H, vD true, vD true, .bool true, .bool false, vD true])
    (an (ask_wn (q := false) hw (.tmp 8) (.tmp 10)) <| an (tg_lp hl hm a.sl.length 0 0 rfl (by omega) (by omega)) <| an (ac_ints (r := true) hsn (by omega)) <| an (ac_ints (r := true) hrc (by omega)) <| an (show (a.fe != b.fe) = true from hfe) <| an (show In64 (((0 + diffL a.sl b.sl : Nat) : Int) + 1) by constructor <;> omega) <| an (show (a.ee != b.ee) = false from hee) <| an (ac_ints (r := true) hel (by omega)) trivial) (by kernel_rfl)
set_option maxRecDepth 100000 in
theorem tg_fl (hd : diffL a.sl b.sl ≤ 1000) (hw : (!decide ((⟨a.hd, a.tl, a.md⟩ : Wo3) = ⟨b.hd, b.tl, b.md⟩)) = false) (hsn : decide (a.sn = b.sn) = true) (hrc : decide (a.rc = b.rc) = true) (hfe : (a.fe != b.fe) = false) (hfl : decide (a.fl = b.fl) = false) (hee : (a.ee != b.ee) = false) (hel : decide (a.el = b.el) = true) : AC Try.prog 10 [stT a, stT b] (.int .i64 (((0 + diffL a.sl b.sl : Nat) : Int) + 1)) :=
  ac_path mixed (ext := [19]) (fuel := 9) (n := 3) (orc := [.bool false, .nilFunc, oL [0, 1] [2, 3, 5, 6] 0 [(2, pt 0), (3, pt 1), (5, .int .i64 ((0 + diffL a.sl b.sl : Nat) : Int)), (6, .int .i64 a.sl.length)] (hdTg a b 0 0).H, vD true, vD true, .bool false, vD false, .bool false, vD true])
    (an (ask_wn (q := false) hw (.tmp 8) (.tmp 10)) <| an (tg_lp hl hm a.sl.length 0 0 rfl (by omega) (by omega)) <| an (ac_ints (r := true) hsn (by omega)) <| an (ac_ints (r := true) hrc (by omega)) <| an (show (a.fe != b.fe) = false from hfe) <| an (ac_ints (r := false) hfl (by omega)) <| an (show In64 (((0 + diffL a.sl b.sl : Nat) : Int) + 1) by constructor <;> omega) <| an (show (a.ee != b.ee) = false from hee) <| an (ac_ints (r := true) hel (by omega)) trivial) (by kernel_rfl)
set_option maxRecDepth 100000 in
theorem tg_ee (hd : diffL a.sl b.sl ≤ 1000) (hw : (!decide ((⟨a.hd, a.tl, a.md⟩ : Wo3) = ⟨b.hd, b.tl, b.md⟩)) = false) (hsn : decide (a.sn = b.sn) = true) (hrc : decide (a.rc = b.rc) = true) (hfe : (a.fe != b.fe) = false) (hfl : decide (a.fl = b.fl) = true) (hee : (a.ee != b.ee) = true) : AC Try.prog 10 [stT a, stT b] (.int .i64 (((0 + diffL a.sl b.sl : Nat) : Int) + 1)) :=
  ac_path mixed (ext := [19]) (fuel := 9) (n := 3) (orc := [.bool false, .nilFunc, oL [0, 1] [2, 3, 5, 6] 0 [(2, pt 0), (3, pt 1), (5, .int .i64 ((0 + diffL a.sl b.sl : Nat) : Int)), (6, .int .i64 a.sl.length)] (hdTg a b 0 0).H, vD true, vD true, .bool false, vD true, .bool true])
    (an (ask_wn (q := false) hw (.tmp 8) (.tmp 10)) <| an (tg_lp hl hm a.sl.length 0 0 rfl (by omega) (by omega)) <| an (ac_ints (r := true) hsn (by omega)) <| an (ac_ints (r := true) hrc (by omega)) <| an (show (a.fe != b.fe) = false from hfe) <| an (ac_ints (r := true) hfl (by omega)) <| an (show (a.ee != b.ee) = true from hee) <| an (show In64 (((0 + diffL a.sl b.sl : Nat) : Int) + 1) by constructor <;> omega) trivial) (by kernel_rfl)
set_option maxRecDepth 100000 in
theorem tg_el (hd : diffL a.sl b.sl ≤ 1000) (hw : (!decide ((⟨a.hd, a.tl, a.md⟩ : Wo3) = ⟨b.hd, b.tl, b.md⟩)) = false) (hsn : decide (a.sn = b.sn) = true) (hrc : decide (a.rc = b.rc) = true) (hfe : (a.fe != b.fe) = false) (hfl : decide (a.fl = b.fl) = true) (hee : (a.ee != b.ee) = false) (hel : decide (a.el = b.el) = false) : AC Try.prog 10 [stT a, stT b] (.int .i64 (((0 + diffL a.sl b.sl : Nat) : Int) + 1)) :=
  ac_path mixed (ext := [19]) (fuel := 9) (n := 3) (orc := [.bool false, .nilFunc, oL [0, 1] [2, 3, 5, 6] 0 [(2, pt 0), (3, pt 1), (5, .int .i64 ((0 + diffL a.sl b.sl : Nat) : Int)), (6, .int .i64 a.sl.length)] (hdTg a b 0 0).H, vD true, vD true, .bool false, vD true, .bool false, vD false])
    (an (ask_wn (q := false) hw (.tmp 8) (.tmp 10)) <| an (tg_lp hl hm a.sl.length 0 0 rfl (by omega) (by omega)) <| an (ac_ints (r := true) hsn (by omega)) <| an (ac_ints (r := true) hrc (by omega)) <| an (show (a.fe != b.fe) = false from hfe) <| an (ac_ints (r := true) hfl (by omega)) <| an (show (a.ee != b.ee) = false from hee) <| an (ac_ints (r := false) hel (by omega)) <| an (show In64 (((0 + diffL a.sl b.sl : Nat) : Int) + 1) by constructor <;> omega) trivial) (by kernel_rfl)
/-- Two states that differ in no more than one thing. -/
theorem ac_things (h : thingsN a b ≤ 1) : ∃ v : Int, v ≤ 1 ∧ AC Try.prog 10 [stT a, stT b] (.int .i64 v) := by
  unfold thingsN oneI at h
  have hd : diffL a.sl b.sl ≤ 1000 := by omega
  have cast : (((0 + diffL a.sl b.sl : Nat) : Int)) = (diffL a.sl b.sl : Int) := by omega
  by_cases cw : (a.hd, a.tl, a.md) = (b.hd, b.tl, b.md)
  · have hw : (!decide ((⟨a.hd, a.tl, a.md⟩ : Wo3) = ⟨b.hd, b.tl, b.md⟩)) = false := by simp only [Prod.mk.injEq] at cw; simp [cw.1, cw.2.1, cw.2.2]
    by_cases csn : a.sn = b.sn
    · by_cases crc : a.rc = b.rc
      · by_cases cfe : a.fe = b.fe
        · by_cases cfl : a.fl = b.fl
          · by_cases cee : a.ee = b.ee
            · by_cases cel : a.el = b.el
              · refine ⟨_, ?_, tg_0 hl hm hx hw (by simp [csn]) (by simp [crc]) (by simp [cfe]) (by simp [cfl]) (by simp [cee]) (by simp [cel])⟩
                simp only [cw, csn, crc, cfe, cfl, cee, cel, and_self, if_true] at h; omega
              · refine ⟨_, ?_, tg_el hl hm hx hd hw (by simp [csn]) (by simp [crc]) (by simp [cfe]) (by simp [cfl]) (by simp [cee]) (by simp [cel])⟩
                simp only [cw, csn, crc, cfe, cfl, cee, cel, and_self, and_false, if_true, if_false] at h; omega
            · refine ⟨_, ?_, tg_ee hl hm hx hd hw (by simp [csn]) (by simp [crc]) (by simp [cfe]) (by simp [cfl]) (by simp [cee])⟩
              simp only [cw, csn, crc, cfe, cfl, cee, and_self, false_and, if_true, if_false] at h; omega
          · refine ⟨_, ?_, tg_fl hl hm hx hd hw (by simp [csn]) (by simp [crc]) (by simp [cfe]) (by simp [cfl]) ?_ ?_⟩
            · simp only [cw, csn, crc, cfe, cfl, and_false, if_true, if_false] at h; omega
            · by_cases cee : a.ee = b.ee
              · simp [cee]
              · simp only [cw, csn, crc, cfe, cfl, cee, and_false, false_and, if_true, if_false] at h; omega
            · by_cases cel : a.el = b.el
              · simp [cel]
              · simp only [cw, csn, crc, cfe, cfl, cel, and_false, if_true, if_false] at h; omega
        · refine ⟨_, ?_, tg_fe hl hm hx hd hw (by simp [csn]) (by simp [crc]) (by simp [cfe]) ?_ ?_⟩
          · simp only [cw, csn, crc, cfe, false_and, if_true, if_false] at h; omega
          · by_cases cee : a.ee = b.ee
            · simp [cee]
            · simp only [cw, csn, crc, cfe, cee, false_and, if_true, if_false] at h; omega
          · by_cases cel : a.el = b.el
            · simp [cel]
            · simp only [cw, csn, crc, cfe, cel, and_false, false_and, if_true, if_false] at h; omega
      · by_cases c1 : a.fe = b.fe ∧ a.fl = b.fl
        · by_cases c2 : a.ee = b.ee ∧ a.el = b.el
          · refine ⟨_, ?_, tg_rc hl hm hx hd hw (by simp [csn]) (by simp [crc]) (by simp [c1.1]) (by simp [c1.2]) (by simp [c2.1]) (by simp [c2.2])⟩
            simp only [cw, csn, crc, c1, c2, and_self, if_true, if_false] at h; omega
          · simp only [cw, csn, crc, c1, c2, and_self, if_true, if_false] at h; omega
        · simp only [cw, csn, crc, c1, if_true, if_false] at h; omega
    · by_cases crc : a.rc = b.rc
      · by_cases c1 : a.fe = b.fe ∧ a.fl = b.fl
        · by_cases c2 : a.ee = b.ee ∧ a.el = b.el
          · refine ⟨_, ?_, tg_sn hl hm hx hd hw (by simp [csn]) (by simp [crc]) (by simp [c1.1]) (by simp [c1.2]) (by simp [c2.1]) (by simp [c2.2])⟩
            simp only [cw, csn, crc, c1, c2, and_self, if_true, if_false] at h; omega
          · simp only [cw, csn, crc, c1, c2, and_self, if_true, if_false] at h; omega
        · simp only [cw, csn, crc, c1, if_true, if_false] at h; omega
      · simp only [cw, csn, crc, if_true, if_false] at h; omega
  · have hw : (!decide ((⟨a.hd, a.tl, a.md⟩ : Wo3) = ⟨b.hd, b.tl, b.md⟩)) = true := by simp only [Prod.mk.injEq] at cw; simp; omega
    by_cases csn : a.sn = b.sn
    · by_cases crc : a.rc = b.rc
      · by_cases c1 : a.fe = b.fe ∧ a.fl = b.fl
        · by_cases c2 : a.ee = b.ee ∧ a.el = b.el
          · refine ⟨_, ?_, tg_w hl hm hx hw (by simp [csn]) (by simp [crc]) (by simp [c1.1]) (by simp [c1.2]) (by simp [c2.1]) (by simp [c2.2])⟩
            simp only [cw, csn, crc, c1, c2, and_self, if_true, if_false] at h; omega
          · simp only [cw, csn, crc, c1, c2, and_self, if_true, if_false] at h; omega
        · simp only [cw, csn, crc, c1, if_true, if_false] at h; omega
      · simp only [cw, csn, crc, if_true, if_false] at h; omega
    · simp only [cw, csn, if_true, if_false] at h; omega
end
end Go.Proofs.Ytkflpaicohbppaa
