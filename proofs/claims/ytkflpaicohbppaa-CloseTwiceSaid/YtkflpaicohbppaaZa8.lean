/- Texts merged: AcVQ, AcZQ, AcBQ, AcCQ, SlotGQ, EqsQ, AcWQ, AcDQ, AcEQ, AcFQ, AcGQ, AcHQ, AcIQ, RslQ. -/
import Derived.Test.YtkflpaicohbppaaZa6
import Derived.Test.YtkflpaicohbppaaZa7
import Derived.Test.YtkflpaicohbppaaZa4
import Derived.Laws.StructEq
import Derived.Test.YtkflpaicohbppaaZa5
/- Contracts told by abstract values: threads, and ways to wait, by the engine. -/
namespace Go.Proofs.Ytkflpaicohbppaa
set_option linter.unusedVariables false
set_option linter.unusedSimpArgs false
open Go.RowKit
theorem bne_no {a b : Int} (h : a ≠ b) : (a == b) = false := by simp [h]
theorem two_no {a : Int} (h : a = 2) : (a == 0) = false := by simp [h]
theorem bne_yes {a b : Int} (h : a = b) : (a == b) = true := by simp [h]
set_option maxRecDepth 100000
theorem ac_pruns {t : Th} {e : Int} (he : thRuns t.st = e) : AC Try.prog 41 [thT t] (.int .i64 e) := by
  subst he
  unfold thRuns
  by_cases h0 : t.st = 0
  · rw [if_pos h0]; exact ac_path mixed (ext := []) (fuel := 9) (n := 6) (orc := [.bool true]) (an (bne_yes h0) trivial) (by kernel_rfl)
  · rw [if_neg h0]
    by_cases h2 : t.st = 2
    · rw [if_pos h2]; exact ac_path mixed (ext := []) (fuel := 9) (n := 6) (orc := [.bool false, .bool true]) (an (bne_no h0) <| an (bne_yes h2) trivial) (by kernel_rfl)
    · rw [if_neg h2]; exact ac_path mixed (ext := []) (fuel := 9) (n := 6) (orc := [.bool false, .bool false]) (an (bne_no h0) <| an (bne_no h2) trivial) (by kernel_rfl)
theorem ac_pdone {t : Th} {e : Int} {r : Th} (h : thDone t e r) : AC Try.prog 74 [thT t] (.tuple #[thT r, .int .i64 e]) := by (rcases h with ⟨h0, rfl, rfl⟩ | ⟨h2, rfl, rfl⟩ | ⟨h0, h2, rfl, rfl⟩; (exact ac_path mixed (ext := []) (fuel := 9) (n := 6) (orc := [.bool true, .nilFunc]) (an (bne_yes h0) trivial) (by kernel_rfl)); (exact ac_path mixed (ext := []) (fuel := 9) (n := 6) (orc := [.bool false, .bool true, .nilFunc]) (an (two_no h2) <| an (bne_yes h2) trivial) (by kernel_rfl)); (exact ac_path mixed (ext := []) (fuel := 9) (n := 6) (orc := [.bool false, .bool false, .nilFunc]) (an (bne_no h0) <| an (bne_no h2) trivial) (by kernel_rfl)))
theorem ac_twake (t : Th) : AC Try.prog 69 [thT t] (thT (wakeT t)) := by
  unfold wakeT
  by_cases h : t.st = 2
  · rw [if_pos h]; exact ac_path mixed (ext := []) (fuel := 9) (n := 6) (orc := [.bool true]) (an (bne_yes h) trivial) (by kernel_rfl)
  · rw [if_neg h]; exact ac_path mixed (ext := []) (fuel := 9) (n := 6) (orc := [.bool false]) (an (bne_no h) trivial) (by kernel_rfl)
theorem ac_ocheck {k : Int} {b : Bool} (hb : opB k = b) : AC Try.prog 61 [.int .i64 k] (.bool b) := by
  (intro O W vs hl hat; obtain ⟨ys, rfl, _, _, rfl, h0, rfl⟩ := args_of hat; rw [rp_int] at h0; subst h0)
  refine (ocheck_any k W).mono ?_
  rintro e W' ⟨rfl, hk⟩
  exact ⟨_, rfl, rp_bool.2 (by rw [hb]), hk⟩
theorem ac_otimed {k : Int} {b : Bool} (hb : opTimed k = b) : AC Try.prog 63 [.int .i64 k] (.bool b) := by
  (intro O W vs hl hat; obtain ⟨ys, rfl, _, _, rfl, h0, rfl⟩ := args_of hat; rw [rp_int] at h0; subst h0)
  refine (otimed_any k W).mono ?_
  rintro e W' ⟨rfl, hk⟩
  exact ⟨_, rfl, rp_bool.2 (by rw [hb]), hk⟩
theorem ac_tbeg {t r : Th} {k v u E : Int} (h : thBeg t k v u E r) : AC Try.prog 34 [thT t, .int .i64 k, .int .i64 v, .int .i64 u] (.tuple #[thT r, .int .i64 E]) := by
  have n0 : t.st = 0 → (!(t.st == 0)) = false := fun h => by simp [h]
  rcases h with ⟨h0, rfl, rfl⟩ | ⟨h0, h1, rfl, rfl⟩ | ⟨h0, h1, h2, rfl, rfl⟩ | ⟨h0, h1, h2, h3, rfl, rfl⟩ | ⟨h0, h1, h2, h3, rfl, rfl⟩
  · exact ac_path mixed (ext := [61, 63]) (fuel := 9) (n := 6) (orc := [.bool true]) (an (show (!(r.st == 0)) = true by simp [h0]) trivial) (by kernel_rfl)
  · exact ac_path mixed (ext := [61, 63]) (fuel := 9) (n := 6) (orc := [.bool false, vD false]) (an (n0 h0) <| an (ac_ocheck h1) trivial) (by kernel_rfl)
  · exact ac_path mixed (ext := [61, 63]) (fuel := 9) (n := 6) (orc := [.bool false, vD true, vD false]) (an (n0 h0) <| an (ac_ocheck h1) <| an (ac_otimed h2) trivial) (by kernel_rfl)
  · by_cases a : 0 ≤ u
    · exact ac_path mixed (ext := [61, 63]) (fuel := 9) (n := 6) (orc := [.bool false, vD true, vD true, .bool true, .bool true]) (an (n0 h0) <| an (ac_ocheck h1) <| an (ac_otimed h2) <| an (decide_eq_true a) <| an (show (!decide (u ≤ 1099511627776)) = true by simp <;> omega) trivial) (by kernel_rfl)
    · exact ac_path mixed (ext := [61, 63]) (fuel := 9) (n := 6) (orc := [.bool false, vD true, vD true, .bool false]) (an (n0 h0) <| an (ac_ocheck h1) <| an (ac_otimed h2) <| an (decide_eq_false a) trivial) (by kernel_rfl)
  · exact ac_path mixed (ext := [61, 63]) (fuel := 9) (n := 6) (orc := [.bool false, vD true, vD true, .bool true, .bool false]) (an (n0 h0) <| an (ac_ocheck h1) <| an (ac_otimed h2) <| an (decide_eq_true h3.1) <| an (show (!decide (u ≤ 1099511627776)) = false by simp [h3.2]) trivial) (by kernel_rfl)
/-! ### How one waits -/
theorem ac_ccheck {c : Cf} {r : Int} (h : (if cfB c = true then 0 else 20) = r) : AC Try.prog 23 [cfT c] (.int .i64 r) := by
  intro O W vs hl hat
  obtain ⟨ys, rfl, _, _, rfl, h0, rfl⟩ := args_of hat
  rw [rp_cfT] at h0
  subst h0
  refine (ccheck_val (b := cfB c) (Lib.hid rfl) W).mono ?_
  rintro e W' ⟨rfl, hk⟩
  exact ⟨_, rfl, rp_int.2 (by rw [h]), hk⟩
end Go.Proofs.Ytkflpaicohbppaa

/- Contracts told by abstract values: the program's Check of a state, by the engine; whether it has a thread, and what lies at a position. -/
namespace Go.Proofs.Ytkflpaicohbppaa
set_option linter.unusedVariables false
set_option linter.unusedSimpArgs false
open Go.RowKit
theorem ac_plcheck {l : List Int} {b : Bool} (h : okLn l = b) : AC Try.prog 52 [rowI l] (.bool b) := by
  intro O W vs hl hat ; obtain ⟨ys, rfl, _, _, rfl, h0, rfl⟩ := args_of hat
  obtain ⟨p, k, rfl, hs⟩ := rp_rowI.1 h0
  refine (lcheck_any l p k W hs.s).mono ?_
  rintro e W' ⟨rfl, hk⟩
  exact ⟨_, rfl, rp_bool.2 (by rw [h]), hk⟩
set_option maxRecDepth 100000 in
theorem ac_pecheck {ep : Int} {l : List Int} {b : Bool} (h : okE ep l = b) : AC Try.prog 26 [evT ep l] (.bool b) := by
  subst h
  by_cases h0 : 0 ≤ ep
  · by_cases h1 : ep ≤ 1099511627776
    · rw [show okE ep l = okLn l by simp [okE, h0, h1]]
      exact ac_path mixed (ext := [52]) (fuel := 9) (n := 3) (orc := [.bool true, .bool true, .bool (okLn l)]) (an (show decide (0 ≤ ep) = true by simpa using h0) <| an (show decide (ep ≤ 1099511627776) = true by simpa using h1) <| an (ac_plcheck (l := l) rfl) trivial) (by kernel_rfl)
    · rw [show okE ep l = false by simp [okE, h1]]
      exact ac_path mixed (ext := [52]) (fuel := 9) (n := 3) (orc := [.bool true, .bool false]) (an (show decide (0 ≤ ep) = true by simpa using h0) <| an (show decide (ep ≤ 1099511627776) = false by simpa using h1) trivial) (by kernel_rfl)
  · rw [show okE ep l = false by simp [okE, h0]]
    exact ac_path mixed (ext := [52]) (fuel := 9) (n := 3) (orc := [.bool false]) (an (show decide (0 ≤ ep) = false by simpa using h0) trivial) (by kernel_rfl)
/-! ### Lines -/
def gZ (l : List Int) (i : Nat) : Int := l.getD i 0
theorem gZ_eq {l : List Int} {i : Nat} (h : i < l.length) : gZ l i = l[i] := by simp [gZ, h]
theorem ixZ' {l : List Int} {i : Nat} (h : i < l.length) : IxP ((l.map (Value.int .i64 ·)).toArray) (i : Int) (.int .i64 (gZ l i)) := ⟨by omega, by simp [gZ_eq h, h]⟩
theorem any_at {α : Type} {f : α → Bool} {l : List α} {i : Nat} (h : i < l.length) : (l.drop i).any f = (f l[i] || (l.drop (i + 1)).any f) := by rw [List.drop_eq_getElem_cons h]; rfl
def zkB (m : Int) : List (Option Blk) := [some ⟨true, false, 1, 1, [.int .i64 m]⟩]
def zkT (l : List Int) (i : Int) : List (Nat × Value) := [(0, rowI l), (1, .func (.func 51) #[] #[.pointer (some ⟨0, 0, some 0⟩)]), (7, .int .i64 l.length), (8, .int .i64 i)]
def zkS (m : Int) (l : List Int) (i : Int) : Sg := ⟨mkT 19 (zkT l i), zkB m⟩
def zkN (m j : Int) : Sg := ⟨mkT 19 [(4, .int .i64 j)], zkB m⟩
abbrev ZkL (m : Int) (l : List Int) (i : Int) (x : Exit) (S : Sg) : Prop := LoopK Try.prog 1 (loopOf Try.prog 80 0) (zkS m l i) x S
section
variable {l : List Int} {m : Int}
set_option maxRecDepth 100000 in
theorem zk_yes (hm : l.length ≤ maxLen) : ∀ (k i : Nat), l.length - i = k → i ≤ l.length → (l.drop i).any (overB m) = false → ZkL m l i (.exit 0) (zkS m l l.length)
  | 0, i, hk, hi, _ => by
    have : i = l.length := by omega
    subst this
    exact loopK_end mixed (fuel := 9) (n := 5) (im := [0]) (keep := [0, 1, 7, 8]) (ext := []) (orc := [.bool false]) (an (show decide ((l.length : Int) < l.length) = false by simp) trivial) (by intro e; cases e) (by kernel_rfl) (by rfl)
  | k + 1, i, hk, hi, he => by
    have ha : i < l.length := by omega
    rw [any_at ha, Bool.or_eq_false_iff] at he
    have ih := zk_yes hm k (i + 1) (by omega) (by omega) he.2
    rw [show ((i + 1 : Nat) : Int) = (i : Int) + 1 by omega] at ih
    exact loopK_more mixed (fuel := 9) (n := 5) (im := [0]) (keep := [0, 1, 7, 8]) (ext := []) (orc := [.bool true, .int .i64 (gZ l i), .bool false])
      (an (show decide ((i : Int) < l.length) = true by simp; omega) <| an (ixZ' ha) <| an (show decide (m ≤ gZ l i) = false by rw [gZ_eq ha]; exact he.1) <| an (in_next ha hm) trivial) (by kernel_rfl) (by rfl) ih
set_option maxRecDepth 100000 in
theorem zk_no (hm : l.length ≤ maxLen) : ∀ (k i : Nat), l.length - i = k → i ≤ l.length → (l.drop i).any (overB m) = true → ∃ j : Nat, ZkL m l i .ret (zkN m j)
  | 0, i, hk, hi, he => absurd he (by rw [List.drop_eq_nil_of_le (by omega)]; simp)
  | k + 1, i, hk, hi, he => by
    have ha : i < l.length := by omega
    rw [any_at ha] at he
    cases h1 : overB m l[i]
    · rw [h1, Bool.false_or] at he
      obtain ⟨j, ih⟩ := zk_no hm k (i + 1) (by omega) (by omega) he
      rw [show ((i + 1 : Nat) : Int) = (i : Int) + 1 by omega] at ih
      exact ⟨j, loopK_more mixed (fuel := 9) (n := 5) (im := [0]) (keep := [0, 1, 7, 8]) (ext := []) (orc := [.bool true, .int .i64 (gZ l i), .bool false])
        (an (show decide ((i : Int) < l.length) = true by simp; omega) <| an (ixZ' ha) <| an (show decide (m ≤ gZ l i) = false by rw [gZ_eq ha]; exact h1) <| an (in_next ha hm) trivial) (by kernel_rfl) (by rfl) ih⟩
    · exact ⟨i, loopK_end mixed (fuel := 9) (n := 5) (im := [0]) (keep := [4]) (ext := []) (orc := [.bool true, .int .i64 (gZ l i), .bool true])
        (an (show decide ((i : Int) < l.length) = true by simp; omega) <| an (ixZ' ha) <| an (show decide (m ≤ gZ l i) = true by rw [gZ_eq ha]; exact h1) trivial) (by intro e; cases e) (by kernel_rfl) (by rfl)⟩
end
/-! ### A state -/
def zkE : List FuncId := [23, 24, 27, 52, 26]
def zkR (s : St) : List Value := [rowI s.sn, rowI s.rc, rowI s.fl, rowI s.el]
def zk0 : List Value := [.int .i64 0, .nilFunc, vD true]
def zkC (s : St) (l : List Int) : List Value := [.nilFunc, rowI l, vD true, oK 1 [2] [0, 1, 7, 8] 0 (zkT l l.length) (zkB s.cf.th), .nilFunc]
def zkF (l : List Int) : List Value := [.nilFunc, rowI l, vD false]
def zkG (s : St) (l : List Int) (j : Int) : List Value := [.nilFunc, rowI l, vD true, oK 1 [2] [0, 1, 7, 8] (-1) [(4, .int .i64 j)] (zkB s.cf.th), .bool true]
abbrev Zk (s : St) (b : Bool) : Prop := AC Try.prog 13 [stT s] (.bool b)
abbrev ZkI (s : St) (i : Nat) (l : List Int) (b : Bool) (B : Prop) : Prop := ((0 : Int) ≤ (i : Int) ∧ (i : Int).toNat < 4) ∧ ElP (zkR s) i (rowI l) ∧ AC Try.prog 52 [rowI l] (.bool b) ∧ B
section
variable {s : St} {l : List Int} {i : Nat} {B : Prop} (hi : i < 4) (he : (zkR s)[i]? = some (rowI l))
include hi he
theorem zk_f (h : okLn l = false) : ZkI s i l false True := ⟨⟨by omega, by omega⟩, he, ac_plcheck h, trivial⟩
theorem zk_g (h : okLn l = true) {j : Nat} (hj : ZkL s.cf.th l (0 : Nat) .ret (zkN s.cf.th j)) : ZkI s i l true (ZkL s.cf.th l (0 : Nat) .ret (zkN s.cf.th j) ∧ decide ((0 : Int) ≤ (j : Int)) = true ∧ True) := ⟨⟨by omega, by omega⟩, he, ac_plcheck h, hj, by simp, trivial⟩
theorem zk_c (h : stnB s.cf.th l = true) (hm : l.length ≤ maxLen) (b : B) : ZkI s i l true (ZkL s.cf.th l (0 : Nat) (.exit 0) (zkS s.cf.th l l.length) ∧ In64 ((i : Int) + 1) ∧ B) := by
  simp only [stnB, Bool.and_eq_true, Bool.not_eq_true'] at h
  exact ⟨⟨by omega, by omega⟩, he, ac_plcheck h.1, zk_yes hm l.length 0 rfl (by omega) (by simpa using h.2), ⟨by omega, by omega⟩, b⟩
end
theorem zk_or {m : Int} {l : List Int} (h : stnB m l = false) (hm : l.length ≤ maxLen) : okLn l = false ∨ okLn l = true ∧ ∃ j : Nat, ZkL m l (0 : Nat) .ret (zkN m j) := by
  cases h1 : okLn l
  · exact .inl rfl
  · refine .inr ⟨rfl, zk_no hm l.length 0 rfl (by omega) ?_⟩
    simpa [stnB, h1] using h
set_option maxRecDepth 100000 in
theorem ac_pcheck {s : St} {b : Bool} (h : stB s = b) (ho : s.ok) : Zk s b := by
  subst h
  cases h0 : cfB s.cf
  · rw [show stB s = false by simp [stB, h0]]
    exact ac_path mixed (ext := zkE) (fuel := 9) (n := 6) (orc := [.int .i64 20, .nilFunc]) (an (ac_ccheck (c := s.cf) (r := 20) (by simp [h0])) trivial) (by kernel_rfl)
  have c0 := ac_ccheck (c := s.cf) (r := 0) (by simp [h0])
  cases h1 : ringSt s
  · rw [show stB s = false by simp [stB, h1]]
    exact ac_path mixed (ext := zkE) (fuel := 9) (n := 6) (orc := [.int .i64 0, .nilFunc, vD false]) (an c0 <| an (ac_pring h1 ho) trivial) (by kernel_rfl)
  have c1 := ac_pring h1 ho
  cases g0 : stnB s.cf.th s.sn
  · rw [show stB s = false by simp [stB, lnsSt, g0]]
    rcases zk_or g0 ho.sn.2 with e | ⟨e, j, hj⟩
    · exact ac_path mixed (ext := zkE) (fuel := 9) (n := 6) (orc := zk0 ++ zkF s.sn) (an c0 <| an c1 <| zk_f (s := s) (i := 0) (by decide) rfl e) (by kernel_rfl)
    · exact ac_path mixed (ext := zkE) (fuel := 9) (n := 6) (orc := zk0 ++ zkG s s.sn j) (an c0 <| an c1 <| zk_g (s := s) (i := 0) (by decide) rfl e hj) (by kernel_rfl)
  cases g1 : stnB s.cf.th s.rc
  · rw [show stB s = false by simp [stB, lnsSt, g1]]
    rcases zk_or g1 ho.rc.2 with e | ⟨e, j, hj⟩
    · exact ac_path mixed (ext := zkE) (fuel := 9) (n := 6) (orc := zk0 ++ zkC s s.sn ++ zkF s.rc) (an c0 <| an c1 <| zk_c (s := s) (i := 0) (by decide) rfl g0 ho.sn.2 <| zk_f (s := s) (i := 1) (by decide) rfl e) (by kernel_rfl)
    · exact ac_path mixed (ext := zkE) (fuel := 9) (n := 6) (orc := zk0 ++ zkC s s.sn ++ zkG s s.rc j) (an c0 <| an c1 <| zk_c (s := s) (i := 0) (by decide) rfl g0 ho.sn.2 <| zk_g (s := s) (i := 1) (by decide) rfl e hj) (by kernel_rfl)
  cases g2 : stnB s.cf.th s.fl
  · rw [show stB s = false by simp [stB, lnsSt, g2]]
    rcases zk_or g2 ho.fl.2 with e | ⟨e, j, hj⟩
    · exact ac_path mixed (ext := zkE) (fuel := 9) (n := 6) (orc := zk0 ++ zkC s s.sn ++ zkC s s.rc ++ zkF s.fl) (an c0 <| an c1 <| zk_c (s := s) (i := 0) (by decide) rfl g0 ho.sn.2 <| zk_c (s := s) (i := 1) (by decide) rfl g1 ho.rc.2 <| zk_f (s := s) (i := 2) (by decide) rfl e) (by kernel_rfl)
    · exact ac_path mixed (ext := zkE) (fuel := 9) (n := 6) (orc := zk0 ++ zkC s s.sn ++ zkC s s.rc ++ zkG s s.fl j) (an c0 <| an c1 <| zk_c (s := s) (i := 0) (by decide) rfl g0 ho.sn.2 <| zk_c (s := s) (i := 1) (by decide) rfl g1 ho.rc.2 <| zk_g (s := s) (i := 2) (by decide) rfl e hj) (by kernel_rfl)
  cases g3 : stnB s.cf.th s.el
  · rw [show stB s = false by simp [stB, lnsSt, g3]]
    rcases zk_or g3 ho.el.2 with e | ⟨e, j, hj⟩
    · exact ac_path mixed (ext := zkE) (fuel := 9) (n := 6) (orc := zk0 ++ zkC s s.sn ++ zkC s s.rc ++ zkC s s.fl ++ zkF s.el) (an c0 <| an c1 <| zk_c (s := s) (i := 0) (by decide) rfl g0 ho.sn.2 <| zk_c (s := s) (i := 1) (by decide) rfl g1 ho.rc.2 <| zk_c (s := s) (i := 2) (by decide) rfl g2 ho.fl.2 <| zk_f (s := s) (i := 3) (by decide) rfl e) (by kernel_rfl)
    · exact ac_path mixed (ext := zkE) (fuel := 9) (n := 6) (orc := zk0 ++ zkC s s.sn ++ zkC s s.rc ++ zkC s s.fl ++ zkG s s.el j) (an c0 <| an c1 <| zk_c (s := s) (i := 0) (by decide) rfl g0 ho.sn.2 <| zk_c (s := s) (i := 1) (by decide) rfl g1 ho.rc.2 <| zk_c (s := s) (i := 2) (by decide) rfl g2 ho.fl.2 <| zk_g (s := s) (i := 3) (by decide) rfl e hj) (by kernel_rfl)
  cases h2 : okE s.fe s.fl
  · rw [show stB s = false by simp [stB, h2]]
    exact ac_path mixed (ext := zkE) (fuel := 9) (n := 6) (orc := zk0 ++ zkC s s.sn ++ zkC s s.rc ++ zkC s s.fl ++ zkC s s.el ++ [.nilFunc, vD false]) (an c0 <| an c1 <| zk_c (s := s) (i := 0) (by decide) rfl g0 ho.sn.2 <| zk_c (s := s) (i := 1) (by decide) rfl g1 ho.rc.2 <| zk_c (s := s) (i := 2) (by decide) rfl g2 ho.fl.2 <| zk_c (s := s) (i := 3) (by decide) rfl g3 ho.el.2 <| an (ac_pecheck h2) trivial) (by kernel_rfl)
  cases h3 : okE s.ee s.el
  · rw [show stB s = false by simp [stB, h3]]
    exact ac_path mixed (ext := zkE) (fuel := 9) (n := 6) (orc := zk0 ++ zkC s s.sn ++ zkC s s.rc ++ zkC s s.fl ++ zkC s s.el ++ [.nilFunc, vD true, vD false]) (an c0 <| an c1 <| zk_c (s := s) (i := 0) (by decide) rfl g0 ho.sn.2 <| zk_c (s := s) (i := 1) (by decide) rfl g1 ho.rc.2 <| zk_c (s := s) (i := 2) (by decide) rfl g2 ho.fl.2 <| zk_c (s := s) (i := 3) (by decide) rfl g3 ho.el.2 <| an (ac_pecheck h2) <| an (ac_pecheck h3) trivial) (by kernel_rfl)
  cases h4 : decide (0 ≤ s.nw)
  · rw [show stB s = false by simp only [stB, h4]; simp]
    exact ac_path mixed (ext := zkE) (fuel := 9) (n := 6) (orc := zk0 ++ zkC s s.sn ++ zkC s s.rc ++ zkC s s.fl ++ zkC s s.el ++ [.nilFunc, vD true, vD true, .bool false]) (an c0 <| an c1 <| zk_c (s := s) (i := 0) (by decide) rfl g0 ho.sn.2 <| zk_c (s := s) (i := 1) (by decide) rfl g1 ho.rc.2 <| zk_c (s := s) (i := 2) (by decide) rfl g2 ho.fl.2 <| zk_c (s := s) (i := 3) (by decide) rfl g3 ho.el.2 <| an (ac_pecheck h2) <| an (ac_pecheck h3) <| an h4 trivial) (by kernel_rfl)
  cases h5 : decide (s.nw ≤ 1099511627776)
  · rw [show stB s = false by simp only [stB, h5]; simp]
    exact ac_path mixed (ext := zkE) (fuel := 9) (n := 6) (orc := zk0 ++ zkC s s.sn ++ zkC s s.rc ++ zkC s s.fl ++ zkC s s.el ++ [.nilFunc, vD true, vD true, .bool true, .bool false]) (an c0 <| an c1 <| zk_c (s := s) (i := 0) (by decide) rfl g0 ho.sn.2 <| zk_c (s := s) (i := 1) (by decide) rfl g1 ho.rc.2 <| zk_c (s := s) (i := 2) (by decide) rfl g2 ho.fl.2 <| zk_c (s := s) (i := 3) (by decide) rfl g3 ho.el.2 <| an (ac_pecheck h2) <| an (ac_pecheck h3) <| an h4 <| an h5 trivial) (by kernel_rfl)
  rw [show stB s = thsSt s by simp only [stB, lnsSt, h0, h1, g0, g1, g2, g3, h2, h3, h4, h5]; simp]
  exact ac_path mixed (ext := zkE) (fuel := 9) (n := 6) (orc := zk0 ++ zkC s s.sn ++ zkC s s.rc ++ zkC s s.fl ++ zkC s s.el ++ [.nilFunc, vD true, vD true, .bool true, .bool true, .bool (thsSt s)]) (an c0 <| an c1 <| zk_c (s := s) (i := 0) (by decide) rfl g0 ho.sn.2 <| zk_c (s := s) (i := 1) (by decide) rfl g1 ho.rc.2 <| zk_c (s := s) (i := 2) (by decide) rfl g2 ho.fl.2 <| zk_c (s := s) (i := 3) (by decide) rfl g3 ho.el.2 <| an (ac_pecheck h2) <| an (ac_pecheck h3) <| an h4 <| an h5 <| an (ac_pthreads (s := s) rfl ho) trivial) (by kernel_rfl)
set_option maxRecDepth 100000 in
theorem ac_phas {s : St} {i : Int} {b : Bool} (h : hasB s i = b) (ho : s.ok) : AC Try.prog 67 [stT s, .int .i64 i] (.bool b) := by
  subst h
  cases hB : stB s
  · rw [show hasB s i = false by simp [hasB, hB]]
    exact ac_path mixed (ext := [13]) (fuel := 9) (n := 4) (orc := [vD false]) (an (ac_pcheck hB ho) trivial) (by kernel_rfl)
  · by_cases h0 : 0 ≤ i
    · rw [show hasB s i = decide (i < s.th.length) by simp [hasB, hB, h0]]
      exact ac_path mixed (ext := [13]) (fuel := 9) (n := 4) (orc := [vD true, .bool true]) (an (ac_pcheck hB ho) <| an (show decide (0 ≤ i) = true by simpa using h0) trivial) (by kernel_rfl)
    · rw [show hasB s i = false by simp [hasB, h0]]
      exact ac_path mixed (ext := [13]) (fuel := 9) (n := 4) (orc := [vD true, .bool false]) (an (ac_pcheck hB ho) <| an (show decide (0 ≤ i) = false by simpa using h0) trivial) (by kernel_rfl)
end Go.Proofs.Ytkflpaicohbppaa

/- Contracts told by abstract values: the program's fabric: copies of its own; who is woken; what is told. -/
namespace Go.Proofs.Ytkflpaicohbppaa
set_option linter.unusedVariables false
set_option linter.unusedSimpArgs false
open Go.RowKit
set_option maxRecDepth 100000 in
theorem ac_copI (l : List Int) (hm : l.length ≤ 1000000) : AC Try.prog 58 [rowI l] (rowI l) := by
  by_cases h : l = []
  · subst h
    exact ac_path mixed (ext := []) (fuel := 9) (n := 3) (orc := [.slice none 0 0]) (And.intro (allK_I []) (And.intro (rfl : (0 : Nat) = 0) trivial)) (by kernel_rfl)
  · exact ac_path mixed (ext := []) (fuel := 9) (n := 3) (orc := [rowI l]) (And.intro (allK_I l) (And.intro (app_nil (f := (Value.int .i64 ·)) h hm) (And.intro (len_map (f := (Value.int .i64 ·)) l) trivial))) (by kernel_rfl)
set_option maxRecDepth 100000 in
theorem ac_copS (l : List Slo) (hm : l.length ≤ 1000000) : AC Try.prog 57 [rowS l] (rowS l) := by
  by_cases h : l = []
  · subst h
    exact ac_path mixed (ext := []) (fuel := 9) (n := 3) (orc := [.slice none 0 0]) (And.intro (allK_S []) (And.intro (rfl : (0 : Nat) = 0) trivial)) (by kernel_rfl)
  · exact ac_path mixed (ext := []) (fuel := 9) (n := 3) (orc := [rowS l]) (And.intro (allK_S l) (And.intro (app_nil (f := slT) h hm) (And.intro (len_map (f := slT) l) trivial))) (by kernel_rfl)
set_option maxRecDepth 100000 in
theorem ac_copT (l : List Th) (hm : l.length ≤ 1000000) : AC Try.prog 59 [rowT l] (rowT l) := by
  by_cases h : l = []
  · subst h
    exact ac_path mixed (ext := []) (fuel := 9) (n := 3) (orc := [.slice none 0 0]) (And.intro (allK_T []) (And.intro (rfl : (0 : Nat) = 0) trivial)) (by kernel_rfl)
  · exact ac_path mixed (ext := []) (fuel := 9) (n := 3) (orc := [rowT l]) (And.intro (allK_T l) (And.intro (app_nil (f := thT) h hm) (And.intro (len_map (f := thT) l) trivial))) (by kernel_rfl)
set_option maxRecDepth 100000 in
theorem ac_copE (l : List En) (hm : l.length ≤ 1000000) : AC Try.prog 60 [rowE l] (rowE l) := by
  by_cases h : l = []
  · subst h
    exact ac_path mixed (ext := []) (fuel := 9) (n := 3) (orc := [.slice none 0 0]) (And.intro (allK_E []) (And.intro (rfl : (0 : Nat) = 0) trivial)) (by kernel_rfl)
  · exact ac_path mixed (ext := []) (fuel := 9) (n := 3) (orc := [rowE l]) (And.intro (allK_E l) (And.intro (app_nil (f := enT) h hm) (And.intro (len_map (f := enT) l) trivial))) (by kernel_rfl)
end Go.Proofs.Ytkflpaicohbppaa

/- Contracts told by abstract values: the program's fabric, its threads its caller's own: Wake, Tell. -/
namespace Go.Proofs.Ytkflpaicohbppaa
set_option linter.unusedVariables false
set_option linter.unusedSimpArgs false
open Go.RowKit
def stL (s : St) : Array Value := #[.int .i64 s.cf.lg, .int .i64 s.cf.th, .int .i64 s.cf.po, .int .i64 s.cf.wt, .int .i64 s.cf.sp, .int .i64 s.cf.yi, .bool s.cf.si, .int .i64 s.hd, .int .i64 s.tl, .int .i64 s.md, rowS s.sl, rowI s.sn, rowI s.rc, .int .i64 s.fe, rowI s.fl, .int .i64 s.ee, rowI s.el, .int .i64 s.nw, rowT s.th, rowE s.lg]
def rsT (t : Th) (r : Int) : Th := ⟨t.st, t.ki, t.va, t.un, t.pc, t.re, t.se, t.tr, t.la, r, t.go⟩
def rgT (t : Th) (r g : Int) : Th := ⟨t.st, t.ki, t.va, t.un, t.pc, t.re, t.se, t.tr, t.la, r, g⟩
/-- Its lists are not too long. -/
structure St.fit (s : St) : Prop where
  sl : s.sl.length ≤ 1000000
  sn : s.sn.length ≤ 1000000
  rc : s.rc.length ≤ 1000000
  fl : s.fl.length ≤ 1000000
  el : s.el.length ≤ 1000000
  th : s.th.length ≤ 1000000
  lg : s.lg.length ≤ 1000000
theorem el2 {n : Nat} {l : List Th} (h : n < l.length) (t : Th) : ElP ((l.set n t).map thT) (0 + (n : Int).toNat) (thT t) := by simp [ElP, h]
theorem set2 (l : List Th) (n : Nat) (t u : Th) : (l.set n u).map thT = ((l.set n t).map thT).set (0 + (n : Int).toNat) (thT u) := by simp [List.map_set]
theorem lenE (l : List En) : l.length = (l.map enT).length := by simp
theorem lenT (l : List Th) : l.length = l.length ∧ l.length = (l.map thT).length := ⟨rfl, by simp⟩
theorem lenTs (l : List Th) (n : Nat) (t : Th) : l.length = (l.set n t).length ∧ l.length = ((l.set n t).map thT).length := ⟨by simp, by simp⟩
theorem has_lt {s : St} {n : Nat} (h : hasB s n = true) : n < s.th.length := by have := (has_iff.1 h).2.2; omega
theorem lt_ne {l : List Th} {n : Nat} (h : n < l.length) : l ≠ [] := by rintro rfl; simp at h
set_option maxRecDepth 100000 in
/-- Nobody is woken: all is as it was, its threads in memory of the caller's own. -/
theorem ao_keep {s : St} {i : Int} (hA : hasB s i = false) (ho : s.ok) (hf : s.fit) (ht : s.th ≠ []) : AO Try.prog 39 [stT s, .int .i64 i] (stL s) 18 11 :=
  ao_path mixed (ext := [67, 58, 57, 60]) (fuel := 9) (n := 5) (pos := 18) (orc := [vD false, rowS s.sl, rowI s.sn, rowI s.rc, rowI s.fl, rowI s.el, rowT s.th, rowE s.lg])
    (And.intro (ac_phas hA ho) (And.intro (ac_copS s.sl hf.sl) (And.intro (ac_copI s.sn hf.sn) (And.intro (ac_copI s.rc hf.rc) (And.intro (ac_copI s.fl hf.fl) (And.intro (ac_copI s.el hf.el)
      (And.intro (allK_T s.th) (And.intro (app_nil (f := thT) ht hf.th) (And.intro (ac_copE s.lg hf.lg) (And.intro (lenT s.th) trivial)))))))))) (by kernel_rfl)
set_option maxRecDepth 100000 in
theorem ao_wake {s : St} {n : Nat} (hA : hasB s n = true) (ho : s.ok) (hf : s.fit) : AO Try.prog 39 [stT s, .int .i64 n] (stL (s.onTh n wakeT)) 18 11 :=
  ao_path mixed (ext := [67, 58, 57, 60, 69]) (fuel := 9) (n := 5) (pos := 18)
    (orc := [vD true, rowS s.sl, rowI s.sn, rowI s.rc, rowI s.fl, rowI s.el, rowT s.th, rowE s.lg, thT (gth s.th n), thT (wakeT (gth s.th n)), thT (gth s.th n), rowT (s.th.set n (wakeT (gth s.th n)))])
    (And.intro (ac_phas hA ho) (And.intro (ac_copS s.sl hf.sl) (And.intro (ac_copI s.sn hf.sn) (And.intro (ac_copI s.rc hf.rc) (And.intro (ac_copI s.fl hf.fl) (And.intro (ac_copI s.el hf.el)
      (And.intro (allK_T s.th) (And.intro (app_nil (f := thT) (lt_ne (has_lt hA)) hf.th) (And.intro (ac_copE s.lg hf.lg) (And.intro (idT (has_lt hA)) (And.intro (elT (has_lt hA)) (And.intro (ac_twake (gth s.th n)) (And.intro (elT (has_lt hA))
        (And.intro (setT s.th n (wakeT (gth s.th n))) (And.intro (lenTs s.th n (wakeT (gth s.th n))) trivial))))))))))))))) (by kernel_rfl)
theorem app_one {α : Type} {f : α → Value} (l : List α) (x : α) (hm : l.length ≤ 1000000) : AppP (l ++ [x]).length ((l ++ [x]).map f) l.length (l.map f) 1 [f x] := ⟨by simp, by simp, by omega⟩
theorem app_fst {α : Type} {f : α → Value} (x : α) : 0 < 1 ∧ AppP ([] ++ [x]).length (([] ++ [x]).map f) 0 [] 1 [f x] := ⟨by omega, by simp, by simp, by omega⟩
theorem ixT {n : Nat} {l : List Th} (h : n < l.length) : IxP ((l.map thT).toArray) (n : Int) (thT (gth l n)) := rowT_el h
theorem allK_1 (x : En) : AllK 5 [enT x] := allK_E [x]
def tlE (s : St) (n : Nat) (k r g : Int) : En := ⟨n, k, (gth s.th n).va, r, g⟩
theorem lenA (l : List En) (x : En) : LenP (l ++ [x]).length (l ++ [x]).length ((l ++ [x]).map enT) := len_map (f := enT) (l ++ [x])
set_option maxRecDepth 100000 in
theorem ao_tell {s : St} {n : Nat} {k r g : Int} (hA : hasB s n = true) (hk : (k != 9) = true) (ho : s.ok) (hf : s.fit) : AO Try.prog 71 [stT s, .int .i64 n, .int .i64 k, .int .i64 r, .int .i64 g] (stL ((s.setTh n (rgT (gth s.th n) r g)).addLg (tlE s n k r g))) 18 11 := by
  have hn := has_lt hA
  by_cases hl : s.lg = []
  · rw [show (s.setTh n (rgT (gth s.th n) r g)).addLg (tlE s n k r g) = ⟨s.cf, s.hd, s.tl, s.md, s.sl, s.sn, s.rc, s.fe, s.fl, s.ee, s.el, s.nw, s.th.set n (rgT (gth s.th n) r g), [] ++ [tlE s n k r g]⟩ by unfold St.addLg St.setTh; rw [hl]]
    refine ao_path mixed (ext := [67, 58, 57]) (fuel := 9) (n := 5) (pos := 18)
      (orc := [vD true, rowS s.sl, rowI s.sn, rowI s.rc, rowI s.fl, rowI s.el, rowT s.th, .slice none 0 0, .bool true, thT (gth s.th n), rowT (s.th.set n (rsT (gth s.th n) r)), thT (rsT (gth s.th n) r), rowT (s.th.set n (rgT (gth s.th n) r g)), thT (gth s.th n), rowE ([] ++ [tlE s n k r g])])
      (an (ac_phas hA ho) <| an (ac_copS s.sl hf.sl) <| an (ac_copI s.sn hf.sn) <| an (ac_copI s.rc hf.rc) <| an (ac_copI s.fl hf.fl) <| an (ac_copI s.el hf.el) <| an (allK_T s.th) <| an (app_nil (f := thT) (lt_ne hn) hf.th) <|
        an (allK_E s.lg) <| an (show s.lg.length = 0 by rw [hl]; rfl) <| an (idT hn) <| an hk <| an (elT hn) <| an (setT s.th n (rsT (gth s.th n) r)) <| an (el2 hn (rsT (gth s.th n) r)) <| an (set2 s.th n (rsT (gth s.th n) r) (rgT (gth s.th n) r g)) <| an (ixT hn) <| an (rfl : (1 : Nat) = 1) <| an (allK_1 (tlE s n k r g)) <| an (app_fst (f := enT) (tlE s n k r g)) <|
        an (lenTs s.th n (rgT (gth s.th n) r g)) <| an (lenA [] (tlE s n k r g)) trivial) (by kernel_rfl)
  · refine ao_path mixed (ext := [67, 58, 57]) (fuel := 9) (n := 5) (pos := 18)
      (orc := [vD true, rowS s.sl, rowI s.sn, rowI s.rc, rowI s.fl, rowI s.el, rowT s.th, rowE s.lg, .bool true, thT (gth s.th n), rowT (s.th.set n (rsT (gth s.th n) r)), thT (rsT (gth s.th n) r), rowT (s.th.set n (rgT (gth s.th n) r g)), thT (gth s.th n), rowE (s.lg ++ [tlE s n k r g])])
      (an (ac_phas hA ho) <| an (ac_copS s.sl hf.sl) <| an (ac_copI s.sn hf.sn) <| an (ac_copI s.rc hf.rc) <| an (ac_copI s.fl hf.fl) <| an (ac_copI s.el hf.el) <| an (allK_T s.th) <| an (app_nil (f := thT) (lt_ne hn) hf.th) <|
        an (allK_E s.lg) <| an (app_nil (f := enT) hl hf.lg) <| an (idT hn) <| an hk <| an (elT hn) <| an (setT s.th n (rsT (gth s.th n) r)) <| an (el2 hn (rsT (gth s.th n) r)) <| an (set2 s.th n (rsT (gth s.th n) r) (rgT (gth s.th n) r g)) <| an (ixT hn) <| an (rfl : (1 : Nat) = 1) <| an (allK_1 (tlE s n k r g)) <| an (lenE s.lg) <| an (app_one (f := enT) s.lg (tlE s n k r g) hf.lg) <|
        an (lenTs s.th n (rgT (gth s.th n) r g)) <| an (lenA s.lg (tlE s n k r g)) trivial) (by kernel_rfl)
set_option maxRecDepth 100000 in
/-- What a state's lists are copied into: whoever is not there is not woken. -/
theorem ac_keep {s : St} {i : Int} (hA : hasB s i = false) (ho : s.ok) (hf : s.fit) : AC Try.prog 39 [stT s, .int .i64 i] (stT s) :=
  ac_path mixed (ext := [67, 58, 57, 60, 59]) (fuel := 9) (n := 5) (orc := [vD false, rowS s.sl, rowI s.sn, rowI s.rc, rowI s.fl, rowI s.el, rowT s.th, rowE s.lg])
    (an (ac_phas hA ho) <| an (ac_copS s.sl hf.sl) <| an (ac_copI s.sn hf.sn) <| an (ac_copI s.rc hf.rc) <| an (ac_copI s.fl hf.fl) <| an (ac_copI s.el hf.el) <| an (ac_copT s.th hf.th) <| an (ac_copE s.lg hf.lg) trivial) (by kernel_rfl)
end Go.Proofs.Ytkflpaicohbppaa

/- Layer 9: whose turn it is; written, read, released. -/
namespace Go.Proofs.Ytkflpaicohbppaa
set_option linter.unusedVariables false
set_option linter.unusedSimpArgs false
open Go.ChangeShapes Go.WideShapes Go.ChangeAt Go.RowKit

end Go.Proofs.Ytkflpaicohbppaa

/- '==' on structs of the api, field by field: entries, configurations, words. Written by tools/eqs.py. -/
namespace Go.Proofs.Ytkflpaicohbppaa
set_option linter.unusedVariables false
set_option linter.unusedSimpArgs false
open Go.ChangeShapes Go.WideShapes Go.ChangeAt Go.RowKit
/-- A word. -/
structure Wo3 where
  hd : Int
  tl : Int
  md : Int
instance enEq : DecidableEq En := fun a b => decidable_of_iff (a.th = b.th ∧ a.ki = b.ki ∧ a.va = b.va ∧ a.re = b.re ∧ a.go = b.go) (by cases a; cases b; simp)
set_option maxHeartbeats 1000000 in
theorem en_equal (a b : En) (w : World) : (Op.equal 56 (.agg #[.int .i64 a.th, .int .i64 a.ki, .int .i64 a.va, .int .i64 a.re, .int .i64 a.go]) (.agg #[.int .i64 b.th, .int .i64 b.ki, .int .i64 b.va, .int .i64 b.re, .int .i64 b.go])).run Try.prog w = .ok (decide (a = b)) w := by
  have hu := Try.underlying56
  have h3 := Try.underlying3
  have h4 := Try.underlying4
  have hp : Try.prog.stoodInHeld 56 = false := by kernel_rfl
  have hc : Try.prog.info? 3 = _ := rfl
  have hd : Try.prog.info? 4 = _ := rfl
  have e : decide (a = b) = (a.th == b.th && ((a.ki == b.ki && ((a.va == b.va && ((a.re == b.re && (a.go == b.go)))))))) := by
    rw [Bool.eq_iff_iff]; cases a; cases b; simp [and_assoc]
  rw [e]
  unfold Op.equal Op.maxDepth
  rw [run_equalIn_struct w 9999 _ _ _ (by unfold Program.fieldsOf; rw [hu]) hp]
  unfold Program.fieldsOf
  rw [hu]
  cases c0 : (a.th == b.th)
  · simp [Op.eqFields, part, isAgg, run_underlying h3, run_underlying h4, run_equalIn_int _ _ _ _ _ _ _ h3, run_equalIn_bool _ _ _ _ _ h4, c0]
  cases c1 : (a.ki == b.ki)
  · simp [Op.eqFields, part, isAgg, run_underlying h3, run_underlying h4, run_equalIn_int _ _ _ _ _ _ _ h3, run_equalIn_bool _ _ _ _ _ h4, c0, c1]
  cases c2 : (a.va == b.va)
  · simp [Op.eqFields, part, isAgg, run_underlying h3, run_underlying h4, run_equalIn_int _ _ _ _ _ _ _ h3, run_equalIn_bool _ _ _ _ _ h4, c0, c1, c2]
  cases c3 : (a.re == b.re)
  · simp [Op.eqFields, part, isAgg, run_underlying h3, run_underlying h4, run_equalIn_int _ _ _ _ _ _ _ h3, run_equalIn_bool _ _ _ _ _ h4, c0, c1, c2, c3]
  cases c4 : (a.go == b.go)
  · simp [Op.eqFields, part, isAgg, run_underlying h3, run_underlying h4, run_equalIn_int _ _ _ _ _ _ _ h3, run_equalIn_bool _ _ _ _ _ h4, c0, c1, c2, c3, c4]
  simp [Op.eqFields, part, isAgg, run_underlying h3, run_underlying h4, run_equalIn_int _ _ _ _ _ _ _ h3, run_equalIn_bool _ _ _ _ _ h4, c0, c1, c2, c3, c4]
theorem en_neq (a b : En) (w : World) : (binOp .neq 56 (.agg #[.int .i64 a.th, .int .i64 a.ki, .int .i64 a.va, .int .i64 a.re, .int .i64 a.go]) (.agg #[.int .i64 b.th, .int .i64 b.ki, .int .i64 b.va, .int .i64 b.re, .int .i64 b.go])).run Try.prog w = .ok (.bool (!decide (a = b))) w := by
  have h := en_equal a b w
  have hu := Try.underlying56
  simp [binOp, h, run_underlying hu, Result.andThen]
theorem en_eql (a b : En) (w : World) : (binOp .eql 56 (.agg #[.int .i64 a.th, .int .i64 a.ki, .int .i64 a.va, .int .i64 a.re, .int .i64 a.go]) (.agg #[.int .i64 b.th, .int .i64 b.ki, .int .i64 b.va, .int .i64 b.re, .int .i64 b.go])).run Try.prog w = .ok (.bool (decide (a = b))) w := by
  have h := en_equal a b w
  have hu := Try.underlying56
  simp [binOp, h, run_underlying hu, Result.andThen]
instance cfEq : DecidableEq Cf := fun a b => decidable_of_iff (a.lg = b.lg ∧ a.th = b.th ∧ a.po = b.po ∧ a.wt = b.wt ∧ a.sp = b.sp ∧ a.yi = b.yi ∧ a.si = b.si) (by cases a; cases b; simp)
set_option maxHeartbeats 1000000 in
theorem cf_equal (a b : Cf) (w : World) : (Op.equal 23 (.agg #[.int .i64 a.lg, .int .i64 a.th, .int .i64 a.po, .int .i64 a.wt, .int .i64 a.sp, .int .i64 a.yi, .bool a.si]) (.agg #[.int .i64 b.lg, .int .i64 b.th, .int .i64 b.po, .int .i64 b.wt, .int .i64 b.sp, .int .i64 b.yi, .bool b.si])).run Try.prog w = .ok (decide (a = b)) w := by
  have hu := Try.underlying23
  have h3 := Try.underlying3
  have h4 := Try.underlying4
  have hp : Try.prog.stoodInHeld 23 = false := by kernel_rfl
  have hc : Try.prog.info? 3 = _ := rfl
  have hd : Try.prog.info? 4 = _ := rfl
  have e : decide (a = b) = (a.lg == b.lg && ((a.th == b.th && ((a.po == b.po && ((a.wt == b.wt && ((a.sp == b.sp && ((a.yi == b.yi && (a.si == b.si)))))))))))) := by
    rw [Bool.eq_iff_iff]; cases a; cases b; simp [and_assoc]
  rw [e]
  unfold Op.equal Op.maxDepth
  rw [run_equalIn_struct w 9999 _ _ _ (by unfold Program.fieldsOf; rw [hu]) hp]
  unfold Program.fieldsOf
  rw [hu]
  cases c0 : (a.lg == b.lg)
  · simp [Op.eqFields, part, isAgg, run_underlying h3, run_underlying h4, run_equalIn_int _ _ _ _ _ _ _ h3, run_equalIn_bool _ _ _ _ _ h4, c0]
  cases c1 : (a.th == b.th)
  · simp [Op.eqFields, part, isAgg, run_underlying h3, run_underlying h4, run_equalIn_int _ _ _ _ _ _ _ h3, run_equalIn_bool _ _ _ _ _ h4, c0, c1]
  cases c2 : (a.po == b.po)
  · simp [Op.eqFields, part, isAgg, run_underlying h3, run_underlying h4, run_equalIn_int _ _ _ _ _ _ _ h3, run_equalIn_bool _ _ _ _ _ h4, c0, c1, c2]
  cases c3 : (a.wt == b.wt)
  · simp [Op.eqFields, part, isAgg, run_underlying h3, run_underlying h4, run_equalIn_int _ _ _ _ _ _ _ h3, run_equalIn_bool _ _ _ _ _ h4, c0, c1, c2, c3]
  cases c4 : (a.sp == b.sp)
  · simp [Op.eqFields, part, isAgg, run_underlying h3, run_underlying h4, run_equalIn_int _ _ _ _ _ _ _ h3, run_equalIn_bool _ _ _ _ _ h4, c0, c1, c2, c3, c4]
  cases c5 : (a.yi == b.yi)
  · simp [Op.eqFields, part, isAgg, run_underlying h3, run_underlying h4, run_equalIn_int _ _ _ _ _ _ _ h3, run_equalIn_bool _ _ _ _ _ h4, c0, c1, c2, c3, c4, c5]
  cases c6 : (a.si == b.si)
  · simp [Op.eqFields, part, isAgg, run_underlying h3, run_underlying h4, run_equalIn_int _ _ _ _ _ _ _ h3, run_equalIn_bool _ _ _ _ _ h4, c0, c1, c2, c3, c4, c5, c6]
  simp [Op.eqFields, part, isAgg, run_underlying h3, run_underlying h4, run_equalIn_int _ _ _ _ _ _ _ h3, run_equalIn_bool _ _ _ _ _ h4, c0, c1, c2, c3, c4, c5, c6]
theorem cf_eql (a b : Cf) (w : World) : (binOp .eql 23 (.agg #[.int .i64 a.lg, .int .i64 a.th, .int .i64 a.po, .int .i64 a.wt, .int .i64 a.sp, .int .i64 a.yi, .bool a.si]) (.agg #[.int .i64 b.lg, .int .i64 b.th, .int .i64 b.po, .int .i64 b.wt, .int .i64 b.sp, .int .i64 b.yi, .bool b.si])).run Try.prog w = .ok (.bool (decide (a = b))) w := by
  have h := cf_equal a b w
  have hu := Try.underlying23
  simp [binOp, h, run_underlying hu, Result.andThen]
instance woEq : DecidableEq Wo3 := fun a b => decidable_of_iff (a.hd = b.hd ∧ a.tl = b.tl ∧ a.md = b.md) (by cases a; cases b; simp)
set_option maxHeartbeats 1000000 in
theorem wo_equal (a b : Wo3) (w : World) : (Op.equal 25 (.agg #[.int .i64 a.hd, .int .i64 a.tl, .int .i64 a.md]) (.agg #[.int .i64 b.hd, .int .i64 b.tl, .int .i64 b.md])).run Try.prog w = .ok (decide (a = b)) w := by
  have hu := Try.underlying25
  have h3 := Try.underlying3
  have h4 := Try.underlying4
  have hp : Try.prog.stoodInHeld 25 = false := by kernel_rfl
  have hc : Try.prog.info? 3 = _ := rfl
  have hd : Try.prog.info? 4 = _ := rfl
  have e : decide (a = b) = (a.hd == b.hd && ((a.tl == b.tl && (a.md == b.md)))) := by
    rw [Bool.eq_iff_iff]; cases a; cases b; simp [and_assoc]
  rw [e]
  unfold Op.equal Op.maxDepth
  rw [run_equalIn_struct w 9999 _ _ _ (by unfold Program.fieldsOf; rw [hu]) hp]
  unfold Program.fieldsOf
  rw [hu]
  cases c0 : (a.hd == b.hd)
  · simp [Op.eqFields, part, isAgg, run_underlying h3, run_underlying h4, run_equalIn_int _ _ _ _ _ _ _ h3, run_equalIn_bool _ _ _ _ _ h4, c0]
  cases c1 : (a.tl == b.tl)
  · simp [Op.eqFields, part, isAgg, run_underlying h3, run_underlying h4, run_equalIn_int _ _ _ _ _ _ _ h3, run_equalIn_bool _ _ _ _ _ h4, c0, c1]
  cases c2 : (a.md == b.md)
  · simp [Op.eqFields, part, isAgg, run_underlying h3, run_underlying h4, run_equalIn_int _ _ _ _ _ _ _ h3, run_equalIn_bool _ _ _ _ _ h4, c0, c1, c2]
  simp [Op.eqFields, part, isAgg, run_underlying h3, run_underlying h4, run_equalIn_int _ _ _ _ _ _ _ h3, run_equalIn_bool _ _ _ _ _ h4, c0, c1, c2]
theorem wo_neq (a b : Wo3) (w : World) : (binOp .neq 25 (.agg #[.int .i64 a.hd, .int .i64 a.tl, .int .i64 a.md]) (.agg #[.int .i64 b.hd, .int .i64 b.tl, .int .i64 b.md])).run Try.prog w = .ok (.bool (!decide (a = b))) w := by
  have h := wo_equal a b w
  have hu := Try.underlying25
  simp [binOp, h, run_underlying hu, Result.andThen]
theorem wo_eql (a b : Wo3) (w : World) : (binOp .eql 25 (.agg #[.int .i64 a.hd, .int .i64 a.tl, .int .i64 a.md]) (.agg #[.int .i64 b.hd, .int .i64 b.tl, .int .i64 b.md])).run Try.prog w = .ok (.bool (decide (a = b))) w := by
  have h := wo_equal a b w
  have hu := Try.underlying25
  simp [binOp, h, run_underlying hu, Result.andThen]
end Go.Proofs.Ytkflpaicohbppaa

/- Contracts told by abstract values: the word, by the engine (in place of the walks of XWordC and XWordD). -/
namespace Go.Proofs.Ytkflpaicohbppaa
set_option linter.unusedVariables false
set_option linter.unusedSimpArgs false
open Go.RowKit
theorem two_is {f : Operand → Value} {x y : Operand} {a b : Value} (h : [x, y].map f = [a, b]) : f x = a ∧ f y = b := by simpa using h
theorem guard_agg {t : TypeId} (hg : Try.prog.eqGuardType Try.prog.depth t = false) (x y : Operand) (a b : Array Value) (W : World) : (eqGuard .neq t x y (.agg a) (.agg b)).run Try.prog W = .ok () W ∧ (eqGuard .eql t x y (.agg a) (.agg b)).run Try.prog W = .ok () W := by
  constructor <;> simp [eqGuard, hg]
theorem ask_bin {t : TypeId} {bo : BinOp} {a b : Array Value} {r : Value} (hg : ∀ x y W, (eqGuard bo t x y (.agg a) (.agg b)).run Try.prog W = .ok () W) (h : ∀ W, (binOp bo t (.agg a) (.agg b)).run Try.prog W = .ok r W) (x y : Operand) : AskP Try.prog (.binOp bo t x y t) [.agg a, .agg b] r := by
  intro W o f ho hm
  obtain ⟨h1, h2⟩ := two_is hm
  simp [execOp, ho, h1, h2, hg, h]
section
variable {h t m r : Int}
theorem ask_wn {a b c d e f : Int} {q : Bool} (hq : (!decide ((⟨a, b, c⟩ : Wo3) = ⟨d, e, f⟩)) = q) (x y : Operand) : AskP Try.prog (.binOp .neq 25 x y 25) [wdT a b c, wdT d e f] (.bool q) :=
  ask_bin (fun x y W => (guard_agg (by kernel_rfl) x y _ _ W).1) (fun W => by rw [← hq]; exact wo_neq ⟨a, b, c⟩ ⟨d, e, f⟩ W) x y
/-! ### The document's -/
end
end Go.Proofs.Ytkflpaicohbppaa

/- Contracts told by abstract values: what a step of the program calls, of lines, events, slots, words, threads. -/
namespace Go.Proofs.Ytkflpaicohbppaa
set_option linter.unusedVariables false
set_option linter.unusedSimpArgs false
open Go.RowKit
section
variable {O : Nat → Prop} {W W' : World}
theorem own_low (hl : Low O W) : ∀ g, W.heap.size ≤ g → ¬ O g := fun g hg hO => by have := hl g hO; omega
theorem rowI_own (hl : Low O W) {r : List Int} {p : Option Addr} {k : Nat} (h : Ow W' W.heap.size 3 1 intC r (.slice p r.length k)) : Rp nowhere O W' (rowI r) (.slice p r.length k) := rp_rowI.2 ⟨p, k, rfl, (Ow.loc intEnc h).mono (own_low hl)⟩
theorem rowS_own (hl : Low O W) {r : List Slo} {p : Option Addr} {k : Nat} (h : Ow W' W.heap.size 58 2 Slo.cells r (.slice p r.length k)) : Rp nowhere O W' (rowS r) (.slice p r.length k) := rp_rowS.2 ⟨p, k, rfl, (Ow.loc Slo.enc h).mono (own_low hl)⟩
theorem tup3 {ρ : PMap} {a b c x y z : Value} (h : Rp ρ O W a x) (k : Rp ρ O W b y) (l : Rp ρ O W c z) : Rp ρ O W (.tuple #[a, b, c]) (.tuple #[x, y, z]) := rp_tupL.2 ⟨_, rfl, _, _, rfl, h, _, _, rfl, k, _, _, rfl, l, rfl⟩
end
theorem ac_plnext (l : List Int) (hm : l.length ≤ 999999) : AC Try.prog 101 [rowI l] (.tuple #[.int .i64 (nxI l), rowI (nxL l), .bool (nxB l)]) := by
  intro O W vs hl hat ; obtain ⟨ys, rfl, _, _, rfl, h0, rfl⟩ := args_of hat
  obtain ⟨p, k, rfl, hs⟩ := rp_rowI.1 h0
  refine (lnext_own l p k W hs.s hm).mono ?_
  rintro e W' ⟨p', k', rfl, ho, hk⟩
  exact ⟨_, rfl, tup3 (rp_int.2 rfl) (rowI_own hl ho) (rp_bool.2 rfl), hk⟩
set_option maxRecDepth 100000 in
theorem ac_pekept (ep : Int) (l : List Int) (hm : l.length ≤ 1000000) : AC Try.prog 96 [evT ep l] (evT ep l) := by
  by_cases h : l = []
  · subst h
    exact ac_path mixed (ext := []) (fuel := 9) (n := 3) (orc := [.slice none 0 0]) (an (allK_I []) <| an (rfl : (0 : Nat) = 0) trivial) (by kernel_rfl)
  · exact ac_path mixed (ext := []) (fuel := 9) (n := 3) (orc := [rowI l]) (an (allK_I l) <| an (app_nil (f := (Value.int .i64 ·)) h hm) <| an (len_map (f := (Value.int .i64 ·)) l) trivial) (by kernel_rfl)
theorem ac_pside (k : Int) : AC Try.prog 43 [.int .i64 k] (.int .i64 (opSide k)) := by
  intro O W vs hl hat ; obtain ⟨ys, rfl, _, _, rfl, h0, rfl⟩ := args_of hat
  rw [rp_int] at h0
  subst h0
  refine (oside_any k W).mono ?_
  rintro e W' ⟨rfl, hk⟩
  exact ⟨_, rfl, rp_int.2 rfl, hk⟩
end Go.Proofs.Ytkflpaicohbppaa

/- The program's steps: what is known at the head of their loop. -/
namespace Go.Proofs.Ytkflpaicohbppaa
set_option linter.unusedVariables false
set_option linter.unusedSimpArgs false
open Go.RowKit
def pt (k : Nat) : Value := .pointer (some ⟨k, 0, some 0⟩)
/-- A state whose threads are a block k of the call's own. -/
def stO (s : St) (k N : Nat) : List Value := [.int .i64 s.cf.lg, .int .i64 s.cf.th, .int .i64 s.cf.po, .int .i64 s.cf.wt, .int .i64 s.cf.sp, .int .i64 s.cf.yi, .bool s.cf.si, .int .i64 s.hd, .int .i64 s.tl, .int .i64 s.md, rowS s.sl, rowI s.sn, rowI s.rc, .int .i64 s.fe, rowI s.fl, .int .i64 s.ee, rowI s.el, .int .i64 s.nw, .slice (some ⟨k, 0, some 0⟩) N 0, rowE s.lg]
def zSt : Value := .agg #[.int .i64 0, .int .i64 0, .int .i64 0, .int .i64 0, .int .i64 0, .int .i64 0, vD false, .int .i64 0, .int .i64 0, .int .i64 0, .slice none 0 0, .slice none 0 0, .slice none 0 0, .int .i64 0, .slice none 0 0, .int .i64 0, .slice none 0 0, .int .i64 0, .slice none 0 0, .slice none 0 0]
def bT (l : List Th) (N : Nat) : Option Blk := some ⟨true, true, 11, N, l.map thT⟩
def bX (s : St) (i : Int) (N : Nat) : Option Blk := some ⟨true, false, 21, 1, [.agg (stO s 1 N ++ [Value.int .i64 i]).toArray]⟩
def bZ : Option Blk := some ⟨true, false, 20, 1, [zSt]⟩
/-- One more round: thread n, at step c, sends. -/
structure Rn (s : St) (n : Nat) (t : Th) (c m o : Int) : Prop where
  lt : decide (o < min m 1000) = true
  ck : stB s = true
  ok : s.ok
  hn : n < s.th.length
  ht : gth s.th n = pcT t c
  rs : thRuns t.st = 0
  sd : opSide t.ki = 1
  fit : s.fit
  o1 : In64 (o + 1)
section
variable {s : St} {n : Nat} {t : Th} {c m o : Int}
theorem Rn.ge (_h : Rn s n t c m o) : decide ((n : Int) < 0) = false := by simp
theorem Rn.le (h : Rn s n t c m o) : decide ((s.th.length : Int) ≤ n) = false := by have := h.hn; simp; omega
theorem Rn.el (h : Rn s n t c m o) : ElP (s.th.map thT) (0 + (n : Int).toNat) (thT (pcT t c)) := h.ht ▸ elT h.hn
theorem Rn.ru (h : Rn s n t c m o) : AC Try.prog 41 [thT (pcT t c)] (.int .i64 0) := ac_pruns (t := pcT t c) h.rs
theorem Rn.si (h : Rn s n t c m o) : AC Try.prog 43 [.int .i64 (pcT t c).ki] (.int .i64 1) := by have := ac_pside (pcT t c).ki; exact h.sd ▸ this
theorem Rn.id (h : Rn s n t c m o) : 0 ≤ (n : Int) ∧ (n : Int).toNat < s.th.length := idT h.hn
theorem Rn.ln (_h : Rn s n t c m o) : LenP s.th.length s.th.length (s.th.map thT) := len_map s.th
theorem Rn.pa {B : Prop} (h : Rn s n t c m o) (k : B) : decide (o < min m 1000) = true ∧ LenP s.th.length s.th.length (s.th.map thT) ∧ AC Try.prog 13 [stT s] (.bool true) ∧ decide ((n : Int) < 0) = false ∧ decide ((s.th.length : Int) ≤ n) = false ∧ (0 ≤ (n : Int) ∧ (n : Int).toNat < s.th.length) ∧ ElP (s.th.map thT) (0 + (n : Int).toNat) (thT (pcT t c)) ∧ AC Try.prog 41 [thT (pcT t c)] (.int .i64 0) ∧ (0 ≤ (n : Int) ∧ (n : Int).toNat < s.th.length) ∧ ElP (s.th.map thT) (0 + (n : Int).toNat) (thT (pcT t c)) ∧ AC Try.prog 43 [.int .i64 (pcT t c).ki] (.int .i64 1) ∧ (0 ≤ (n : Int) ∧ (n : Int).toNat < s.th.length) ∧ ElP (s.th.map thT) (0 + (n : Int).toNat) (thT (pcT t c)) ∧ B := an h.lt <| an h.ln <| an (ac_pcheck h.ck h.ok) <| an h.ge <| an h.le <| an h.id <| an h.el <| an h.ru <| an h.id <| an h.el <| an h.si <| an h.id <| an h.el k
end
section
variable {s : St} {n : Nat} {t : Th} {m o : Int} {x : Exit} {S : Sg}
end
end Go.Proofs.Ytkflpaicohbppaa

/- The program's steps, round by round: what each does, told by plain states. -/
namespace Go.Proofs.Ytkflpaicohbppaa
set_option linter.unusedVariables false
set_option linter.unusedSimpArgs false
open Go.RowKit

theorem runs_not {t : Th} (h : thRuns t.st = 0) : t.st ≠ 0 ∧ t.st ≠ 2 := by
  unfold thRuns at h
  split at h
  · cases h
  · split at h
    · cases h
    · next h0 h2 => exact ⟨h0, h2⟩
theorem done_of {t : Th} {c : Int} (h : thRuns t.st = 0) : thDone (pcT t c) 0 (doneT t) := .inr (.inr ⟨(runs_not h).1, (runs_not h).2, rfl, rfl⟩)
theorem tell_c {s : St} {n : Nat} {t : Th} {c r : Int} (hA : hasB s n = true) (ht : gth s.th n = pcT t c) (hk : (t.ki != 9) = true) (ho : s.ok) (hf : s.fit) :
    AO Try.prog 71 [stT s, .int .i64 n, .int .i64 t.ki, .int .i64 r, .int .i64 0] (stL ((s.setTh n (rgT (pcT t c) r 0)).addLg (tlE s n t.ki r 0))) 18 11 := by
  have := ao_tell (k := t.ki) (r := r) (g := 0) hA hk ho hf
  rw [ht] at this
  exact this
section
variable {s : St} {n : Nat} {t : Th} {c m o : Int}
theorem Rn.has (h : Rn s n t c m o) : hasB s n = true := has_iff.2 ⟨h.ck, by omega, by have := h.hn; omega⟩
theorem Rn.nk (h : Rn s n t c m o) : (t.ki != 9) = true := by
  have := h.sd
  by_cases e : t.ki = 9
  · rw [e] at this; exact absurd this (by decide)
  · simp [e]
theorem Rn.tell {r : Int} (h : Rn s n t c m o) : AO Try.prog 71 [stT s, .int .i64 n, .int .i64 t.ki, .int .i64 r, .int .i64 0] (stL ((s.setTh n (rgT (pcT t c) r 0)).addLg (tlE s n t.ki r 0))) 18 11 := tell_c h.has h.ht h.nk h.ok h.fit
theorem Rn.len (h : Rn s n t c m o) : In64 (s.sl.length : Int) := by have := h.fit.sl; constructor <;> omega
variable {x : Exit} {S : Sg}
set_option maxRecDepth 100000
end
end Go.Proofs.Ytkflpaicohbppaa

/- A step of the program is the step of plain states. -/
namespace Go.Proofs.Ytkflpaicohbppaa
set_option linter.unusedVariables false
set_option linter.unusedSimpArgs false
open Go.RowKit
/-- What is true of a state that a step is done in. -/
structure Sp (s : St) (n : Nat) (m o : Int) : Prop where
  lt : decide (o < min m 1000) = true
  ck : stB s = true
  ok : s.ok
  hn : n < s.th.length
  st : (gth s.th n).st = 1
  sd : opSide (gth s.th n).ki = 1
  lg : s.lg.length ≤ 999999
  o1 : In64 (o + 1)
theorem fit_of {s : St} (h : stB s = true) (hl : s.lg.length ≤ 1000000) : s.fit := by
  obtain ⟨a, b, c, d, -, -⟩ := full_lines h
  have h1 := th_len h
  have h2 := ok_len (stn_iff.1 a).1
  have h3 := ok_len (stn_iff.1 b).1
  have h4 := ok_len (stn_iff.1 c).1
  have h5 := ok_len (stn_iff.1 d).1
  have h6 := (ok_iff.1 (word_ok h).2.1).1
  exact ⟨by omega, by omega, by omega, by omega, by omega, by omega, hl⟩
section
variable {s : St} {n : Nat} {m o : Int} {x : Exit} {S : Sg}
theorem told_is {s : St} (h : stB s = true) {n : Nat} (hn : n < s.th.length) {c r p : Int} (hk : (gth s.th n).ki ≠ 9) :
    toldS s n (gth s.th n).ki r 0 p = ((s.setTh n (rgT (pcT (gth s.th n) c) r 0)).addLg (tlE s n (gth s.th n).ki r 0)).setTh n (pcT (rgT (gth s.th n) r 0) p) := by
  unfold toldS
  rw [tell_th h hn]
  unfold St.onTh
  have e : gth (s.th.set n (tellT (gth s.th n) (gth s.th n).ki r 0)) n = tellT (gth s.th n) (gth s.th n).ki r 0 := by rw [gth_set hn, if_pos rfl]
  have e2 : tellT (gth s.th n) (gth s.th n).ki r 0 = rgT (gth s.th n) r 0 := by unfold tellT; rw [if_neg hk]; rfl
  show St.mk _ _ _ _ _ _ _ _ _ _ _ _ ((s.th.set n _).set n (pcT (gth (s.th.set n _) n) p)) _ = St.mk _ _ _ _ _ _ _ _ _ _ _ _ ((s.th.set n _).set n _) _
  rw [e, e2, List.set_set, List.set_set]
  rfl
theorem len_set {l : List Th} {n : Nat} {t u : Th} : (l.set n t).length = ((l.set n t).set n u).length := by simp
theorem len1 {l : List Th} {n : Nat} {t : Th} : l.length = (l.set n t).length := by simp
theorem Sp.ki (h : Sp s n m o) : (gth s.th n).ki ≠ 9 := fun e => by have := h.sd; rw [e] at this; exact absurd this (by decide)
theorem Sp.tb (h : Sp s n m o) : thB (gth s.th n) = true := gth_ok h.ck h.hn
theorem Sp.tr (h : Sp s n m o) : In64 ((gth s.th n).tr + 1) ∧ In64 (gth s.th n).re ∧ max (gth s.th n).tr 0 = (gth s.th n).tr := by
  have := h.tb
  generalize gth s.th n = t at this
  obtain ⟨st, ki, va, un, pc, re, se, tr, la, rs, go⟩ := t
  rw [thB_iff] at this
  simp only [In64]
  omega
theorem Sp.few (h : Sp s n m o) : s.sn.length ≤ 999999 ∧ s.fl.length ≤ 999999 ∧ s.el.length ≤ 999999 ∧ s.sl.length ≤ 1000 := by
  obtain ⟨a, b, c, d, -, -⟩ := full_lines h.ck
  have h2 := ok_len (stn_iff.1 a).1
  have h4 := ok_len (stn_iff.1 c).1
  have h5 := ok_len (stn_iff.1 d).1
  have h6 := (ok_iff.1 (word_ok h.ck).2.1).1
  omega
theorem bne_of {a b : Int} (h : a ≠ b) : (a == b) = false := by simp [h]
end
end Go.Proofs.Ytkflpaicohbppaa

/- Values stay those of an int, step by step; a log grows by one at most. -/
namespace Go.Proofs.Ytkflpaicohbppaa
set_option linter.unusedVariables false
set_option linter.unusedSimpArgs false
open Go.RowKit
/-- The values that a state's parts hold are those of an int. -/
structure Vk (s : St) : Prop where
  cf : s.cf.ok
  sl : ∀ x ∈ s.sl, In64 x.vl
  th : ∀ t ∈ s.th, In64 t.va ∧ In64 t.go
theorem Vk.of {s : St} (h : s.ok) : Vk s := ⟨h.cf, fun x hx => (h.sl.1 x hx).2, fun t ht => ⟨(h.th.1 t ht).2.2.1, (h.th.1 t ht).2.2.2.2.2.2.2.2.2⟩⟩
theorem ln_in {m : Int} {l : List Int} (h : stnB m l = true) : (∀ x ∈ l, In64 x) ∧ l.length ≤ maxLen := by
  have h1 := (stn_iff.1 h).1
  refine ⟨fun x hx => ?_, by have := ok_len h1; simp only [maxLen]; omega⟩
  have := (okl_iff.1 h1).1 x hx
  constructor <;> omega
theorem ok_of {s : St} (h : stB s = true) (hv : Vk s) (hl : s.lg.length ≤ 1000000) : s.ok := by
  obtain ⟨h1, h2, h3, h4, h5, h6, h7, h8⟩ := st_iff.1 h
  obtain ⟨a, b, c, d⟩ := lns_iff.1 h3
  have hw := check_iff.1 (word_ok h).1
  have hsl := ok_iff.1 (word_ok h).2.1
  have e4 := (okE_iff.1 h4).1
  have e5 := (okE_iff.1 h5).1
  have hth := th_len h
  refine ⟨hv.cf, by constructor <;> omega, by constructor <;> omega, by constructor <;> omega, by constructor <;> omega, by constructor <;> omega, by constructor <;> omega, ⟨fun x hx => ⟨?_, hv.sl x hx⟩, by simp only [maxLen]; omega⟩, ln_in a, ln_in b, ln_in c, ln_in d, ⟨fun t ht => ?_, by simp only [maxLen]; omega⟩, by simp only [maxLen]; omega⟩
  · obtain ⟨i, hi, rfl⟩ := List.getElem_of_mem hx
    have := slot_iff.1 (hsl.2 i hi)
    rw [gs_eq hi] at this
    constructor <;> omega
  · have hvt := hv.th t ht
    obtain ⟨i, hi, rfl⟩ := List.getElem_of_mem ht
    have := gth_ok h hi
    rw [gth_eq hi] at this
    generalize s.th[i] = t at this hvt
    obtain ⟨st, ki, va, un, pc, re, se, tr, la, rs, go⟩ := t
    rw [thB_iff] at this
    simp only [In64, Th.ok] at hvt ⊢
    omega
section
variable {s : St} {n : Nat}
theorem Vk.set (h : Vk s) {t : Th} (ht : In64 t.va ∧ In64 t.go) : Vk (s.setTh n t) := ⟨h.cf, h.sl, fun u hu => by
  rcases List.mem_or_eq_of_mem_set hu with h1 | rfl
  · exact h.th u h1
  · exact ht⟩
theorem gth_mem {l : List Th} {n : Nat} (hn : n < l.length) : gth l n ∈ l := by rw [gth_eq hn]; exact List.getElem_mem hn
theorem Vk.on (h : Vk s) (hn : n < s.th.length) {f : Th → Th} (hf : ∀ t, (f t).va = t.va ∧ (f t).go = t.go) : Vk (s.onTh n f) := h.set (by have := h.th _ (gth_mem hn); rw [(hf _).1, (hf _).2]; exact this)
theorem Vk.told (h : Vk s) (hB : stB s = true) (hn : n < s.th.length) {k r g p : Int} (hg : k = 9 ∨ In64 g) : Vk (toldS s n k r g p) := by
  unfold toldS
  have h1 : Vk (tellS s n k r g) := by
    rw [tell_th hB hn]
    have := h.th _ (gth_mem hn)
    refine ⟨h.cf, h.sl, (h.set (n := n) ?_).th⟩
    unfold tellT
    split
    · exact this
    · exact ⟨this.1, by rcases hg with h | h; contradiction; exact h⟩
  exact h1.on (by rw [tell_th hB hn]; show n < (s.th.set n _).length; rw [List.length_set]; exact hn) (fun _ => ⟨rfl, rfl⟩)
theorem Vk.wake (h : Vk s) (i : Int) : Vk (wakeS s i) := by
  unfold wakeS
  split
  · next hh =>
    refine h.on (by have := has_iff.1 hh; omega) fun t => ?_
    unfold wakeT
    split <;> exact ⟨rfl, rfl⟩
  · exact h
theorem told_lg (hB : stB s = true) (hn : n < s.th.length) {k r g p : Int} : (toldS s n k r g p).lg.length = s.lg.length + 1 := by
  unfold toldS
  rw [tell_th hB hn]
  show (s.lg ++ [_]).length = _
  simp
end
end Go.Proofs.Ytkflpaicohbppaa

/- The program's Steps: as many steps as there are, told by plain states. -/
namespace Go.Proofs.Ytkflpaicohbppaa
set_option linter.unusedVariables false
set_option linter.unusedSimpArgs false
open Go.RowKit
section
variable {s : St} {i m o : Int}
variable {n : Nat}
end
theorem neg_no (s : St) : hasB s (-1) = false := by simp [hasB]
end Go.Proofs.Ytkflpaicohbppaa

/- Contracts told by abstract values: the document's slots: Check, Ready, Read, by the engine (in place of walks of XSlotH). -/
namespace Go.Proofs.Ytkflpaicohbppaa
set_option linter.unusedVariables false
set_option linter.unusedSimpArgs false
open Go.RowKit
section
variable {l : List Slo}
end
end Go.Proofs.Ytkflpaicohbppaa
