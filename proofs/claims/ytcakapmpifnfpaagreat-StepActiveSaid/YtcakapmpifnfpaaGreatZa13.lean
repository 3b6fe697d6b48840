/- Texts merged: AcSQ. -/
import Derived.Test.YtcakapmpifnfpaaGreatZa10
import Derived.Test.YtcakapmpifnfpaaGreatZa8
import Derived.Test.YtcakapmpifnfpaaGreatZa12
import Derived.Test.YtcakapmpifnfpaaGreatZa9
/- Contracts told by abstract values: in how many things two states differ. -/
namespace Go.Proofs.YtcakapmpifnfpaaGreat
set_option linter.unusedVariables false
set_option linter.unusedSimpArgs false
open Go.RowKit
def gI (l : List Int) (i : Nat) : Int := l.getD i 0
theorem gI_eq {l : List Int} {i : Nat} (h : i < l.length) : gI l i = l[i] := by simp [gI, h]
theorem ixI' {l : List Int} {i : Nat} (h : i < l.length) : IxP ((l.map (Value.int .i64 ·)).toArray) (i : Int) (.int .i64 (gI l i)) := ⟨by omega, by simp [gI_eq h, h]⟩
theorem ixS {l : List Slo} {i : Nat} (h : i < l.length) : IxP ((l.map slT).toArray) (i : Int) (slT (gs l i)) := ⟨by omega, by simp [gs_eq h, h]⟩
/-! ### Two lists of numbers -/
def hdI2 (a b : List Int) (i : Int) : Sg := ⟨mkT 26 [(0, rowI a), (1, rowI b), (5, .int .i64 i)], []⟩
def hdN2 : Sg := ⟨mkT 26 [(4, vD false)], []⟩
section
variable {a b : List Int}
set_option maxRecDepth 100000 in
theorem in_yes (hl : a.length = b.length) (hm : a.length ≤ 1000000) : ∀ (k i : Nat), a.length - i = k → i ≤ a.length → a.drop i = b.drop i → LoopP Tryz.prog (loopOf Tryz.prog 31 0) (hdI2 a b i) (.exit 0) (hdI2 a b a.length)
  | 0, i, hk, hi, _ => by
    have : i = a.length := by omega
    subst this
    exact loop_end mixed (fuel := 9) (n := 3) (im := []) (keep := [0, 1, 5]) (ext := []) (orc := [.bool false]) (an (show decide ((a.length : Int) < a.length) = false by simp) trivial) (by intro e; cases e) (by kernel_rfl)
  | k + 1, i, hk, hi, he => by
    have ha : i < a.length := by omega
    have hb : i < b.length := by omega
    rw [List.drop_eq_getElem_cons ha, List.drop_eq_getElem_cons hb] at he
    have h1 : gI a i = gI b i := by rw [gI_eq ha, gI_eq hb]; exact (List.cons.inj he).1
    have ih := in_yes hl hm k (i + 1) (by omega) (by omega) (List.cons.inj he).2
    rw [show ((i + 1 : Nat) : Int) = (i : Int) + 1 by omega] at ih
    exact loop_more mixed (fuel := 9) (n := 3) (im := []) (keep := [0, 1, 5]) (ext := []) (orc := [.bool true, .int .i64 (gI a i), .int .i64 (gI b i), .bool false])
      (an (show decide ((i : Int) < a.length) = true by simp; omega) <| an (ixI' ha) <| an (ixI' hb) <| an (show (gI a i != gI b i) = false by simp [h1]) <| an (show In64 ((i : Int) + 1) by constructor <;> omega) trivial) (by kernel_rfl) ih
set_option maxRecDepth 100000 in
theorem in_no (hl : a.length = b.length) (hm : a.length ≤ 1000000) : ∀ (k i : Nat), a.length - i = k → i ≤ a.length → a.drop i ≠ b.drop i → LoopP Tryz.prog (loopOf Tryz.prog 31 0) (hdI2 a b i) .ret hdN2
  | 0, i, hk, hi, he => absurd (by rw [List.drop_eq_nil_of_le (by omega), List.drop_eq_nil_of_le (by omega)]) he
  | k + 1, i, hk, hi, he => by
    have ha : i < a.length := by omega
    have hb : i < b.length := by omega
    by_cases h1 : gI a i = gI b i
    · have ih := in_no hl hm k (i + 1) (by omega) (by omega) (fun e => he (by rw [List.drop_eq_getElem_cons ha, List.drop_eq_getElem_cons hb, e, ← gI_eq ha, ← gI_eq hb, h1]))
      rw [show ((i + 1 : Nat) : Int) = (i : Int) + 1 by omega] at ih
      exact loop_more mixed (fuel := 9) (n := 3) (im := []) (keep := [0, 1, 5]) (ext := []) (orc := [.bool true, .int .i64 (gI a i), .int .i64 (gI b i), .bool false])
        (an (show decide ((i : Int) < a.length) = true by simp; omega) <| an (ixI' ha) <| an (ixI' hb) <| an (show (gI a i != gI b i) = false by simp [h1]) <| an (show In64 ((i : Int) + 1) by constructor <;> omega) trivial) (by kernel_rfl) ih
    · exact loop_end mixed (fuel := 9) (n := 3) (im := []) (keep := [4]) (ext := []) (orc := [.bool true, .int .i64 (gI a i), .int .i64 (gI b i), .bool true])
        (an (show decide ((i : Int) < a.length) = true by simp; omega) <| an (ixI' ha) <| an (ixI' hb) <| an (show (gI a i != gI b i) = true by simpa using h1) trivial) (by intro e; cases e) (by kernel_rfl)
set_option maxRecDepth 100000 in
theorem ac_ints {r : Bool} (hr : decide (a = b) = r) (hm : a.length ≤ 1000000) : AC Tryz.prog 31 [rowI a, rowI b] (.bool r) := by
  subst hr
  by_cases hl : a.length = b.length
  · by_cases h : a = b
    · rw [show decide (a = b) = true by simp [h]]
      exact ac_path mixed (ext := []) (fuel := 9) (n := 3) (orc := [.bool false, oL [] [0, 1, 5] 0 [(0, rowI a), (1, rowI b), (5, .int .i64 a.length)] []])
        (an (show ((a.length : Int) != b.length) = false by simp [hl]) <| an (in_yes hl hm a.length 0 rfl (by omega) (by simpa using h)) trivial) (by kernel_rfl)
    · rw [show decide (a = b) = false by simp [h]]
      exact ac_path mixed (ext := []) (fuel := 9) (n := 3) (orc := [.bool false, oL [] [0, 1, 5] (-1) [(4, vD false)] []])
        (an (show ((a.length : Int) != b.length) = false by simp [hl]) <| an (in_no hl hm a.length 0 rfl (by omega) (by simpa using h)) trivial) (by kernel_rfl)
  · rw [show decide (a = b) = false by simp; intro e; exact hl (by rw [e])]
    exact ac_path mixed (ext := []) (fuel := 9) (n := 3) (orc := [.bool true]) (an (show ((a.length : Int) != b.length) = true by simp; omega) trivial) (by kernel_rfl)
end
/-! ### Things -/
theorem ask_sl (s t : Slo) {r : Bool} (h : (!decide (s = t)) = r) (x y : Operand) : AskP Tryz.prog (.binOp .neq 64 x y 64) [slT s, slT t] (.bool r) :=
  ask_bin (fun x y W => (guard_agg (by kernel_rfl) x y _ _ W).1) (fun W => by rw [← h]; exact sl_neq s t W) x y
def hdTg (a b : St) (n i : Int) : Sg := ⟨mkT 96 [(2, pt 0), (3, pt 1), (5, .int .i64 n), (6, .int .i64 i)], [some ⟨true, false, 20, 1, [stT a]⟩, some ⟨true, false, 20, 1, [stT b]⟩]⟩
theorem diffL_drop {l m : List Slo} {i : Nat} (h1 : i < l.length) (h2 : i < m.length) : diffL (l.drop i) (m.drop i) = (if gs l i = gs m i then 0 else 1) + diffL (l.drop (i + 1)) (m.drop (i + 1)) := by
  rw [List.drop_eq_getElem_cons h1, List.drop_eq_getElem_cons h2, gs_eq h1, gs_eq h2]; rfl
set_option maxRecDepth 100000 in
theorem tg_lp {a b : St} (hl : a.sl.length = b.sl.length) (hm : a.sl.length ≤ 1000) : ∀ (k i n : Nat), a.sl.length - i = k → i ≤ a.sl.length → n ≤ 1000 + i → LoopP Tryz.prog (loopOf Tryz.prog 12 0) (hdTg a b n i) (.exit 0) (hdTg a b (n + diffL (a.sl.drop i) (b.sl.drop i) : Nat) a.sl.length)
  | 0, i, n, hk, hi, _ => by
    have : i = a.sl.length := by omega
    subst this
    rw [List.drop_length, show diffL [] (b.sl.drop a.sl.length) = 0 from by simp [diffL], Nat.add_zero]
    exact loop_end mixed (fuel := 9) (n := 3) (im := [0, 1]) (keep := [2, 3, 5, 6]) (ext := []) (orc := [.bool false]) (an (show decide ((a.sl.length : Int) < a.sl.length) = false by simp) trivial) (by intro e; cases e) (by kernel_rfl)
  | k + 1, i, n, hk, hi, hn => by
    have h1 : i < a.sl.length := by omega
    have h2 : i < b.sl.length := by omega
    rw [diffL_drop h1 h2]
    by_cases hs : gs a.sl i = gs b.sl i
    · have ih := tg_lp hl hm k (i + 1) n (by omega) (by omega) (by omega)
      rw [if_pos hs, Nat.zero_add]
      rw [show ((i + 1 : Nat) : Int) = (i : Int) + 1 by omega] at ih
      exact loop_more mixed (fuel := 9) (n := 3) (im := [0, 1]) (keep := [2, 3, 5, 6]) (ext := []) (orc := [.bool true, .bool true, slT (gs a.sl i), slT (gs b.sl i), .bool false, .bool false])
        (an (show decide ((i : Int) < a.sl.length) = true by simp; omega) <| an (show decide ((i : Int) < b.sl.length) = true by simp; omega) <| an (ixS h1) <| an (ixS h2) <| an (ask_sl (gs a.sl i) (gs b.sl i) (r := false) (by simp [hs]) (.tmp 32) (.tmp 37)) <| an (rfl : false = false) <| an (show In64 ((i : Int) + 1) by constructor <;> omega) trivial) (by kernel_rfl) ih
    · have ih := tg_lp hl hm k (i + 1) (n + 1) (by omega) (by omega) (by omega)
      rw [if_neg hs, ← Nat.add_assoc]
      rw [show ((i + 1 : Nat) : Int) = (i : Int) + 1 by omega, show ((n + 1 : Nat) : Int) = (n : Int) + 1 by omega] at ih
      exact loop_more mixed (fuel := 9) (n := 3) (im := [0, 1]) (keep := [2, 3, 5, 6]) (ext := []) (orc := [.bool true, .bool true, slT (gs a.sl i), slT (gs b.sl i), .bool true, .bool true])
        (an (show decide ((i : Int) < a.sl.length) = true by simp; omega) <| an (show decide ((i : Int) < b.sl.length) = true by simp; omega) <| an (ixS h1) <| an (ixS h2) <| an (ask_sl (gs a.sl i) (gs b.sl i) (r := true) (by simp [hs]) (.tmp 32) (.tmp 37)) <| an (rfl : true = true) <| an (show In64 ((n : Int) + 1) by constructor <;> omega) <| an (show In64 ((i : Int) + 1) by constructor <;> omega) trivial) (by kernel_rfl) ih
section
variable {a b : St} (hl : a.sl.length = b.sl.length) (hm : a.sl.length ≤ 1000) (hx : a.sn.length ≤ 1000000 ∧ a.rc.length ≤ 1000000 ∧ a.fl.length ≤ 1000000 ∧ a.el.length ≤ 1000000)
include hl hm hx
set_option maxRecDepth 100000 in
theorem tg_0 (hw : (!decide ((⟨a.hd, a.tl, a.md⟩ : Wo3) = ⟨b.hd, b.tl, b.md⟩)) = false) (hsn : decide (a.sn = b.sn) = true) (hrc : decide (a.rc = b.rc) = true) (hfe : (a.fe != b.fe) = false) (hfl : decide (a.fl = b.fl) = true) (hee : (a.ee != b.ee) = false) (hel : decide (a.el = b.el) = true) : AC Tryz.prog 12 [stT a, stT b] (.int .i64 (((0 + diffL a.sl b.sl : Nat) : Int))) :=
  ac_path mixed (ext := [31]) (fuel := 9) (n := 3) (orc := [.bool false, .nilFunc, oL [0, 1] [2, 3, 5, 6] 0 [(2, pt 0), (3, pt 1), (5, .int .i64 ((0 + diffL a.sl b.sl : Nat) : Int)), (6, .int .i64 a.sl.length)] (hdTg a b 0 0).H, vD true, vD true, .bool false, vD true, .bool false, vD true])
    (an (ask_wn (q := false) hw (.tmp 8) (.tmp 10)) <| an (tg_lp hl hm a.sl.length 0 0 rfl (by omega) (by omega)) <| an (ac_ints (r := true) hsn (by omega)) <| an (ac_ints (r := true) hrc (by omega)) <| an (show (a.fe != b.fe) = false from hfe) <| an (ac_ints (r := true) hfl (by omega)) <| an (show (a.ee != b.ee) = false from hee) <| an (ac_ints (r := true) hel (by omega)) trivial) (by kernel_rfl)
set_option maxRecDepth 100000 in
theorem tg_w (hw : (!decide ((⟨a.hd, a.tl, a.md⟩ : Wo3) = ⟨b.hd, b.tl, b.md⟩)) = true) (hsn : decide (a.sn = b.sn) = true) (hrc : decide (a.rc = b.rc) = true) (hfe : (a.fe != b.fe) = false) (hfl : decide (a.fl = b.fl) = true) (hee : (a.ee != b.ee) = false) (hel : decide (a.el = b.el) = true) : AC Tryz.prog 12 [stT a, stT b] (.int .i64 (((1 + diffL a.sl b.sl : Nat) : Int))) :=
  ac_path mixed (ext := [31]) (fuel := 9) (n := 3) (orc := [.bool true, .nilFunc, oL [0, 1] [2, 3, 5, 6] 0 [(2, pt 0), (3, pt 1), (5, .int .i64 ((1 + diffL a.sl b.sl : Nat) : Int)), (6, .int .i64 a.sl.length)] (hdTg a b 0 0).H, vD true, vD true, .bool false, vD true, .bool false, vD true])
    (an (ask_wn (q := true) hw (.tmp 8) (.tmp 10)) <| an (show In64 ((0 : Int) + 1) by decide) <| an (tg_lp hl hm a.sl.length 0 1 rfl (by omega) (by omega)) <| an (ac_ints (r := true) hsn (by omega)) <| an (ac_ints (r := true) hrc (by omega)) <| an (show (a.fe != b.fe) = false from hfe) <| an (ac_ints (r := true) hfl (by omega)) <| an (show (a.ee != b.ee) = false from hee) <| an (ac_ints (r := true) hel (by omega)) trivial) (by kernel_rfl)
set_option maxRecDepth 100000 in
theorem tg_sn (hd : diffL a.sl b.sl ≤ 1000) (hw : (!decide ((⟨a.hd, a.tl, a.md⟩ : Wo3) = ⟨b.hd, b.tl, b.md⟩)) = false) (hsn : decide (a.sn = b.sn) = false) (hrc : decide (a.rc = b.rc) = true) (hfe : (a.fe != b.fe) = false) (hfl : decide (a.fl = b.fl) = true) (hee : (a.ee != b.ee) = false) (hel : decide (a.el = b.el) = true) : AC Tryz.prog 12 [stT a, stT b] (.int .i64 (((0 + diffL a.sl b.sl : Nat) : Int) + 1)) :=
  ac_path mixed (ext := [31]) (fuel := 9) (n := 3) (orc := [.bool false, .nilFunc, oL [0, 1] [2, 3, 5, 6] 0 [(2, pt 0), (3, pt 1), (5, .int .i64 ((0 + diffL a.sl b.sl : Nat) : Int)), (6, .int .i64 a.sl.length)] (hdTg a b 0 0).H, vD false, vD true, .bool false, vD true, .bool false, vD true])
    (an (ask_wn (q := false) hw (.tmp 8) (.tmp 10)) <| an (tg_lp hl hm a.sl.length 0 0 rfl (by omega) (by omega)) <| an (ac_ints (r := false) hsn (by omega)) <| an (show In64 (((0 + diffL a.sl b.sl : Nat) : Int) + 1) by constructor <;> omega) <| an (ac_ints (r := true) hrc (by omega)) <| an (show (a.fe != b.fe) = false from hfe) <| an (ac_ints (r := true) hfl (by omega)) <| an (show (a.ee != b.ee) = false from hee) <| an (ac_ints (r := true) hel (by omega)) trivial) (by kernel_rfl)
set_option maxRecDepth 100000 in
theorem tg_rc (hd : diffL a.sl b.sl ≤ 1000) (hw : (!decide ((⟨a.hd, a.tl, a.md⟩ : Wo3) = ⟨b.hd, b.tl, b.md⟩)) = false) (hsn : decide (a.sn = b.sn) = true) (hrc : decide (a.rc = b.rc) = false) (hfe : (a.fe != b.fe) = false) (hfl : decide (a.fl = b.fl) = true) (hee : (a.ee != b.ee) = false) (hel : decide (a.el = b.el) = true) : AC Tryz.prog 12 [stT a, stT b] (.int .i64 (((0 + diffL a.sl b.sl : Nat) : Int) + 1)) :=
  ac_path mixed (ext := [31]) (fuel := 9) (n := 3) (orc := [.bool false, .nilFunc, oL [0, 1] [2, 3, 5, 6] 0 [(2, pt 0), (3, pt 1), (5, .int .i64 ((0 + diffL a.sl b.sl : Nat) : Int)), (6, .int .i64 a.sl.length)] (hdTg a b 0 0).H, vD true, vD false, .bool false, vD true, .bool false, vD true])
    (an (ask_wn (q := false) hw (.tmp 8) (.tmp 10)) <| an (tg_lp hl hm a.sl.length 0 0 rfl (by omega) (by omega)) <| an (ac_ints (r := true) hsn (by omega)) <| an (ac_ints (r := false) hrc (by omega)) <| an (show In64 (((0 + diffL a.sl b.sl : Nat) : Int) + 1) by constructor <;> omega) <| an (show (a.fe != b.fe) = false from hfe) <| an (ac_ints (r := true) hfl (by omega)) <| an (show (a.ee != b.ee) = false from hee) <| an (ac_ints (r := true) hel (by omega)) trivial) (by kernel_rfl)
set_option maxRecDepth 100000 in
theorem tg_fe (hd : diffL a.sl b.sl ≤ 1000) (hw : (!decide ((⟨a.hd, a.tl, a.md⟩ : Wo3) = ⟨b.hd, b.tl, b.md⟩)) = false) (hsn : decide (a.sn = b.sn) = true) (hrc : decide (a.rc = b.rc) = true) (hfe : (a.fe != b.fe) = true) (hee : (a.ee != b.ee) = false) (hel : decide (a.el = b.el) = true) : AC Tryz.prog 12 [stT a, stT b] (.int .i64 (((0 + diffL a.sl b.sl : Nat) : Int) + 1)) :=
  ac_path mixed (ext := [31]) (fuel := 9) (n := 3) (orc := [.bool false, .nilFunc, oL [0, 1] [2, 3, 5, 6] 0 [(2, pt 0), (3, pt 1), (5, .int .i64 ((0 + diffL a.sl b.sl : Nat) : Int)), (6, .int .i64 a.sl.length)] (hdTg a b 0 0).H, vD true, vD true, .bool true, .bool false, vD true])
    (an (ask_wn (q := false) hw (.tmp 8) (.tmp 10)) <| an (tg_lp hl hm a.sl.length 0 0 rfl (by omega) (by omega)) <| an (ac_ints (r := true) hsn (by omega)) <| an (ac_ints (r := true) hrc (by omega)) <| an (show (a.fe != b.fe) = true from hfe) <| an (show In64 (((0 + diffL a.sl b.sl : Nat) : Int) + 1) by constructor <;> omega) <| an (show (a.ee != b.ee) = false from hee) <| an (ac_ints (r := true) hel (by omega)) trivial) (by kernel_rfl)
set_option maxRecDepth 100000 in
theorem tg_fl (hd : diffL a.sl b.sl ≤ 1000) (hw : (!decide ((⟨a.hd, a.tl, a.md⟩ : Wo3) = ⟨b.hd, b.tl, b.md⟩)) = false) (hsn : decide (a.sn = b.sn) = true) (hrc : decide (a.rc = b.rc) = true) (hfe : (a.fe != b.fe) = false) (hfl : decide (a.fl = b.fl) = false) (hee : (a.ee != b.ee) = false) (hel : decide (a.el = b.el) = true) : AC Tryz.prog 12 [stT a, stT b] (.int .i64 (((0 + diffL a.sl b.sl : Nat) : Int) + 1)) :=
  ac_path mixed (ext := [31]) (fuel := 9) (n := 3) (orc := [.bool false, .nilFunc, oL [0, 1] [2, 3, 5, 6] 0 [(2, pt 0), (3, pt 1), (5, .int .i64 ((0 + diffL a.sl b.sl : Nat) : Int)), (6, .int .i64 a.sl.length)] (hdTg a b 0 0).H, vD true, vD true, .bool false, vD false, .bool false, vD true])
    (an (ask_wn (q := false) hw (.tmp 8) (.tmp 10)) <| an (tg_lp hl hm a.sl.length 0 0 rfl (by omega) (by omega)) <| an (ac_ints (r := true) hsn (by omega)) <| an (ac_ints (r := true) hrc (by omega)) <| an (show (a.fe != b.fe) = false from hfe) <| an (ac_ints (r := false) hfl (by omega)) <| an (show In64 (((0 + diffL a.sl b.sl : Nat) : Int) + 1) by constructor <;> omega) <| an (show (a.ee != b.ee) = false from hee) <| an (ac_ints (r := true) hel (by omega)) trivial) (by kernel_rfl)
set_option maxRecDepth 100000 in
theorem tg_ee (hd : diffL a.sl b.sl ≤ 1000) (hw : (!decide ((⟨a.hd, a.tl, a.md⟩ : Wo3) = ⟨b.hd, b.tl, b.md⟩)) = false) (hsn : decide (a.sn = b.sn) = true) (hrc : decide (a.rc = b.rc) = true) (hfe : (a.fe != b.fe) = false) (hfl : decide (a.fl = b.fl) = true) (hee : (a.ee != b.ee) = true) : AC Tryz.prog 12 [stT a, stT b] (.int .i64 (((0 + diffL a.sl b.sl : Nat) : Int) + 1)) :=
  ac_path mixed (ext := [31]) (fuel := 9) (n := 3) (orc := [.bool false, .nilFunc, oL [0, 1] [2, 3, 5, 6] 0 [(2, pt 0), (3, pt 1), (5, .int .i64 ((0 + diffL a.sl b.sl : Nat) : Int)), (6, .int .i64 a.sl.length)] (hdTg a b 0 0).H, vD true, vD true, .bool false, vD true, .bool true])
    (an (ask_wn (q := false) hw (.tmp 8) (.tmp 10)) <| an (tg_lp hl hm a.sl.length 0 0 rfl (by omega) (by omega)) <| an (ac_ints (r := true) hsn (by omega)) <| an (ac_ints (r := true) hrc (by omega)) <| an (show (a.fe != b.fe) = false from hfe) <| an (ac_ints (r := true) hfl (by omega)) <| an (show (a.ee != b.ee) = true from hee) <| an (show In64 (((0 + diffL a.sl b.sl : Nat) : Int) + 1) by constructor <;> omega) trivial) (by kernel_rfl)
set_option maxRecDepth 100000 in
theorem tg_el (hd : diffL a.sl b.sl ≤ 1000) (hw : (!decide ((⟨a.hd, a.tl, a.md⟩ : Wo3) = ⟨b.hd, b.tl, b.md⟩)) = false) (hsn : decide (a.sn = b.sn) = true) (hrc : decide (a.rc = b.rc) = true) (hfe : (a.fe != b.fe) = false) (hfl : decide (a.fl = b.fl) = true) (hee : (a.ee != b.ee) = false) (hel : decide (a.el = b.el) = false) : AC Tryz.prog 12 [stT a, stT b] (.int .i64 (((0 + diffL a.sl b.sl : Nat) : Int) + 1)) :=
  ac_path mixed (ext := [31]) (fuel := 9) (n := 3) (orc := [.bool false, .nilFunc, oL [0, 1] [2, 3, 5, 6] 0 [(2, pt 0), (3, pt 1), (5, .int .i64 ((0 + diffL a.sl b.sl : Nat) : Int)), (6, .int .i64 a.sl.length)] (hdTg a b 0 0).H, vD true, vD true, .bool false, vD true, .bool false, vD false])
    (an (ask_wn (q := false) hw (.tmp 8) (.tmp 10)) <| an (tg_lp hl hm a.sl.length 0 0 rfl (by omega) (by omega)) <| an (ac_ints (r := true) hsn (by omega)) <| an (ac_ints (r := true) hrc (by omega)) <| an (show (a.fe != b.fe) = false from hfe) <| an (ac_ints (r := true) hfl (by omega)) <| an (show (a.ee != b.ee) = false from hee) <| an (ac_ints (r := false) hel (by omega)) <| an (show In64 (((0 + diffL a.sl b.sl : Nat) : Int) + 1) by constructor <;> omega) trivial) (by kernel_rfl)
/-- Two states that differ in no more than one thing. -/
theorem ac_things (h : thingsN a b ≤ 1) : ∃ v : Int, v ≤ 1 ∧ AC Tryz.prog 12 [stT a, stT b] (.int .i64 v) := by
  unfold thingsN oneI at h
  have hd : diffL a.sl b.sl ≤ 1000 := by omega
  have cast : (((0 + diffL a.sl b.sl : Nat) : Int)) = (diffL a.sl b.sl : Int) := by omega
  by_cases cw : (a.hd, a.tl, a.md) = (b.hd, b.tl, b.md)
  · have hw : (!decide ((⟨a.hd, a.tl, a.md⟩ : Wo3) = ⟨b.hd, b.tl, b.md⟩)) = false := by simp only [Prod.mk.injEq] at cw; simp [cw.1, cw.2.1, cw.2.2]
    by_cases csn : a.sn = b.sn
    · by_cases crc : a.rc = b.rc
      · by_cases cfe : a.fe = b.fe
        · by_cases cfl : a.fl = b.fl
          · by_cases cee : a.ee = b.ee
            · by_cases cel : a.el = b.el
              · refine ⟨_, ?_, tg_0 hl hm hx hw (by simp [csn]) (by simp [crc]) (by simp [cfe]) (by simp [cfl]) (by simp [cee]) (by simp [cel])⟩
                simp only [cw, csn, crc, cfe, cfl, cee, cel, and_self, if_true] at h; omega
              · refine ⟨_, ?_, tg_el hl hm hx hd hw (by simp [csn]) (by simp [crc]) (by simp [cfe]) (by simp [cfl]) (by simp [cee]) (by simp [cel])⟩
                simp only [cw, csn, crc, cfe, cfl, cee, cel, and_self, and_false, if_true, if_false] at h; omega
            · refine ⟨_, ?_, tg_ee hl hm hx hd hw (by simp [csn]) (by simp [crc]) (by simp [cfe]) (by simp [cfl]) (by simp [cee])⟩
              simp only [cw, csn, crc, cfe, cfl, cee, and_self, false_and, if_true, if_false] at h; omega
          · refine ⟨_, ?_, tg_fl hl hm hx hd hw (by simp [csn]) (by simp [crc]) (by simp [cfe]) (by simp [cfl]) ?_ ?_⟩
            · simp only [cw, csn, crc, cfe, cfl, and_false, if_true, if_false] at h; omega
            · by_cases cee : a.ee = b.ee
              · simp [cee]
              · simp only [cw, csn, crc, cfe, cfl, cee, and_false, false_and, if_true, if_false] at h; omega
            · by_cases cel : a.el = b.el
              · simp [cel]
              · simp only [cw, csn, crc, cfe, cfl, cel, and_false, if_true, if_false] at h; omega
        · refine ⟨_, ?_, tg_fe hl hm hx hd hw (by simp [csn]) (by simp [crc]) (by simp [cfe]) ?_ ?_⟩
          · simp only [cw, csn, crc, cfe, false_and, if_true, if_false] at h; omega
          · by_cases cee : a.ee = b.ee
            · simp [cee]
            · simp only [cw, csn, crc, cfe, cee, false_and, if_true, if_false] at h; omega
          · by_cases cel : a.el = b.el
            · simp [cel]
            · simp only [cw, csn, crc, cfe, cel, and_false, false_and, if_true, if_false] at h; omega
      · by_cases c1 : a.fe = b.fe ∧ a.fl = b.fl
        · by_cases c2 : a.ee = b.ee ∧ a.el = b.el
          · refine ⟨_, ?_, tg_rc hl hm hx hd hw (by simp [csn]) (by simp [crc]) (by simp [c1.1]) (by simp [c1.2]) (by simp [c2.1]) (by simp [c2.2])⟩
            simp only [cw, csn, crc, c1, c2, and_self, if_true, if_false] at h; omega
          · simp only [cw, csn, crc, c1, c2, and_self, if_true, if_false] at h; omega
        · simp only [cw, csn, crc, c1, if_true, if_false] at h; omega
    · by_cases crc : a.rc = b.rc
      · by_cases c1 : a.fe = b.fe ∧ a.fl = b.fl
        · by_cases c2 : a.ee = b.ee ∧ a.el = b.el
          · refine ⟨_, ?_, tg_sn hl hm hx hd hw (by simp [csn]) (by simp [crc]) (by simp [c1.1]) (by simp [c1.2]) (by simp [c2.1]) (by simp [c2.2])⟩
            simp only [cw, csn, crc, c1, c2, and_self, if_true, if_false] at h; omega
          · simp only [cw, csn, crc, c1, c2, and_self, if_true, if_false] at h; omega
        · simp only [cw, csn, crc, c1, if_true, if_false] at h; omega
      · simp only [cw, csn, crc, if_true, if_false] at h; omega
  · have hw : (!decide ((⟨a.hd, a.tl, a.md⟩ : Wo3) = ⟨b.hd, b.tl, b.md⟩)) = true := by simp only [Prod.mk.injEq] at cw; simp; omega
    by_cases csn : a.sn = b.sn
    · by_cases crc : a.rc = b.rc
      · by_cases c1 : a.fe = b.fe ∧ a.fl = b.fl
        · by_cases c2 : a.ee = b.ee ∧ a.el = b.el
          · refine ⟨_, ?_, tg_w hl hm hx hw (by simp [csn]) (by simp [crc]) (by simp [c1.1]) (by simp [c1.2]) (by simp [c2.1]) (by simp [c2.2])⟩
            simp only [cw, csn, crc, c1, c2, and_self, if_true, if_false] at h; omega
          · simp only [cw, csn, crc, c1, c2, and_self, if_true, if_false] at h; omega
        · simp only [cw, csn, crc, c1, if_true, if_false] at h; omega
      · simp only [cw, csn, crc, if_true, if_false] at h; omega
    · simp only [cw, csn, if_true, if_false] at h; omega
end
end Go.Proofs.YtcakapmpifnfpaaGreat
