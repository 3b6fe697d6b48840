/- Just those become late whose time is over, who were not; nobody who is late is parked, or waits; who was late stays so: true of every state and time. -/
import Derived.Test.YtfhjllchbgclaaaGreatZb14
namespace Go.Proofs.YtfhjllchbgclaaaGreat
set_option linter.unusedVariables false
set_option linter.unusedSimpArgs false
open Go.ChangeShapes Go.WideShapes Go.ChangeAt Go.RowKit
theorem ask_bn {a b : Bool} (h : a = b) (x y : Operand) : AskP Tryz.prog (.binOp .neq 4 x y 4) [.bool a, .bool b] (.bool false) := by
  intro W o f ho hm
  obtain ⟨h1, h2⟩ := two_is hm
  subst h
  have hu : Tryz.prog.underlying 4 = some .bool := by kernel_rfl
  have : (binOp .neq 4 (.bool a) (.bool a)).run Tryz.prog W = .ok (.bool false) W := by
    have h := run_equalIn_bool' (P := Tryz.prog) W 9999 4 a a hu
    have h' : (Op.equal 4 (.bool a) (.bool a)).run Tryz.prog W = .ok true W := by
      unfold Op.equal Op.maxDepth
      rw [h]; simp
    simp [binOp, h']
  simp [execOp, ho, h1, h2, eqGuard, this]
theorem nl {x b : Bool} (h : x = b) : (!x) = !b := by rw [h]
theorem nn {x b : Bool} (h : x = b) : (!!x) = b := by rw [h, Bool.not_not]
def ltT (l : List Int) (c i : Nat) : List (Nat × Value) := [(2, pt 0), (5, vD true), (6, pt 1), (7, rowI l), (9, .int .i64 c), (10, .int .i64 i)]
def hdLt (s a : St) (l : List Int) (c i : Nat) : Sg := ⟨mkT 133 (ltT l c i), [bS s, bS a]⟩
section
variable {s a : St} {l : List Int} {c i : Nat} {t u : Th} {S : Sg} (hi : decide ((i : Int) < s.th.length) = true) (ht : IxP (s.th.map thT).toArray (i : Int) (thT t)) (di : In64 ((i : Int) + 1))
include hi ht di
set_option maxRecDepth 100000 in
theorem lt_0 (hu : IxP (a.th.map thT).toArray (i : Int) (thT t)) (hla : t.la = true) (hk : (t.ki == 3) = true) (hs : (t.st != 0) = true) (hun : decide (t.un ≤ a.nw) = true) (ih : LoopP Tryz.prog (loopOf Tryz.prog 5 0) (hdLt s a l (c) (i + 1)) (.exit 0) S) : LoopP Tryz.prog (loopOf Tryz.prog 5 0) (hdLt s a l c i) (.exit 0) S :=
  loop_more mixed (fuel := 9) (n := 3) (im := [0, 1]) (keep := [2, 5, 6, 7, 9, 10]) (ext := []) (orc := [.bool true, thT t, thT t, .bool true, .bool false, .bool true, .bool true, .bool true, .bool false, .bool true, .bool false, .nilFunc, .bool false, .bool true, .bool false, .nilFunc])
    (an hi <| an ht <| an hu <| an hla <| an (nl hla) <| an hk <| an hs <| an hla <| an (nl hla) <| an hun <| an (ask_bn (a := !t.la) (b := !t.la) rfl (.tmp 100) (.tmp 106)) <| an (nl hla) <| an (nn hla) <| an (ask_th t (.tmp 121) (.tmp 122)) <| an di trivial) (by kernel_rfl) ih
set_option maxRecDepth 100000 in
theorem lt_1 (hu : IxP (a.th.map thT).toArray (i : Int) (thT t)) (hla : t.la = true) (hk : (t.ki == 3) = true) (hs : (t.st != 0) = true) (hun : decide (t.un ≤ a.nw) = false) (ih : LoopP Tryz.prog (loopOf Tryz.prog 5 0) (hdLt s a l (c) (i + 1)) (.exit 0) S) : LoopP Tryz.prog (loopOf Tryz.prog 5 0) (hdLt s a l c i) (.exit 0) S :=
  loop_more mixed (fuel := 9) (n := 3) (im := [0, 1]) (keep := [2, 5, 6, 7, 9, 10]) (ext := []) (orc := [.bool true, thT t, thT t, .bool true, .bool false, .bool true, .bool true, .bool true, .bool false, .bool false, .bool false, .nilFunc, .bool false, .bool true, .bool false, .nilFunc])
    (an hi <| an ht <| an hu <| an hla <| an (nl hla) <| an hk <| an hs <| an hla <| an (nl hla) <| an hun <| an (ask_bn (a := !t.la) (b := false) (nl hla) (.tmp 100) (.tmp 106)) <| an (nl hla) <| an (nn hla) <| an (ask_th t (.tmp 121) (.tmp 122)) <| an di trivial) (by kernel_rfl) ih
set_option maxRecDepth 100000 in
theorem lt_2 (hu : IxP (a.th.map thT).toArray (i : Int) (thT t)) (hla : t.la = true) (hk : (t.ki == 3) = true) (hs : (t.st != 0) = false) (ih : LoopP Tryz.prog (loopOf Tryz.prog 5 0) (hdLt s a l (c) (i + 1)) (.exit 0) S) : LoopP Tryz.prog (loopOf Tryz.prog 5 0) (hdLt s a l c i) (.exit 0) S :=
  loop_more mixed (fuel := 9) (n := 3) (im := [0, 1]) (keep := [2, 5, 6, 7, 9, 10]) (ext := []) (orc := [.bool true, thT t, thT t, .bool true, .bool false, .bool true, .bool false, .bool true, .bool false, .bool false, .nilFunc, .bool false, .bool true, .bool false, .nilFunc])
    (an hi <| an ht <| an hu <| an hla <| an (nl hla) <| an hk <| an hs <| an hla <| an (nl hla) <| an (ask_bn (a := !t.la) (b := false) (nl hla) (.tmp 100) (.tmp 106)) <| an (nl hla) <| an (nn hla) <| an (ask_th t (.tmp 121) (.tmp 122)) <| an di trivial) (by kernel_rfl) ih
set_option maxRecDepth 100000 in
theorem lt_3 (hu : IxP (a.th.map thT).toArray (i : Int) (thT t)) (hla : t.la = true) (hk : (t.ki == 3) = false) (hk6 : (t.ki == 6) = true) (hs : (t.st != 0) = true) (hun : decide (t.un ≤ a.nw) = true) (ih : LoopP Tryz.prog (loopOf Tryz.prog 5 0) (hdLt s a l (c) (i + 1)) (.exit 0) S) : LoopP Tryz.prog (loopOf Tryz.prog 5 0) (hdLt s a l c i) (.exit 0) S :=
  loop_more mixed (fuel := 9) (n := 3) (im := [0, 1]) (keep := [2, 5, 6, 7, 9, 10]) (ext := []) (orc := [.bool true, thT t, thT t, .bool true, .bool false, .bool false, .bool true, .bool true, .bool true, .bool false, .bool true, .bool false, .nilFunc, .bool false, .bool true, .bool false, .nilFunc])
    (an hi <| an ht <| an hu <| an hla <| an (nl hla) <| an hk <| an hk6 <| an hs <| an hla <| an (nl hla) <| an hun <| an (ask_bn (a := !t.la) (b := !t.la) rfl (.tmp 100) (.tmp 106)) <| an (nl hla) <| an (nn hla) <| an (ask_th t (.tmp 121) (.tmp 122)) <| an di trivial) (by kernel_rfl) ih
set_option maxRecDepth 100000 in
theorem lt_4 (hu : IxP (a.th.map thT).toArray (i : Int) (thT t)) (hla : t.la = true) (hk : (t.ki == 3) = false) (hk6 : (t.ki == 6) = true) (hs : (t.st != 0) = true) (hun : decide (t.un ≤ a.nw) = false) (ih : LoopP Tryz.prog (loopOf Tryz.prog 5 0) (hdLt s a l (c) (i + 1)) (.exit 0) S) : LoopP Tryz.prog (loopOf Tryz.prog 5 0) (hdLt s a l c i) (.exit 0) S :=
  loop_more mixed (fuel := 9) (n := 3) (im := [0, 1]) (keep := [2, 5, 6, 7, 9, 10]) (ext := []) (orc := [.bool true, thT t, thT t, .bool true, .bool false, .bool false, .bool true, .bool true, .bool true, .bool false, .bool false, .bool false, .nilFunc, .bool false, .bool true, .bool false, .nilFunc])
    (an hi <| an ht <| an hu <| an hla <| an (nl hla) <| an hk <| an hk6 <| an hs <| an hla <| an (nl hla) <| an hun <| an (ask_bn (a := !t.la) (b := false) (nl hla) (.tmp 100) (.tmp 106)) <| an (nl hla) <| an (nn hla) <| an (ask_th t (.tmp 121) (.tmp 122)) <| an di trivial) (by kernel_rfl) ih
set_option maxRecDepth 100000 in
theorem lt_5 (hu : IxP (a.th.map thT).toArray (i : Int) (thT t)) (hla : t.la = true) (hk : (t.ki == 3) = false) (hk6 : (t.ki == 6) = true) (hs : (t.st != 0) = false) (ih : LoopP Tryz.prog (loopOf Tryz.prog 5 0) (hdLt s a l (c) (i + 1)) (.exit 0) S) : LoopP Tryz.prog (loopOf Tryz.prog 5 0) (hdLt s a l c i) (.exit 0) S :=
  loop_more mixed (fuel := 9) (n := 3) (im := [0, 1]) (keep := [2, 5, 6, 7, 9, 10]) (ext := []) (orc := [.bool true, thT t, thT t, .bool true, .bool false, .bool false, .bool true, .bool false, .bool true, .bool false, .bool false, .nilFunc, .bool false, .bool true, .bool false, .nilFunc])
    (an hi <| an ht <| an hu <| an hla <| an (nl hla) <| an hk <| an hk6 <| an hs <| an hla <| an (nl hla) <| an (ask_bn (a := !t.la) (b := false) (nl hla) (.tmp 100) (.tmp 106)) <| an (nl hla) <| an (nn hla) <| an (ask_th t (.tmp 121) (.tmp 122)) <| an di trivial) (by kernel_rfl) ih
set_option maxRecDepth 100000 in
theorem lt_6 (hu : IxP (a.th.map thT).toArray (i : Int) (thT t)) (hla : t.la = true) (hk : (t.ki == 3) = false) (hk6 : (t.ki == 6) = false) (ih : LoopP Tryz.prog (loopOf Tryz.prog 5 0) (hdLt s a l (c) (i + 1)) (.exit 0) S) : LoopP Tryz.prog (loopOf Tryz.prog 5 0) (hdLt s a l c i) (.exit 0) S :=
  loop_more mixed (fuel := 9) (n := 3) (im := [0, 1]) (keep := [2, 5, 6, 7, 9, 10]) (ext := []) (orc := [.bool true, thT t, thT t, .bool true, .bool false, .bool false, .bool false, .bool true, .bool false, .bool false, .nilFunc, .bool false, .bool true, .bool false, .nilFunc])
    (an hi <| an ht <| an hu <| an hla <| an (nl hla) <| an hk <| an hk6 <| an hla <| an (nl hla) <| an (ask_bn (a := !t.la) (b := false) (nl hla) (.tmp 100) (.tmp 106)) <| an (nl hla) <| an (nn hla) <| an (ask_th t (.tmp 121) (.tmp 122)) <| an di trivial) (by kernel_rfl) ih
set_option maxRecDepth 100000 in
theorem lt_7 (hu : IxP (a.th.map thT).toArray (i : Int) (thT t)) (hla : t.la = false) (hk : (t.ki == 3) = true) (hs : (t.st != 0) = true) (hun : decide (t.un ≤ a.nw) = false) (ih : LoopP Tryz.prog (loopOf Tryz.prog 5 0) (hdLt s a l (c) (i + 1)) (.exit 0) S) : LoopP Tryz.prog (loopOf Tryz.prog 5 0) (hdLt s a l c i) (.exit 0) S :=
  loop_more mixed (fuel := 9) (n := 3) (im := [0, 1]) (keep := [2, 5, 6, 7, 9, 10]) (ext := []) (orc := [.bool true, thT t, thT t, .bool false, .bool true, .bool true, .bool false, .bool false, .bool false, .nilFunc, .bool false, .nilFunc])
    (an hi <| an ht <| an hu <| an hla <| an hk <| an hs <| an hla <| an hun <| an (ask_bn (a := false) (b := false) rfl (.tmp 100) (.tmp 106)) <| an (ask_th t (.tmp 121) (.tmp 122)) <| an di trivial) (by kernel_rfl) ih
set_option maxRecDepth 100000 in
theorem lt_8 (hu : IxP (a.th.map thT).toArray (i : Int) (thT t)) (hla : t.la = false) (hk : (t.ki == 3) = true) (hs : (t.st != 0) = false) (ih : LoopP Tryz.prog (loopOf Tryz.prog 5 0) (hdLt s a l (c) (i + 1)) (.exit 0) S) : LoopP Tryz.prog (loopOf Tryz.prog 5 0) (hdLt s a l c i) (.exit 0) S :=
  loop_more mixed (fuel := 9) (n := 3) (im := [0, 1]) (keep := [2, 5, 6, 7, 9, 10]) (ext := []) (orc := [.bool true, thT t, thT t, .bool false, .bool true, .bool false, .bool false, .bool false, .nilFunc, .bool false, .nilFunc])
    (an hi <| an ht <| an hu <| an hla <| an hk <| an hs <| an hla <| an (ask_bn (a := false) (b := false) rfl (.tmp 100) (.tmp 106)) <| an (ask_th t (.tmp 121) (.tmp 122)) <| an di trivial) (by kernel_rfl) ih
set_option maxRecDepth 100000 in
theorem lt_9 (hu : IxP (a.th.map thT).toArray (i : Int) (thT t)) (hla : t.la = false) (hk : (t.ki == 3) = false) (hk6 : (t.ki == 6) = true) (hs : (t.st != 0) = true) (hun : decide (t.un ≤ a.nw) = false) (ih : LoopP Tryz.prog (loopOf Tryz.prog 5 0) (hdLt s a l (c) (i + 1)) (.exit 0) S) : LoopP Tryz.prog (loopOf Tryz.prog 5 0) (hdLt s a l c i) (.exit 0) S :=
  loop_more mixed (fuel := 9) (n := 3) (im := [0, 1]) (keep := [2, 5, 6, 7, 9, 10]) (ext := []) (orc := [.bool true, thT t, thT t, .bool false, .bool false, .bool true, .bool true, .bool false, .bool false, .bool false, .nilFunc, .bool false, .nilFunc])
    (an hi <| an ht <| an hu <| an hla <| an hk <| an hk6 <| an hs <| an hla <| an hun <| an (ask_bn (a := false) (b := false) rfl (.tmp 100) (.tmp 106)) <| an (ask_th t (.tmp 121) (.tmp 122)) <| an di trivial) (by kernel_rfl) ih
set_option maxRecDepth 100000 in
theorem lt_10 (hu : IxP (a.th.map thT).toArray (i : Int) (thT t)) (hla : t.la = false) (hk : (t.ki == 3) = false) (hk6 : (t.ki == 6) = true) (hs : (t.st != 0) = false) (ih : LoopP Tryz.prog (loopOf Tryz.prog 5 0) (hdLt s a l (c) (i + 1)) (.exit 0) S) : LoopP Tryz.prog (loopOf Tryz.prog 5 0) (hdLt s a l c i) (.exit 0) S :=
  loop_more mixed (fuel := 9) (n := 3) (im := [0, 1]) (keep := [2, 5, 6, 7, 9, 10]) (ext := []) (orc := [.bool true, thT t, thT t, .bool false, .bool false, .bool true, .bool false, .bool false, .bool false, .nilFunc, .bool false, .nilFunc])
    (an hi <| an ht <| an hu <| an hla <| an hk <| an hk6 <| an hs <| an hla <| an (ask_bn (a := false) (b := false) rfl (.tmp 100) (.tmp 106)) <| an (ask_th t (.tmp 121) (.tmp 122)) <| an di trivial) (by kernel_rfl) ih
set_option maxRecDepth 100000 in
theorem lt_11 (hu : IxP (a.th.map thT).toArray (i : Int) (thT t)) (hla : t.la = false) (hk : (t.ki == 3) = false) (hk6 : (t.ki == 6) = false) (ih : LoopP Tryz.prog (loopOf Tryz.prog 5 0) (hdLt s a l (c) (i + 1)) (.exit 0) S) : LoopP Tryz.prog (loopOf Tryz.prog 5 0) (hdLt s a l c i) (.exit 0) S :=
  loop_more mixed (fuel := 9) (n := 3) (im := [0, 1]) (keep := [2, 5, 6, 7, 9, 10]) (ext := []) (orc := [.bool true, thT t, thT t, .bool false, .bool false, .bool false, .bool false, .bool false, .nilFunc, .bool false, .nilFunc])
    (an hi <| an ht <| an hu <| an hla <| an hk <| an hk6 <| an hla <| an (ask_bn (a := false) (b := false) rfl (.tmp 100) (.tmp 106)) <| an (ask_th t (.tmp 121) (.tmp 122)) <| an di trivial) (by kernel_rfl) ih
set_option maxRecDepth 100000 in
theorem lt_12 (hu : IxP (a.th.map thT).toArray (i : Int) (thT u)) (hla : t.la = false) (hul : u.la = true) (hus : (u.st != 1) = false) (dc : In64 ((c : Int) + 1)) (hk : (t.ki == 3) = true) (hs : (t.st != 0) = true) (hun : decide (t.un ≤ a.nw) = true) (ih : LoopP Tryz.prog (loopOf Tryz.prog 5 0) (hdLt s a l (c + 1) (i + 1)) (.exit 0) S) : LoopP Tryz.prog (loopOf Tryz.prog 5 0) (hdLt s a l c i) (.exit 0) S :=
  loop_more mixed (fuel := 9) (n := 3) (im := [0, 1]) (keep := [2, 5, 6, 7, 9, 10]) (ext := []) (orc := [.bool true, thT t, thT u, .bool true, .bool true, .bool true, .bool true, .bool false, .bool true, .bool false, .nilFunc, .bool true, .bool false, .bool false])
    (an hi <| an ht <| an hu <| an hul <| an (nl hla) <| an dc <| an hk <| an hs <| an hla <| an hun <| an (ask_bn (a := !t.la) (b := !t.la) rfl (.tmp 100) (.tmp 106)) <| an (nl hla) <| an hus <| an (nn hla) <| an di trivial) (by kernel_rfl) ih
set_option maxRecDepth 100000 in
theorem lt_13 (hu : IxP (a.th.map thT).toArray (i : Int) (thT u)) (hla : t.la = false) (hul : u.la = true) (hus : (u.st != 1) = false) (dc : In64 ((c : Int) + 1)) (hk : (t.ki == 3) = false) (hk6 : (t.ki == 6) = true) (hs : (t.st != 0) = true) (hun : decide (t.un ≤ a.nw) = true) (ih : LoopP Tryz.prog (loopOf Tryz.prog 5 0) (hdLt s a l (c + 1) (i + 1)) (.exit 0) S) : LoopP Tryz.prog (loopOf Tryz.prog 5 0) (hdLt s a l c i) (.exit 0) S :=
  loop_more mixed (fuel := 9) (n := 3) (im := [0, 1]) (keep := [2, 5, 6, 7, 9, 10]) (ext := []) (orc := [.bool true, thT t, thT u, .bool true, .bool true, .bool false, .bool true, .bool true, .bool false, .bool true, .bool false, .nilFunc, .bool true, .bool false, .bool false])
    (an hi <| an ht <| an hu <| an hul <| an (nl hla) <| an dc <| an hk <| an hk6 <| an hs <| an hla <| an hun <| an (ask_bn (a := !t.la) (b := !t.la) rfl (.tmp 100) (.tmp 106)) <| an (nl hla) <| an hus <| an (nn hla) <| an di trivial) (by kernel_rfl) ih
/-- Who became late. -/
theorem lt_yes (hu : IxP (a.th.map thT).toArray (i : Int) (thT u)) (hul : u.la = true) (hus : u.st = 1) (dc : In64 ((c : Int) + 1)) (hd : tdB t = true) (hun : t.un ≤ a.nw) (ih : LoopP Tryz.prog (loopOf Tryz.prog 5 0) (hdLt s a l (c + 1) (i + 1)) (.exit 0) S) : LoopP Tryz.prog (loopOf Tryz.prog 5 0) (hdLt s a l c i) (.exit 0) S := by
  obtain ⟨h1, h2, h3⟩ := td_is.1 hd
  have hs : (t.st != 0) = true := by simpa using h2
  have hq : (u.st != 1) = false := by simp [hus]
  have hn : decide (t.un ≤ a.nw) = true := by simpa using hun
  cases hk : t.ki == 3
  · exact lt_13 hi ht di hu h3 hul hq dc hk (by unfold opTimed at h1; rwa [hk, Bool.false_or] at h1) hs hn ih
  · exact lt_12 hi ht di hu h3 hul hq dc hk hs hn ih
/-- Who is as it was. -/
theorem lt_no (hu : IxP (a.th.map thT).toArray (i : Int) (thT t)) (hd : ¬(tdB t = true ∧ t.un ≤ a.nw)) (ih : LoopP Tryz.prog (loopOf Tryz.prog 5 0) (hdLt s a l c (i + 1)) (.exit 0) S) : LoopP Tryz.prog (loopOf Tryz.prog 5 0) (hdLt s a l c i) (.exit 0) S := by
  cases hla : t.la
  · cases hk : t.ki == 3
    · cases hk6 : t.ki == 6
      · exact lt_11 hi ht di hu hla hk hk6 ih
      · cases hs : t.st != 0
        · exact lt_10 hi ht di hu hla hk hk6 hs ih
        · cases hn : decide (t.un ≤ a.nw)
          · exact lt_9 hi ht di hu hla hk hk6 hs hn ih
          · exact absurd ⟨td_is.2 ⟨by unfold opTimed; rw [hk, hk6]; rfl, by simpa using hs, hla⟩, of_decide_eq_true hn⟩ hd
    · cases hs : t.st != 0
      · exact lt_8 hi ht di hu hla hk hs ih
      · cases hn : decide (t.un ≤ a.nw)
        · exact lt_7 hi ht di hu hla hk hs hn ih
        · exact absurd ⟨td_is.2 ⟨by unfold opTimed; rw [hk]; rfl, by simpa using hs, hla⟩, of_decide_eq_true hn⟩ hd
  · cases hk : t.ki == 3
    · cases hk6 : t.ki == 6
      · exact lt_6 hi ht di hu hla hk hk6 ih
      · cases hs : t.st != 0
        · exact lt_5 hi ht di hu hla hk hk6 hs ih
        · cases hn : decide (t.un ≤ a.nw)
          · exact lt_4 hi ht di hu hla hk hk6 hs hn ih
          · exact lt_3 hi ht di hu hla hk hk6 hs hn ih
    · cases hs : t.st != 0
      · exact lt_2 hi ht di hu hla hk hs ih
      · cases hn : decide (t.un ≤ a.nw)
        · exact lt_1 hi ht di hu hla hk hs hn ih
        · exact lt_0 hi ht di hu hla hk hs hn ih
end
set_option maxRecDepth 100000 in
theorem lt_lp {s : St} {n : Int} (he : tickE s n = 0) : ∀ (k i : Nat), s.th.length - i = k → i ≤ s.th.length → LoopP Tryz.prog (loopOf Tryz.prog 5 0) (hdLt s (tickS s n) (tickI s n) (cntT (tickI s n) i) i) (.exit 0) (hdLt s (tickS s n) (tickI s n) (cntT (tickI s n) s.th.length) s.th.length)
  | 0, i, hk, hi => by
    have : i = s.th.length := by omega
    subst this
    exact loop_end mixed (fuel := 9) (n := 3) (im := [0, 1]) (keep := [2, 5, 6, 7, 9, 10]) (ext := []) (orc := [.bool false]) (an (d_nlt s.th.length) trivial) (by intro e; cases e) (by kernel_rfl)
  | k + 1, i, hk, hi' => by
    have hi : i < s.th.length := by omega
    have hm := (th_len (tickE_ok he).1).2.2
    have ih := lt_lp he k (i + 1) (by omega) (by omega)
    have hnw : (tickS s n).nw = s.nw + n := (tick_rest he).2.2.2.2.2.2.2.1
    have hc : cntT (tickI s n) i ≤ i := by unfold cntT; exact Nat.le_trans (List.length_filter_le _ _) (by simp)
    have hu := ixT (l := (tickS s n).th) (n := i) (by rw [tick_len]; exact hi)
    rw [cntT_succ] at ih
    rcases tick_one he hi with ⟨hj, h1, h2, h3⟩ | ⟨hj, h1, h3⟩
    · rw [if_pos hj] at ih
      rw [h3] at hu
      exact lt_yes (d_lt hi) (ixT hi) (d_in hi (by omega)) hu rfl (lateT_st (gth_ok (tickE_ok he).1 hi) h1) (by constructor <;> omega) h1 (by rw [hnw]; exact h2) ih
    · rw [if_neg hj] at ih
      rw [h3] at hu
      exact lt_no (d_lt hi) (ixT hi) (d_in hi (by omega)) hu (by rw [hnw]; exact h1) ih
set_option maxRecDepth 100000 in
theorem tk3_e {s a : St} {n e : Int} {l : List Int} (hF : fewB s = true) (h1 : AC Tryz.prog 11 [stT s, .int .i64 n] (.tuple #[stT a, rowI l, .int .i64 e])) (he : (e != 0) = true) : AC Tryz.prog 5 [stT s, .int .i64 n] (.bool true) := by
  have h := ac_path mixed (ext := lkX) (fuel := 9) (n := 6) (g := 5) (args := [stT s, .int .i64 n]) (r := .bool (e != 0)) (orc := [vD true, vD true, .tuple #[stT a, rowI l, .int .i64 e], .bool true]) (an ac_awakeK <| an (hF ▸ ac_rfew s) <| an h1 <| an he trivial) (by kernel_rfl)
  rwa [he] at h
set_option maxRecDepth 100000 in
theorem tk3_ok {s a : St} {n : Int} {l : List Int} {c : Nat} (hF : fewB s = true) (h1 : AC Tryz.prog 11 [stT s, .int .i64 n] (.tuple #[stT a, rowI l, .int .i64 0])) (h2 : ((a.th.length : Int) != s.th.length) = false) (hL : LoopP Tryz.prog (loopOf Tryz.prog 5 0) (hdLt s a l 0 0) (.exit 0) (hdLt s a l c s.th.length)) (hc : c = l.length) : AC Tryz.prog 5 [stT s, .int .i64 n] (.bool true) := by
  have h := ac_path mixed (ext := lkX) (fuel := 9) (n := 6) (g := 5) (args := [stT s, .int .i64 n]) (r := .bool ((c : Int) == l.length)) (orc := [vD true, vD true, .tuple #[stT a, rowI l, .int .i64 0], .nilFunc, .bool false, oL [0, 1] [2, 5, 6, 7, 9, 10] 0 (ltT l c s.th.length) [bS s, bS a]]) (an ac_awakeK <| an (hF ▸ ac_rfew s) <| an h1 <| an h2 <| an hL trivial) (by kernel_rfl)
  rwa [show ((c : Int) == l.length) = true by rw [hc]; exact beq_self_eq_true _] at h
set_option maxRecDepth 100000 in
theorem ac_tickLate {s : St} {n : Int} (ho : s.ok) (hn : In64 n) : AC Tryz.prog 5 [stT s, .int .i64 n] (.bool true) := by
  cases hF : fewB s
  · exact ac_path mixed (ext := lkX) (fuel := 9) (n := 6) (orc := [vD true, vD false]) (an ac_awakeK <| an (hF ▸ ac_rfew s) trivial) (by kernel_rfl)
  · have h1 := ac_ptick (lk_few hF ho) hn
    by_cases he : tickE s n = 0
    · have hL := lt_lp he s.th.length 0 rfl (by omega)
      rw [he] at h1
      exact tk3_ok hF h1 (by rw [tick_len]; simp) hL (tick_many he)
    · exact tk3_e hF h1 (by simp [he])
theorem tickLate_walk (s : St) (sz : Pz) (hs : s.ok) (n : Int) (hn : In64 n) (w : World) (hss : StAt w s sz) :
    Calls Tryz.prog 5 #[.agg (s.cells sz).toArray, .int .i64 n] w fun e w' => e = .returned (.bool true) ∧ Kept w w' := by
  refine law_of (ac_tickLate (s := s) (n := n) hs hn) (cells_at.2 ?_)
  exact ⟨_, _, rfl, st_free hss, _, _, rfl, rp_int.2 rfl, rfl⟩
set_option maxRecDepth 100000 in
theorem tickLate_lifted (os : Os) (started : os.Started) (H : Type) (enc : TypeId × Value → H) :
    ReturnsInHanded {} Tryz.checked os 5 .any (Rows.tickLateSpec.pre6 enc Tryz.prog Tryz.f5 Rows.tickLateRow.domain false) (Rows.tickLateSpec.post enc Tryz.prog Tryz.f5 false true false false) := by
  refine returnsInHanded_of_change (C := Tryz.checked) own started (by kernel_rfl) Tryz.func5
    (ChangeSpec.witness6 (enc := enc) (C := Tryz.checked) false ⟨#[], #[.agg St.zero.toArray, .int .i64 0], []⟩ 8 (by kernel_rfl) (by kernel_rfl) (by kernel_rfl) (by kernel_rfl)) ?_
  intro W base args ds gs before hval0 hW hcnd _
  have hval : ∀ (j : Nat) t v, Tryz.f5.params[j]? = some t → args[j]? = some v → Value.okWide Tryz.prog W .any base t v := hval0
  have hW' := hW
  obtain ⟨p, q, hA0, hV, rfl, hfz, hnd⟩ := hW
  have hA : DataW.TrodAll enc Tryz.prog W 0 (fun _ => true) true Tryz.f5.params.toList args.toList ds p := hA0
  rw [Tryz.params5] at hA hval
  obtain ⟨v0, vs0, d0, ds0, p0, q0, hargs, rfl, rfl, h0, r0⟩ := trodAll_cons hA
  obtain ⟨v1, vs1, d1, ds1, p1, q1, rfl, rfl, rfl, h1, r1⟩ := trodAll_cons r0
  obtain ⟨rfl, rfl, rfl⟩ := trodAll_nil r1
  obtain rfl : args = #[v0, v1] := by cases args; simp_all
  obtain ⟨rfl, rfl⟩ := trodVars_none hV
  obtain ⟨scs, rfl, srd⟩ := open_struct (g := 9) (l := St.shape) Tryz.underlying33 (by kernel_rfl) (hval 0 33 v0 rfl rfl) h0
  obtain ⟨s, sz, rfl, ssl, sok⟩ := St.of_read srd
  obtain ⟨n, rfl, rfl, rfl, wf1⟩ := open_int Tryz.underlying3 (hval 1 3 v1 rfl rfl) h1
  clear hA0 hval0
  refine (tickLate_walk s sz sok n (in64_of_wf wf1) W ssl).mono fun e W' ⟨he, hg⟩ => ?_
  subst he
  exact ⟨_, rfl, law_post laid hW' rfl (by kernel_rfl) rfl Tryz.underlying4 rfl hg⟩

/-- The statement, whole. -/
theorem tickLate_holds : Rows.TickLateSaid :=
  OpenClaim.holds_of_wide 5 Tryz.f5 rfl rfl rfl rfl rfl rfl rfl ⟨rfl, rfl, rfl, rfl, rfl⟩ rfl rfl rfl rfl rfl (by kernel_rfl) Tryz.func5 (by kernel_rfl)
    (of_decide_eq_true (by kernel_rfl)) (by unfold Func.isWrapper; rw [if_neg (of_decide_eq_false (by kernel_rfl))]; exact ⟨rfl, rfl⟩)
    (fun os started H enc _ => tickLate_lifted os started H enc)
end Go.Proofs.YtfhjllchbgclaaaGreat
