/- Just who is active may be picked, and a pick lets no other one begin, or end: true of every state and thread. -/
import Derived.Test.YtcakapmpifnfpaaGreatSp1QZa
namespace Go.Proofs.YtcakapmpifnfpaaGreat
set_option linter.unusedVariables false
set_option linter.unusedSimpArgs false
open Go.ChangeShapes Go.WideShapes Go.ChangeAt Go.RowKit
theorem ask_bn {a b : Bool} (h : a = b) (x y : Operand) : AskP Tryz.prog (.binOp .neq 4 x y 4) [.bool a, .bool b] (.bool false) := by
  intro W o f ho hm
  obtain ⟨h1, h2⟩ := two_is hm
  subst h
  have hu : Tryz.prog.underlying 4 = some .bool := by kernel_rfl
  have : (binOp .neq 4 (.bool a) (.bool a)).run Tryz.prog W = .ok (.bool false) W := by
    have h := run_equalIn_bool' (P := Tryz.prog) W 9999 4 a a hu
    have h' : (Op.equal 4 (.bool a) (.bool a)).run Tryz.prog W = .ok true W := by
      unfold Op.equal Op.maxDepth
      rw [h]; simp
    simp [binOp, h']
  simp [execOp, ho, h1, h2, eqGuard, this]
def bVs (s : St) : Option Blk := some ⟨true, false, 20, 1, [stT s]⟩
def isB (V : Value) (B : Bool) : Prop := V = vD B ∨ V = .bool B
def sa1T (id e : Int) (l : List Int) (V : Value) (j : Int) : List (Nat × Value) := [(1, .int .i64 id), (2, pt 0), (5, vD true), (6, pt 1), (7, .int .i64 e), (8, rowI l), (9, V), (10, .int .i64 j)]
def sa2T (id e : Int) (V : Value) (j : Int) : List (Nat × Value) := [(1, .int .i64 id), (2, pt 0), (5, vD true), (6, pt 1), (7, .int .i64 e), (9, V), (11, .int .i64 j)]
def sa1 (s a : St) (id e : Int) (l : List Int) (V : Value) (j : Int) : Sg := ⟨mkT 95 (sa1T id e l V j), [bVs s, bVs a]⟩
def sa2 (s a : St) (id e : Int) (V : Value) (j : Int) : Sg := ⟨mkT 95 (sa2T id e V j), [bVs s, bVs a]⟩
section
variable {s a : St} {id e x : Int} {l : List Int} {j : Int} {q : Bool} {V : Value} {S : Sg} {y : Exit}
section
variable (lt : decide (j < l.length) = true) (j1 : In64 (j + 1))
include lt j1
set_option maxRecDepth 100000 in
theorem sa1_t (hL : LoopP Tryz.prog (loopOf Tryz.prog 5 0) (sa1 s a id e l (vD true) (j + 1)) y S) : LoopP Tryz.prog (loopOf Tryz.prog 5 0) (sa1 s a id e l (vD true) j) y S := loop_more mixed (fuel := 9) (n := 6) (im := [0, 1]) (keep := [1, 2, 5, 6, 7, 8, 9, 10]) (ext := lwX) (orc := [.bool true]) (an lt <| an j1 trivial) (by kernel_rfl) hL
set_option maxRecDepth 100000 in
theorem sa1_bt (hq : q = true) (hL : LoopP Tryz.prog (loopOf Tryz.prog 5 0) (sa1 s a id e l (vD true) (j + 1)) y S) : LoopP Tryz.prog (loopOf Tryz.prog 5 0) (sa1 s a id e l (.bool q) j) y S := loop_more mixed (fuel := 9) (n := 6) (im := [0, 1]) (keep := [1, 2, 5, 6, 7, 8, 9, 10]) (ext := lwX) (orc := [.bool true, .bool true]) (an lt <| an hq <| an j1 trivial) (by kernel_rfl) hL
variable (ix : IxP ((l.map (Value.int .i64 ·)).toArray) j (.int .i64 x))
include ix
set_option maxRecDepth 100000 in
theorem sa1_f (hL : LoopP Tryz.prog (loopOf Tryz.prog 5 0) (sa1 s a id e l (.bool (x == id)) (j + 1)) y S) : LoopP Tryz.prog (loopOf Tryz.prog 5 0) (sa1 s a id e l (vD false) j) y S := loop_more mixed (fuel := 9) (n := 6) (im := [0, 1]) (keep := [1, 2, 5, 6, 7, 8, 9, 10]) (ext := lwX) (orc := [.bool true, .int .i64 x]) (an lt <| an ix <| an j1 trivial) (by kernel_rfl) hL
set_option maxRecDepth 100000 in
theorem sa1_bf (hq : q = false) (hL : LoopP Tryz.prog (loopOf Tryz.prog 5 0) (sa1 s a id e l (.bool (x == id)) (j + 1)) y S) : LoopP Tryz.prog (loopOf Tryz.prog 5 0) (sa1 s a id e l (.bool q) j) y S := loop_more mixed (fuel := 9) (n := 6) (im := [0, 1]) (keep := [1, 2, 5, 6, 7, 8, 9, 10]) (ext := lwX) (orc := [.bool true, .bool false, .int .i64 x]) (an lt <| an hq <| an ix <| an j1 trivial) (by kernel_rfl) hL
end
set_option maxRecDepth 100000 in
theorem sa1_ed (lt : decide (j < l.length) = false) : LoopP Tryz.prog (loopOf Tryz.prog 5 0) (sa1 s a id e l (vD q) j) (.exit 0) (sa1 s a id e l (vD q) j) := loop_end mixed (fuel := 9) (n := 6) (im := [0, 1]) (keep := [1, 2, 5, 6, 7, 8, 9, 10]) (ext := lwX) (orc := [.bool false]) (an lt trivial) (by intro e; cases e) (by kernel_rfl)
set_option maxRecDepth 100000 in
theorem sa1_eb (lt : decide (j < l.length) = false) : LoopP Tryz.prog (loopOf Tryz.prog 5 0) (sa1 s a id e l (.bool q) j) (.exit 0) (sa1 s a id e l (.bool q) j) := loop_end mixed (fuel := 9) (n := 6) (im := [0, 1]) (keep := [1, 2, 5, 6, 7, 8, 9, 10]) (ext := lwX) (orc := [.bool false]) (an lt trivial) (by intro e; cases e) (by kernel_rfl)
/-- Is it one of them? -/
theorem sa1_lp (hm : l.length ≤ 1000) : ∀ (k j : Nat) (V : Value) (B : Bool), l.length - j = k → j ≤ l.length → isB V B → ∃ V', isB V' (B || (l.drop j).any (· == id)) ∧ LoopP Tryz.prog (loopOf Tryz.prog 5 0) (sa1 s a id e l V j) (.exit 0) (sa1 s a id e l V' l.length)
  | 0, j, V, B, hk, hj, hV => by
    have : j = l.length := by omega
    subst this
    refine ⟨V, by rw [List.drop_length]; simpa using hV, ?_⟩
    have lt : decide ((l.length : Int) < l.length) = false := by simp
    rcases hV with rfl | rfl
    · exact sa1_ed lt
    · exact sa1_eb lt
  | k + 1, j, V, B, hk, hj, hV => by
    have hj' : j < l.length := by omega
    have lt : decide ((j : Int) < l.length) = true := by simp; omega
    have j1 : In64 ((j : Int) + 1) := by constructor <;> omega
    have ix := ixIl hj'
    rw [List.drop_eq_getElem_cons hj', List.any_cons]
    cases B
    · obtain ⟨V', hV', hL⟩ := sa1_lp hm k (j + 1) (.bool (l[j] == id)) (l[j] == id) (by omega) (by omega) (.inr rfl)
      refine ⟨V', by simpa using hV', ?_⟩
      rcases hV with rfl | rfl
      · exact sa1_f lt j1 ix hL
      · exact sa1_bf lt j1 ix rfl hL
    · obtain ⟨V', hV', hL⟩ := sa1_lp hm k (j + 1) (vD true) true (by omega) (by omega) (.inl rfl)
      refine ⟨V', by simpa using hV', ?_⟩
      rcases hV with rfl | rfl
      · exact sa1_t lt j1 hL
      · exact sa1_bt lt j1 rfl hL
end
set_option maxRecDepth 100000 in
theorem sa2_isd {s a : St} {id e : Int} {q : Bool} {S : Sg} {y : Exit} {n : Nat} (lt : decide ((n : Int) < s.th.length) = true) (lu : decide ((n : Int) < a.th.length) = true) (j1 : In64 ((n : Int) + 1)) (h : ((n : Int) != id) = false) (hL : LoopP Tryz.prog (loopOf Tryz.prog 5 1) (sa2 s a id e (vD q) (n + 1)) y S) : LoopP Tryz.prog (loopOf Tryz.prog 5 1) (sa2 s a id e (vD q) n) y S := loop_more mixed (fuel := 9) (n := 6) (im := [0, 1]) (keep := [1, 2, 5, 6, 7, 9, 11]) (ext := lwX) (orc := [.bool true, .bool true, .bool false]) (an lt <| an lu <| an h <| an j1 trivial) (by kernel_rfl) hL
set_option maxRecDepth 100000 in
theorem sa2_isb {s a : St} {id e : Int} {q : Bool} {S : Sg} {y : Exit} {n : Nat} (lt : decide ((n : Int) < s.th.length) = true) (lu : decide ((n : Int) < a.th.length) = true) (j1 : In64 ((n : Int) + 1)) (h : ((n : Int) != id) = false) (hL : LoopP Tryz.prog (loopOf Tryz.prog 5 1) (sa2 s a id e (.bool q) (n + 1)) y S) : LoopP Tryz.prog (loopOf Tryz.prog 5 1) (sa2 s a id e (.bool q) n) y S := loop_more mixed (fuel := 9) (n := 6) (im := [0, 1]) (keep := [1, 2, 5, 6, 7, 9, 11]) (ext := lwX) (orc := [.bool true, .bool true, .bool false]) (an lt <| an lu <| an h <| an j1 trivial) (by kernel_rfl) hL
set_option maxRecDepth 100000 in
theorem sa2_nod {s a : St} {id e : Int} {q : Bool} {S : Sg} {y : Exit} {n : Nat} (lt : decide ((n : Int) < s.th.length) = true) (lu : decide ((n : Int) < a.th.length) = true) (j1 : In64 ((n : Int) + 1)) (hn : n < s.th.length) (hu : n < a.th.length) (h : ((n : Int) != id) = true) (hz : ((gth s.th n).st == 0) = ((gth a.th n).st == 0)) (hL : LoopP Tryz.prog (loopOf Tryz.prog 5 1) (sa2 s a id e (vD q) (n + 1)) y S) : LoopP Tryz.prog (loopOf Tryz.prog 5 1) (sa2 s a id e (vD q) n) y S := loop_more mixed (fuel := 9) (n := 6) (im := [0, 1]) (keep := [1, 2, 5, 6, 7, 9, 11]) (ext := lwX) (orc := [.bool true, .bool true, .bool true, thT (gth s.th n), thT (gth a.th n), .bool false, .nilFunc]) (an lt <| an lu <| an h <| an (ixT hn) <| an (ixT hu) <| an (ask_bn hz (.tmp 69) (.tmp 76)) <| an j1 trivial) (by kernel_rfl) hL
set_option maxRecDepth 100000 in
theorem sa2_nob {s a : St} {id e : Int} {q : Bool} {S : Sg} {y : Exit} {n : Nat} (lt : decide ((n : Int) < s.th.length) = true) (lu : decide ((n : Int) < a.th.length) = true) (j1 : In64 ((n : Int) + 1)) (hn : n < s.th.length) (hu : n < a.th.length) (h : ((n : Int) != id) = true) (hz : ((gth s.th n).st == 0) = ((gth a.th n).st == 0)) (hL : LoopP Tryz.prog (loopOf Tryz.prog 5 1) (sa2 s a id e (.bool q) (n + 1)) y S) : LoopP Tryz.prog (loopOf Tryz.prog 5 1) (sa2 s a id e (.bool q) n) y S := loop_more mixed (fuel := 9) (n := 6) (im := [0, 1]) (keep := [1, 2, 5, 6, 7, 9, 11]) (ext := lwX) (orc := [.bool true, .bool true, .bool true, thT (gth s.th n), thT (gth a.th n), .bool false, .nilFunc]) (an lt <| an lu <| an h <| an (ixT hn) <| an (ixT hu) <| an (ask_bn hz (.tmp 69) (.tmp 76)) <| an j1 trivial) (by kernel_rfl) hL
set_option maxRecDepth 100000 in
theorem sa2_ed {s a : St} {id e j : Int} {q : Bool} (lt : decide (j < s.th.length) = false) : LoopP Tryz.prog (loopOf Tryz.prog 5 1) (sa2 s a id e (vD q) j) (.exit 2) (sa2 s a id e (vD q) j) := loop_end mixed (fuel := 9) (n := 6) (im := [0, 1]) (keep := [1, 2, 5, 6, 7, 9, 11]) (ext := lwX) (orc := [.bool false]) (an lt trivial) (by intro e; cases e) (by kernel_rfl)
set_option maxRecDepth 100000 in
theorem sa2_eb {s a : St} {id e j : Int} {q : Bool} (lt : decide (j < s.th.length) = false) : LoopP Tryz.prog (loopOf Tryz.prog 5 1) (sa2 s a id e (.bool q) j) (.exit 2) (sa2 s a id e (.bool q) j) := loop_end mixed (fuel := 9) (n := 6) (im := [0, 1]) (keep := [1, 2, 5, 6, 7, 9, 11]) (ext := lwX) (orc := [.bool false]) (an lt trivial) (by intro e; cases e) (by kernel_rfl)
theorem sa2_lp {s a : St} {id e : Int} {V : Value} {q : Bool} (hV : isB V q) (hm : s.th.length ≤ 1000) (hl : a.th.length = s.th.length) (hz : ∀ n : Nat, n < s.th.length → (n : Int) ≠ id → ((gth s.th n).st == 0) = ((gth a.th n).st == 0)) : ∀ (k n : Nat), s.th.length - n = k → n ≤ s.th.length → LoopP Tryz.prog (loopOf Tryz.prog 5 1) (sa2 s a id e V n) (.exit 2) (sa2 s a id e V s.th.length)
  | 0, n, hk, hn => by
    have : n = s.th.length := by omega
    subst this
    have lt : decide ((s.th.length : Int) < s.th.length) = false := by simp
    rcases hV with rfl | rfl
    · exact sa2_ed lt
    · exact sa2_eb lt
  | k + 1, n, hk, hn => by
    have ih := sa2_lp (e := e) hV hm hl hz k (n + 1) (by omega) (by omega)
    have hn' : n < s.th.length := by omega
    have lt : decide ((n : Int) < s.th.length) = true := by simp; omega
    have lu : decide ((n : Int) < a.th.length) = true := by simp; omega
    have j1 : In64 ((n : Int) + 1) := by constructor <;> omega
    by_cases h : (n : Int) = id
    · have h' : ((n : Int) != id) = false := by simp [h]
      rcases hV with rfl | rfl
      · exact sa2_isd lt lu j1 h' ih
      · exact sa2_isb lt lu j1 h' ih
    · have h' : ((n : Int) != id) = true := by simp [h]
      rcases hV with rfl | rfl
      · exact sa2_nod lt lu j1 hn' (by omega) h' (hz n hn' h) ih
      · exact sa2_nob lt lu j1 hn' (by omega) h' (hz n hn' h) ih
set_option maxRecDepth 100000 in
theorem sp3_d {s a : St} {id e : Int} {l : List Int} {q : Bool} (hF : fewB s = true) (hC : AC Tryz.prog 11 [stT s] (.bool true)) (hp : AC Tryz.prog 9 [stT s, .int .i64 id] (.tuple #[stT a, .int .i64 e])) (ha : AC Tryz.prog 14 [stT s] (rowI l)) (h1 : LoopP Tryz.prog (loopOf Tryz.prog 5 0) (sa1 s a id e l (vD false) 0) (.exit 0) (sa1 s a id e l (vD q) l.length)) (h2 : LoopP Tryz.prog (loopOf Tryz.prog 5 1) (sa2 s a id e (vD q) 0) (.exit 2) (sa2 s a id e (vD q) s.th.length)) (hq : q = (e == 0)) : AC Tryz.prog 5 [stT s, .int .i64 id] (.bool ((a.th.length : Int) == s.th.length)) := ac_path mixed (ext := lwX) (fuel := 9) (n := 6) (orc := [vD true, vD true, vD true, .tuple #[stT a, .int .i64 e], rowI l, oL [0, 1] [1, 2, 5, 6, 7, 8, 9, 10] 0 (sa1T id e l (vD q) l.length) [bVs s, bVs a], oL [2, 3] [1, 2, 5, 6, 7, 9, 11] 2 (sa2T id e (vD q) s.th.length) [bVs s, bVs a], .bool true, .nilFunc]) (an ac_awakeS <| an (hF ▸ ac_rfew s) <| an hC <| an hp <| an ha <| an h1 <| an h2 <| an (ask_bb hq (.tmp 81) (.tmp 83)) trivial) (by kernel_rfl)
set_option maxRecDepth 100000 in
theorem sp3_b {s a : St} {id e : Int} {l : List Int} {q : Bool} (hF : fewB s = true) (hC : AC Tryz.prog 11 [stT s] (.bool true)) (hp : AC Tryz.prog 9 [stT s, .int .i64 id] (.tuple #[stT a, .int .i64 e])) (ha : AC Tryz.prog 14 [stT s] (rowI l)) (h1 : LoopP Tryz.prog (loopOf Tryz.prog 5 0) (sa1 s a id e l (vD false) 0) (.exit 0) (sa1 s a id e l (Value.bool q) l.length)) (h2 : LoopP Tryz.prog (loopOf Tryz.prog 5 1) (sa2 s a id e (Value.bool q) 0) (.exit 2) (sa2 s a id e (Value.bool q) s.th.length)) (hq : q = (e == 0)) : AC Tryz.prog 5 [stT s, .int .i64 id] (.bool ((a.th.length : Int) == s.th.length)) := ac_path mixed (ext := lwX) (fuel := 9) (n := 6) (orc := [vD true, vD true, vD true, .tuple #[stT a, .int .i64 e], rowI l, oL [0, 1] [1, 2, 5, 6, 7, 8, 9, 10] 0 (sa1T id e l (Value.bool q) l.length) [bVs s, bVs a], oL [2, 3] [1, 2, 5, 6, 7, 9, 11] 2 (sa2T id e (Value.bool q) s.th.length) [bVs s, bVs a], .bool true, .nilFunc]) (an ac_awakeS <| an (hF ▸ ac_rfew s) <| an hC <| an hp <| an ha <| an h1 <| an h2 <| an (ask_bb hq (.tmp 81) (.tmp 83)) trivial) (by kernel_rfl)
theorem any_act (s : St) (id : Int) : (actL s).any (· == id) = (pickE s id == 0) := by
  rw [Bool.eq_iff_iff]
  simp only [List.any_eq_true, beq_iff_eq]
  constructor
  · rintro ⟨x, hx, rfl⟩; exact mem_act.1 hx
  · intro h; exact ⟨id, mem_act.2 h, rfl⟩
set_option maxRecDepth 100000 in
theorem ac_stepActive {s : St} {id : Int} (ho : s.ok) : AC Tryz.prog 5 [stT s, .int .i64 id] (.bool true) := by
  cases hF : fewB s
  · exact ac_path mixed (ext := lwX) (fuel := 9) (n := 6) (orc := [vD true, vD false]) (an ac_awakeS <| an (hF ▸ ac_rfew s) trivial) (by kernel_rfl)
  · cases hB : stB s
    · exact ac_path mixed (ext := lwX) (fuel := 9) (n := 6) (orc := [vD true, vD true, vD false]) (an ac_awakeS <| an (hF ▸ ac_rfew s) <| an (ac_pcheck hB ho) trivial) (by kernel_rfl)
    · obtain ⟨f1, f2, f3⟩ := few_is hF
      have hp := ac_pick (i := id) ho f2 (by omega)
      have hl := pick_len s id
      have hth := (th_len hB).2.2
      have hz : ∀ n : Nat, n < s.th.length → (n : Int) ≠ id → ((gth s.th n).st == 0) = ((gth (pickS s id).th n).st == 0) := fun n hn hne => by
        have := pick_idle s id hn hne
        rw [Bool.eq_iff_iff]
        simp only [beq_iff_eq]
        exact this.symm
      have hle : (actL s).length ≤ 1000 := by
        have e : actL s = actP s s.th.length := by unfold actL; rw [if_pos hB]; rfl
        have := actP_le s s.th.length
        rw [e]; omega
      obtain ⟨V, hV, h1⟩ := sa1_lp (s := s) (a := pickS s id) (id := id) (e := pickE s id) hle (actL s).length 0 (vD false) false rfl (by omega) (.inl rfl)
      rw [List.drop_zero, Bool.false_or, any_act] at hV
      have h2 := sa2_lp (e := pickE s id) hV (by omega) hl hz s.th.length 0 (by omega) (by omega)
      have fin : ((((pickS s id).th.length : Nat) : Int) == s.th.length) = true := by rw [hl]; simp
      rcases hV with rfl | rfl
      · have := sp3_d hF (ac_pcheck hB ho) hp (ac_active ho) h1 h2 rfl
        rwa [fin] at this
      · have := sp3_b hF (ac_pcheck hB ho) hp (ac_active ho) h1 h2 rfl
        rwa [fin] at this
theorem stepActive_walk (s : St) (sz : Pz) (hs : s.ok) (id : Int) (hid : In64 id) (w : World) (hss : StAt w s sz) :
    Calls Tryz.prog 5 #[.agg (s.cells sz).toArray, .int .i64 id] w fun e w' => e = .returned (.bool true) ∧ Kept w w' := by
  refine law_of (ac_stepActive (s := s) (id := id) hs) (cells_at.2 ?_)
  exact ⟨_, _, rfl, st_free hss, _, _, rfl, rp_int.2 rfl, rfl⟩
set_option maxRecDepth 100000 in
theorem stepActive_lifted (os : Os) (started : os.Started) (H : Type) (enc : TypeId × Value → H) :
    ReturnsInHanded {} Tryz.checked os 5 .any (Rows.stepActiveSpec.pre6 enc Tryz.prog Tryz.f5 Rows.stepActiveRow.domain false) (Rows.stepActiveSpec.post enc Tryz.prog Tryz.f5 false true false false) := by
  refine returnsInHanded_of_change (C := Tryz.checked) own started (by kernel_rfl) Tryz.func5
    (ChangeSpec.witness6 (enc := enc) (C := Tryz.checked) false ⟨#[], #[.agg St.zero.toArray, .int .i64 0], []⟩ 8 (by kernel_rfl) (by kernel_rfl) (by kernel_rfl) (by kernel_rfl)) ?_
  intro W base args ds gs before hval0 hW hcnd _
  have hval : ∀ (j : Nat) t v, Tryz.f5.params[j]? = some t → args[j]? = some v → Value.okWide Tryz.prog W .any base t v := hval0
  have hW' := hW
  obtain ⟨p, q, hA0, hV, rfl, hfz, hnd⟩ := hW
  have hA : DataW.TrodAll enc Tryz.prog W 0 (fun _ => true) true Tryz.f5.params.toList args.toList ds p := hA0
  rw [Tryz.params5] at hA hval
  obtain ⟨v0, vs0, d0, ds0, p0, q0, hargs, rfl, rfl, h0, r0⟩ := trodAll_cons hA
  obtain ⟨v1, vs1, d1, ds1, p1, q1, rfl, rfl, rfl, h1, r1⟩ := trodAll_cons r0
  obtain ⟨rfl, rfl, rfl⟩ := trodAll_nil r1
  obtain rfl : args = #[v0, v1] := by cases args; simp_all
  obtain ⟨rfl, rfl⟩ := trodVars_none hV
  obtain ⟨scs, rfl, srd⟩ := open_struct (g := 9) (l := St.shape) Tryz.underlying33 (by kernel_rfl) (hval 0 33 v0 rfl rfl) h0
  obtain ⟨s, sz, rfl, ssl, sok⟩ := St.of_read srd
  obtain ⟨id, rfl, rfl, rfl, wf1⟩ := open_int Tryz.underlying3 (hval 1 3 v1 rfl rfl) h1
  clear hA0 hval0
  refine (stepActive_walk s sz sok id (in64_of_wf wf1) W ssl).mono fun e W' ⟨he, hg⟩ => ?_
  subst he
  exact ⟨_, rfl, law_post laid hW' rfl (by kernel_rfl) rfl Tryz.underlying4 rfl hg⟩

/-- The statement, whole. -/
theorem stepActive_holds : Rows.StepActiveSaid :=
  OpenClaim.holds_of_wide 5 Tryz.f5 rfl rfl rfl rfl rfl rfl rfl ⟨rfl, rfl, rfl, rfl, rfl⟩ rfl rfl rfl rfl rfl (by kernel_rfl) Tryz.func5 (by kernel_rfl)
    (of_decide_eq_true (by kernel_rfl)) (by unfold Func.isWrapper; rw [if_neg (of_decide_eq_false (by kernel_rfl))]; exact ⟨rfl, rfl⟩)
    (fun os started H enc _ => stepActive_lifted os started H enc)
end Go.Proofs.YtcakapmpifnfpaaGreat
