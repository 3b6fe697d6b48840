/- A region that draws its order, whatever its operations do: by an invariant over what has been done. -/
import Derived.Test.YthlgijmpkpmibaaBase
import Derived.Orders
namespace Go.Proofs.Ythlgijmpkpmibaa
set_option linter.unusedVariables false
set_option linter.unusedSimpArgs false
open Go.RowKit
section
variable {P : Program} {Q : Exit → Act → World → Prop}

/-- Each operation waits for earlier ones alone. -/
def acyc (l : List Oper) : Bool := l.zipIdx.all fun (o, i) => o.after.all fun e => !Region.binds .any e || decide (e.on < i)

def todo (listed : Array Bool) : Nat := listed.toList.count false

theorem todo_set {listed : Array Bool} {i : Nat} (h : listed.getD i true = false) : todo (listed.setIfInBounds i true) + 1 = todo listed := by
  have hi : i < listed.size := by
    rcases Nat.lt_or_ge i listed.size with h' | h'
    · exact h'
    · simp [Array.getD, Nat.not_lt.2 h'] at h
  have hv : listed[i] = false := by simpa [Array.getD, hi] using h
  unfold todo
  rw [Array.toList_setIfInBounds, List.count_set (by simpa using hi)]
  have h1 : listed.toList[i]'(by simpa using hi) = false := by simpa using hv
  have hpos : 0 < listed.toList.count false := List.count_pos_iff.2 (h1 ▸ List.getElem_mem _)
  rw [h1]
  simp only [beq_self_eq_true, if_true, show (true == false) = false from rfl, Bool.false_eq_true, if_false]
  omega

theorem all_done {listed : Array Bool} (h : ∀ i, i < listed.size → listed.getD i true = true) : listed = Array.replicate listed.size true := by
  apply Array.ext
  · simp
  · intro i h1 h2
    have := h i h1
    simpa [Array.getD, h1] using this

theorem ready_some {l : List Oper} (ha : acyc l = true) {listed : Array Bool} (hs : listed.size = l.length) : ∀ (n i : Nat), i ≤ n → listed.getD i true = false → Region.ready .any l.toArray listed ≠ []
  | n, i, hin, hi => by
    have hlt : i < listed.size := by
      rcases Nat.lt_or_ge i listed.size with h' | h'
      · exact h'
      · simp [Array.getD, Nat.not_lt.2 h'] at hi
    by_cases hex : ∃ j, j < i ∧ listed.getD j true = false
    · obtain ⟨j, hj, hjf⟩ := hex
      match n, hin with
      | 0, h => omega
      | n + 1, h => exact ready_some ha hs n j (by omega) hjf
    · have hmem : i ∈ Region.ready .any l.toArray listed := by
        refine mem_ready.2 ⟨hi, l[i]'(by omega), by simp [show i < l.length by omega], fun e he hb => ?_⟩
        have h1 := List.all_eq_true.1 ha (l[i]'(by omega), i) (List.mk_mem_zipIdx_iff_getElem?.2 (by simp [show i < l.length by omega]))
        have h2 := Array.all_eq_true_iff_forall_mem.1 h1 e he
        simp only [hb, Bool.not_true, Bool.false_or, decide_eq_true_eq] at h2
        have h3 : listed.getD e.on true = true := by
          cases h : listed.getD e.on true
          · exact absurd ⟨e.on, h2, h⟩ hex
          · rfl
        have : e.on < listed.size := by omega
        simpa [Array.getD, this] using h3
      exact List.ne_nil_of_mem hmem

theorem any_inv {l : List Oper} (ha : acyc l = true) (I : Array Bool → Act → World → Prop)
    (hstep : ∀ (listed : Array Bool) (a : Act) (w : World) (i : Nat) (o : Oper), listed.size = l.length → I listed a w → l[i]? = some o → listed.getD i true = false → (∀ e ∈ o.after, Region.binds .any e = true → listed.getD e.on false = true) →
      wpOp P l.toArray Q i (I (listed.setIfInBounds i true)) a w)
    (hend : ∀ a w, I (Array.replicate l.length true) a w → Q .normal a w) :
    ∀ (fuel : Nat) (listed : Array Bool) (a : Act) (w : World), listed.size = l.length → todo listed = fuel → I listed a w → wpAny P .any l.toArray Q fuel listed a w
  | 0, listed, a, w, hs, hc, hI => by
    have hall : ∀ i, i < listed.size → listed.getD i true = true := fun i hi => by
      cases h : listed.getD i true
      · have := todo_set h; omega
      · rfl
    refine ⟨?_, hend a w (by rw [← hs, ← all_done hall]; exact hI)⟩
    refine List.eq_nil_iff_forall_not_mem.2 fun i hi => ?_
    obtain ⟨h1, o, h2, _⟩ := mem_ready.1 hi
    have hlt : i < listed.size := by rw [hs]; simpa using (Array.getElem?_eq_some_iff.1 h2).1
    rw [hall i hlt] at h1; cases h1
  | fuel + 1, listed, a, w, hs, hc, hI => by
    refine ⟨fun h0 => ?_, fun i hi => ?_⟩
    · have hall : ∀ i, i < listed.size → listed.getD i true = true := fun i hi => by
        cases h : listed.getD i true
        · exact absurd h0 (ready_some ha hs i i (Nat.le_refl _) h)
        · rfl
      exact hend a w (by rw [← hs, ← all_done hall]; exact hI)
    · obtain ⟨h1, o, h2, h3⟩ := mem_ready.1 hi
      refine wpOp_mono (fun a' w' h' => any_inv ha I hstep hend fuel _ a' w' (by simpa using hs) (by have := todo_set h1; omega) h') (hstep listed a w i o hs hI (by simpa using h2) h1 h3)

/-- The region. -/
theorem wp_region_inv {id : Nat} {a : Act} {w : World} {l : List Oper} (I : Array Bool → Act → World → Prop) (hm : P.follows .mixedOrders = true) (ha : acyc l = true)
    (h0 : I (Array.replicate l.length false) a { w with drawn := w.drawn + 1 })
    (hstep : ∀ (listed : Array Bool) (a : Act) (w : World) (i : Nat) (o : Oper), listed.size = l.length → I listed a w → l[i]? = some o → listed.getD i true = false → (∀ e ∈ o.after, Region.binds .any e = true → listed.getD e.on false = true) →
      wpOp P l.toArray Q i (I (listed.setIfInBounds i true)) a w)
    (hend : ∀ a w, I (Array.replicate l.length true) a w → Q .normal a w) : (Code.region id l.toArray true).wp P Q a w := by
  refine wp_region_any hm ?_
  have : todo (Array.replicate l.length false) = l.length := by simp [todo]
  have h := any_inv ha I hstep hend l.length (Array.replicate l.length false) a { w with drawn := w.drawn + 1 } (by simp) this h0
  simpa using h

/-- An operation that hands back a value. -/
theorem wpOp_value {l : List Oper} {i : Nat} {o : Oper} {a : Act} {w w' : World} {K : Act → World → Prop} {v : Value} (hi : l[i]? = some o) (hg : o.guard = none) (hr : (execOp a.eval o).run P w = .ok (.value v) w') (h : K (a.put o.dst v) w') : wpOp P l.toArray Q i K a w := by
  have hi' : l.toArray[i]? = some o := by simpa using hi
  unfold wpOp
  simp only [hi', Region.wanted, hg, if_true]
  left
  unfold Oper.wp
  rw [hr]
  exact h
/-- One that hands back none. -/
theorem wpOp_skip {l : List Oper} {i : Nat} {o : Oper} {a : Act} {w w' : World} {K : Act → World → Prop} (hi : l[i]? = some o) (hg : o.guard = none) (hd : o.dst = none) (hr : (execOp a.eval o).run P w = .ok .skip w') (h : K a w') : wpOp P l.toArray Q i K a w := by
  have hi' : l.toArray[i]? = some o := by simpa using hi
  unfold wpOp
  simp only [hi', Region.wanted, hg, if_true]
  left
  unfold Oper.wp
  rw [hr]
  show K (a.put o.dst undef) w'
  rw [hd]
  exact h
end
end Go.Proofs.Ythlgijmpkpmibaa
