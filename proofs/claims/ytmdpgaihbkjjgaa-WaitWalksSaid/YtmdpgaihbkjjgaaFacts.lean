/- A region that draws its order, each of whose operations hands back one value: by a fact on each value, whatever the order. -/
import Derived.Test.YtmdpgaihbkjjgaaInv
namespace Go.Proofs.Ytmdpgaihbkjjgaa
set_option linter.unusedVariables false
set_option linter.unusedSimpArgs false
open Go.RowKit
section
variable {P : Program} {Q : Exit → Act → World → Prop}

/-- K at the normal end, and no other end. -/
def Just (K : Act → World → Prop) : Exit → Act → World → Prop := Exit.then K (fun _ _ _ => False)
theorem wp_just {o : Oper} {a : Act} {w : World} {K K' : Act → World → Prop} (hh : o.wp P a w K (Just K')) : o.wp P a w K Q := by
  unfold Oper.wp at *
  generalize (execOp a.eval o).run P w = r at *
  cases r with
  | ok n w' =>
    cases n <;> simp only [Oper.upon] at hh ⊢ <;> try exact hh
    refine Calls.mono hh fun e w'' he => ?_
    cases e with
    | returned v => exact he
    | panicked c => exact (he : False).elim
    | outgrown => obtain ⟨_, _, h⟩ := he; exact (h : False).elim
  | halt x w' => cases x <;> simp only [Oper.upon] at hh ⊢ <;> first | exact hh | exact (hh : False).elim

/-- What is known while the region runs: what was there is kept; of each value of D (by number: in which temporary it stands) whose operation is done, a fact. -/
structure Facts (D : List Nat) (F : Nat → Value → World → Prop) (a : Act) (w : World) (done : Nat → Bool) (b : Act) (W : World) : Prop where
  kept : Below w.heap.size w W
  defers : b.defers = a.defers
  size : b.tmps.size = a.tmps.size
  rest : ∀ t, t ∉ D → b.tmps[t]? = a.tmps[t]?
  fact : ∀ i d, D[i]? = some d → done i = true → ∃ v, b.tmps[d]? = some v ∧ F i v W

theorem Facts.got {D : List Nat} {F : Nat → Value → World → Prop} {a b : Act} {w W : World} {done : Nat → Bool} (h : Facts D F a w done b W) (i : Nat) {d : Nat} (hi : D[i]? = some d) (hd : done i = true) : ∃ v, b.tmps.getD d undef = v ∧ F i v W := by
  obtain ⟨v, hv, hF⟩ := h.fact i d hi hd
  exact ⟨v, by simp [hv], hF⟩
theorem Facts.base {D : List Nat} {F : Nat → Value → World → Prop} {a b : Act} {w W : World} {done : Nat → Bool} (h : Facts D F a w done b W) (t : Nat) {v : Value} (ht : t ∉ D) (hv : a.tmps[t]? = some v) : b.tmps.getD t undef = v := by
  simp [h.rest t ht, hv]
theorem act_lit {b : Act} {n : Nat} {ds : List Deferred} (hz : b.tmps.size = n) (hd : b.defers = ds) : b = ⟨((List.range n).map fun i => b.tmps.getD i undef).toArray, ds⟩ := by
  obtain ⟨tm, df⟩ := b
  subst hz hd
  congr 1
  apply Array.ext
  · simp
  · intro i h1 h2
    simp [Array.getD, h1]
theorem wp_region_facts {id : Nat} {a : Act} {w : World} {l : List Oper} (D : List Nat) (F : Nat → Value → World → Prop) (hm : P.follows .mixedOrders = true) (ha : acyc l = true) (hD : l.map (·.dst) = D.map some) (hN : D.Nodup) (hsz : ∀ d ∈ D, d < a.tmps.size)
    (hg : l.all (fun o => o.guard.isNone) = true) (hmono : ∀ i v W W', F i v W → Below W.heap.size W W' → F i v W')
    (hstep : ∀ i o, l[i]? = some o → ∀ b W, Facts D F a w (fun j => o.after.toList.any fun e => Region.binds .any e && e.on == j) b W →
      wpList P l.toArray (Just (fun b' W' => ∃ v, b' = b.put o.dst v ∧ F i v W' ∧ Below W.heap.size W W')) [o] b W)
    (hend : ∀ b W, Facts D F a w (fun _ => true) b W → Q .normal b W) : (Code.region id l.toArray true).wp P Q a w := by
  have hlen : D.length = l.length := by have := congrArg List.length hD; simpa using this.symm
  have hdst : ∀ (i : Nat) o, l[i]? = some o → ∃ d, D[i]? = some d ∧ o.dst = some d := fun i o hi => by
    have h1 := congrArg (·[i]?) hD
    simp only [List.getElem?_map, hi, Option.map_some] at h1
    obtain ⟨d, hd, h2⟩ := Option.map_eq_some_iff.1 h1.symm
    exact ⟨d, hd, h2.symm⟩
  refine wp_region_inv (fun listed b W => Facts D F a w (fun i => decide (i < l.length) && listed.getD i false) b W) hm ha ?_ ?_ ?_
  · refine ⟨⟨rfl, rfl, rfl, Nat.le_refl _, fun _ _ => rfl⟩, rfl, rfl, fun _ _ => rfl, fun i d hi h => ?_⟩
    simp only [Bool.and_eq_true, decide_eq_true_eq] at h
    simp [Array.getD, h.1] at h
  · intro listed b W i o hs hI hi hn hw
    obtain ⟨d, hd, hod⟩ := hdst i o hi
    have hgo : o.guard = none := by
      have := List.all_eq_true.1 hg o (List.mem_of_getElem? hi)
      simpa using this
    have hil : i < l.length := (List.getElem?_eq_some_iff.1 hi).1
    have h1 := hstep i o hi b W ⟨hI.kept, hI.defers, hI.size, hI.rest, fun j dj hj hdone => by
      obtain ⟨e, he, h2⟩ := List.any_eq_true.1 hdone
      simp only [Bool.and_eq_true, beq_iff_eq] at h2
      have h3 := hw e (Array.mem_toList_iff.1 he) h2.1
      rw [h2.2] at h3
      have hjl : j < l.length := by rw [← hlen]; exact (List.getElem?_eq_some_iff.1 hj).1
      exact hI.fact j dj hj (by simp [h3, hjl])⟩
    have hi' : l.toArray[i]? = some o := by simpa using hi
    unfold wpOp
    simp only [hi', Region.wanted, hgo, if_true]
    left
    simp only [wpList, Region.wanted, hgo, if_true] at h1
    rcases h1 with h1 | ⟨_, _, _, h1⟩
    · refine Oper.wp_mono (fun b' W' hb => ?_) (wp_just h1)
      obtain ⟨v, rfl, hF, hB⟩ := (show ∃ v, b' = b.put o.dst v ∧ F i v W' ∧ Below W.heap.size W W' from hb)
      rw [hod]
      have hdm : d ∈ D := List.mem_of_getElem? hd
      have hdb : d < b.tmps.size := by rw [hI.size]; exact hsz d hdm
      refine ⟨hI.kept.trans (hB.mono hI.kept.size), hI.defers, by simpa [Act.put] using hI.size, fun t ht => ?_, fun j dj hj hdone => ?_⟩
      · have hne : t ≠ d := fun h => ht (h ▸ hdm)
        rw [← hI.rest t ht]
        simp [Act.put, Array.getElem?_setIfInBounds, Ne.symm hne]
      · by_cases hji : j = i
        · subst hji
          rw [hd] at hj; cases hj
          exact ⟨v, by simp [Act.put, hdb], hF⟩
        · have hne : dj ≠ d := fun h => hji (by
            subst h
            exact (List.getElem?_inj (List.getElem?_eq_some_iff.1 hj).1 hN).1 (hj.trans hd.symm))
          simp only [Bool.and_eq_true, decide_eq_true_eq] at hdone
          have h4 : listed.getD j false = true := by
            have := hdone.2
            by_cases hjz : j < listed.size
            · simpa [Array.getD, hjz, Array.getElem_setIfInBounds, Ne.symm hji] using this
            · simp [Array.getD, hjz] at this
          obtain ⟨u, hu, hFu⟩ := hI.fact j dj hj (by simp [h4, hdone.1])
          exact ⟨u, by simpa [Act.put, Array.getElem?_setIfInBounds, Ne.symm hne] using hu, hmono _ _ _ _ hFu hB⟩
    · exact (h1 : False).elim
  · intro b W hI
    refine hend b W ⟨hI.kept, hI.defers, hI.size, hI.rest, fun j dj hj _ => hI.fact j dj hj ?_⟩
    have hjl : j < l.length := by rw [← hlen]; exact (List.getElem?_eq_some_iff.1 hj).1
    simp [Array.getD, hjl]
end
end Go.Proofs.Ytmdpgaihbkjjgaa
