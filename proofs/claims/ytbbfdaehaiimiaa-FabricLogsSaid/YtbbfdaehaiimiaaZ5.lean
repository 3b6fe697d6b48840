/- Texts merged: Facts, FabT, FabK, Own, ThE, ThI, ThG, ThM, FabL. -/
import Derived.Test.YtbbfdaehaiimiaaZ4
import Derived.Test.YtbbfdaehaiimiaaZ3
import Derived.BigRegion
import Derived.Deep.RegionLaw
/- A region that draws its order, each of whose operations hands back one value: by a fact on each value, whatever the order. -/
namespace Go.Proofs.Ytbbfdaehaiimiaa
set_option linter.unusedVariables false
set_option linter.unusedSimpArgs false
open Go.RowKit
section
variable {P : Program} {Q : Exit → Act → World → Prop}

/-- K at the normal end, and no other end. -/
def Just (K : Act → World → Prop) : Exit → Act → World → Prop := Exit.then K (fun _ _ _ => False)
theorem wp_just {o : Oper} {a : Act} {w : World} {K K' : Act → World → Prop} (hh : o.wp P a w K (Just K')) : o.wp P a w K Q := by
  unfold Oper.wp at *
  generalize (execOp a.eval o).run P w = r at *
  cases r with
  | ok n w' =>
    cases n <;> simp only [Oper.upon] at hh ⊢ <;> try exact hh
    refine Calls.mono hh fun e w'' he => ?_
    cases e with
    | returned v => exact he
    | panicked c => exact (he : False).elim
    | outgrown => obtain ⟨_, _, h⟩ := he; exact (h : False).elim
  | halt x w' => cases x <;> simp only [Oper.upon] at hh ⊢ <;> first | exact hh | exact (hh : False).elim

/-- What is known while the region runs: what was there is kept; of each value of D (by number: in which temporary it stands) whose operation is done, a fact. -/
structure Facts (D : List Nat) (F : Nat → Value → World → Prop) (a : Act) (w : World) (done : Nat → Bool) (b : Act) (W : World) : Prop where
  kept : Below w.heap.size w W
  defers : b.defers = a.defers
  size : b.tmps.size = a.tmps.size
  rest : ∀ t, t ∉ D → b.tmps[t]? = a.tmps[t]?
  fact : ∀ i d, D[i]? = some d → done i = true → ∃ v, b.tmps[d]? = some v ∧ F i v W

theorem Facts.got {D : List Nat} {F : Nat → Value → World → Prop} {a b : Act} {w W : World} {done : Nat → Bool} (h : Facts D F a w done b W) (i : Nat) {d : Nat} (hi : D[i]? = some d) (hd : done i = true) : ∃ v, b.tmps.getD d undef = v ∧ F i v W := by
  obtain ⟨v, hv, hF⟩ := h.fact i d hi hd
  exact ⟨v, by simp [hv], hF⟩
theorem Facts.base {D : List Nat} {F : Nat → Value → World → Prop} {a b : Act} {w W : World} {done : Nat → Bool} (h : Facts D F a w done b W) (t : Nat) {v : Value} (ht : t ∉ D) (hv : a.tmps[t]? = some v) : b.tmps.getD t undef = v := by
  simp [h.rest t ht, hv]
theorem act_lit {b : Act} {n : Nat} {ds : List Deferred} (hz : b.tmps.size = n) (hd : b.defers = ds) : b = ⟨((List.range n).map fun i => b.tmps.getD i undef).toArray, ds⟩ := by
  obtain ⟨tm, df⟩ := b
  subst hz hd
  congr 1
  apply Array.ext
  · simp
  · intro i h1 h2
    simp [Array.getD, h1]
theorem wp_region_facts {id : Nat} {a : Act} {w : World} {l : List Oper} (D : List Nat) (F : Nat → Value → World → Prop) (hm : P.follows .mixedOrders = true) (ha : acyc l = true) (hD : l.map (·.dst) = D.map some) (hN : D.Nodup) (hsz : ∀ d ∈ D, d < a.tmps.size)
    (hg : l.all (fun o => o.guard.isNone) = true) (hmono : ∀ i v W W', F i v W → Below W.heap.size W W' → F i v W')
    (hstep : ∀ i o, l[i]? = some o → ∀ b W, Facts D F a w (fun j => o.after.toList.any fun e => Region.binds .any e && e.on == j) b W →
      wpList P l.toArray (Just (fun b' W' => ∃ v, b' = b.put o.dst v ∧ F i v W' ∧ Below W.heap.size W W')) [o] b W)
    (hend : ∀ b W, Facts D F a w (fun _ => true) b W → Q .normal b W) : (Code.region id l.toArray true).wp P Q a w := by
  have hlen : D.length = l.length := by have := congrArg List.length hD; simpa using this.symm
  have hdst : ∀ (i : Nat) o, l[i]? = some o → ∃ d, D[i]? = some d ∧ o.dst = some d := fun i o hi => by
    have h1 := congrArg (·[i]?) hD
    simp only [List.getElem?_map, hi, Option.map_some] at h1
    obtain ⟨d, hd, h2⟩ := Option.map_eq_some_iff.1 h1.symm
    exact ⟨d, hd, h2.symm⟩
  refine wp_region_inv (fun listed b W => Facts D F a w (fun i => decide (i < l.length) && listed.getD i false) b W) hm ha ?_ ?_ ?_
  · refine ⟨⟨rfl, rfl, rfl, Nat.le_refl _, fun _ _ => rfl⟩, rfl, rfl, fun _ _ => rfl, fun i d hi h => ?_⟩
    simp only [Bool.and_eq_true, decide_eq_true_eq] at h
    simp [Array.getD, h.1] at h
  · intro listed b W i o hs hI hi hn hw
    obtain ⟨d, hd, hod⟩ := hdst i o hi
    have hgo : o.guard = none := by
      have := List.all_eq_true.1 hg o (List.mem_of_getElem? hi)
      simpa using this
    have hil : i < l.length := (List.getElem?_eq_some_iff.1 hi).1
    have h1 := hstep i o hi b W ⟨hI.kept, hI.defers, hI.size, hI.rest, fun j dj hj hdone => by
      obtain ⟨e, he, h2⟩ := List.any_eq_true.1 hdone
      simp only [Bool.and_eq_true, beq_iff_eq] at h2
      have h3 := hw e (Array.mem_toList_iff.1 he) h2.1
      rw [h2.2] at h3
      have hjl : j < l.length := by rw [← hlen]; exact (List.getElem?_eq_some_iff.1 hj).1
      exact hI.fact j dj hj (by simp [h3, hjl])⟩
    have hi' : l.toArray[i]? = some o := by simpa using hi
    unfold wpOp
    simp only [hi', Region.wanted, hgo, if_true]
    left
    simp only [wpList, Region.wanted, hgo, if_true] at h1
    rcases h1 with h1 | ⟨_, _, _, h1⟩
    · refine Oper.wp_mono (fun b' W' hb => ?_) (wp_just h1)
      obtain ⟨v, rfl, hF, hB⟩ := (show ∃ v, b' = b.put o.dst v ∧ F i v W' ∧ Below W.heap.size W W' from hb)
      rw [hod]
      have hdm : d ∈ D := List.mem_of_getElem? hd
      have hdb : d < b.tmps.size := by rw [hI.size]; exact hsz d hdm
      refine ⟨hI.kept.trans (hB.mono hI.kept.size), hI.defers, by simpa [Act.put] using hI.size, fun t ht => ?_, fun j dj hj hdone => ?_⟩
      · have hne : t ≠ d := fun h => ht (h ▸ hdm)
        rw [← hI.rest t ht]
        simp [Act.put, Array.getElem?_setIfInBounds, Ne.symm hne]
      · by_cases hji : j = i
        · subst hji
          rw [hd] at hj; cases hj
          exact ⟨v, by simp [Act.put, hdb], hF⟩
        · have hne : dj ≠ d := fun h => hji (by
            subst h
            exact (List.getElem?_inj (List.getElem?_eq_some_iff.1 hj).1 hN).1 (hj.trans hd.symm))
          simp only [Bool.and_eq_true, decide_eq_true_eq] at hdone
          have h4 : listed.getD j false = true := by
            have := hdone.2
            by_cases hjz : j < listed.size
            · simpa [Array.getD, hjz, Array.getElem_setIfInBounds, Ne.symm hji] using this
            · simp [Array.getD, hjz] at this
          obtain ⟨u, hu, hFu⟩ := hI.fact j dj hj (by simp [h4, hdone.1])
          exact ⟨u, by simpa [Act.put, Array.getElem?_setIfInBounds, Ne.symm hne] using hu, hmono _ _ _ _ hFu hB⟩
    · exact (h1 : False).elim
  · intro b W hI
    refine hend b W ⟨hI.kept, hI.defers, hI.size, hI.rest, fun j dj hj _ => hI.fact j dj hj ?_⟩
    have hjl : j < l.length := by rw [← hlen]; exact (List.getElem?_eq_some_iff.1 hj).1
    simp [Array.getD, hjl]
end
end Go.Proofs.Ytbbfdaehaiimiaa

/- A region that draws its order: its head hands back values, a fact on each, whatever the order; its tail waits for all that stands ahead and is walked in the text's order. -/
namespace Go.Proofs.Ytbbfdaehaiimiaa
set_option linter.unusedVariables false
set_option linter.unusedSimpArgs false
open Go.RowKit
/-- Operation i waits for j, as it says itself. -/
def waitB (l : List Oper) (i j : Nat) : Bool := match l[i]? with | some o => o.after.any fun e => Region.binds .any e && e.on == j | none => false
theorem waitB_spec {l : List Oper} {i j : Nat} {o : Oper} (h : waitB l i j = true) (hi : l[i]? = some o) : ∃ e ∈ o.after, Region.binds .any e = true ∧ e.on = j := by
  simp only [waitB, hi] at h
  obtain ⟨k, hk, h3⟩ := Array.any_eq_true.1 h
  simp only [Bool.and_eq_true, beq_iff_eq] at h3
  exact ⟨_, Array.getElem_mem hk, h3.1, h3.2⟩
/-- The same, by as many between as f. -/
def waitN (l : List Oper) : Nat → Nat → Nat → Bool
  | 0, i, j => waitB l i j
  | f + 1, i, j => waitB l i j || (List.range l.length).any fun k => waitB l i k && waitN l f k j
/-- From number n on each operation waits for all ahead of it, by itself or by some between. -/
def tailB (l : List Oper) (n : Nat) : Bool := (List.range l.length).all fun i => decide (i < n) || (List.range i).all fun j => waitN l 9 i j
/-- What is done waited for what is done. -/
def Closed (l : List Oper) (listed : Array Bool) : Prop := ∀ (k : Nat) (o : Oper), l[k]? = some o → listed.getD k false = true → ∀ e ∈ o.after, Region.binds .any e = true → listed.getD e.on false = true
theorem Closed.set {l : List Oper} {listed : Array Bool} {i : Nat} {o : Oper} (h : Closed l listed) (hi : l[i]? = some o) (hw : ∀ e ∈ o.after, Region.binds .any e = true → listed.getD e.on false = true) : Closed l (listed.setIfInBounds i true) := by
  have hmono : ∀ j, listed.getD j false = true → (listed.setIfInBounds i true).getD j false = true := fun j hj => by
    by_cases hjz : j < listed.size
    · by_cases e : i = j
      · subst e; simp [Array.getD, hjz]
      · simpa [Array.getD, hjz, Array.getElem_setIfInBounds, e] using hj
    · simp [Array.getD, hjz] at hj
  intro k o' hk hl e he hb
  by_cases e1 : k = i
  · subst e1
    rw [hi] at hk; cases hk
    exact hmono _ (hw e he hb)
  · refine hmono _ (h k o' hk ?_ e he hb)
    by_cases hkz : k < listed.size
    · simpa [Array.getD, hkz, Array.getElem_setIfInBounds, Ne.symm e1] using hl
    · simp [Array.getD, hkz] at hl
theorem waitN_listed {l : List Oper} {j : Nat} {listed : Array Bool} (hc : Closed l listed) : ∀ (f i : Nat) (o : Oper), waitN l f i j = true → l[i]? = some o → (∀ e ∈ o.after, Region.binds .any e = true → listed.getD e.on false = true) → listed.getD j false = true
  | 0, i, o, h, hi, hw => by
    obtain ⟨e, he, hb, rfl⟩ := waitB_spec h hi
    exact hw e he hb
  | f + 1, i, o, h, hi, hw => by
    simp only [waitN, Bool.or_eq_true] at h
    rcases h with h | h
    · obtain ⟨e, he, hb, rfl⟩ := waitB_spec h hi
      exact hw e he hb
    · obtain ⟨k, hk, h3⟩ := List.any_eq_true.1 h
      simp only [Bool.and_eq_true] at h3
      obtain ⟨e, he, hb, rfl⟩ := waitB_spec h3.1 hi
      have hkl : e.on < l.length := List.mem_range.1 hk
      exact waitN_listed hc f _ _ h3.2 (List.getElem?_eq_getElem hkl) (hc _ _ (List.getElem?_eq_getElem hkl) (hw e he hb))
theorem tail_waits' {l : List Oper} {n i j : Nat} {o : Oper} {listed : Array Bool} (h : tailB l n = true) (hi : l[i]? = some o) (hn : n ≤ i) (hj : j < i) (hc : Closed l listed) (hw : ∀ e ∈ o.after, Region.binds .any e = true → listed.getD e.on false = true) : listed.getD j false = true := by
  have hil : i < l.length := (List.getElem?_eq_some_iff.1 hi).1
  have h1 := List.all_eq_true.1 h i (List.mem_range.2 hil)
  simp only [Bool.or_eq_true, decide_eq_true_eq] at h1
  rcases h1 with h1 | h1
  · omega
  · exact waitN_listed hc 9 i o (List.all_eq_true.1 h1 j (List.mem_range.2 hj)) hi hw
section
variable {P : Program} {Q : Exit → Act → World → Prop}
theorem wpOp_of_list {l : List Oper} {i : Nat} {o : Oper} {rest : List Oper} {a : Act} {w : World} (hi : l[i]? = some o) (h : wpList P l.toArray Q (o :: rest) a w) : wpOp P l.toArray Q i (wpList P l.toArray Q rest) a w := by
  have hi' : l.toArray[i]? = some o := by simpa using hi
  unfold wpOp
  simp only [hi']
  exact h
theorem wp_region_ft {id : Nat} {a : Act} {w : World} {l : List Oper} (n : Nat) (D : List Nat) (F : Nat → Value → World → Prop) (hm : P.follows .mixedOrders = true) (ha : acyc l = true) (htl : tailB l n = true) (hn : n ≤ l.length) (hD : (l.take n).map (·.dst) = D.map some) (hN : D.Nodup) (hsz : ∀ d ∈ D, d < a.tmps.size)
    (hg : (l.take n).all (fun o => o.guard.isNone) = true) (hmono : ∀ i v W W', F i v W → Below W.heap.size W W' → F i v W')
    (hstep : ∀ i o, (l.take n)[i]? = some o → ∀ b W, Facts D F a w (fun j => o.after.toList.any fun e => Region.binds .any e && e.on == j) b W →
      wpList P l.toArray (Just (fun b' W' => ∃ v, b' = b.put o.dst v ∧ F i v W' ∧ Below W.heap.size W W')) [o] b W)
    (hend : ∀ b W, Facts D F a w (fun _ => true) b W → wpList P l.toArray Q (l.drop n) b W) : (Code.region id l.toArray true).wp P Q a w := by
  have hln : (l.take n).length = n := by simp; omega
  have hlen : D.length = n := by have := congrArg List.length hD; rw [List.length_map, List.length_map, hln] at this; exact this.symm
  have htk : ∀ {i : Nat}, i < n → (l.take n)[i]? = l[i]? := fun hi => List.getElem?_take_of_lt hi
  have hdst : ∀ (i : Nat) o, i < n → l[i]? = some o → ∃ d, D[i]? = some d ∧ o.dst = some d := fun i o hin hi => by
    have h1 := congrArg (·[i]?) hD
    simp only [List.getElem?_map, htk hin, hi, Option.map_some] at h1
    obtain ⟨d, hd, h2⟩ := Option.map_eq_some_iff.1 h1.symm
    exact ⟨d, hd, h2.symm⟩
  refine wp_region_inv (fun listed b W => Closed l listed ∧ (((∀ i, n ≤ i → i < l.length → listed.getD i false = false) ∧ Facts D F a w (fun i => decide (i < n) && listed.getD i false) b W) ∨
      ∃ m, n < m ∧ (∀ i, i < l.length → listed.getD i false = decide (i < m)) ∧ wpList P l.toArray Q (l.drop m) b W)) hm ha ?_ ?_ ?_
  · refine ⟨fun k o hk hl => by
      have : k < l.length := (List.getElem?_eq_some_iff.1 hk).1
      simp [Array.getD, this] at hl, .inl ⟨fun i _ hi => ?_, ⟨rfl, rfl, rfl, Nat.le_refl _, fun _ _ => rfl⟩, rfl, rfl, fun _ _ => rfl, fun i d hi h => ?_⟩⟩
    · simp [Array.getD, hi]
    · simp only [Bool.and_eq_true, decide_eq_true_eq] at h
      have : i < l.length := by omega
      simp [Array.getD, this] at h
  · intro listed b W i o hs hI hi hnl hw
    have hil : i < l.length := (List.getElem?_eq_some_iff.1 hi).1
    have hnl' : listed.getD i false = false := by
      have h1 : i < listed.size := by omega
      simpa [Array.getD, h1] using hnl
    obtain ⟨hC, hI⟩ := hI
    have hC' := hC.set hi hw
    rcases hI with ⟨hT, hF⟩ | ⟨m, hnm, hL, hwp⟩
    · by_cases hin : i < n
      · obtain ⟨d, hd, hod⟩ := hdst i o hin hi
        have hgo : o.guard = none := by
          have := List.all_eq_true.1 hg o (List.mem_of_getElem? ((htk hin).trans hi))
          simpa using this
        have h1 := hstep i o ((htk hin).trans hi) b W ⟨hF.kept, hF.defers, hF.size, hF.rest, fun j dj hj hdone => by
          obtain ⟨e, he, h2⟩ := List.any_eq_true.1 hdone
          simp only [Bool.and_eq_true, beq_iff_eq] at h2
          have h3 := hw e (Array.mem_toList_iff.1 he) h2.1
          rw [h2.2] at h3
          have hjl : j < n := by rw [← hlen]; exact (List.getElem?_eq_some_iff.1 hj).1
          exact hF.fact j dj hj (by simp [h3, hjl])⟩
        have hi' : l.toArray[i]? = some o := by simpa using hi
        unfold wpOp
        simp only [hi', Region.wanted, hgo, if_true]
        left
        simp only [wpList, Region.wanted, hgo, if_true] at h1
        rcases h1 with h1 | ⟨_, _, _, h1⟩
        · refine Oper.wp_mono (fun b' W' hb => ?_) (wp_just h1)
          obtain ⟨v, rfl, hFv, hB⟩ := (show ∃ v, b' = b.put o.dst v ∧ F i v W' ∧ Below W.heap.size W W' from hb)
          rw [hod]
          have hdm : d ∈ D := List.mem_of_getElem? hd
          have hdb : d < b.tmps.size := by rw [hF.size]; exact hsz d hdm
          refine ⟨hC', .inl ⟨fun j hj1 hj2 => ?_, hF.kept.trans (hB.mono hF.kept.size), hF.defers, by simpa [Act.put] using hF.size, fun t ht => ?_, fun j dj hj hdone => ?_⟩⟩
          · have hji : i ≠ j := by omega
            have h4 := hT j hj1 hj2
            have hjs : j < listed.size := by omega
            simpa [Array.getD, hjs, Array.getElem_setIfInBounds, hji] using h4
          · have hne : t ≠ d := fun h => ht (h ▸ hdm)
            rw [← hF.rest t ht]
            simp [Act.put, Array.getElem?_setIfInBounds, Ne.symm hne]
          · by_cases hji : j = i
            · subst hji
              rw [hd] at hj; cases hj
              exact ⟨v, by simp [Act.put, hdb], hFv⟩
            · have hne : dj ≠ d := fun h => hji (by
                subst h
                exact (List.getElem?_inj (List.getElem?_eq_some_iff.1 hj).1 hN).1 (hj.trans hd.symm))
              simp only [Bool.and_eq_true, decide_eq_true_eq] at hdone
              have h4 : listed.getD j false = true := by
                have := hdone.2
                by_cases hjz : j < listed.size
                · simpa [Array.getD, hjz, Array.getElem_setIfInBounds, Ne.symm hji] using this
                · simp [Array.getD, hjz] at this
              obtain ⟨u, hu, hFu⟩ := hF.fact j dj hj (by simp [h4, hdone.1])
              exact ⟨u, by simpa [Act.put, Array.getElem?_setIfInBounds, Ne.symm hne] using hu, hmono _ _ _ _ hFu hB⟩
        · exact (h1 : False).elim
      · have hall : ∀ j, j < i → listed.getD j false = true := fun j hj => tail_waits' htl hi (by omega) hj hC hw
        have hie : i = n := by
          rcases Nat.lt_or_ge n i with h | h
          · have h1 := hall n h
            rw [hT n (Nat.le_refl _) (by omega)] at h1
            cases h1
          · omega
        subst hie
        have h1 := hend b W ⟨hF.kept, hF.defers, hF.size, hF.rest, fun j dj hj _ => hF.fact j dj hj (by
          have hjl : j < i := by rw [← hlen]; exact (List.getElem?_eq_some_iff.1 hj).1
          simp [hjl, hall j hjl])⟩
        have hdr : l.drop i = o :: l.drop (i + 1) := by
          rw [List.drop_eq_getElem_cons hil]
          congr 1
          exact (List.getElem?_eq_some_iff.1 hi).2
        rw [hdr] at h1
        refine wpOp_mono (fun a' w' h' => ⟨hC', .inr ⟨i + 1, by omega, fun j hj => ?_, h'⟩⟩) (wpOp_of_list hi h1)
        have hjs : j < listed.size := by omega
        by_cases hji : j = i
        · subst hji; simp [Array.getD, hjs]
        · by_cases hlt : j < i
          · have h4 := hall j hlt
            have : j < i + 1 := by omega
            simpa [Array.getD, hjs, Array.getElem_setIfInBounds, Ne.symm hji, this] using h4
          · have h4 := hT j (by omega) hj
            have : ¬ j < i + 1 := by omega
            simpa [Array.getD, hjs, Array.getElem_setIfInBounds, Ne.symm hji, this] using h4
    · have hin : m ≤ i := by
        have := hL i hil
        rw [hnl'] at this
        simpa using this.symm
      have hie : i = m := by
        rcases Nat.lt_or_ge m i with h | h
        · have h1 := tail_waits' htl hi (by omega) h hC hw
          rw [hL m (by omega)] at h1
          simp at h1
        · omega
      subst hie
      have hdr : l.drop i = o :: l.drop (i + 1) := by
        rw [List.drop_eq_getElem_cons hil]
        congr 1
        exact (List.getElem?_eq_some_iff.1 hi).2
      rw [hdr] at hwp
      refine wpOp_mono (fun a' w' h' => ⟨hC', .inr ⟨i + 1, by omega, fun j hj => ?_, h'⟩⟩) (wpOp_of_list hi hwp)
      have hjs : j < listed.size := by omega
      have h4 := hL j hj
      by_cases hji : j = i
      · subst hji; simp [Array.getD, hjs]
      · have h5 : decide (j < i + 1) = decide (j < i) := by
          by_cases h : j < i <;> simp [h] <;> omega
        rw [h5]
        simpa [Array.getD, hjs, Array.getElem_setIfInBounds, Ne.symm hji] using h4
  · intro b W hI
    rcases hI.2 with ⟨hT, hF⟩ | ⟨m, hnm, hL, hwp⟩
    · have hnl : n = l.length := by
        rcases Nat.lt_or_ge n l.length with h | h
        · have := hT n (Nat.le_refl _) h
          simp [Array.getD, h] at this
        · omega
      have h1 := hend b W ⟨hF.kept, hF.defers, hF.size, hF.rest, fun j dj hj _ => hF.fact j dj hj (by
        have hjl : j < n := by rw [← hlen]; exact (List.getElem?_eq_some_iff.1 hj).1
        have hjl' : j < l.length := by omega
        simp [Array.getD, hjl, hjl'])⟩
      rw [hnl, List.drop_length] at h1
      exact h1
    · have hml : l.length ≤ m := by
        rcases Nat.lt_or_ge m l.length with h | h
        · have := hL m h
          simp [Array.getD, h] at this
        · exact h
      rw [List.drop_of_length_le hml] at hwp
      exact hwp
end
end Go.Proofs.Ytbbfdaehaiimiaa

/- Layer 13: a state copied. -/
namespace Go.Proofs.Ytbbfdaehaiimiaa
set_option linter.unusedVariables false
set_option linter.unusedSimpArgs false
open Go.ChangeShapes Go.WideShapes Go.ChangeAt Go.RowKit
/-- In which block a list lies. -/
def pbk (p : Option Addr) : Option Nat := p.map (·.block)
theorem own_pbk (p : Option Addr) (n k : Nat) : (Value.slice p n k).ownBlock = pbk p := by cases p <;> rfl
/-- Two lists that lie in no one block. -/
def NoSh (p q : Option Addr) : Prop := ∀ g, pbk p = some g → pbk q ≠ some g
theorem NoSh.of_lt {p q : Option Addr} {n : Nat} (hp : ∀ g, pbk p = some g → g < n) (hq : ∀ g, pbk q = some g → n ≤ g) : NoSh p q := fun g h1 h2 => by have := hp g h1; have := hq g h2; omega
theorem NoSh.symm {p q : Option Addr} (h : NoSh p q) : NoSh q p := fun g h1 h2 => h g h2 h1
theorem Ow.up {α : Type} {W : World} {base k n c : Nat} {e : TypeId} {enc : α → List Value} {xs : List α} {p : Option Addr} (h : Ow W base e k enc xs (.slice p n c)) : ∀ g, pbk p = some g → g < W.heap.size := fun g hg => (h.lt g (by rw [own_pbk]; exact hg)).2
theorem Ow.lo {α : Type} {W : World} {base k n c : Nat} {e : TypeId} {enc : α → List Value} {xs : List α} {p : Option Addr} (h : Ow W base e k enc xs (.slice p n c)) : ∀ g, pbk p = some g → base ≤ g := fun g hg => (h.lt g (by rw [own_pbk]; exact hg)).1
/-- A state whose lists are all the call's own (in no block below base), its threads, and its log, each in a block that no other list lies in. -/
structure StOw (W : World) (base : Nat) (s : St) (z : Pz) : Prop where
  sl : Ow W base 77 2 Slo.cells s.sl (.slice z.p1 s.sl.length z.k1)
  sn : Ow W base 3 1 intC s.sn (.slice z.p2 s.sn.length z.k2)
  rc : Ow W base 3 1 intC s.rc (.slice z.p3 s.rc.length z.k3)
  fl : Ow W base 3 1 intC s.fl (.slice z.p4 s.fl.length z.k4)
  el : Ow W base 3 1 intC s.el (.slice z.p5 s.el.length z.k5)
  th : Ow W base 50 11 Th.cells s.th (.slice z.p6 s.th.length z.k6)
  lg : Ow W base 48 5 En.cells s.lg (.slice z.p7 s.lg.length z.k7)
  a6 : NoSh z.p1 z.p6 ∧ NoSh z.p2 z.p6 ∧ NoSh z.p3 z.p6 ∧ NoSh z.p4 z.p6 ∧ NoSh z.p5 z.p6
  a7 : NoSh z.p1 z.p7 ∧ NoSh z.p2 z.p7 ∧ NoSh z.p3 z.p7 ∧ NoSh z.p4 z.p7 ∧ NoSh z.p5 z.p7 ∧ NoSh z.p6 z.p7
theorem StOw.at {W : World} {base : Nat} {s : St} {z : Pz} (h : StOw W base s z) : StAt W s z := ⟨Ow.sl Slo.enc h.sl, Ow.sl intEnc h.sn, Ow.sl intEnc h.rc, Ow.sl intEnc h.fl, Ow.sl intEnc h.el, Ow.sl Th.enc h.th, Ow.sl En.enc h.lg⟩
theorem StOw.kept {W W' : World} {base : Nat} {s : St} {z : Pz} (h : StOw W base s z) (hg : Below W.heap.size W W') : StOw W' base s z := ⟨Ow.kept h.sl hg, Ow.kept h.sn hg, Ow.kept h.rc hg, Ow.kept h.fl hg, Ow.kept h.el hg, Ow.kept h.th hg, Ow.kept h.lg hg, h.a6, h.a7⟩
theorem StOw.mono {W : World} {base base' : Nat} {s : St} {z : Pz} (h : StOw W base s z) (hb : base' ≤ base) : StOw W base' s z := ⟨ow_mono h.sl hb, ow_mono h.sn hb, ow_mono h.rc hb, ow_mono h.fl hb, ow_mono h.el hb, ow_mono h.th hb, ow_mono h.lg hb, h.a6, h.a7⟩
theorem StOw.out {W W' : World} {base b : Nat} {s : St} {z : Pz} (h : StOw W base s z) (ho : Out [b] W W') (hb : b < base) : StOw W' base s z := ⟨Ow.out h.sl ho hb, Ow.out h.sn ho hb, Ow.out h.rc ho hb, Ow.out h.fl ho hb, Ow.out h.el ho hb, Ow.out h.th ho hb, Ow.out h.lg ho hb, h.a6, h.a7⟩
/-- No list of a state is long. -/
structure St.few (s : St) : Prop where
  sl : s.sl.length ≤ 1000
  sn : s.sn.length ≤ 1000
  rc : s.rc.length ≤ 1000
  fl : s.fl.length ≤ 1000
  el : s.el.length ≤ 1000
  th : s.th.length ≤ 1000
  lg : s.lg.length ≤ 1000
/-- What a call that hands back a state of its own leaves. -/
def RetF (w : World) (s : St) (e : Ending) (w' : World) : Prop := ∃ z : Pz, e = .returned (.agg #[.int .i64 s.cf.lg, .int .i64 s.cf.th, .int .i64 s.cf.po, .int .i64 s.cf.wt, .int .i64 s.cf.sp, .int .i64 s.cf.yi, .bool s.cf.si, .int .i64 s.hd, .int .i64 s.tl, .int .i64 s.md, .slice z.p1 s.sl.length z.k1, .slice z.p2 s.sn.length z.k2, .slice z.p3 s.rc.length z.k3, .int .i64 s.fe, .slice z.p4 s.fl.length z.k4, .int .i64 s.ee, .slice z.p5 s.el.length z.k5, .int .i64 s.nw, .slice z.p6 s.th.length z.k6, .slice z.p7 s.lg.length z.k7]) ∧ StOw w' w.heap.size s z ∧ Kept w w'
def RetFE (w : World) (s : St) (E : Int) (e : Ending) (w' : World) : Prop := ∃ z : Pz, e = .returned (.tuple #[.agg #[.int .i64 s.cf.lg, .int .i64 s.cf.th, .int .i64 s.cf.po, .int .i64 s.cf.wt, .int .i64 s.cf.sp, .int .i64 s.cf.yi, .bool s.cf.si, .int .i64 s.hd, .int .i64 s.tl, .int .i64 s.md, .slice z.p1 s.sl.length z.k1, .slice z.p2 s.sn.length z.k2, .slice z.p3 s.rc.length z.k3, .int .i64 s.fe, .slice z.p4 s.fl.length z.k4, .int .i64 s.ee, .slice z.p5 s.el.length z.k5, .int .i64 s.nw, .slice z.p6 s.th.length z.k6, .slice z.p7 s.lg.length z.k7], .int .i64 E]) ∧ StOw w' w.heap.size s z ∧ Kept w w'
theorem st_size : (Try.prog.info? 34).map (·.size) = some 20 := by kernel_rfl

/-- A list of integers copied, in no block below base. -/
def CopI (base : Nat) (l : List Int) (v : Value) (W : World) : Prop := ∃ q c, v = .slice q l.length c ∧ Ow W base 3 1 intC l (.slice q l.length c)
theorem CopI.kept {base : Nat} {l : List Int} {v : Value} {W W' : World} (h : CopI base l v W) (hg : Below W.heap.size W W') : CopI base l v W' := by
  obtain ⟨q, c, rfl, h⟩ := h
  exact ⟨q, c, rfl, Ow.kept h hg⟩
def KF2 (sb base : Nat) (la lb : List Int) (va vb : Value) : Nat → Value → World → Prop
  | 0, v, _ => v = .pointer (some ⟨sb, 11, none⟩)
  | 1, v, _ => v = va
  | 2, v, W => CopI base la v W
  | 3, v, _ => v = .pointer (some ⟨sb, 12, none⟩)
  | 4, v, _ => v = vb
  | 5, v, W => CopI base lb v W
  | 6, v, _ => v = .pointer (some ⟨sb, 11, none⟩)
  | _, _, _ => True
theorem kf2_mono (sb base : Nat) (la lb : List Int) (va vb : Value) (i : Nat) (v : Value) (W W' : World) (h : KF2 sb base la lb va vb i v W) (hk : Below W.heap.size W W') : KF2 sb base la lb va vb i v W' := by
  match i with
  | 2 => exact CopI.kept h hk
  | 5 => exact CopI.kept h hk
  | 0 | 1 | 3 | 4 | 6 => exact h
  | _ + 7 => trivial
def KF3 (sb base : Nat) (la lb : List Int) (va vb : Value) : Nat → Value → World → Prop
  | 0, v, _ => v = .pointer (some ⟨sb, 13, none⟩)
  | 1, v, _ => v = .pointer (some ⟨sb, 14, none⟩)
  | 2, v, _ => v = va
  | 3, v, W => CopI base la v W
  | 4, v, _ => v = .pointer (some ⟨sb, 15, none⟩)
  | 5, v, _ => v = .pointer (some ⟨sb, 16, none⟩)
  | 6, v, _ => v = vb
  | 7, v, W => CopI base lb v W
  | 8, v, _ => v = .pointer (some ⟨sb, 13, none⟩)
  | 9, v, _ => v = .pointer (some ⟨sb, 14, none⟩)
  | _, _, _ => True
theorem kf3_mono (sb base : Nat) (la lb : List Int) (va vb : Value) (i : Nat) (v : Value) (W W' : World) (h : KF3 sb base la lb va vb i v W) (hk : Below W.heap.size W W') : KF3 sb base la lb va vb i v W' := by
  match i with
  | 3 => exact CopI.kept h hk
  | 7 => exact CopI.kept h hk
  | 0 | 1 | 2 | 4 | 5 | 6 | 8 | 9 => exact h
  | _ + 10 => trivial

set_option maxHeartbeats 8000000 in
theorem fkept_any (s : St) (z : Pz) (w : World) (hs : StAt w s z) (hw : s.few) : Calls Try.prog 24 #[.agg #[.int .i64 s.cf.lg, .int .i64 s.cf.th, .int .i64 s.cf.po, .int .i64 s.cf.wt, .int .i64 s.cf.sp, .int .i64 s.cf.yi, .bool s.cf.si, .int .i64 s.hd, .int .i64 s.tl, .int .i64 s.md, .slice z.p1 s.sl.length z.k1, .slice z.p2 s.sn.length z.k2, .slice z.p3 s.rc.length z.k3, .int .i64 s.fe, .slice z.p4 s.fl.length z.k4, .int .i64 s.ee, .slice z.p5 s.el.length z.k5, .int .i64 s.nw, .slice z.p6 s.th.length z.k6, .slice z.p7 s.lg.length z.k7]] w (RetF w s) := by
  have HS := Lib.hid hs
  have HW := Lib.hid hw
  clear hs hw
  go_enter Try.func24, Try.ntmps24; go_upto_region 1 with fail; refine wp_abs (fun W => Below w.heap.size w W ∧ Bk W (w.heap.size) [.int .i64 s.cf.lg , .int .i64 s.cf.th , .int .i64 s.cf.po , .int .i64 s.cf.wt , .int .i64 s.cf.sp , .int .i64 s.cf.yi , .bool s.cf.si , .int .i64 s.hd , .int .i64 s.tl , .int .i64 s.md , .slice z.p1 s.sl.length z.k1 , .slice z.p2 s.sn.length z.k2 , .slice z.p3 s.rc.length z.k3 , .int .i64 s.fe , .slice z.p4 s.fl.length z.k4 , .int .i64 s.ee , .slice z.p5 s.el.length z.k5 , .int .i64 s.nw , .slice z.p6 s.th.length z.k6 , .slice z.p7 s.lg.length z.k7] ∧ Bk W (w.heap.size + 1) [.int .i64 0 , .int .i64 0 , .int .i64 0 , .int .i64 0 , .int .i64 0 , .int .i64 0 , .bool false , .int .i64 0 , .int .i64 0 , .int .i64 0 , .slice none 0 0 , .slice none 0 0 , .slice none 0 0 , .int .i64 0 , .slice none 0 0 , .int .i64 0 , .slice none 0 0 , .int .i64 0 , .slice none 0 0 , .slice none 0 0]) ⟨by repeat' (first | (with_reducible exact Below.refl _ _) | (with_reducible assumption) | (with_reducible refine kept_alloc ?_ _) | (with_reducible refine kept_drewN ?_ _) | (with_reducible refine Below.drew ?_) | (with_reducible refine Below.setCell ?_ (by first | omega | (simp; omega) | (simp; done)) _) | (refine kept_trans ?_ (by with_reducible assumption))), (by repeat (first | (exact Bk.new (by first | rfl | (simp; done) | (simp; omega))) | (refine Bk.past ?_))), (by repeat (first | (exact Bk.new (by first | rfl | (simp; done) | (simp; omega))) | (refine Bk.past ?_)))⟩ ?_; rintro V ⟨hB, hk0, hk1⟩
  have hVb : w.heap.size + 2 ≤ V.heap.size := hk1.lt
  go_wp2_with ((first | (refine wpList_load1 27 Try.underlying27 rfl (by rfl) _ rfl rfl (by assumption) (by rfl) ?_) | (refine wpList_store1 27 (by rfl) _ _ rfl rfl hk0 rfl rfl (by kernel_rfl) rfl (by simp only [List.length_set, List.length_cons, List.length_nil]; omega) ?_; intro ws hkx hos; (try clear hgx); replace hB := below_store hB hos (by omega); (try replace hk1 := hk1.out hos (not_one (by omega))); replace hk0 := hkx; clear hkx; (try replace hC := below_store hC hos (by omega)); clear hos) | (refine wpList_store1 27 (by rfl) _ _ rfl rfl hk1 rfl rfl (by kernel_rfl) rfl (by simp only [List.length_set, List.length_cons, List.length_nil]; omega) ?_; intro ws hkx hos; (try clear hgx); replace hB := below_store hB hos (by omega); (try replace hk0 := hk0.out hos (not_one (by omega))); replace hk1 := hkx; clear hkx; (try replace hC := below_store hC hos (by omega)); clear hos))); refine (fcopS_any _ _ _ _ (HS.out.sl.kept hB) (Nat.le_trans HW.out.sl (by decide))).mono ?_; rintro e w1 ⟨q1, c1, rfl, ho0, hgx⟩; have hBx : Below w.heap.size w w1 := (by repeat' (first | (with_reducible exact Below.refl _ _) | (with_reducible assumption) | (with_reducible refine kept_alloc ?_ _) | (with_reducible refine kept_drewN ?_ _) | (with_reducible refine Below.drew ?_) | (with_reducible refine Below.setCell ?_ (by first | omega | (simp; omega) | (simp; done)) _) | (refine kept_trans ?_ (by with_reducible assumption)))); (try replace hk0 := Bk.kept (by first | exact hk0 | exact Bk.past hk0 | exact Bk.past (Bk.past hk0)) hgx); (try replace hk1 := Bk.kept (by first | exact hk1 | exact Bk.past hk1 | exact Bk.past (Bk.past hk1)) hgx); (try replace hC := kept_trans hC hgx); replace hB := hBx; clear hBx hgx
  replace ho0 := ow_mono ho0 hVb
  go_wp2_with (first | (refine wpList_load1 27 Try.underlying27 rfl (by rfl) _ rfl rfl (by assumption) (by rfl) ?_) | (refine wpList_store1 27 (by rfl) _ _ rfl rfl hk0 rfl rfl (by kernel_rfl) rfl (by simp only [List.length_set, List.length_cons, List.length_nil]; omega) ?_; intro ws hkx hos; (try clear hgx); replace hB := below_store hB hos (by omega); (try replace hk1 := hk1.out hos (not_one (by omega))); replace hk0 := hkx; clear hkx; (first | replace ho0 := Ow.out ho0 hos (by omega) | replace ho0 := StOw.out ho0 hos (by omega) | replace ho0 := StOw.outN ho0 hos (by assumption) | skip); (try replace hC := below_store hC hos (by omega)); clear hos) | (refine wpList_store1 27 (by rfl) _ _ rfl rfl hk1 rfl rfl (by kernel_rfl) rfl (by simp only [List.length_set, List.length_cons, List.length_nil]; omega) ?_; intro ws hkx hos; (try clear hgx); replace hB := below_store hB hos (by omega); (try replace hk0 := hk0.out hos (not_one (by omega))); replace hk1 := hkx; clear hkx; (first | replace ho0 := Ow.out ho0 hos (by omega) | replace ho0 := StOw.out ho0 hos (by omega) | replace ho0 := StOw.outN ho0 hos (by assumption) | skip); (try replace hC := below_store hC hos (by omega)); clear hos))
  have hsz : w.heap.size + 2 ≤ ws.heap.size := hk1.lt
  refine wp_region_ft 7 [7, 8, 9, 10, 11, 12, 13] (KF2 w.heap.size (w.heap.size + 2) s.sn s.rc (.slice z.p2 s.sn.length z.k2) (.slice z.p3 s.rc.length z.k3)) (by kernel_rfl) (by kernel_rfl) (by kernel_rfl) (by decide) rfl (by decide) (by intro d hd; show d < 36; revert d hd; decide) rfl (kf2_mono _ _ _ _ _ _) ?step ?fin
  case step =>
    intro i o ho b W h
    have e1 := h.base 1 (v := .pointer (some ⟨w.heap.size, 0, none⟩)) (by decide) rfl
    replace hk0 := hk0.kept h.kept
    replace hB := kept_trans hB h.kept
    have hszW := Nat.le_trans hsz h.kept.size
    have hi : i < 7 := (List.getElem?_eq_some_iff.1 ho).1
    obtain rfl | rfl | rfl | rfl | rfl | rfl | rfl : i = 0 ∨ i = 1 ∨ i = 2 ∨ i = 3 ∨ i = 4 ∨ i = 5 ∨ i = 6 := by omega
    all_goals cases ho
    · (have hzn : b.tmps.size = 36 := h.size; have hd0 : b.defers = [] := h.defers; rw [act_lit hzn hd0]; have hrr : List.range 36 = [0, 1, 2, 3, 4, 5, 6, 7, 8, 9, 10, 11, 12, 13, 14, 15, 16, 17, 18, 19, 20, 21, 22, 23, 24, 25, 26, 27, 28, 29, 30, 31, 32, 33, 34, 35] := rfl; simp only [hrr, List.map_cons, List.map_nil, e1]; clear hzn hd0 hrr; (try generalize b.tmps.getD 0 undef = u0); (try generalize b.tmps.getD 1 undef = u1); (try generalize b.tmps.getD 2 undef = u2); (try generalize b.tmps.getD 3 undef = u3); (try generalize b.tmps.getD 4 undef = u4); (try generalize b.tmps.getD 5 undef = u5); (try generalize b.tmps.getD 6 undef = u6); (try generalize b.tmps.getD 7 undef = u7); (try generalize b.tmps.getD 8 undef = u8); (try generalize b.tmps.getD 9 undef = u9); (try generalize b.tmps.getD 10 undef = u10); (try generalize b.tmps.getD 11 undef = u11); (try generalize b.tmps.getD 12 undef = u12); (try generalize b.tmps.getD 13 undef = u13); (try generalize b.tmps.getD 14 undef = u14); (try generalize b.tmps.getD 15 undef = u15); (try generalize b.tmps.getD 16 undef = u16); (try generalize b.tmps.getD 17 undef = u17); (try generalize b.tmps.getD 18 undef = u18); (try generalize b.tmps.getD 19 undef = u19); (try generalize b.tmps.getD 20 undef = u20); (try generalize b.tmps.getD 21 undef = u21); (try generalize b.tmps.getD 22 undef = u22); (try generalize b.tmps.getD 23 undef = u23); (try generalize b.tmps.getD 24 undef = u24); (try generalize b.tmps.getD 25 undef = u25); (try generalize b.tmps.getD 26 undef = u26); (try generalize b.tmps.getD 27 undef = u27); (try generalize b.tmps.getD 28 undef = u28); (try generalize b.tmps.getD 29 undef = u29); (try generalize b.tmps.getD 30 undef = u30); (try generalize b.tmps.getD 31 undef = u31); (try generalize b.tmps.getD 32 undef = u32); (try generalize b.tmps.getD 33 undef = u33); (try generalize b.tmps.getD 34 undef = u34); (try generalize b.tmps.getD 35 undef = u35))
      go_wp2
      exact ⟨_, rfl, rfl, Below.refl _ _⟩
    · obtain ⟨_, g, rfl⟩ := h.got 0 rfl rfl
      (have hzn : b.tmps.size = 36 := h.size; have hd0 : b.defers = [] := h.defers; rw [act_lit hzn hd0]; have hrr : List.range 36 = [0, 1, 2, 3, 4, 5, 6, 7, 8, 9, 10, 11, 12, 13, 14, 15, 16, 17, 18, 19, 20, 21, 22, 23, 24, 25, 26, 27, 28, 29, 30, 31, 32, 33, 34, 35] := rfl; simp only [hrr, List.map_cons, List.map_nil, g]; clear hzn hd0 hrr; (try generalize b.tmps.getD 0 undef = u0); (try generalize b.tmps.getD 1 undef = u1); (try generalize b.tmps.getD 2 undef = u2); (try generalize b.tmps.getD 3 undef = u3); (try generalize b.tmps.getD 4 undef = u4); (try generalize b.tmps.getD 5 undef = u5); (try generalize b.tmps.getD 6 undef = u6); (try generalize b.tmps.getD 7 undef = u7); (try generalize b.tmps.getD 8 undef = u8); (try generalize b.tmps.getD 9 undef = u9); (try generalize b.tmps.getD 10 undef = u10); (try generalize b.tmps.getD 11 undef = u11); (try generalize b.tmps.getD 12 undef = u12); (try generalize b.tmps.getD 13 undef = u13); (try generalize b.tmps.getD 14 undef = u14); (try generalize b.tmps.getD 15 undef = u15); (try generalize b.tmps.getD 16 undef = u16); (try generalize b.tmps.getD 17 undef = u17); (try generalize b.tmps.getD 18 undef = u18); (try generalize b.tmps.getD 19 undef = u19); (try generalize b.tmps.getD 20 undef = u20); (try generalize b.tmps.getD 21 undef = u21); (try generalize b.tmps.getD 22 undef = u22); (try generalize b.tmps.getD 23 undef = u23); (try generalize b.tmps.getD 24 undef = u24); (try generalize b.tmps.getD 25 undef = u25); (try generalize b.tmps.getD 26 undef = u26); (try generalize b.tmps.getD 27 undef = u27); (try generalize b.tmps.getD 28 undef = u28); (try generalize b.tmps.getD 29 undef = u29); (try generalize b.tmps.getD 30 undef = u30); (try generalize b.tmps.getD 31 undef = u31); (try generalize b.tmps.getD 32 undef = u32); (try generalize b.tmps.getD 33 undef = u33); (try generalize b.tmps.getD 34 undef = u34); (try generalize b.tmps.getD 35 undef = u35))
      go_wp2_with (first | (refine wpList_load1 28 Try.underlying28 rfl (by rfl) _ rfl rfl (by assumption) (by rfl) ?_) | (refine wpList_store1 28 (by rfl) _ _ rfl rfl hk0 rfl rfl (by kernel_rfl) rfl (by simp only [List.length_set, List.length_cons, List.length_nil]; omega) ?_; intro ws hkx hos; (try clear hgx); replace hB := below_store hB hos (by omega); replace hk0 := hkx; clear hkx; (try replace hC := below_store hC hos (by omega)); clear hos))
      exact ⟨_, rfl, rfl, Below.refl _ _⟩
    · obtain ⟨_, g, rfl⟩ := h.got 1 rfl rfl
      (have hzn : b.tmps.size = 36 := h.size; have hd0 : b.defers = [] := h.defers; rw [act_lit hzn hd0]; have hrr : List.range 36 = [0, 1, 2, 3, 4, 5, 6, 7, 8, 9, 10, 11, 12, 13, 14, 15, 16, 17, 18, 19, 20, 21, 22, 23, 24, 25, 26, 27, 28, 29, 30, 31, 32, 33, 34, 35] := rfl; simp only [hrr, List.map_cons, List.map_nil, g]; clear hzn hd0 hrr; (try generalize b.tmps.getD 0 undef = u0); (try generalize b.tmps.getD 1 undef = u1); (try generalize b.tmps.getD 2 undef = u2); (try generalize b.tmps.getD 3 undef = u3); (try generalize b.tmps.getD 4 undef = u4); (try generalize b.tmps.getD 5 undef = u5); (try generalize b.tmps.getD 6 undef = u6); (try generalize b.tmps.getD 7 undef = u7); (try generalize b.tmps.getD 8 undef = u8); (try generalize b.tmps.getD 9 undef = u9); (try generalize b.tmps.getD 10 undef = u10); (try generalize b.tmps.getD 11 undef = u11); (try generalize b.tmps.getD 12 undef = u12); (try generalize b.tmps.getD 13 undef = u13); (try generalize b.tmps.getD 14 undef = u14); (try generalize b.tmps.getD 15 undef = u15); (try generalize b.tmps.getD 16 undef = u16); (try generalize b.tmps.getD 17 undef = u17); (try generalize b.tmps.getD 18 undef = u18); (try generalize b.tmps.getD 19 undef = u19); (try generalize b.tmps.getD 20 undef = u20); (try generalize b.tmps.getD 21 undef = u21); (try generalize b.tmps.getD 22 undef = u22); (try generalize b.tmps.getD 23 undef = u23); (try generalize b.tmps.getD 24 undef = u24); (try generalize b.tmps.getD 25 undef = u25); (try generalize b.tmps.getD 26 undef = u26); (try generalize b.tmps.getD 27 undef = u27); (try generalize b.tmps.getD 28 undef = u28); (try generalize b.tmps.getD 29 undef = u29); (try generalize b.tmps.getD 30 undef = u30); (try generalize b.tmps.getD 31 undef = u31); (try generalize b.tmps.getD 32 undef = u32); (try generalize b.tmps.getD 33 undef = u33); (try generalize b.tmps.getD 34 undef = u34); (try generalize b.tmps.getD 35 undef = u35))
      go_wp2_with (go_at_call 50; refine (fcopI_any _ _ _ _ (HS.out.sn.kept hB) (Nat.le_trans HW.out.sn (by decide))).mono ?_; rintro e wx ⟨q, c, rfl, hoX, hgx⟩)
      exact ⟨_, rfl, ⟨q, c, rfl, ow_mono hoX hszW⟩, hgx⟩
    · (have hzn : b.tmps.size = 36 := h.size; have hd0 : b.defers = [] := h.defers; rw [act_lit hzn hd0]; have hrr : List.range 36 = [0, 1, 2, 3, 4, 5, 6, 7, 8, 9, 10, 11, 12, 13, 14, 15, 16, 17, 18, 19, 20, 21, 22, 23, 24, 25, 26, 27, 28, 29, 30, 31, 32, 33, 34, 35] := rfl; simp only [hrr, List.map_cons, List.map_nil, e1]; clear hzn hd0 hrr; (try generalize b.tmps.getD 0 undef = u0); (try generalize b.tmps.getD 1 undef = u1); (try generalize b.tmps.getD 2 undef = u2); (try generalize b.tmps.getD 3 undef = u3); (try generalize b.tmps.getD 4 undef = u4); (try generalize b.tmps.getD 5 undef = u5); (try generalize b.tmps.getD 6 undef = u6); (try generalize b.tmps.getD 7 undef = u7); (try generalize b.tmps.getD 8 undef = u8); (try generalize b.tmps.getD 9 undef = u9); (try generalize b.tmps.getD 10 undef = u10); (try generalize b.tmps.getD 11 undef = u11); (try generalize b.tmps.getD 12 undef = u12); (try generalize b.tmps.getD 13 undef = u13); (try generalize b.tmps.getD 14 undef = u14); (try generalize b.tmps.getD 15 undef = u15); (try generalize b.tmps.getD 16 undef = u16); (try generalize b.tmps.getD 17 undef = u17); (try generalize b.tmps.getD 18 undef = u18); (try generalize b.tmps.getD 19 undef = u19); (try generalize b.tmps.getD 20 undef = u20); (try generalize b.tmps.getD 21 undef = u21); (try generalize b.tmps.getD 22 undef = u22); (try generalize b.tmps.getD 23 undef = u23); (try generalize b.tmps.getD 24 undef = u24); (try generalize b.tmps.getD 25 undef = u25); (try generalize b.tmps.getD 26 undef = u26); (try generalize b.tmps.getD 27 undef = u27); (try generalize b.tmps.getD 28 undef = u28); (try generalize b.tmps.getD 29 undef = u29); (try generalize b.tmps.getD 30 undef = u30); (try generalize b.tmps.getD 31 undef = u31); (try generalize b.tmps.getD 32 undef = u32); (try generalize b.tmps.getD 33 undef = u33); (try generalize b.tmps.getD 34 undef = u34); (try generalize b.tmps.getD 35 undef = u35))
      go_wp2
      exact ⟨_, rfl, rfl, Below.refl _ _⟩
    · obtain ⟨_, g, rfl⟩ := h.got 3 rfl rfl
      (have hzn : b.tmps.size = 36 := h.size; have hd0 : b.defers = [] := h.defers; rw [act_lit hzn hd0]; have hrr : List.range 36 = [0, 1, 2, 3, 4, 5, 6, 7, 8, 9, 10, 11, 12, 13, 14, 15, 16, 17, 18, 19, 20, 21, 22, 23, 24, 25, 26, 27, 28, 29, 30, 31, 32, 33, 34, 35] := rfl; simp only [hrr, List.map_cons, List.map_nil, g]; clear hzn hd0 hrr; (try generalize b.tmps.getD 0 undef = u0); (try generalize b.tmps.getD 1 undef = u1); (try generalize b.tmps.getD 2 undef = u2); (try generalize b.tmps.getD 3 undef = u3); (try generalize b.tmps.getD 4 undef = u4); (try generalize b.tmps.getD 5 undef = u5); (try generalize b.tmps.getD 6 undef = u6); (try generalize b.tmps.getD 7 undef = u7); (try generalize b.tmps.getD 8 undef = u8); (try generalize b.tmps.getD 9 undef = u9); (try generalize b.tmps.getD 10 undef = u10); (try generalize b.tmps.getD 11 undef = u11); (try generalize b.tmps.getD 12 undef = u12); (try generalize b.tmps.getD 13 undef = u13); (try generalize b.tmps.getD 14 undef = u14); (try generalize b.tmps.getD 15 undef = u15); (try generalize b.tmps.getD 16 undef = u16); (try generalize b.tmps.getD 17 undef = u17); (try generalize b.tmps.getD 18 undef = u18); (try generalize b.tmps.getD 19 undef = u19); (try generalize b.tmps.getD 20 undef = u20); (try generalize b.tmps.getD 21 undef = u21); (try generalize b.tmps.getD 22 undef = u22); (try generalize b.tmps.getD 23 undef = u23); (try generalize b.tmps.getD 24 undef = u24); (try generalize b.tmps.getD 25 undef = u25); (try generalize b.tmps.getD 26 undef = u26); (try generalize b.tmps.getD 27 undef = u27); (try generalize b.tmps.getD 28 undef = u28); (try generalize b.tmps.getD 29 undef = u29); (try generalize b.tmps.getD 30 undef = u30); (try generalize b.tmps.getD 31 undef = u31); (try generalize b.tmps.getD 32 undef = u32); (try generalize b.tmps.getD 33 undef = u33); (try generalize b.tmps.getD 34 undef = u34); (try generalize b.tmps.getD 35 undef = u35))
      go_wp2_with (first | (refine wpList_load1 28 Try.underlying28 rfl (by rfl) _ rfl rfl (by assumption) (by rfl) ?_) | (refine wpList_store1 28 (by rfl) _ _ rfl rfl hk0 rfl rfl (by kernel_rfl) rfl (by simp only [List.length_set, List.length_cons, List.length_nil]; omega) ?_; intro ws hkx hos; (try clear hgx); replace hB := below_store hB hos (by omega); replace hk0 := hkx; clear hkx; (try replace hC := below_store hC hos (by omega)); clear hos))
      exact ⟨_, rfl, rfl, Below.refl _ _⟩
    · obtain ⟨_, g, rfl⟩ := h.got 4 rfl rfl
      (have hzn : b.tmps.size = 36 := h.size; have hd0 : b.defers = [] := h.defers; rw [act_lit hzn hd0]; have hrr : List.range 36 = [0, 1, 2, 3, 4, 5, 6, 7, 8, 9, 10, 11, 12, 13, 14, 15, 16, 17, 18, 19, 20, 21, 22, 23, 24, 25, 26, 27, 28, 29, 30, 31, 32, 33, 34, 35] := rfl; simp only [hrr, List.map_cons, List.map_nil, g]; clear hzn hd0 hrr; (try generalize b.tmps.getD 0 undef = u0); (try generalize b.tmps.getD 1 undef = u1); (try generalize b.tmps.getD 2 undef = u2); (try generalize b.tmps.getD 3 undef = u3); (try generalize b.tmps.getD 4 undef = u4); (try generalize b.tmps.getD 5 undef = u5); (try generalize b.tmps.getD 6 undef = u6); (try generalize b.tmps.getD 7 undef = u7); (try generalize b.tmps.getD 8 undef = u8); (try generalize b.tmps.getD 9 undef = u9); (try generalize b.tmps.getD 10 undef = u10); (try generalize b.tmps.getD 11 undef = u11); (try generalize b.tmps.getD 12 undef = u12); (try generalize b.tmps.getD 13 undef = u13); (try generalize b.tmps.getD 14 undef = u14); (try generalize b.tmps.getD 15 undef = u15); (try generalize b.tmps.getD 16 undef = u16); (try generalize b.tmps.getD 17 undef = u17); (try generalize b.tmps.getD 18 undef = u18); (try generalize b.tmps.getD 19 undef = u19); (try generalize b.tmps.getD 20 undef = u20); (try generalize b.tmps.getD 21 undef = u21); (try generalize b.tmps.getD 22 undef = u22); (try generalize b.tmps.getD 23 undef = u23); (try generalize b.tmps.getD 24 undef = u24); (try generalize b.tmps.getD 25 undef = u25); (try generalize b.tmps.getD 26 undef = u26); (try generalize b.tmps.getD 27 undef = u27); (try generalize b.tmps.getD 28 undef = u28); (try generalize b.tmps.getD 29 undef = u29); (try generalize b.tmps.getD 30 undef = u30); (try generalize b.tmps.getD 31 undef = u31); (try generalize b.tmps.getD 32 undef = u32); (try generalize b.tmps.getD 33 undef = u33); (try generalize b.tmps.getD 34 undef = u34); (try generalize b.tmps.getD 35 undef = u35))
      go_wp2_with (go_at_call 50; refine (fcopI_any _ _ _ _ (HS.out.rc.kept hB) (Nat.le_trans HW.out.rc (by decide))).mono ?_; rintro e wx ⟨q, c, rfl, hoX, hgx⟩)
      exact ⟨_, rfl, ⟨q, c, rfl, ow_mono hoX hszW⟩, hgx⟩
    · (have hzn : b.tmps.size = 36 := h.size; have hd0 : b.defers = [] := h.defers; rw [act_lit hzn hd0]; have hrr : List.range 36 = [0, 1, 2, 3, 4, 5, 6, 7, 8, 9, 10, 11, 12, 13, 14, 15, 16, 17, 18, 19, 20, 21, 22, 23, 24, 25, 26, 27, 28, 29, 30, 31, 32, 33, 34, 35] := rfl; simp only [hrr, List.map_cons, List.map_nil, e1]; clear hzn hd0 hrr; (try generalize b.tmps.getD 0 undef = u0); (try generalize b.tmps.getD 1 undef = u1); (try generalize b.tmps.getD 2 undef = u2); (try generalize b.tmps.getD 3 undef = u3); (try generalize b.tmps.getD 4 undef = u4); (try generalize b.tmps.getD 5 undef = u5); (try generalize b.tmps.getD 6 undef = u6); (try generalize b.tmps.getD 7 undef = u7); (try generalize b.tmps.getD 8 undef = u8); (try generalize b.tmps.getD 9 undef = u9); (try generalize b.tmps.getD 10 undef = u10); (try generalize b.tmps.getD 11 undef = u11); (try generalize b.tmps.getD 12 undef = u12); (try generalize b.tmps.getD 13 undef = u13); (try generalize b.tmps.getD 14 undef = u14); (try generalize b.tmps.getD 15 undef = u15); (try generalize b.tmps.getD 16 undef = u16); (try generalize b.tmps.getD 17 undef = u17); (try generalize b.tmps.getD 18 undef = u18); (try generalize b.tmps.getD 19 undef = u19); (try generalize b.tmps.getD 20 undef = u20); (try generalize b.tmps.getD 21 undef = u21); (try generalize b.tmps.getD 22 undef = u22); (try generalize b.tmps.getD 23 undef = u23); (try generalize b.tmps.getD 24 undef = u24); (try generalize b.tmps.getD 25 undef = u25); (try generalize b.tmps.getD 26 undef = u26); (try generalize b.tmps.getD 27 undef = u27); (try generalize b.tmps.getD 28 undef = u28); (try generalize b.tmps.getD 29 undef = u29); (try generalize b.tmps.getD 30 undef = u30); (try generalize b.tmps.getD 31 undef = u31); (try generalize b.tmps.getD 32 undef = u32); (try generalize b.tmps.getD 33 undef = u33); (try generalize b.tmps.getD 34 undef = u34); (try generalize b.tmps.getD 35 undef = u35))
      go_wp2
      exact ⟨_, rfl, rfl, Below.refl _ _⟩
  case fin =>
    intro b W h
    obtain ⟨_, g9, q2, c2, rfl, ho1⟩ := h.got 2 rfl rfl
    obtain ⟨_, g12, q3, c3, rfl, ho2⟩ := h.got 5 rfl rfl
    obtain ⟨_, g13, rfl⟩ := h.got 6 rfl rfl
    have e1 := h.base 1 (v := .pointer (some ⟨w.heap.size, 0, none⟩)) (by decide) rfl
    have e2 := h.base 2 (v := .pointer (some ⟨w.heap.size + 1, 0, none⟩)) (by decide) rfl
    replace hk0 := hk0.kept h.kept
    replace hk1 := hk1.kept h.kept
    replace hB := kept_trans hB h.kept
    replace ho0 := Ow.kept ho0 h.kept
    (have hzn : b.tmps.size = 36 := h.size; have hd0 : b.defers = [] := h.defers; rw [act_lit hzn hd0]; have hrr : List.range 36 = [0, 1, 2, 3, 4, 5, 6, 7, 8, 9, 10, 11, 12, 13, 14, 15, 16, 17, 18, 19, 20, 21, 22, 23, 24, 25, 26, 27, 28, 29, 30, 31, 32, 33, 34, 35] := rfl; simp only [hrr, List.map_cons, List.map_nil, e1, e2, g9, g12, g13]; clear hzn hd0 hrr; (try generalize b.tmps.getD 0 undef = u0); (try generalize b.tmps.getD 1 undef = u1); (try generalize b.tmps.getD 2 undef = u2); (try generalize b.tmps.getD 3 undef = u3); (try generalize b.tmps.getD 4 undef = u4); (try generalize b.tmps.getD 5 undef = u5); (try generalize b.tmps.getD 6 undef = u6); (try generalize b.tmps.getD 7 undef = u7); (try generalize b.tmps.getD 8 undef = u8); (try generalize b.tmps.getD 9 undef = u9); (try generalize b.tmps.getD 10 undef = u10); (try generalize b.tmps.getD 11 undef = u11); (try generalize b.tmps.getD 12 undef = u12); (try generalize b.tmps.getD 13 undef = u13); (try generalize b.tmps.getD 14 undef = u14); (try generalize b.tmps.getD 15 undef = u15); (try generalize b.tmps.getD 16 undef = u16); (try generalize b.tmps.getD 17 undef = u17); (try generalize b.tmps.getD 18 undef = u18); (try generalize b.tmps.getD 19 undef = u19); (try generalize b.tmps.getD 20 undef = u20); (try generalize b.tmps.getD 21 undef = u21); (try generalize b.tmps.getD 22 undef = u22); (try generalize b.tmps.getD 23 undef = u23); (try generalize b.tmps.getD 24 undef = u24); (try generalize b.tmps.getD 25 undef = u25); (try generalize b.tmps.getD 26 undef = u26); (try generalize b.tmps.getD 27 undef = u27); (try generalize b.tmps.getD 28 undef = u28); (try generalize b.tmps.getD 29 undef = u29); (try generalize b.tmps.getD 30 undef = u30); (try generalize b.tmps.getD 31 undef = u31); (try generalize b.tmps.getD 32 undef = u32); (try generalize b.tmps.getD 33 undef = u33); (try generalize b.tmps.getD 34 undef = u34); (try generalize b.tmps.getD 35 undef = u35))
    clear h hsz
    simp only [List.drop_succ_cons, List.drop_zero]
    go_wp2_with (first | (refine wpList_load1 28 Try.underlying28 rfl (by rfl) _ rfl rfl (by assumption) (by rfl) ?_) | (refine wpList_store1 28 (by rfl) _ _ rfl rfl hk0 rfl rfl (by kernel_rfl) rfl (by simp only [List.length_set, List.length_cons, List.length_nil]; omega) ?_; intro ws hkx hos; (try clear hgx); replace hB := below_store hB hos (by omega); (try replace hk1 := hk1.out hos (not_one (by omega))); replace hk0 := hkx; clear hkx; (first | replace ho0 := Ow.out ho0 hos (by omega) | replace ho0 := StOw.out ho0 hos (by omega) | replace ho0 := StOw.outN ho0 hos (by assumption) | skip); (first | replace ho1 := Ow.out ho1 hos (by omega) | replace ho1 := StOw.out ho1 hos (by omega) | replace ho1 := StOw.outN ho1 hos (by assumption) | skip); (first | replace ho2 := Ow.out ho2 hos (by omega) | replace ho2 := StOw.out ho2 hos (by omega) | replace ho2 := StOw.outN ho2 hos (by assumption) | skip); (try replace hC := below_store hC hos (by omega)); clear hos) | (refine wpList_store1 28 (by rfl) _ _ rfl rfl hk1 rfl rfl (by kernel_rfl) rfl (by simp only [List.length_set, List.length_cons, List.length_nil]; omega) ?_; intro ws hkx hos; (try clear hgx); replace hB := below_store hB hos (by omega); (try replace hk0 := hk0.out hos (not_one (by omega))); replace hk1 := hkx; clear hkx; (first | replace ho0 := Ow.out ho0 hos (by omega) | replace ho0 := StOw.out ho0 hos (by omega) | replace ho0 := StOw.outN ho0 hos (by assumption) | skip); (first | replace ho1 := Ow.out ho1 hos (by omega) | replace ho1 := StOw.out ho1 hos (by omega) | replace ho1 := StOw.outN ho1 hos (by assumption) | skip); (first | replace ho2 := Ow.out ho2 hos (by omega) | replace ho2 := StOw.out ho2 hos (by omega) | replace ho2 := StOw.outN ho2 hos (by assumption) | skip); (try replace hC := below_store hC hos (by omega)); clear hos))
    have hsz : w.heap.size + 2 ≤ ws.heap.size := hk1.lt
    refine wp_region_ft 10 [15, 16, 17, 18, 19, 20, 21, 22, 23, 24] (KF3 w.heap.size (w.heap.size + 2) s.fl s.el (.slice z.p4 s.fl.length z.k4) (.slice z.p5 s.el.length z.k5)) (by kernel_rfl) (by kernel_rfl) (by kernel_rfl) (by decide) rfl (by decide) (by intro d hd; show d < 36; revert d hd; decide) rfl (kf3_mono _ _ _ _ _ _) ?step ?fin
    case step =>
      intro i o ho b W h
      have e1 := h.base 1 (v := .pointer (some ⟨w.heap.size, 0, none⟩)) (by decide) rfl
      replace hk0 := hk0.kept h.kept
      replace hB := kept_trans hB h.kept
      have hszW := Nat.le_trans hsz h.kept.size
      have hi : i < 10 := (List.getElem?_eq_some_iff.1 ho).1
      obtain rfl | rfl | rfl | rfl | rfl | rfl | rfl | rfl | rfl | rfl : i = 0 ∨ i = 1 ∨ i = 2 ∨ i = 3 ∨ i = 4 ∨ i = 5 ∨ i = 6 ∨ i = 7 ∨ i = 8 ∨ i = 9 := by omega
      all_goals cases ho
      · (have hzn : b.tmps.size = 36 := h.size; have hd0 : b.defers = [] := h.defers; rw [act_lit hzn hd0]; have hrr : List.range 36 = [0, 1, 2, 3, 4, 5, 6, 7, 8, 9, 10, 11, 12, 13, 14, 15, 16, 17, 18, 19, 20, 21, 22, 23, 24, 25, 26, 27, 28, 29, 30, 31, 32, 33, 34, 35] := rfl; simp only [hrr, List.map_cons, List.map_nil, e1]; clear hzn hd0 hrr; (try generalize b.tmps.getD 0 undef = u0); (try generalize b.tmps.getD 1 undef = u1); (try generalize b.tmps.getD 2 undef = u2); (try generalize b.tmps.getD 3 undef = u3); (try generalize b.tmps.getD 4 undef = u4); (try generalize b.tmps.getD 5 undef = u5); (try generalize b.tmps.getD 6 undef = u6); (try generalize b.tmps.getD 7 undef = u7); (try generalize b.tmps.getD 8 undef = u8); (try generalize b.tmps.getD 9 undef = u9); (try generalize b.tmps.getD 10 undef = u10); (try generalize b.tmps.getD 11 undef = u11); (try generalize b.tmps.getD 12 undef = u12); (try generalize b.tmps.getD 13 undef = u13); (try generalize b.tmps.getD 14 undef = u14); (try generalize b.tmps.getD 15 undef = u15); (try generalize b.tmps.getD 16 undef = u16); (try generalize b.tmps.getD 17 undef = u17); (try generalize b.tmps.getD 18 undef = u18); (try generalize b.tmps.getD 19 undef = u19); (try generalize b.tmps.getD 20 undef = u20); (try generalize b.tmps.getD 21 undef = u21); (try generalize b.tmps.getD 22 undef = u22); (try generalize b.tmps.getD 23 undef = u23); (try generalize b.tmps.getD 24 undef = u24); (try generalize b.tmps.getD 25 undef = u25); (try generalize b.tmps.getD 26 undef = u26); (try generalize b.tmps.getD 27 undef = u27); (try generalize b.tmps.getD 28 undef = u28); (try generalize b.tmps.getD 29 undef = u29); (try generalize b.tmps.getD 30 undef = u30); (try generalize b.tmps.getD 31 undef = u31); (try generalize b.tmps.getD 32 undef = u32); (try generalize b.tmps.getD 33 undef = u33); (try generalize b.tmps.getD 34 undef = u34); (try generalize b.tmps.getD 35 undef = u35))
        go_wp2
        exact ⟨_, rfl, rfl, Below.refl _ _⟩
      · obtain ⟨_, g, rfl⟩ := h.got 0 rfl rfl
        (have hzn : b.tmps.size = 36 := h.size; have hd0 : b.defers = [] := h.defers; rw [act_lit hzn hd0]; have hrr : List.range 36 = [0, 1, 2, 3, 4, 5, 6, 7, 8, 9, 10, 11, 12, 13, 14, 15, 16, 17, 18, 19, 20, 21, 22, 23, 24, 25, 26, 27, 28, 29, 30, 31, 32, 33, 34, 35] := rfl; simp only [hrr, List.map_cons, List.map_nil, g]; clear hzn hd0 hrr; (try generalize b.tmps.getD 0 undef = u0); (try generalize b.tmps.getD 1 undef = u1); (try generalize b.tmps.getD 2 undef = u2); (try generalize b.tmps.getD 3 undef = u3); (try generalize b.tmps.getD 4 undef = u4); (try generalize b.tmps.getD 5 undef = u5); (try generalize b.tmps.getD 6 undef = u6); (try generalize b.tmps.getD 7 undef = u7); (try generalize b.tmps.getD 8 undef = u8); (try generalize b.tmps.getD 9 undef = u9); (try generalize b.tmps.getD 10 undef = u10); (try generalize b.tmps.getD 11 undef = u11); (try generalize b.tmps.getD 12 undef = u12); (try generalize b.tmps.getD 13 undef = u13); (try generalize b.tmps.getD 14 undef = u14); (try generalize b.tmps.getD 15 undef = u15); (try generalize b.tmps.getD 16 undef = u16); (try generalize b.tmps.getD 17 undef = u17); (try generalize b.tmps.getD 18 undef = u18); (try generalize b.tmps.getD 19 undef = u19); (try generalize b.tmps.getD 20 undef = u20); (try generalize b.tmps.getD 21 undef = u21); (try generalize b.tmps.getD 22 undef = u22); (try generalize b.tmps.getD 23 undef = u23); (try generalize b.tmps.getD 24 undef = u24); (try generalize b.tmps.getD 25 undef = u25); (try generalize b.tmps.getD 26 undef = u26); (try generalize b.tmps.getD 27 undef = u27); (try generalize b.tmps.getD 28 undef = u28); (try generalize b.tmps.getD 29 undef = u29); (try generalize b.tmps.getD 30 undef = u30); (try generalize b.tmps.getD 31 undef = u31); (try generalize b.tmps.getD 32 undef = u32); (try generalize b.tmps.getD 33 undef = u33); (try generalize b.tmps.getD 34 undef = u34); (try generalize b.tmps.getD 35 undef = u35))
        go_wp2
        exact ⟨_, rfl, rfl, Below.refl _ _⟩
      · obtain ⟨_, g, rfl⟩ := h.got 1 rfl rfl
        (have hzn : b.tmps.size = 36 := h.size; have hd0 : b.defers = [] := h.defers; rw [act_lit hzn hd0]; have hrr : List.range 36 = [0, 1, 2, 3, 4, 5, 6, 7, 8, 9, 10, 11, 12, 13, 14, 15, 16, 17, 18, 19, 20, 21, 22, 23, 24, 25, 26, 27, 28, 29, 30, 31, 32, 33, 34, 35] := rfl; simp only [hrr, List.map_cons, List.map_nil, g]; clear hzn hd0 hrr; (try generalize b.tmps.getD 0 undef = u0); (try generalize b.tmps.getD 1 undef = u1); (try generalize b.tmps.getD 2 undef = u2); (try generalize b.tmps.getD 3 undef = u3); (try generalize b.tmps.getD 4 undef = u4); (try generalize b.tmps.getD 5 undef = u5); (try generalize b.tmps.getD 6 undef = u6); (try generalize b.tmps.getD 7 undef = u7); (try generalize b.tmps.getD 8 undef = u8); (try generalize b.tmps.getD 9 undef = u9); (try generalize b.tmps.getD 10 undef = u10); (try generalize b.tmps.getD 11 undef = u11); (try generalize b.tmps.getD 12 undef = u12); (try generalize b.tmps.getD 13 undef = u13); (try generalize b.tmps.getD 14 undef = u14); (try generalize b.tmps.getD 15 undef = u15); (try generalize b.tmps.getD 16 undef = u16); (try generalize b.tmps.getD 17 undef = u17); (try generalize b.tmps.getD 18 undef = u18); (try generalize b.tmps.getD 19 undef = u19); (try generalize b.tmps.getD 20 undef = u20); (try generalize b.tmps.getD 21 undef = u21); (try generalize b.tmps.getD 22 undef = u22); (try generalize b.tmps.getD 23 undef = u23); (try generalize b.tmps.getD 24 undef = u24); (try generalize b.tmps.getD 25 undef = u25); (try generalize b.tmps.getD 26 undef = u26); (try generalize b.tmps.getD 27 undef = u27); (try generalize b.tmps.getD 28 undef = u28); (try generalize b.tmps.getD 29 undef = u29); (try generalize b.tmps.getD 30 undef = u30); (try generalize b.tmps.getD 31 undef = u31); (try generalize b.tmps.getD 32 undef = u32); (try generalize b.tmps.getD 33 undef = u33); (try generalize b.tmps.getD 34 undef = u34); (try generalize b.tmps.getD 35 undef = u35))
        go_wp2_with (first | (refine wpList_load1 28 Try.underlying28 rfl (by rfl) _ rfl rfl (by assumption) (by rfl) ?_) | (refine wpList_store1 28 (by rfl) _ _ rfl rfl hk0 rfl rfl (by kernel_rfl) rfl (by simp only [List.length_set, List.length_cons, List.length_nil]; omega) ?_; intro ws hkx hos; (try clear hgx); replace hB := below_store hB hos (by omega); replace hk0 := hkx; clear hkx; (try replace hC := below_store hC hos (by omega)); clear hos))
        exact ⟨_, rfl, rfl, Below.refl _ _⟩
      · obtain ⟨_, g, rfl⟩ := h.got 2 rfl rfl
        (have hzn : b.tmps.size = 36 := h.size; have hd0 : b.defers = [] := h.defers; rw [act_lit hzn hd0]; have hrr : List.range 36 = [0, 1, 2, 3, 4, 5, 6, 7, 8, 9, 10, 11, 12, 13, 14, 15, 16, 17, 18, 19, 20, 21, 22, 23, 24, 25, 26, 27, 28, 29, 30, 31, 32, 33, 34, 35] := rfl; simp only [hrr, List.map_cons, List.map_nil, g]; clear hzn hd0 hrr; (try generalize b.tmps.getD 0 undef = u0); (try generalize b.tmps.getD 1 undef = u1); (try generalize b.tmps.getD 2 undef = u2); (try generalize b.tmps.getD 3 undef = u3); (try generalize b.tmps.getD 4 undef = u4); (try generalize b.tmps.getD 5 undef = u5); (try generalize b.tmps.getD 6 undef = u6); (try generalize b.tmps.getD 7 undef = u7); (try generalize b.tmps.getD 8 undef = u8); (try generalize b.tmps.getD 9 undef = u9); (try generalize b.tmps.getD 10 undef = u10); (try generalize b.tmps.getD 11 undef = u11); (try generalize b.tmps.getD 12 undef = u12); (try generalize b.tmps.getD 13 undef = u13); (try generalize b.tmps.getD 14 undef = u14); (try generalize b.tmps.getD 15 undef = u15); (try generalize b.tmps.getD 16 undef = u16); (try generalize b.tmps.getD 17 undef = u17); (try generalize b.tmps.getD 18 undef = u18); (try generalize b.tmps.getD 19 undef = u19); (try generalize b.tmps.getD 20 undef = u20); (try generalize b.tmps.getD 21 undef = u21); (try generalize b.tmps.getD 22 undef = u22); (try generalize b.tmps.getD 23 undef = u23); (try generalize b.tmps.getD 24 undef = u24); (try generalize b.tmps.getD 25 undef = u25); (try generalize b.tmps.getD 26 undef = u26); (try generalize b.tmps.getD 27 undef = u27); (try generalize b.tmps.getD 28 undef = u28); (try generalize b.tmps.getD 29 undef = u29); (try generalize b.tmps.getD 30 undef = u30); (try generalize b.tmps.getD 31 undef = u31); (try generalize b.tmps.getD 32 undef = u32); (try generalize b.tmps.getD 33 undef = u33); (try generalize b.tmps.getD 34 undef = u34); (try generalize b.tmps.getD 35 undef = u35))
        go_wp2_with (go_at_call 50; refine (fcopI_any _ _ _ _ (HS.out.fl.kept hB) (Nat.le_trans HW.out.fl (by decide))).mono ?_; rintro e wx ⟨q, c, rfl, hoX, hgx⟩)
        exact ⟨_, rfl, ⟨q, c, rfl, ow_mono hoX hszW⟩, hgx⟩
      · (have hzn : b.tmps.size = 36 := h.size; have hd0 : b.defers = [] := h.defers; rw [act_lit hzn hd0]; have hrr : List.range 36 = [0, 1, 2, 3, 4, 5, 6, 7, 8, 9, 10, 11, 12, 13, 14, 15, 16, 17, 18, 19, 20, 21, 22, 23, 24, 25, 26, 27, 28, 29, 30, 31, 32, 33, 34, 35] := rfl; simp only [hrr, List.map_cons, List.map_nil, e1]; clear hzn hd0 hrr; (try generalize b.tmps.getD 0 undef = u0); (try generalize b.tmps.getD 1 undef = u1); (try generalize b.tmps.getD 2 undef = u2); (try generalize b.tmps.getD 3 undef = u3); (try generalize b.tmps.getD 4 undef = u4); (try generalize b.tmps.getD 5 undef = u5); (try generalize b.tmps.getD 6 undef = u6); (try generalize b.tmps.getD 7 undef = u7); (try generalize b.tmps.getD 8 undef = u8); (try generalize b.tmps.getD 9 undef = u9); (try generalize b.tmps.getD 10 undef = u10); (try generalize b.tmps.getD 11 undef = u11); (try generalize b.tmps.getD 12 undef = u12); (try generalize b.tmps.getD 13 undef = u13); (try generalize b.tmps.getD 14 undef = u14); (try generalize b.tmps.getD 15 undef = u15); (try generalize b.tmps.getD 16 undef = u16); (try generalize b.tmps.getD 17 undef = u17); (try generalize b.tmps.getD 18 undef = u18); (try generalize b.tmps.getD 19 undef = u19); (try generalize b.tmps.getD 20 undef = u20); (try generalize b.tmps.getD 21 undef = u21); (try generalize b.tmps.getD 22 undef = u22); (try generalize b.tmps.getD 23 undef = u23); (try generalize b.tmps.getD 24 undef = u24); (try generalize b.tmps.getD 25 undef = u25); (try generalize b.tmps.getD 26 undef = u26); (try generalize b.tmps.getD 27 undef = u27); (try generalize b.tmps.getD 28 undef = u28); (try generalize b.tmps.getD 29 undef = u29); (try generalize b.tmps.getD 30 undef = u30); (try generalize b.tmps.getD 31 undef = u31); (try generalize b.tmps.getD 32 undef = u32); (try generalize b.tmps.getD 33 undef = u33); (try generalize b.tmps.getD 34 undef = u34); (try generalize b.tmps.getD 35 undef = u35))
        go_wp2
        exact ⟨_, rfl, rfl, Below.refl _ _⟩
      · obtain ⟨_, g, rfl⟩ := h.got 4 rfl rfl
        (have hzn : b.tmps.size = 36 := h.size; have hd0 : b.defers = [] := h.defers; rw [act_lit hzn hd0]; have hrr : List.range 36 = [0, 1, 2, 3, 4, 5, 6, 7, 8, 9, 10, 11, 12, 13, 14, 15, 16, 17, 18, 19, 20, 21, 22, 23, 24, 25, 26, 27, 28, 29, 30, 31, 32, 33, 34, 35] := rfl; simp only [hrr, List.map_cons, List.map_nil, g]; clear hzn hd0 hrr; (try generalize b.tmps.getD 0 undef = u0); (try generalize b.tmps.getD 1 undef = u1); (try generalize b.tmps.getD 2 undef = u2); (try generalize b.tmps.getD 3 undef = u3); (try generalize b.tmps.getD 4 undef = u4); (try generalize b.tmps.getD 5 undef = u5); (try generalize b.tmps.getD 6 undef = u6); (try generalize b.tmps.getD 7 undef = u7); (try generalize b.tmps.getD 8 undef = u8); (try generalize b.tmps.getD 9 undef = u9); (try generalize b.tmps.getD 10 undef = u10); (try generalize b.tmps.getD 11 undef = u11); (try generalize b.tmps.getD 12 undef = u12); (try generalize b.tmps.getD 13 undef = u13); (try generalize b.tmps.getD 14 undef = u14); (try generalize b.tmps.getD 15 undef = u15); (try generalize b.tmps.getD 16 undef = u16); (try generalize b.tmps.getD 17 undef = u17); (try generalize b.tmps.getD 18 undef = u18); (try generalize b.tmps.getD 19 undef = u19); (try generalize b.tmps.getD 20 undef = u20); (try generalize b.tmps.getD 21 undef = u21); (try generalize b.tmps.getD 22 undef = u22); (try generalize b.tmps.getD 23 undef = u23); (try generalize b.tmps.getD 24 undef = u24); (try generalize b.tmps.getD 25 undef = u25); (try generalize b.tmps.getD 26 undef = u26); (try generalize b.tmps.getD 27 undef = u27); (try generalize b.tmps.getD 28 undef = u28); (try generalize b.tmps.getD 29 undef = u29); (try generalize b.tmps.getD 30 undef = u30); (try generalize b.tmps.getD 31 undef = u31); (try generalize b.tmps.getD 32 undef = u32); (try generalize b.tmps.getD 33 undef = u33); (try generalize b.tmps.getD 34 undef = u34); (try generalize b.tmps.getD 35 undef = u35))
        go_wp2
        exact ⟨_, rfl, rfl, Below.refl _ _⟩
      · obtain ⟨_, g, rfl⟩ := h.got 5 rfl rfl
        (have hzn : b.tmps.size = 36 := h.size; have hd0 : b.defers = [] := h.defers; rw [act_lit hzn hd0]; have hrr : List.range 36 = [0, 1, 2, 3, 4, 5, 6, 7, 8, 9, 10, 11, 12, 13, 14, 15, 16, 17, 18, 19, 20, 21, 22, 23, 24, 25, 26, 27, 28, 29, 30, 31, 32, 33, 34, 35] := rfl; simp only [hrr, List.map_cons, List.map_nil, g]; clear hzn hd0 hrr; (try generalize b.tmps.getD 0 undef = u0); (try generalize b.tmps.getD 1 undef = u1); (try generalize b.tmps.getD 2 undef = u2); (try generalize b.tmps.getD 3 undef = u3); (try generalize b.tmps.getD 4 undef = u4); (try generalize b.tmps.getD 5 undef = u5); (try generalize b.tmps.getD 6 undef = u6); (try generalize b.tmps.getD 7 undef = u7); (try generalize b.tmps.getD 8 undef = u8); (try generalize b.tmps.getD 9 undef = u9); (try generalize b.tmps.getD 10 undef = u10); (try generalize b.tmps.getD 11 undef = u11); (try generalize b.tmps.getD 12 undef = u12); (try generalize b.tmps.getD 13 undef = u13); (try generalize b.tmps.getD 14 undef = u14); (try generalize b.tmps.getD 15 undef = u15); (try generalize b.tmps.getD 16 undef = u16); (try generalize b.tmps.getD 17 undef = u17); (try generalize b.tmps.getD 18 undef = u18); (try generalize b.tmps.getD 19 undef = u19); (try generalize b.tmps.getD 20 undef = u20); (try generalize b.tmps.getD 21 undef = u21); (try generalize b.tmps.getD 22 undef = u22); (try generalize b.tmps.getD 23 undef = u23); (try generalize b.tmps.getD 24 undef = u24); (try generalize b.tmps.getD 25 undef = u25); (try generalize b.tmps.getD 26 undef = u26); (try generalize b.tmps.getD 27 undef = u27); (try generalize b.tmps.getD 28 undef = u28); (try generalize b.tmps.getD 29 undef = u29); (try generalize b.tmps.getD 30 undef = u30); (try generalize b.tmps.getD 31 undef = u31); (try generalize b.tmps.getD 32 undef = u32); (try generalize b.tmps.getD 33 undef = u33); (try generalize b.tmps.getD 34 undef = u34); (try generalize b.tmps.getD 35 undef = u35))
        go_wp2_with (first | (refine wpList_load1 28 Try.underlying28 rfl (by rfl) _ rfl rfl (by assumption) (by rfl) ?_) | (refine wpList_store1 28 (by rfl) _ _ rfl rfl hk0 rfl rfl (by kernel_rfl) rfl (by simp only [List.length_set, List.length_cons, List.length_nil]; omega) ?_; intro ws hkx hos; (try clear hgx); replace hB := below_store hB hos (by omega); replace hk0 := hkx; clear hkx; (try replace hC := below_store hC hos (by omega)); clear hos))
        exact ⟨_, rfl, rfl, Below.refl _ _⟩
      · obtain ⟨_, g, rfl⟩ := h.got 6 rfl rfl
        (have hzn : b.tmps.size = 36 := h.size; have hd0 : b.defers = [] := h.defers; rw [act_lit hzn hd0]; have hrr : List.range 36 = [0, 1, 2, 3, 4, 5, 6, 7, 8, 9, 10, 11, 12, 13, 14, 15, 16, 17, 18, 19, 20, 21, 22, 23, 24, 25, 26, 27, 28, 29, 30, 31, 32, 33, 34, 35] := rfl; simp only [hrr, List.map_cons, List.map_nil, g]; clear hzn hd0 hrr; (try generalize b.tmps.getD 0 undef = u0); (try generalize b.tmps.getD 1 undef = u1); (try generalize b.tmps.getD 2 undef = u2); (try generalize b.tmps.getD 3 undef = u3); (try generalize b.tmps.getD 4 undef = u4); (try generalize b.tmps.getD 5 undef = u5); (try generalize b.tmps.getD 6 undef = u6); (try generalize b.tmps.getD 7 undef = u7); (try generalize b.tmps.getD 8 undef = u8); (try generalize b.tmps.getD 9 undef = u9); (try generalize b.tmps.getD 10 undef = u10); (try generalize b.tmps.getD 11 undef = u11); (try generalize b.tmps.getD 12 undef = u12); (try generalize b.tmps.getD 13 undef = u13); (try generalize b.tmps.getD 14 undef = u14); (try generalize b.tmps.getD 15 undef = u15); (try generalize b.tmps.getD 16 undef = u16); (try generalize b.tmps.getD 17 undef = u17); (try generalize b.tmps.getD 18 undef = u18); (try generalize b.tmps.getD 19 undef = u19); (try generalize b.tmps.getD 20 undef = u20); (try generalize b.tmps.getD 21 undef = u21); (try generalize b.tmps.getD 22 undef = u22); (try generalize b.tmps.getD 23 undef = u23); (try generalize b.tmps.getD 24 undef = u24); (try generalize b.tmps.getD 25 undef = u25); (try generalize b.tmps.getD 26 undef = u26); (try generalize b.tmps.getD 27 undef = u27); (try generalize b.tmps.getD 28 undef = u28); (try generalize b.tmps.getD 29 undef = u29); (try generalize b.tmps.getD 30 undef = u30); (try generalize b.tmps.getD 31 undef = u31); (try generalize b.tmps.getD 32 undef = u32); (try generalize b.tmps.getD 33 undef = u33); (try generalize b.tmps.getD 34 undef = u34); (try generalize b.tmps.getD 35 undef = u35))
        go_wp2_with (go_at_call 50; refine (fcopI_any _ _ _ _ (HS.out.el.kept hB) (Nat.le_trans HW.out.el (by decide))).mono ?_; rintro e wx ⟨q, c, rfl, hoX, hgx⟩)
        exact ⟨_, rfl, ⟨q, c, rfl, ow_mono hoX hszW⟩, hgx⟩
      · (have hzn : b.tmps.size = 36 := h.size; have hd0 : b.defers = [] := h.defers; rw [act_lit hzn hd0]; have hrr : List.range 36 = [0, 1, 2, 3, 4, 5, 6, 7, 8, 9, 10, 11, 12, 13, 14, 15, 16, 17, 18, 19, 20, 21, 22, 23, 24, 25, 26, 27, 28, 29, 30, 31, 32, 33, 34, 35] := rfl; simp only [hrr, List.map_cons, List.map_nil, e1]; clear hzn hd0 hrr; (try generalize b.tmps.getD 0 undef = u0); (try generalize b.tmps.getD 1 undef = u1); (try generalize b.tmps.getD 2 undef = u2); (try generalize b.tmps.getD 3 undef = u3); (try generalize b.tmps.getD 4 undef = u4); (try generalize b.tmps.getD 5 undef = u5); (try generalize b.tmps.getD 6 undef = u6); (try generalize b.tmps.getD 7 undef = u7); (try generalize b.tmps.getD 8 undef = u8); (try generalize b.tmps.getD 9 undef = u9); (try generalize b.tmps.getD 10 undef = u10); (try generalize b.tmps.getD 11 undef = u11); (try generalize b.tmps.getD 12 undef = u12); (try generalize b.tmps.getD 13 undef = u13); (try generalize b.tmps.getD 14 undef = u14); (try generalize b.tmps.getD 15 undef = u15); (try generalize b.tmps.getD 16 undef = u16); (try generalize b.tmps.getD 17 undef = u17); (try generalize b.tmps.getD 18 undef = u18); (try generalize b.tmps.getD 19 undef = u19); (try generalize b.tmps.getD 20 undef = u20); (try generalize b.tmps.getD 21 undef = u21); (try generalize b.tmps.getD 22 undef = u22); (try generalize b.tmps.getD 23 undef = u23); (try generalize b.tmps.getD 24 undef = u24); (try generalize b.tmps.getD 25 undef = u25); (try generalize b.tmps.getD 26 undef = u26); (try generalize b.tmps.getD 27 undef = u27); (try generalize b.tmps.getD 28 undef = u28); (try generalize b.tmps.getD 29 undef = u29); (try generalize b.tmps.getD 30 undef = u30); (try generalize b.tmps.getD 31 undef = u31); (try generalize b.tmps.getD 32 undef = u32); (try generalize b.tmps.getD 33 undef = u33); (try generalize b.tmps.getD 34 undef = u34); (try generalize b.tmps.getD 35 undef = u35))
        go_wp2
        exact ⟨_, rfl, rfl, Below.refl _ _⟩
      · obtain ⟨_, g, rfl⟩ := h.got 8 rfl rfl
        (have hzn : b.tmps.size = 36 := h.size; have hd0 : b.defers = [] := h.defers; rw [act_lit hzn hd0]; have hrr : List.range 36 = [0, 1, 2, 3, 4, 5, 6, 7, 8, 9, 10, 11, 12, 13, 14, 15, 16, 17, 18, 19, 20, 21, 22, 23, 24, 25, 26, 27, 28, 29, 30, 31, 32, 33, 34, 35] := rfl; simp only [hrr, List.map_cons, List.map_nil, g]; clear hzn hd0 hrr; (try generalize b.tmps.getD 0 undef = u0); (try generalize b.tmps.getD 1 undef = u1); (try generalize b.tmps.getD 2 undef = u2); (try generalize b.tmps.getD 3 undef = u3); (try generalize b.tmps.getD 4 undef = u4); (try generalize b.tmps.getD 5 undef = u5); (try generalize b.tmps.getD 6 undef = u6); (try generalize b.tmps.getD 7 undef = u7); (try generalize b.tmps.getD 8 undef = u8); (try generalize b.tmps.getD 9 undef = u9); (try generalize b.tmps.getD 10 undef = u10); (try generalize b.tmps.getD 11 undef = u11); (try generalize b.tmps.getD 12 undef = u12); (try generalize b.tmps.getD 13 undef = u13); (try generalize b.tmps.getD 14 undef = u14); (try generalize b.tmps.getD 15 undef = u15); (try generalize b.tmps.getD 16 undef = u16); (try generalize b.tmps.getD 17 undef = u17); (try generalize b.tmps.getD 18 undef = u18); (try generalize b.tmps.getD 19 undef = u19); (try generalize b.tmps.getD 20 undef = u20); (try generalize b.tmps.getD 21 undef = u21); (try generalize b.tmps.getD 22 undef = u22); (try generalize b.tmps.getD 23 undef = u23); (try generalize b.tmps.getD 24 undef = u24); (try generalize b.tmps.getD 25 undef = u25); (try generalize b.tmps.getD 26 undef = u26); (try generalize b.tmps.getD 27 undef = u27); (try generalize b.tmps.getD 28 undef = u28); (try generalize b.tmps.getD 29 undef = u29); (try generalize b.tmps.getD 30 undef = u30); (try generalize b.tmps.getD 31 undef = u31); (try generalize b.tmps.getD 32 undef = u32); (try generalize b.tmps.getD 33 undef = u33); (try generalize b.tmps.getD 34 undef = u34); (try generalize b.tmps.getD 35 undef = u35))
        go_wp2
        exact ⟨_, rfl, rfl, Below.refl _ _⟩
    case fin =>
      intro b W h
      obtain ⟨_, g18, q4, c4, rfl, ho3⟩ := h.got 3 rfl rfl
      obtain ⟨_, g22, q5, c5, rfl, ho4⟩ := h.got 7 rfl rfl
      obtain ⟨_, g24, rfl⟩ := h.got 9 rfl rfl
      have e1 := h.base 1 (v := .pointer (some ⟨w.heap.size, 0, none⟩)) (by decide) rfl
      have e2 := h.base 2 (v := .pointer (some ⟨w.heap.size + 1, 0, none⟩)) (by decide) rfl
      replace hk0 := hk0.kept h.kept
      replace hk1 := hk1.kept h.kept
      replace hB := kept_trans hB h.kept
      replace ho0 := Ow.kept ho0 h.kept
      replace ho1 := Ow.kept ho1 h.kept
      replace ho2 := Ow.kept ho2 h.kept
      (have hzn : b.tmps.size = 36 := h.size; have hd0 : b.defers = [] := h.defers; rw [act_lit hzn hd0]; have hrr : List.range 36 = [0, 1, 2, 3, 4, 5, 6, 7, 8, 9, 10, 11, 12, 13, 14, 15, 16, 17, 18, 19, 20, 21, 22, 23, 24, 25, 26, 27, 28, 29, 30, 31, 32, 33, 34, 35] := rfl; simp only [hrr, List.map_cons, List.map_nil, e1, e2, g18, g22, g24]; clear hzn hd0 hrr; (try generalize b.tmps.getD 0 undef = u0); (try generalize b.tmps.getD 1 undef = u1); (try generalize b.tmps.getD 2 undef = u2); (try generalize b.tmps.getD 3 undef = u3); (try generalize b.tmps.getD 4 undef = u4); (try generalize b.tmps.getD 5 undef = u5); (try generalize b.tmps.getD 6 undef = u6); (try generalize b.tmps.getD 7 undef = u7); (try generalize b.tmps.getD 8 undef = u8); (try generalize b.tmps.getD 9 undef = u9); (try generalize b.tmps.getD 10 undef = u10); (try generalize b.tmps.getD 11 undef = u11); (try generalize b.tmps.getD 12 undef = u12); (try generalize b.tmps.getD 13 undef = u13); (try generalize b.tmps.getD 14 undef = u14); (try generalize b.tmps.getD 15 undef = u15); (try generalize b.tmps.getD 16 undef = u16); (try generalize b.tmps.getD 17 undef = u17); (try generalize b.tmps.getD 18 undef = u18); (try generalize b.tmps.getD 19 undef = u19); (try generalize b.tmps.getD 20 undef = u20); (try generalize b.tmps.getD 21 undef = u21); (try generalize b.tmps.getD 22 undef = u22); (try generalize b.tmps.getD 23 undef = u23); (try generalize b.tmps.getD 24 undef = u24); (try generalize b.tmps.getD 25 undef = u25); (try generalize b.tmps.getD 26 undef = u26); (try generalize b.tmps.getD 27 undef = u27); (try generalize b.tmps.getD 28 undef = u28); (try generalize b.tmps.getD 29 undef = u29); (try generalize b.tmps.getD 30 undef = u30); (try generalize b.tmps.getD 31 undef = u31); (try generalize b.tmps.getD 32 undef = u32); (try generalize b.tmps.getD 33 undef = u33); (try generalize b.tmps.getD 34 undef = u34); (try generalize b.tmps.getD 35 undef = u35))
      clear h hsz
      simp only [List.drop_succ_cons, List.drop_zero]
      go_wp2_with (first | (refine wpList_load1 28 Try.underlying28 rfl (by rfl) _ rfl rfl (by assumption) (by rfl) ?_) | (refine wpList_store1 28 (by rfl) _ _ rfl rfl hk0 rfl rfl (by kernel_rfl) rfl (by simp only [List.length_set, List.length_cons, List.length_nil]; omega) ?_; intro ws hkx hos; (try clear hgx); replace hB := below_store hB hos (by omega); (try replace hk1 := hk1.out hos (not_one (by omega))); replace hk0 := hkx; clear hkx; (first | replace ho0 := Ow.out ho0 hos (by omega) | replace ho0 := StOw.out ho0 hos (by omega) | replace ho0 := StOw.outN ho0 hos (by assumption) | skip); (first | replace ho1 := Ow.out ho1 hos (by omega) | replace ho1 := StOw.out ho1 hos (by omega) | replace ho1 := StOw.outN ho1 hos (by assumption) | skip); (first | replace ho2 := Ow.out ho2 hos (by omega) | replace ho2 := StOw.out ho2 hos (by omega) | replace ho2 := StOw.outN ho2 hos (by assumption) | skip); (first | replace ho3 := Ow.out ho3 hos (by omega) | replace ho3 := StOw.out ho3 hos (by omega) | replace ho3 := StOw.outN ho3 hos (by assumption) | skip); (first | replace ho4 := Ow.out ho4 hos (by omega) | replace ho4 := StOw.out ho4 hos (by omega) | replace ho4 := StOw.outN ho4 hos (by assumption) | skip); (try replace hC := below_store hC hos (by omega)); clear hos) | (refine wpList_store1 28 (by rfl) _ _ rfl rfl hk1 rfl rfl (by kernel_rfl) rfl (by simp only [List.length_set, List.length_cons, List.length_nil]; omega) ?_; intro ws hkx hos; (try clear hgx); replace hB := below_store hB hos (by omega); (try replace hk0 := hk0.out hos (not_one (by omega))); replace hk1 := hkx; clear hkx; (first | replace ho0 := Ow.out ho0 hos (by omega) | replace ho0 := StOw.out ho0 hos (by omega) | replace ho0 := StOw.outN ho0 hos (by assumption) | skip); (first | replace ho1 := Ow.out ho1 hos (by omega) | replace ho1 := StOw.out ho1 hos (by omega) | replace ho1 := StOw.outN ho1 hos (by assumption) | skip); (first | replace ho2 := Ow.out ho2 hos (by omega) | replace ho2 := StOw.out ho2 hos (by omega) | replace ho2 := StOw.outN ho2 hos (by assumption) | skip); (first | replace ho3 := Ow.out ho3 hos (by omega) | replace ho3 := StOw.out ho3 hos (by omega) | replace ho3 := StOw.outN ho3 hos (by assumption) | skip); (first | replace ho4 := Ow.out ho4 hos (by omega) | replace ho4 := StOw.out ho4 hos (by omega) | replace ho4 := StOw.outN ho4 hos (by assumption) | skip); (try replace hC := below_store hC hos (by omega)); clear hos) | (refine wpList_load1 31 Try.underlying31 rfl (by rfl) _ rfl rfl (by assumption) (by rfl) ?_) | (refine wpList_store1 31 (by rfl) _ _ rfl rfl hk0 rfl rfl (by kernel_rfl) rfl (by simp only [List.length_set, List.length_cons, List.length_nil]; omega) ?_; intro ws hkx hos; (try clear hgx); replace hB := below_store hB hos (by omega); (try replace hk1 := hk1.out hos (not_one (by omega))); replace hk0 := hkx; clear hkx; (first | replace ho0 := Ow.out ho0 hos (by omega) | replace ho0 := StOw.out ho0 hos (by omega) | replace ho0 := StOw.outN ho0 hos (by assumption) | skip); (first | replace ho1 := Ow.out ho1 hos (by omega) | replace ho1 := StOw.out ho1 hos (by omega) | replace ho1 := StOw.outN ho1 hos (by assumption) | skip); (first | replace ho2 := Ow.out ho2 hos (by omega) | replace ho2 := StOw.out ho2 hos (by omega) | replace ho2 := StOw.outN ho2 hos (by assumption) | skip); (first | replace ho3 := Ow.out ho3 hos (by omega) | replace ho3 := StOw.out ho3 hos (by omega) | replace ho3 := StOw.outN ho3 hos (by assumption) | skip); (first | replace ho4 := Ow.out ho4 hos (by omega) | replace ho4 := StOw.out ho4 hos (by omega) | replace ho4 := StOw.outN ho4 hos (by assumption) | skip); (try replace hC := below_store hC hos (by omega)); clear hos) | (refine wpList_store1 31 (by rfl) _ _ rfl rfl hk1 rfl rfl (by kernel_rfl) rfl (by simp only [List.length_set, List.length_cons, List.length_nil]; omega) ?_; intro ws hkx hos; (try clear hgx); replace hB := below_store hB hos (by omega); (try replace hk0 := hk0.out hos (not_one (by omega))); replace hk1 := hkx; clear hkx; (first | replace ho0 := Ow.out ho0 hos (by omega) | replace ho0 := StOw.out ho0 hos (by omega) | replace ho0 := StOw.outN ho0 hos (by assumption) | skip); (first | replace ho1 := Ow.out ho1 hos (by omega) | replace ho1 := StOw.out ho1 hos (by omega) | replace ho1 := StOw.outN ho1 hos (by assumption) | skip); (first | replace ho2 := Ow.out ho2 hos (by omega) | replace ho2 := StOw.out ho2 hos (by omega) | replace ho2 := StOw.outN ho2 hos (by assumption) | skip); (first | replace ho3 := Ow.out ho3 hos (by omega) | replace ho3 := StOw.out ho3 hos (by omega) | replace ho3 := StOw.outN ho3 hos (by assumption) | skip); (first | replace ho4 := Ow.out ho4 hos (by omega) | replace ho4 := StOw.out ho4 hos (by omega) | replace ho4 := StOw.outN ho4 hos (by assumption) | skip); (try replace hC := below_store hC hos (by omega)); clear hos))
      have L1 := Ow.up ho0
      have L2 := Ow.up ho1
      have L3 := Ow.up ho2
      have L4 := Ow.up ho3
      have L5 := Ow.up ho4
      have hsz : w.heap.size + 2 ≤ ws.heap.size := hk1.lt
      refine (fcopT_any _ _ _ _ (HS.out.th.kept hB) (Nat.le_trans HW.out.th (by decide))).mono ?_; rintro e w6 ⟨q6, c6, rfl, ho5, hgx⟩; have hBx : Below w.heap.size w w6 := (by repeat' (first | (with_reducible exact Below.refl _ _) | (with_reducible assumption) | (with_reducible refine kept_alloc ?_ _) | (with_reducible refine kept_drewN ?_ _) | (with_reducible refine Below.drew ?_) | (with_reducible refine Below.setCell ?_ (by first | omega | (simp; omega) | (simp; done)) _) | (refine kept_trans ?_ (by with_reducible assumption)))); (try replace hk0 := Bk.kept (by first | exact hk0 | exact Bk.past hk0 | exact Bk.past (Bk.past hk0)) hgx); (try replace hk1 := Bk.kept (by first | exact hk1 | exact Bk.past hk1 | exact Bk.past (Bk.past hk1)) hgx); (try replace hC := kept_trans hC hgx); (first | replace ho0 := Ow.kept ho0 hgx | replace ho0 := StOw.kept ho0 hgx | skip); (first | replace ho1 := Ow.kept ho1 hgx | replace ho1 := StOw.kept ho1 hgx | skip); (first | replace ho2 := Ow.kept ho2 hgx | replace ho2 := StOw.kept ho2 hgx | skip); (first | replace ho3 := Ow.kept ho3 hgx | replace ho3 := StOw.kept ho3 hgx | skip); (first | replace ho4 := Ow.kept ho4 hgx | replace ho4 := StOw.kept ho4 hgx | skip); replace hB := hBx; clear hBx hgx
      have U6 := Ow.lo ho5
      have A6 := Lib.hid (And.intro (NoSh.of_lt L1 U6) (And.intro (NoSh.of_lt L2 U6) (And.intro (NoSh.of_lt L3 U6) (And.intro (NoSh.of_lt L4 U6) (NoSh.of_lt L5 U6)))))
      replace ho5 := ow_mono ho5 hsz
      clear L1 L2 L3 L4 L5 U6 hsz
      go_wp2_with (first | (refine wpList_load1 31 Try.underlying31 rfl (by rfl) _ rfl rfl (by assumption) (by rfl) ?_) | (refine wpList_store1 31 (by rfl) _ _ rfl rfl hk0 rfl rfl (by kernel_rfl) rfl (by simp only [List.length_set, List.length_cons, List.length_nil]; omega) ?_; intro ws hkx hos; (try clear hgx); replace hB := below_store hB hos (by omega); (try replace hk1 := hk1.out hos (not_one (by omega))); replace hk0 := hkx; clear hkx; (first | replace ho0 := Ow.out ho0 hos (by omega) | replace ho0 := StOw.out ho0 hos (by omega) | replace ho0 := StOw.outN ho0 hos (by assumption) | skip); (first | replace ho1 := Ow.out ho1 hos (by omega) | replace ho1 := StOw.out ho1 hos (by omega) | replace ho1 := StOw.outN ho1 hos (by assumption) | skip); (first | replace ho2 := Ow.out ho2 hos (by omega) | replace ho2 := StOw.out ho2 hos (by omega) | replace ho2 := StOw.outN ho2 hos (by assumption) | skip); (first | replace ho3 := Ow.out ho3 hos (by omega) | replace ho3 := StOw.out ho3 hos (by omega) | replace ho3 := StOw.outN ho3 hos (by assumption) | skip); (first | replace ho4 := Ow.out ho4 hos (by omega) | replace ho4 := StOw.out ho4 hos (by omega) | replace ho4 := StOw.outN ho4 hos (by assumption) | skip); (first | replace ho5 := Ow.out ho5 hos (by omega) | replace ho5 := StOw.out ho5 hos (by omega) | replace ho5 := StOw.outN ho5 hos (by assumption) | skip); (try replace hC := below_store hC hos (by omega)); clear hos) | (refine wpList_store1 31 (by rfl) _ _ rfl rfl hk1 rfl rfl (by kernel_rfl) rfl (by simp only [List.length_set, List.length_cons, List.length_nil]; omega) ?_; intro ws hkx hos; (try clear hgx); replace hB := below_store hB hos (by omega); (try replace hk0 := hk0.out hos (not_one (by omega))); replace hk1 := hkx; clear hkx; (first | replace ho0 := Ow.out ho0 hos (by omega) | replace ho0 := StOw.out ho0 hos (by omega) | replace ho0 := StOw.outN ho0 hos (by assumption) | skip); (first | replace ho1 := Ow.out ho1 hos (by omega) | replace ho1 := StOw.out ho1 hos (by omega) | replace ho1 := StOw.outN ho1 hos (by assumption) | skip); (first | replace ho2 := Ow.out ho2 hos (by omega) | replace ho2 := StOw.out ho2 hos (by omega) | replace ho2 := StOw.outN ho2 hos (by assumption) | skip); (first | replace ho3 := Ow.out ho3 hos (by omega) | replace ho3 := StOw.out ho3 hos (by omega) | replace ho3 := StOw.outN ho3 hos (by assumption) | skip); (first | replace ho4 := Ow.out ho4 hos (by omega) | replace ho4 := StOw.out ho4 hos (by omega) | replace ho4 := StOw.outN ho4 hos (by assumption) | skip); (first | replace ho5 := Ow.out ho5 hos (by omega) | replace ho5 := StOw.out ho5 hos (by omega) | replace ho5 := StOw.outN ho5 hos (by assumption) | skip); (try replace hC := below_store hC hos (by omega)); clear hos) | (refine wpList_load1 32 Try.underlying32 rfl (by rfl) _ rfl rfl (by assumption) (by rfl) ?_) | (refine wpList_store1 32 (by rfl) _ _ rfl rfl hk0 rfl rfl (by kernel_rfl) rfl (by simp only [List.length_set, List.length_cons, List.length_nil]; omega) ?_; intro ws hkx hos; (try clear hgx); replace hB := below_store hB hos (by omega); (try replace hk1 := hk1.out hos (not_one (by omega))); replace hk0 := hkx; clear hkx; (first | replace ho0 := Ow.out ho0 hos (by omega) | replace ho0 := StOw.out ho0 hos (by omega) | replace ho0 := StOw.outN ho0 hos (by assumption) | skip); (first | replace ho1 := Ow.out ho1 hos (by omega) | replace ho1 := StOw.out ho1 hos (by omega) | replace ho1 := StOw.outN ho1 hos (by assumption) | skip); (first | replace ho2 := Ow.out ho2 hos (by omega) | replace ho2 := StOw.out ho2 hos (by omega) | replace ho2 := StOw.outN ho2 hos (by assumption) | skip); (first | replace ho3 := Ow.out ho3 hos (by omega) | replace ho3 := StOw.out ho3 hos (by omega) | replace ho3 := StOw.outN ho3 hos (by assumption) | skip); (first | replace ho4 := Ow.out ho4 hos (by omega) | replace ho4 := StOw.out ho4 hos (by omega) | replace ho4 := StOw.outN ho4 hos (by assumption) | skip); (first | replace ho5 := Ow.out ho5 hos (by omega) | replace ho5 := StOw.out ho5 hos (by omega) | replace ho5 := StOw.outN ho5 hos (by assumption) | skip); (try replace hC := below_store hC hos (by omega)); clear hos) | (refine wpList_store1 32 (by rfl) _ _ rfl rfl hk1 rfl rfl (by kernel_rfl) rfl (by simp only [List.length_set, List.length_cons, List.length_nil]; omega) ?_; intro ws hkx hos; (try clear hgx); replace hB := below_store hB hos (by omega); (try replace hk0 := hk0.out hos (not_one (by omega))); replace hk1 := hkx; clear hkx; (first | replace ho0 := Ow.out ho0 hos (by omega) | replace ho0 := StOw.out ho0 hos (by omega) | replace ho0 := StOw.outN ho0 hos (by assumption) | skip); (first | replace ho1 := Ow.out ho1 hos (by omega) | replace ho1 := StOw.out ho1 hos (by omega) | replace ho1 := StOw.outN ho1 hos (by assumption) | skip); (first | replace ho2 := Ow.out ho2 hos (by omega) | replace ho2 := StOw.out ho2 hos (by omega) | replace ho2 := StOw.outN ho2 hos (by assumption) | skip); (first | replace ho3 := Ow.out ho3 hos (by omega) | replace ho3 := StOw.out ho3 hos (by omega) | replace ho3 := StOw.outN ho3 hos (by assumption) | skip); (first | replace ho4 := Ow.out ho4 hos (by omega) | replace ho4 := StOw.out ho4 hos (by omega) | replace ho4 := StOw.outN ho4 hos (by assumption) | skip); (first | replace ho5 := Ow.out ho5 hos (by omega) | replace ho5 := StOw.out ho5 hos (by omega) | replace ho5 := StOw.outN ho5 hos (by assumption) | skip); (try replace hC := below_store hC hos (by omega)); clear hos))
      have L1 := Ow.up ho0
      have L2 := Ow.up ho1
      have L3 := Ow.up ho2
      have L4 := Ow.up ho3
      have L5 := Ow.up ho4
      have L6 := Ow.up ho5
      have hsz : w.heap.size + 2 ≤ ws.heap.size := hk1.lt
      refine (fcopE_any _ _ _ _ (HS.out.lg.kept hB) (Nat.le_trans HW.out.lg (by decide))).mono ?_; rintro e w7 ⟨q7, c7, rfl, ho6, hgx⟩; have hBx : Below w.heap.size w w7 := (by repeat' (first | (with_reducible exact Below.refl _ _) | (with_reducible assumption) | (with_reducible refine kept_alloc ?_ _) | (with_reducible refine kept_drewN ?_ _) | (with_reducible refine Below.drew ?_) | (with_reducible refine Below.setCell ?_ (by first | omega | (simp; omega) | (simp; done)) _) | (refine kept_trans ?_ (by with_reducible assumption)))); (try replace hk0 := Bk.kept (by first | exact hk0 | exact Bk.past hk0 | exact Bk.past (Bk.past hk0)) hgx); (try replace hk1 := Bk.kept (by first | exact hk1 | exact Bk.past hk1 | exact Bk.past (Bk.past hk1)) hgx); (try replace hC := kept_trans hC hgx); (first | replace ho0 := Ow.kept ho0 hgx | replace ho0 := StOw.kept ho0 hgx | skip); (first | replace ho1 := Ow.kept ho1 hgx | replace ho1 := StOw.kept ho1 hgx | skip); (first | replace ho2 := Ow.kept ho2 hgx | replace ho2 := StOw.kept ho2 hgx | skip); (first | replace ho3 := Ow.kept ho3 hgx | replace ho3 := StOw.kept ho3 hgx | skip); (first | replace ho4 := Ow.kept ho4 hgx | replace ho4 := StOw.kept ho4 hgx | skip); (first | replace ho5 := Ow.kept ho5 hgx | replace ho5 := StOw.kept ho5 hgx | skip); replace hB := hBx; clear hBx hgx
      have U7 := Ow.lo ho6
      have A7 := Lib.hid (And.intro (NoSh.of_lt L1 U7) (And.intro (NoSh.of_lt L2 U7) (And.intro (NoSh.of_lt L3 U7) (And.intro (NoSh.of_lt L4 U7) (And.intro (NoSh.of_lt L5 U7) (NoSh.of_lt L6 U7))))))
      replace ho6 := ow_mono ho6 hsz
      clear L1 L2 L3 L4 L5 L6 U7 hsz
      go_wp2_with (first | (refine wpList_load1 32 Try.underlying32 rfl (by rfl) _ rfl rfl (by assumption) (by rfl) ?_) | (refine wpList_store1 32 (by rfl) _ _ rfl rfl hk0 rfl rfl (by kernel_rfl) rfl (by simp only [List.length_set, List.length_cons, List.length_nil]; omega) ?_; intro ws hkx hos; (try clear hgx); replace hB := below_store hB hos (by omega); (try replace hk1 := hk1.out hos (not_one (by omega))); replace hk0 := hkx; clear hkx; (first | replace ho0 := Ow.out ho0 hos (by omega) | replace ho0 := StOw.out ho0 hos (by omega) | replace ho0 := StOw.outN ho0 hos (by assumption) | skip); (first | replace ho1 := Ow.out ho1 hos (by omega) | replace ho1 := StOw.out ho1 hos (by omega) | replace ho1 := StOw.outN ho1 hos (by assumption) | skip); (first | replace ho2 := Ow.out ho2 hos (by omega) | replace ho2 := StOw.out ho2 hos (by omega) | replace ho2 := StOw.outN ho2 hos (by assumption) | skip); (first | replace ho3 := Ow.out ho3 hos (by omega) | replace ho3 := StOw.out ho3 hos (by omega) | replace ho3 := StOw.outN ho3 hos (by assumption) | skip); (first | replace ho4 := Ow.out ho4 hos (by omega) | replace ho4 := StOw.out ho4 hos (by omega) | replace ho4 := StOw.outN ho4 hos (by assumption) | skip); (first | replace ho5 := Ow.out ho5 hos (by omega) | replace ho5 := StOw.out ho5 hos (by omega) | replace ho5 := StOw.outN ho5 hos (by assumption) | skip); (first | replace ho6 := Ow.out ho6 hos (by omega) | replace ho6 := StOw.out ho6 hos (by omega) | replace ho6 := StOw.outN ho6 hos (by assumption) | skip); (try replace hC := below_store hC hos (by omega)); clear hos) | (refine wpList_store1 32 (by rfl) _ _ rfl rfl hk1 rfl rfl (by kernel_rfl) rfl (by simp only [List.length_set, List.length_cons, List.length_nil]; omega) ?_; intro ws hkx hos; (try clear hgx); replace hB := below_store hB hos (by omega); (try replace hk0 := hk0.out hos (not_one (by omega))); replace hk1 := hkx; clear hkx; (first | replace ho0 := Ow.out ho0 hos (by omega) | replace ho0 := StOw.out ho0 hos (by omega) | replace ho0 := StOw.outN ho0 hos (by assumption) | skip); (first | replace ho1 := Ow.out ho1 hos (by omega) | replace ho1 := StOw.out ho1 hos (by omega) | replace ho1 := StOw.outN ho1 hos (by assumption) | skip); (first | replace ho2 := Ow.out ho2 hos (by omega) | replace ho2 := StOw.out ho2 hos (by omega) | replace ho2 := StOw.outN ho2 hos (by assumption) | skip); (first | replace ho3 := Ow.out ho3 hos (by omega) | replace ho3 := StOw.out ho3 hos (by omega) | replace ho3 := StOw.outN ho3 hos (by assumption) | skip); (first | replace ho4 := Ow.out ho4 hos (by omega) | replace ho4 := StOw.out ho4 hos (by omega) | replace ho4 := StOw.outN ho4 hos (by assumption) | skip); (first | replace ho5 := Ow.out ho5 hos (by omega) | replace ho5 := StOw.out ho5 hos (by omega) | replace ho5 := StOw.outN ho5 hos (by assumption) | skip); (first | replace ho6 := Ow.out ho6 hos (by omega) | replace ho6 := StOw.out ho6 hos (by omega) | replace ho6 := StOw.outN ho6 hos (by assumption) | skip); (try replace hC := below_store hC hos (by omega)); clear hos) | (refine wpList_load20 34 Try.underlying34 (by kernel_rfl) rfl (by rfl) _ rfl rfl (by assumption) (by rfl) (by rfl) (by rfl) (by rfl) (by rfl) (by rfl) (by rfl) (by rfl) (by rfl) (by rfl) (by rfl) (by rfl) (by rfl) (by rfl) (by rfl) (by rfl) (by rfl) (by rfl) (by rfl) (by rfl) ?_) | (refine wpList_storeW 34 (by rfl) _ _ rfl rfl hk0 rfl (by kernel_rfl) (by rfl) (by rfl) ?_; intro ws hkx hos; (try clear hgx); replace hB := below_store hB hos (by omega); (try replace hk1 := hk1.out hos (not_one (by omega))); replace hk0 := hkx; clear hkx; (first | replace ho0 := Ow.out ho0 hos (by omega) | replace ho0 := StOw.out ho0 hos (by omega) | replace ho0 := StOw.outN ho0 hos (by assumption) | skip); (first | replace ho1 := Ow.out ho1 hos (by omega) | replace ho1 := StOw.out ho1 hos (by omega) | replace ho1 := StOw.outN ho1 hos (by assumption) | skip); (first | replace ho2 := Ow.out ho2 hos (by omega) | replace ho2 := StOw.out ho2 hos (by omega) | replace ho2 := StOw.outN ho2 hos (by assumption) | skip); (first | replace ho3 := Ow.out ho3 hos (by omega) | replace ho3 := StOw.out ho3 hos (by omega) | replace ho3 := StOw.outN ho3 hos (by assumption) | skip); (first | replace ho4 := Ow.out ho4 hos (by omega) | replace ho4 := StOw.out ho4 hos (by omega) | replace ho4 := StOw.outN ho4 hos (by assumption) | skip); (first | replace ho5 := Ow.out ho5 hos (by omega) | replace ho5 := StOw.out ho5 hos (by omega) | replace ho5 := StOw.outN ho5 hos (by assumption) | skip); (first | replace ho6 := Ow.out ho6 hos (by omega) | replace ho6 := StOw.out ho6 hos (by omega) | replace ho6 := StOw.outN ho6 hos (by assumption) | skip); (try replace hC := below_store hC hos (by omega)); clear hos) | (refine wpList_storeW 34 (by rfl) _ _ rfl rfl hk1 rfl (by kernel_rfl) (by rfl) (by rfl) ?_; intro ws hkx hos; (try clear hgx); replace hB := below_store hB hos (by omega); (try replace hk0 := hk0.out hos (not_one (by omega))); replace hk1 := hkx; clear hkx; (first | replace ho0 := Ow.out ho0 hos (by omega) | replace ho0 := StOw.out ho0 hos (by omega) | replace ho0 := StOw.outN ho0 hos (by assumption) | skip); (first | replace ho1 := Ow.out ho1 hos (by omega) | replace ho1 := StOw.out ho1 hos (by omega) | replace ho1 := StOw.outN ho1 hos (by assumption) | skip); (first | replace ho2 := Ow.out ho2 hos (by omega) | replace ho2 := StOw.out ho2 hos (by omega) | replace ho2 := StOw.outN ho2 hos (by assumption) | skip); (first | replace ho3 := Ow.out ho3 hos (by omega) | replace ho3 := StOw.out ho3 hos (by omega) | replace ho3 := StOw.outN ho3 hos (by assumption) | skip); (first | replace ho4 := Ow.out ho4 hos (by omega) | replace ho4 := StOw.out ho4 hos (by omega) | replace ho4 := StOw.outN ho4 hos (by assumption) | skip); (first | replace ho5 := Ow.out ho5 hos (by omega) | replace ho5 := StOw.out ho5 hos (by omega) | replace ho5 := StOw.outN ho5 hos (by assumption) | skip); (first | replace ho6 := Ow.out ho6 hos (by omega) | replace ho6 := StOw.out ho6 hos (by omega) | replace ho6 := StOw.outN ho6 hos (by assumption) | skip); (try replace hC := below_store hC hos (by omega)); clear hos))
      refine ret_cell Try.results24 rfl hk1 Try.underlying34 rfl st_size rfl ?_
      exact ⟨⟨q1, c1, q2, c2, q3, c3, q4, c4, q5, c5, q6, c6, q7, c7⟩, rfl, StOw.mono ⟨ho0, ho1, ho2, ho3, ho4, ho5, ho6, A6.out, A7.out⟩ (Nat.le_add_right _ _), hB⟩
end Go.Proofs.Ytbbfdaehaiimiaa

/- STORES INTO A ROW OF THE CALL's OWN: a whole element, or one cell of it. -/
namespace Go.Proofs.Ytbbfdaehaiimiaa
set_option linter.unusedVariables false
set_option linter.unusedSimpArgs false
open Go.ChangeShapes Go.WideShapes Go.ChangeAt Go.RowKit
section
variable {α : Type} {k : Nat} {enc : α → List Value}
theorem flat_set (h : Enc k enc) : ∀ (l : List α) (i : Nat) (x : α), i < l.length → (l.set i x).flatMap enc = (l.flatMap enc).take (i * k) ++ enc x ++ (l.flatMap enc).drop (i * k + k)
  | [], i, x, hi => by simp at hi
  | y :: l, 0, x, _ => by
    simp only [List.set_cons_zero, List.flatMap_cons, Nat.zero_mul, List.take_zero, List.nil_append, Nat.zero_add]
    rw [List.drop_append_of_le_length (by rw [h.len]; exact Nat.le_refl _), List.drop_of_length_le (by rw [h.len]; exact Nat.le_refl _), List.nil_append]
  | y :: l, i + 1, x, hi => by
    have ih := flat_set h l i x (by simpa using hi)
    have e : (i + 1) * k = (enc y).length + i * k := by rw [h.len, Nat.add_mul]; omega
    simp only [List.set_cons_succ, List.flatMap_cons]
    rw [e, List.take_length_add_append, Nat.add_assoc, List.drop_length_add_append, ih]
    simp [List.append_assoc]
/-- A row's block: what it holds. -/
theorem Ow.block {W : World} {base : Nat} {e : TypeId} {l : List α} {g n c : Nat} (h : Ow W base e k enc l (.slice (some ⟨g, 0, none⟩) n c)) : ∃ cur : Array Value, W.heap[g]? = some (.cells cur e (0, 0)) ∧ l.length = n ∧ n ≤ c ∧ c ≤ maxLen ∧ cur.size = c * k ∧ cur.toList.take (l.length * k) = l.flatMap enc := by
  obtain ⟨h0, ⟨h1, _⟩ | ⟨_, _, cur, h1, hb, hg, hl, hm, hs, ht⟩⟩ := h
  · cases h1
  cases h1
  exact ⟨cur, hg, rfl, hl, hm, hs, ht⟩
theorem Ow.pos {W : World} {base : Nat} {e : TypeId} {l : List α} {p : Option Addr} {n c : Nat} (h : Ow W base e k enc l (.slice p n c)) (hn : 0 < l.length) : ∃ g, p = some ⟨g, 0, none⟩ := by
  obtain ⟨_, ⟨h1, h2⟩ | ⟨g, _, _, h1, _⟩⟩ := h
  · omega
  · cases h1; exact ⟨g, rfl⟩
theorem Ow.rowset (he : Enc k enc) {W W' : World} {base : Nat} {e : TypeId} {l : List α} {g n c : Nat} (h : Ow W base e k enc l (.slice (some ⟨g, 0, none⟩) n c)) {i : Nat} (hi : i < l.length) (x : α) {cur : Array Value} (hc : W.heap[g]? = some (.cells cur e (0, 0)))
    (hW : W'.heap[g]? = some (.cells (cur.toList.take (i * k) ++ enc x ++ cur.toList.drop (i * k + k)).toArray e (0, 0))) : Ow W' base e k enc (l.set i x) (.slice (some ⟨g, 0, none⟩) n c) := by
  have hb := (Ow.lt h g rfl).1
  obtain ⟨cur', hg, hn, hl, hm, hs, ht⟩ := Ow.block h
  rw [hc] at hg
  cases hg
  have hik : i * k + k ≤ l.length * k := by
    have := Nat.mul_le_mul_right k (show i + 1 ≤ l.length by omega)
    rw [Nat.add_mul] at this; omega
  have hlk : l.length * k ≤ cur.size := by rw [hs]; exact Nat.mul_le_mul_right k (by omega)
  have hex := he.len x
  refine ⟨flat_len he _, .inr ⟨g, c, _, by rw [List.length_set, hn], hb, hW, by rw [List.length_set]; omega, hm, by simp [hex]; omega, ?_⟩⟩
  rw [List.length_set, flat_set he l i x hi, ← ht]
  rw [List.take_take, Nat.min_eq_left (by omega : i * k ≤ l.length * k)]
  apply List.ext_getElem?
  intro j
  simp only [List.getElem?_take, List.getElem?_append, List.length_take, List.length_append, List.getElem?_drop, Array.length_toList, hex]
  have h3 : min (i * k) cur.size = i * k := by omega
  rw [h3]
  by_cases h1 : j < i * k + k
  · have : j < l.length * k := by omega
    simp [h1, this]
  · by_cases h2 : j < l.length * k
    · have h5 : i * k + k + (j - (i * k + k)) < l.length * k := by omega
      simp [h1, h2, h5]
    · have h5 : ¬ i * k + k + (j - (i * k + k)) < l.length * k := by omega
      have h6 : ¬ j < i * k := by omega
      simp [h1, h2, h5, h6]
end
section
variable {P : Program} {ops : Array Oper} {rest : List Oper} {o : Oper} {a : Act} {w : World} {Q : Exit → Act → World → Prop}
theorem wpList_storeOw {α : Type} {k : Nat} {enc : α → List Value} (ty : TypeId) (hgd : Region.wanted o (yielded ops a.tmps) = true) (x y : Operand) (ho : o.op = .store ty x y) {g i base n c : Nat} {e : TypeId} {l : List α} (hx : a.eval x = .pointer (some ⟨g, i * k, none⟩)) (he : Enc k enc)
    (hO : Ow w base e k enc l (.slice (some ⟨g, 0, none⟩) n c)) (hi : i < l.length) {v : Value} (hy : a.eval y = v) (u : α) (hv : v.cells.toList = enc u) (hk : (P.info? ty).map (·.size) = some k)
    (h : ∀ W', Ow W' base e k enc (l.set i u) (.slice (some ⟨g, 0, none⟩) n c) → Out [g] w W' → wpList P ops Q rest (a.put o.dst undef) W') : wpList P ops Q (o :: rest) a w :=
  wpList_want hgd fun _ hK => by
    obtain ⟨cur, hg, hn, hl, hm, hs, ht⟩ := Ow.block hO
    have hik : i * k + k ≤ l.length * k := by
      have := Nat.mul_le_mul_right k (show i + 1 ≤ l.length by omega)
      rw [Nat.add_mul] at this; omega
    have hlk : l.length * k ≤ cur.size := by rw [hs]; exact Nat.mul_le_mul_right k (by omega)
    have heu := he.len u
    have hrun := run_storeB (P := P) (w := w) (b := g) (off := i * k) (cs := cur.toList) (us := enc u) ty hv (by rw [heu]; exact hk) (List.all_eq_true.2 (he.one u)) (by rw [heu]; simp; omega) (t := e) (by simpa using hg)
    unfold Oper.wp execOp
    simp only [ho, hx, hy, Instr.storeAt, Instr.sureAddr, Sem.run_bind, Sem.run_pure, Result.andThen_ok, hrun]
    refine hK _ _ (h _ (Ow.rowset he hO hi u hg ?_) (store_out (off := i * k) (us := enc u) (cs := cur.toList) (t := e) (by simpa using hg) _))
    have := setRow_heap w g cur (List.take (i * k) cur.toList ++ enc u ++ List.drop (i * k + (enc u).length) cur.toList).toArray e (0, 0) hg
    rw [heu] at this
    rw [heu]
    exact this
end
theorem setCell_row {W : World} {g j : Nat} {cur : Array Value} {e : TypeId} {v : Value} (hg : W.heap[g]? = some (.cells cur e (0, 0))) : (W.setCell ⟨g, j, none⟩ v).heap[g]? = some (.cells (cur.setIfInBounds j v) e (0, 0)) := by
  simp [World.setCell, Array.getElem?_modify, hg]
/-- One cell of an element. -/
theorem Ow.cellset {α : Type} {k : Nat} {enc : α → List Value} (he : Enc k enc) {W : World} {base : Nat} {e : TypeId} {l : List α} {g n c : Nat} (h : Ow W base e k enc l (.slice (some ⟨g, 0, none⟩) n c)) {i j : Nat} (hi : i < l.length) (hj : j < k) {y : α} (hy : l[i]? = some y) (x : α) (v : Value) (hx : enc x = (enc y).set j v) :
    Ow (W.setCell ⟨g, i * k + j, none⟩ v) base e k enc (l.set i x) (.slice (some ⟨g, 0, none⟩) n c) := by
  obtain ⟨cur, hg, hn, hl, hm, hs, ht⟩ := Ow.block h
  have hik : i * k + k ≤ l.length * k := by
    have := Nat.mul_le_mul_right k (show i + 1 ≤ l.length by omega)
    rw [Nat.add_mul] at this; omega
  have hlk : l.length * k ≤ cur.size := by rw [hs]; exact Nat.mul_le_mul_right k (by omega)
  refine Ow.rowset he h hi x hg ((setCell_row hg).trans ?_)
  congr 2
  apply Array.ext'
  rw [Array.toList_setIfInBounds]
  have hey := he.len y
  have hmid : ∀ q, q < k → cur.toList[i * k + q]? = (enc y)[q]? := fun q hq => by
    have h1 := flat_get he l i q y hy hq
    rw [← ht, List.getElem?_take_of_lt (by omega)] at h1
    exact h1
  apply List.ext_getElem?
  intro q
  simp only [List.getElem?_set, List.getElem?_append, List.length_take, List.length_append, List.getElem?_drop, Array.length_toList, hx, List.length_set, hey, List.getElem?_take]
  have h3 : min (i * k) cur.size = i * k := by omega
  rw [h3]
  by_cases h1 : q < i * k
  · have h2 : q < i * k + k := by omega
    have h4 : ¬ i * k + j = q := by omega
    simp [h1, h2, h4]
  · by_cases h2 : q < i * k + k
    · have h5 := hmid (q - i * k) (by omega)
      rw [show i * k + (q - i * k) = q by omega] at h5
      by_cases h6 : i * k + j = q
      · subst h6
        have h8 : i * k + j < cur.size := by omega
        have h9 : j < (enc y).length := by omega
        simp [h1, h2, h8, h9, hj]
      · have h7 : ¬ j = q - i * k := by omega
        simp [h1, h2, h6, h7]
        simpa using h5
    · have h4 : ¬ i * k + j = q := by omega
      have h6 : i * k + k + (q - (i * k + k)) = q := by omega
      simp [h1, h2, h4, h6]
end Go.Proofs.Ytbbfdaehaiimiaa

/- Layer 12: a thread parked, woken, and done: the program's, and the document's. -/
namespace Go.Proofs.Ytbbfdaehaiimiaa
set_option linter.unusedVariables false
set_option linter.unusedSimpArgs false
open Go.ChangeShapes Go.WideShapes Go.ChangeAt Go.RowKit

theorem tended_x {st ki va un pc re se tr rs go : Int} {la : Bool} (w : World) : Calls Try.prog 72 #[.agg #[.int .i64 st, .int .i64 ki, .int .i64 va, .int .i64 un, .int .i64 pc, .int .i64 re, .int .i64 se, .int .i64 tr, .bool la, .int .i64 rs, .int .i64 go]] w fun e w' => e = .returned (.agg #[.int .i64 0, .int .i64 ki, .int .i64 va, .int .i64 un, .int .i64 0, .int .i64 0, .int .i64 0, .int .i64 0, .bool false, .int .i64 rs, .int .i64 go]) ∧ w' = (w.alloc (.cells #[.int .i64 (st), .int .i64 ki, .int .i64 va, .int .i64 un, .int .i64 pc, .int .i64 re, .int .i64 se, .int .i64 tr, .bool la, .int .i64 rs, .int .i64 go] 94)).alloc (.cells #[.int .i64 0, .int .i64 ki, .int .i64 va, .int .i64 un, .int .i64 0, .int .i64 0, .int .i64 0, .int .i64 0, .bool false, .int .i64 rs, .int .i64 go] 50) := by
  go_enter Try.func72, Try.ntmps72
  go_wp2
  refine bodyPost_ret (v := .agg #[.int .i64 0, .int .i64 ki, .int .i64 va, .int .i64 un, .int .i64 0, .int .i64 0, .int .i64 0, .int .i64 0, .bool false, .int .i64 rs, .int .i64 go]) (by simp [results, Try.results72, go_sem, *]) rfl ?_
  exact ⟨rfl, rfl⟩
theorem tidle_x {st ki va un pc re se tr rs go : Int} {la b : Bool} (e : (st == 0) = b) (w : World) : Calls Try.prog 55 #[.agg #[.int .i64 st, .int .i64 ki, .int .i64 va, .int .i64 un, .int .i64 pc, .int .i64 re, .int .i64 se, .int .i64 tr, .bool la, .int .i64 rs, .int .i64 go]] w fun e w' => e = .returned (.bool b) ∧ w' = w.alloc (.cells #[.int .i64 (st), .int .i64 ki, .int .i64 va, .int .i64 un, .int .i64 pc, .int .i64 re, .int .i64 se, .int .i64 tr, .bool la, .int .i64 rs, .int .i64 go] 94) := by
  subst e
  go_enter Try.func55, Try.ntmps55
  go_wp2
  all_goals (go_ret; exact ⟨ret_bool (by first | rfl | simp), rfl⟩)
theorem twithin_x (n l h : Int) (w : World) : Calls Try.prog 57 #[.int .i64 n, .int .i64 l, .int .i64 h] w fun e w' => e = .returned (.bool (thIn n l h)) ∧ w' = w := by
  go_enter Try.func57, Try.ntmps57
  go_wp2
  all_goals (go_ret; exact ⟨ret_bool (by first | (rw [Bool.eq_iff_iff]; simp [thIn]; omega) | (simp [thIn, *]; done) | (simp [thIn, *]; omega)), rfl⟩)
theorem otimed_x (k : Int) (w : World) : Calls Try.prog 56 #[.int .i64 k] w fun e w' => e = .returned (.bool (opTimed k)) ∧ w' = w := by
  go_enter Try.func56, Try.ntmps56
  go_wp2
  all_goals (go_ret; exact ⟨ret_bool (by first | (rw [Bool.eq_iff_iff]; simp [opTimed]; omega) | (simp [opTimed, *]; done)), rfl⟩)
theorem oside_x (k : Int) (w : World) : Calls Try.prog 54 #[.int .i64 k] w fun e w' => e = .returned (.int .i64 (opSide k)) ∧ w' = w := by
  by_cases h : 1 ≤ k ∧ k ≤ 8
  · obtain rfl | rfl | rfl | rfl | rfl | rfl | rfl | rfl : k = 1 ∨ k = 2 ∨ k = 3 ∨ k = 4 ∨ k = 5 ∨ k = 6 ∨ k = 7 ∨ k = 8 := by omega
    all_goals
      go_enter Try.func54, Try.ntmps54
      go_wp2
      all_goals (go_ret; exact ⟨ret_int (by decide), rfl⟩)
  · (have e1 : (k == 1) = false := by simp; omega); (have e2 : (k == 2) = false := by simp; omega); (have e3 : (k == 3) = false := by simp; omega); (have e4 : (k == 4) = false := by simp; omega); (have e5 : (k == 5) = false := by simp; omega); (have e6 : (k == 6) = false := by simp; omega); (have e7 : (k == 7) = false := by simp; omega); (have e8 : (k == 8) = false := by simp; omega)
    have e0 : opSide k = 0 := by have := side_is k; omega
    go_enter Try.func54, Try.ntmps54
    go_wp2
    all_goals (go_ret; exact ⟨ret_int (by first | rfl | exact e0.symm), rfl⟩)
theorem ocheck_x (k : Int) (w : World) : Calls Try.prog 53 #[.int .i64 k] w fun e w' => e = .returned (.bool (opB k)) ∧ w' = w := by
  go_enter Try.func53, Try.ntmps53
  go_wp2_with (go_at_call 54; refine (oside_x _ _).mono ?_; rintro e wx ⟨rfl, rfl⟩)
  all_goals (go_ret; exact ⟨ret_bool (by rw [opB_side]; first | rfl | simp), rfl⟩)
theorem runs0 : thRuns 0 = 121 := by decide
theorem runs2 : thRuns 2 = 122 := by decide
theorem runs1 {st : Int} (h0 : st ≠ 0) (h2 : st ≠ 2) : thRuns st = 0 := by unfold thRuns; rw [if_neg h0, if_neg h2]

end Go.Proofs.Ytbbfdaehaiimiaa

/- Layer 12: what begins on a thread: the program's, and the document's. -/
namespace Go.Proofs.Ytbbfdaehaiimiaa
set_option linter.unusedVariables false
set_option linter.unusedSimpArgs false
open Go.ChangeShapes Go.WideShapes Go.ChangeAt Go.RowKit
set_option maxHeartbeats 2000000 in
theorem tbeg_val {st ki va un pc re se tr rs go k v u S K V U P R Q T X G E : Int} {la L : Bool} (h : thBeg ⟨st, ki, va, un, pc, re, se, tr, la, rs, go⟩ k v u E ⟨S, K, V, U, P, R, Q, T, L, X, G⟩) (w : World) : Calls Try.prog 26 #[.agg #[.int .i64 st, .int .i64 ki, .int .i64 va, .int .i64 un, .int .i64 pc, .int .i64 re, .int .i64 se, .int .i64 tr, .bool la, .int .i64 rs, .int .i64 go], .int .i64 k, .int .i64 v, .int .i64 u] w fun e w' => e = .returned (.tuple #[.agg #[.int .i64 S, .int .i64 K, .int .i64 V, .int .i64 U, .int .i64 P, .int .i64 R, .int .i64 Q, .int .i64 T, .bool L, .int .i64 X, .int .i64 G], .int .i64 E]) ∧ Kept w w' := by
  rcases h with ⟨h0, rfl, hr⟩ | ⟨h0, h1, rfl, hr⟩ | ⟨h0, h1, h2, rfl, hr⟩ | ⟨h0, h1, h2, h3, rfl, hr⟩ | ⟨h0, h1, h2, h3, rfl, hr⟩
  · cases hr
    go_enter Try.func26, Try.ntmps26
    go_wp2_with fail; refine (tidle_x (b := false) (by simpa using h0) _).mono ?_; rintro e w1 ⟨rfl, rfl⟩
    clear h0
    go_wp2
    all_goals (refine bodyPost_ret (v := (.tuple #[.agg #[.int .i64 (st), .int .i64 ki, .int .i64 va, .int .i64 un, .int .i64 pc, .int .i64 re, .int .i64 se, .int .i64 tr, .bool la, .int .i64 rs, .int .i64 go], .int .i64 120])) (by simp [results, Try.results26, go_sem, *]) rfl ?_; exact ⟨rfl, by repeat' (first | (with_reducible exact Below.refl _ _) | (with_reducible assumption) | (with_reducible refine kept_alloc ?_ _) | (with_reducible refine kept_drewN ?_ _) | (with_reducible refine Below.drew ?_) | (with_reducible refine Below.setCell ?_ (by first | omega | (simp; omega) | (simp; done)) _) | (refine kept_trans ?_ (by with_reducible assumption)))⟩)
  · cases hr
    obtain rfl : st = 0 := h0
    go_enter Try.func26, Try.ntmps26
    go_wp2_with fail; refine (tidle_x (b := true) (by decide) _).mono ?_; rintro e w1 ⟨rfl, rfl⟩
    go_wp2_with (first | (go_at_call 53; refine (ocheck_x _ _).mono ?_; rintro e wx ⟨rfl, rfl⟩) | (go_at_call 56; refine (otimed_x _ _).mono ?_; rintro e wx ⟨rfl, rfl⟩) | (go_at_call 57; refine (twithin_x _ _ _ _).mono ?_; rintro e wx ⟨rfl, rfl⟩))
    all_goals (refine bodyPost_ret (v := (.tuple #[.agg #[.int .i64 (0), .int .i64 ki, .int .i64 va, .int .i64 un, .int .i64 pc, .int .i64 re, .int .i64 se, .int .i64 tr, .bool la, .int .i64 rs, .int .i64 go], .int .i64 190])) (by simp [results, Try.results26, go_sem, *]) rfl ?_; exact ⟨rfl, by repeat' (first | (with_reducible exact Below.refl _ _) | (with_reducible assumption) | (with_reducible refine kept_alloc ?_ _) | (with_reducible refine kept_drewN ?_ _) | (with_reducible refine Below.drew ?_) | (with_reducible refine Below.setCell ?_ (by first | omega | (simp; omega) | (simp; done)) _) | (refine kept_trans ?_ (by with_reducible assumption)))⟩)
  · cases hr
    obtain rfl : st = 0 := h0
    go_enter Try.func26, Try.ntmps26
    go_wp2_with fail; refine (tidle_x (b := true) (by decide) _).mono ?_; rintro e w1 ⟨rfl, rfl⟩
    go_wp2_with (first | (go_at_call 53; refine (ocheck_x _ _).mono ?_; rintro e wx ⟨rfl, rfl⟩) | (go_at_call 56; refine (otimed_x _ _).mono ?_; rintro e wx ⟨rfl, rfl⟩) | (go_at_call 57; refine (twithin_x _ _ _ _).mono ?_; rintro e wx ⟨rfl, rfl⟩))
    all_goals (refine bodyPost_ret (v := (.tuple #[(.agg #[.int .i64 1, .int .i64 k, .int .i64 v, .int .i64 0, .int .i64 0, .int .i64 0, .int .i64 0, .int .i64 0, .bool false, .int .i64 0, .int .i64 0]), .int .i64 0])) (by simp [results, Try.results26, go_sem, *]) rfl ?_; exact ⟨rfl, by repeat' (first | (with_reducible exact Below.refl _ _) | (with_reducible assumption) | (with_reducible refine kept_alloc ?_ _) | (with_reducible refine kept_drewN ?_ _) | (with_reducible refine Below.drew ?_) | (with_reducible refine Below.setCell ?_ (by first | omega | (simp; omega) | (simp; done)) _) | (refine kept_trans ?_ (by with_reducible assumption)))⟩)
  · cases hr
    obtain rfl : st = 0 := h0
    have h4 : thIn u 0 1099511627776 = false := by rw [← Bool.not_eq_true]; simp only [thIn, Bool.and_eq_true, decide_eq_true_eq]; exact h3
    clear h3
    go_enter Try.func26, Try.ntmps26
    go_wp2_with fail; refine (tidle_x (b := true) (by decide) _).mono ?_; rintro e w1 ⟨rfl, rfl⟩
    go_wp2_with (first | (go_at_call 53; refine (ocheck_x _ _).mono ?_; rintro e wx ⟨rfl, rfl⟩) | (go_at_call 56; refine (otimed_x _ _).mono ?_; rintro e wx ⟨rfl, rfl⟩) | (go_at_call 57; refine (twithin_x _ _ _ _).mono ?_; rintro e wx ⟨rfl, rfl⟩))
    all_goals (refine bodyPost_ret (v := (.tuple #[.agg #[.int .i64 (0), .int .i64 ki, .int .i64 va, .int .i64 un, .int .i64 pc, .int .i64 re, .int .i64 se, .int .i64 tr, .bool la, .int .i64 rs, .int .i64 go], .int .i64 50])) (by simp [results, Try.results26, go_sem, *]) rfl ?_; exact ⟨rfl, by repeat' (first | (with_reducible exact Below.refl _ _) | (with_reducible assumption) | (with_reducible refine kept_alloc ?_ _) | (with_reducible refine kept_drewN ?_ _) | (with_reducible refine Below.drew ?_) | (with_reducible refine Below.setCell ?_ (by first | omega | (simp; omega) | (simp; done)) _) | (refine kept_trans ?_ (by with_reducible assumption)))⟩)
  · cases hr
    obtain rfl : st = 0 := h0
    have h4 : thIn u 0 1099511627776 = true := by simp only [thIn, Bool.and_eq_true, decide_eq_true_eq]; exact h3
    clear h3
    go_enter Try.func26, Try.ntmps26
    go_wp2_with fail; refine (tidle_x (b := true) (by decide) _).mono ?_; rintro e w1 ⟨rfl, rfl⟩
    go_wp2_with (first | (go_at_call 53; refine (ocheck_x _ _).mono ?_; rintro e wx ⟨rfl, rfl⟩) | (go_at_call 56; refine (otimed_x _ _).mono ?_; rintro e wx ⟨rfl, rfl⟩) | (go_at_call 57; refine (twithin_x _ _ _ _).mono ?_; rintro e wx ⟨rfl, rfl⟩))
    all_goals (refine bodyPost_ret (v := (.tuple #[(.agg #[.int .i64 1, .int .i64 k, .int .i64 v, .int .i64 u, .int .i64 0, .int .i64 0, .int .i64 0, .int .i64 0, .bool false, .int .i64 0, .int .i64 0]), .int .i64 0])) (by simp [results, Try.results26, go_sem, *]) rfl ?_; exact ⟨rfl, by repeat' (first | (with_reducible exact Below.refl _ _) | (with_reducible assumption) | (with_reducible refine kept_alloc ?_ _) | (with_reducible refine kept_drewN ?_ _) | (with_reducible refine Below.drew ?_) | (with_reducible refine Below.setCell ?_ (by first | omega | (simp; omega) | (simp; done)) _) | (refine kept_trans ?_ (by with_reducible assumption)))⟩)
end Go.Proofs.Ytbbfdaehaiimiaa

/- Layer 12: whether a thread may be: the document's. -/
namespace Go.Proofs.Ytbbfdaehaiimiaa
set_option linter.unusedVariables false
set_option linter.unusedSimpArgs false
open Go.ChangeShapes Go.WideShapes Go.ChangeAt Go.RowKit
end Go.Proofs.Ytbbfdaehaiimiaa

/- Layer 12: values given; what every statement asks first. -/
namespace Go.Proofs.Ytbbfdaehaiimiaa
set_option linter.unusedVariables false
set_option linter.unusedSimpArgs false
open Go.ChangeShapes Go.WideShapes Go.ChangeAt Go.RowKit
theorem beg_busy {t : Th} {k v u : Int} (h : t.st ≠ 0) : thBeg t k v u 120 t := .inl ⟨h, rfl, rfl⟩
theorem beg_call {t : Th} {k v u : Int} (h : t.st = 0) (h1 : opB k = false) : thBeg t k v u 190 t := .inr (.inl ⟨h, h1, rfl, rfl⟩)
theorem beg_ok_u {t : Th} {k v u : Int} (h : t.st = 0) (h1 : opB k = true) (h2 : opTimed k = false) : thBeg t k v u 0 ⟨1, k, v, 0, 0, 0, 0, 0, false, 0, 0⟩ := .inr (.inr (.inl ⟨h, h1, h2, rfl, rfl⟩))
theorem beg_time {t : Th} {k v u : Int} (h : t.st = 0) (h1 : opB k = true) (h2 : opTimed k = true) (h3 : ¬(0 ≤ u ∧ u ≤ 1099511627776)) : thBeg t k v u 50 t := .inr (.inr (.inr (.inl ⟨h, h1, h2, h3, rfl, rfl⟩)))
theorem beg_ok_t {t : Th} {k v u : Int} (h : t.st = 0) (h1 : opB k = true) (h2 : opTimed k = true) (h3 : 0 ≤ u ∧ u ≤ 1099511627776) : thBeg t k v u 0 ⟨1, k, v, u, 0, 0, 0, 0, false, 0, 0⟩ := .inr (.inr (.inr (.inr ⟨h, h1, h2, h3, rfl, rfl⟩)))
theorem park_idle {t : Th} {p : Int} (h : t.st = 0) : thPark t p 121 t := .inl ⟨h, rfl, rfl⟩
theorem park_parked {t : Th} {p : Int} (h : t.st = 2) : thPark t p 122 t := .inr (.inl ⟨h, rfl, rfl⟩)
theorem park_ok {t : Th} {p : Int} (h : t.st ≠ 0) (h2 : t.st ≠ 2) : thPark t p 0 ⟨2, t.ki, t.va, t.un, p, t.re, t.se, 0, t.la, t.rs, t.go⟩ := .inr (.inr ⟨h, h2, rfl, rfl⟩)
theorem done_idle {t : Th} (h : t.st = 0) : thDone t 121 t := .inl ⟨h, rfl, rfl⟩
theorem done_parked {t : Th} (h : t.st = 2) : thDone t 122 t := .inr (.inl ⟨h, rfl, rfl⟩)
theorem done_ok {t : Th} (h : t.st ≠ 0) (h2 : t.st ≠ 2) : thDone t 0 ⟨0, t.ki, t.va, t.un, 0, 0, 0, 0, false, t.rs, t.go⟩ := .inr (.inr ⟨h, h2, rfl, rfl⟩)
theorem wake_ok {t : Th} (h : t.st = 2) : thWake t ⟨1, t.ki, t.va, t.un, t.pc, t.re, t.se, t.tr, t.la, t.rs, t.go⟩ := .inl ⟨h, rfl⟩
theorem wake_not {t : Th} (h : t.st ≠ 2) : thWake t t := .inr ⟨h, rfl⟩
theorem tcheck_val {st ki va un pc re se tr rs go : Int} {la b : Bool} (e : thB ⟨st, ki, va, un, pc, re, se, tr, la, rs, go⟩ = b) (w : World) : Calls Try.prog 45 #[.agg #[.int .i64 st, .int .i64 ki, .int .i64 va, .int .i64 un, .int .i64 pc, .int .i64 re, .int .i64 se, .int .i64 tr, .bool la, .int .i64 rs, .int .i64 go]] w fun e w' => e = .returned (.bool b) ∧ Kept w w' := e ▸ tcheck_any w
end Go.Proofs.Ytbbfdaehaiimiaa

/- Layer 13: a state of which one thread is changed; what a thread begins. -/
namespace Go.Proofs.Ytbbfdaehaiimiaa
set_option linter.unusedVariables false
set_option linter.unusedSimpArgs false
open Go.ChangeShapes Go.WideShapes Go.ChangeAt Go.RowKit
/-- What a function value does to the thread that it is handed, in each world that keeps w. -/
def PokesT (fn : Nat) (lb : Array Value) (f : Th → Th) (w : World) : Prop :=
  ∀ (W : World) (base g n c : Nat) (l : List Th) (i : Nat), Below w.heap.size w W → w.heap.size ≤ base → i < l.length → Ow W base 50 11 Th.cells l (.slice (some ⟨g, 0, none⟩) n c) →
    Calls Try.prog fn (#[.pointer (some ⟨g, i * 11, none⟩)] ++ lb) W fun e W' => e = .returned (.tuple #[]) ∧ Ow W' base 50 11 Th.cells (l.set i (f (gth l i))) (.slice (some ⟨g, 0, none⟩) n c) ∧ Out [g] W W'
theorem Ow.outN {α : Type} {W W' : World} {base k n c g : Nat} {e : TypeId} {enc : α → List Value} {xs : List α} {p : Option Addr} (h : Ow W base e k enc xs (.slice p n c)) (ho : Out [g] W W') (hne : NoSh p (some ⟨g, 0, none⟩)) : Ow W' base e k enc xs (.slice p n c) :=
  Ow.of_block h fun b hb => ho.block b (h.lt b hb).2 (by
    rw [own_pbk] at hb
    have := hne b hb
    intro h2
    exact this (by simp at h2; subst h2; rfl))
theorem StOw.setT {W W' : World} {base g : Nat} {s : St} {z : Pz} {n : Nat} {t : Th} (h : StOw W base s z) (hp : z.p6 = some ⟨g, 0, none⟩) (hT : Ow W' base 50 11 Th.cells (s.th.set n t) (.slice (some ⟨g, 0, none⟩) s.th.length z.k6)) (ho : Out [g] W W') : StOw W' base (s.setTh n t) z := by
  obtain ⟨a, b, c, d, e, f, i, a6, a7⟩ := h
  rw [hp] at a6 a7
  refine ⟨Ow.outN a ho a6.1, Ow.outN b ho a6.2.1, Ow.outN c ho a6.2.2.1, Ow.outN d ho a6.2.2.2.1, Ow.outN e ho a6.2.2.2.2, ?_, Ow.outN i ho a7.2.2.2.2.2.symm, by rw [hp]; exact a6, by rw [hp]; exact a7⟩
  show Ow W' base _ _ _ (s.th.set n t) (.slice z.p6 (s.th.set n t).length z.k6)
  rw [List.length_set, hp]
  exact hT
theorem invoke1_enters : ∀ args w, (callFunc 28 args).run Try.prog w = .ok (.enter 28 args) w := enters_of Try.func28 (by kernel_rfl) rfl
theorem invoke1_pokes (t : Th) (b : Nat) (w : World) (hb : Bk w b t.cells) : PokesT 28 #[.pointer (some ⟨b, 0, none⟩)] (fun _ => t) w := by
  intro W base g n c l i hW hbase hi hO
  have hk0 := hb.kept hW
  have hg := (Ow.lt hO g rfl).1
  have hB : Below W.heap.size W W := Below.refl _ _
  show Calls Try.prog 28 #[.pointer (some ⟨g, i * 11, none⟩), .pointer (some ⟨b, 0, none⟩)] W _
  go_enter Try.func28, Try.ntmps28
  go_wp2_with (first | (first | (refine wpList_load11 50 Try.underlying50 (by kernel_rfl) rfl (by rfl) _ rfl rfl (by assumption) (by rfl) (by rfl) (by rfl) (by rfl) (by rfl) (by rfl) (by rfl) (by rfl) (by rfl) (by rfl) (by rfl) ?_)) | (refine wpList_storeOw 50 (by rfl) _ _ rfl (k := 11) rfl Th.enc hO hi rfl t rfl (by kernel_rfl) ?_; intro ws hO2 hos))
  go_end0
  exact ⟨rfl, hO2, hos⟩
theorem tell1_enters : ∀ args w, (callFunc 30 args).run Try.prog w = .ok (.enter 30 args) w := enters_of Try.func30 (by kernel_rfl) rfl
theorem sth_own {W : World} {base g n c : Nat} {l : List Th} (hO : Ow W base 50 11 Th.cells l (.slice (some ⟨g, 0, none⟩) n c)) {i : Nat} (hi : i < l.length) (j : Nat) (hj : j < 11) : W.cell? ⟨g, i * 11 + j, none⟩ = (gth l i).cells[j]? ∧ W.frozen? ⟨g, i * 11 + j, none⟩ = false := by
  obtain ⟨cur, hg, hn, hl, hm, hs, ht⟩ := Ow.block hO
  have hik : i * 11 + 11 ≤ l.length * 11 := by omega
  have h1 := flat_get Th.enc l i j (gth l i) (gth_some hi) hj
  rw [← ht, List.getElem?_take_of_lt (by omega)] at h1
  exact ⟨by simp only [World.cell?, hg]; simpa using h1, by simp [World.frozen?, hg]⟩
theorem tell1_pokes (k r q : Int) (b1 b2 b3 : Nat) (w : World) (h1 : Bk w b1 [.int .i64 k]) (h2 : Bk w b2 [.int .i64 r]) (h3 : Bk w b3 [.int .i64 q]) : PokesT 30 #[.pointer (some ⟨b1, 0, none⟩), .pointer (some ⟨b2, 0, none⟩), .pointer (some ⟨b3, 0, none⟩)] (fun t => tellT t k r q) w := by
  intro W base g n c l i hW hbase hi hO
  have e1 := ((h1.kept hW).cell 0)
  have e2 := ((h2.kept hW).cell 0)
  have e3 := ((h3.kept hW).cell 0)
  simp only [List.getElem?_cons_zero] at e1 e2 e3
  have hg := (Ow.lt hO g rfl).1
  have hgW := (Ow.lt hO g rfl).2
  have l1 := h1.lt
  have l2 := h2.lt
  have l3 := h3.lt
  have hWs := hW.size
  have d9 := (sth_own hO hi 9 (by decide))
  have d10 := (sth_own hO hi 10 (by decide))
  by_cases hk : k = 9
  · subst hk
    have HO := Lib.hid hO
    clear hO d9 d10
    show Calls Try.prog 30 #[.pointer (some ⟨g, i * 11, none⟩), .pointer (some ⟨b1, 0, none⟩), .pointer (some ⟨b2, 0, none⟩), .pointer (some ⟨b3, 0, none⟩)] W _
    go_enter Try.func30, Try.ntmps30
    go_wp2
    go_end0
    refine ⟨rfl, ?_, Out.refl _ _⟩
    have he : l.set i (tellT (gth l i) 9 r q) = l := by unfold tellT; rw [if_pos rfl]; exact gth_set_self
    rw [he]; exact HO.out
  · have hne : (k != 9) = true := by simpa using hk
    obtain ⟨y, hy⟩ : ∃ y, gth l i = y := ⟨_, rfl⟩
    have HY := Lib.hid hy
    have HK := Lib.hid hk
    have HO := Lib.hid hO
    have HI := Lib.hid hi
    rw [hy] at d9 d10
    obtain ⟨d9, f9⟩ := d9
    obtain ⟨d10, f10⟩ := d10
    simp only [Th.cells, List.getElem?_cons_zero, List.getElem?_cons_succ] at d9 d10
    have d10' : (W.setCell ⟨g, i * 11 + 9, none⟩ (.int .i64 r)).cell? ⟨g, i * 11 + 10, none⟩ = some (.int .i64 y.go) := (World.cell?_setCell_other _ _ _ _ (by simp)).trans d10
    have x1 : b1 ≠ g := by omega
    have x2 : b2 ≠ g := by omega
    have x3 : b3 ≠ g := by omega
    clear hy hk hO hi h1 h2 h3
    show Calls Try.prog 30 #[.pointer (some ⟨g, i * 11, none⟩), .pointer (some ⟨b1, 0, none⟩), .pointer (some ⟨b2, 0, none⟩), .pointer (some ⟨b3, 0, none⟩)] W _
    go_enter Try.func30, Try.ntmps30
    go_wp2
    go_region
    go_end0
    have hyi : l[i]? = some y := HY.out ▸ gth_some HI.out
    have s1 := Ow.cellset Th.enc HO.out HI.out (j := 9) (by decide) hyi (⟨y.st, y.ki, y.va, y.un, y.pc, y.re, y.se, y.tr, y.la, r, y.go⟩ : Th) (.int .i64 r) rfl
    have s2 := Ow.cellset Th.enc s1 (i := i) (by rw [List.length_set]; exact HI.out) (j := 10) (by decide) (List.getElem?_set_self HI.out) (⟨y.st, y.ki, y.va, y.un, y.pc, y.re, y.se, y.tr, y.la, r, q⟩ : Th) (.int .i64 q) rfl
    rw [List.set_set] at s2
    have he : tellT (gth l i) k r q = ⟨y.st, y.ki, y.va, y.un, y.pc, y.re, y.se, y.tr, y.la, r, q⟩ := by unfold tellT; rw [if_neg HK.out, HY.out]
    rw [he]
    exact ⟨rfl, s2.kept (Below.drew (Below.refl _ _)), ((((Out.refl [g] W).set (x := ⟨g, _, none⟩) (.inl (by simp)) _).set (x := ⟨g, _, none⟩) (.inl (by simp)) _)).then (Below.drew (Below.refl _ _))⟩

set_option maxHeartbeats 2000000 in
theorem fchanged_any (s : St) (z : Pz) (n : Nat) (fn : Nat) (lb : Array Value) (f : Th → Th) (w : World) (eg : ∀ args w, (callFunc fn args).run Try.prog w = .ok (.enter fn args) w) (hs : StAt w s z) (hw : s.few) (hn : n < s.th.length) (hP : PokesT fn lb f w) :
    Calls Try.prog 27 #[.agg #[.int .i64 s.cf.lg, .int .i64 s.cf.th, .int .i64 s.cf.po, .int .i64 s.cf.wt, .int .i64 s.cf.sp, .int .i64 s.cf.yi, .bool s.cf.si, .int .i64 s.hd, .int .i64 s.tl, .int .i64 s.md, .slice z.p1 s.sl.length z.k1, .slice z.p2 s.sn.length z.k2, .slice z.p3 s.rc.length z.k3, .int .i64 s.fe, .slice z.p4 s.fl.length z.k4, .int .i64 s.ee, .slice z.p5 s.el.length z.k5, .int .i64 s.nw, .slice z.p6 s.th.length z.k6, .slice z.p7 s.lg.length z.k7], .int .i64 n, .func (.func fn) #[] lb] w (RetF w (s.setTh n (f (gth s.th n)))) := by
  have HS := Lib.hid hs
  have HW := Lib.hid hw
  have HP := Lib.hid hP
  have b1 : (0 : Int) ≤ (n : Int) := by omega
  have b2 : (n : Int) < (s.th.length : Int) := by omega
  clear hs hw hP
  go_enter Try.func27, Try.ntmps27; go_upto_region 1 with fail; refine wp_abs (fun W => Below w.heap.size w W ∧ Bk W (w.heap.size) [.int .i64 s.cf.lg , .int .i64 s.cf.th , .int .i64 s.cf.po , .int .i64 s.cf.wt , .int .i64 s.cf.sp , .int .i64 s.cf.yi , .bool s.cf.si , .int .i64 s.hd , .int .i64 s.tl , .int .i64 s.md , .slice z.p1 s.sl.length z.k1 , .slice z.p2 s.sn.length z.k2 , .slice z.p3 s.rc.length z.k3 , .int .i64 s.fe , .slice z.p4 s.fl.length z.k4 , .int .i64 s.ee , .slice z.p5 s.el.length z.k5 , .int .i64 s.nw , .slice z.p6 s.th.length z.k6 , .slice z.p7 s.lg.length z.k7] ∧ Bk W (w.heap.size + 1) [.int .i64 0 , .int .i64 0 , .int .i64 0 , .int .i64 0 , .int .i64 0 , .int .i64 0 , .bool false , .int .i64 0 , .int .i64 0 , .int .i64 0 , .slice none 0 0 , .slice none 0 0 , .slice none 0 0 , .int .i64 0 , .slice none 0 0 , .int .i64 0 , .slice none 0 0 , .int .i64 0 , .slice none 0 0 , .slice none 0 0]) ⟨by repeat' (first | (with_reducible exact Below.refl _ _) | (with_reducible assumption) | (with_reducible refine kept_alloc ?_ _) | (with_reducible refine kept_drewN ?_ _) | (with_reducible refine Below.drew ?_) | (with_reducible refine Below.setCell ?_ (by first | omega | (simp; omega) | (simp; done)) _) | (refine kept_trans ?_ (by with_reducible assumption))), (by repeat (first | (exact Bk.new (by first | rfl | (simp; done) | (simp; omega))) | (refine Bk.past ?_))), (by repeat (first | (exact Bk.new (by first | rfl | (simp; done) | (simp; omega))) | (refine Bk.past ?_)))⟩ ?_; rintro V ⟨hB, hk0, hk1⟩
  have hVb : w.heap.size + 2 ≤ V.heap.size := hk1.lt
  go_wp2_with ((first | (refine wpList_load20 34 Try.underlying34 (by kernel_rfl) rfl (by rfl) _ rfl rfl (by assumption) (by rfl) (by rfl) (by rfl) (by rfl) (by rfl) (by rfl) (by rfl) (by rfl) (by rfl) (by rfl) (by rfl) (by rfl) (by rfl) (by rfl) (by rfl) (by rfl) (by rfl) (by rfl) (by rfl) (by rfl) ?_) | (refine wpList_storeW 34 (by rfl) _ _ rfl rfl hk0 rfl (by kernel_rfl) (by rfl) (by rfl) ?_; intro ws hkx hos; (try clear hgx); replace hB := below_store hB hos (by omega); (try replace hk1 := hk1.out hos (not_one (by omega))); replace hk0 := hkx; clear hkx; (try replace hC := below_store hC hos (by omega)); clear hos) | (refine wpList_storeW 34 (by rfl) _ _ rfl rfl hk1 rfl (by kernel_rfl) (by rfl) (by rfl) ?_; intro ws hkx hos; (try clear hgx); replace hB := below_store hB hos (by omega); (try replace hk0 := hk0.out hos (not_one (by omega))); replace hk1 := hkx; clear hkx; (try replace hC := below_store hC hos (by omega)); clear hos))); refine (fkept_any s z _ (HS.out.kept hB) HW.out).mono ?_; rintro e w1 ⟨⟨q1, c1, q2, c2, q3, c3, q4, c4, q5, c5, q6, c6, q7, c7⟩, rfl, hO, hgx⟩; have hBx : Below w.heap.size w w1 := (by repeat' (first | (with_reducible exact Below.refl _ _) | (with_reducible assumption) | (with_reducible refine kept_alloc ?_ _) | (with_reducible refine kept_drewN ?_ _) | (with_reducible refine Below.drew ?_) | (with_reducible refine Below.setCell ?_ (by first | omega | (simp; omega) | (simp; done)) _) | (refine kept_trans ?_ (by with_reducible assumption)))); (try replace hk0 := Bk.kept (by first | exact hk0 | exact Bk.past hk0 | exact Bk.past (Bk.past hk0)) hgx); (try replace hk1 := Bk.kept (by first | exact hk1 | exact Bk.past hk1 | exact Bk.past (Bk.past hk1)) hgx); (try replace hC := kept_trans hC hgx); replace hB := hBx; clear hBx hgx
  obtain ⟨g, hg⟩ := Ow.pos hO.th (by omega)
  simp only at hg
  subst hg
  have hg1 := (Ow.lt hO.th g rfl).1
  have hg2 := (Ow.lt hO.th g rfl).2
  have hC : Below w1.heap.size w1 w1 := Below.refl _ _
  have HOO := Lib.hid hO
  clear hO
  go_wp2_with (first | (first | (refine wpList_load20 34 Try.underlying34 (by kernel_rfl) rfl (by rfl) _ rfl rfl (by assumption) (by rfl) (by rfl) (by rfl) (by rfl) (by rfl) (by rfl) (by rfl) (by rfl) (by rfl) (by rfl) (by rfl) (by rfl) (by rfl) (by rfl) (by rfl) (by rfl) (by rfl) (by rfl) (by rfl) (by rfl) ?_) | (refine wpList_storeW 34 (by rfl) _ _ rfl rfl hk0 rfl (by kernel_rfl) (by rfl) (by rfl) ?_; intro ws hkx hos; (try clear hgx); replace hB := below_store hB hos (by omega); (try replace hk1 := hk1.out hos (not_one (by omega))); (try replace hk2 := hk2.out hos (not_one (by omega))); replace hk0 := hkx; clear hkx; (first | replace ho0 := Ow.out ho0 hos (by omega) | replace ho0 := StOw.out ho0 hos (by omega) | replace ho0 := StOw.outN ho0 hos (by assumption) | skip); (try replace hC := below_store hC hos (by omega)); clear hos) | (refine wpList_storeW 34 (by rfl) _ _ rfl rfl hk1 rfl (by kernel_rfl) (by rfl) (by rfl) ?_; intro ws hkx hos; (try clear hgx); replace hB := below_store hB hos (by omega); (try replace hk0 := hk0.out hos (not_one (by omega))); (try replace hk2 := hk2.out hos (not_one (by omega))); replace hk1 := hkx; clear hkx; (first | replace ho0 := Ow.out ho0 hos (by omega) | replace ho0 := StOw.out ho0 hos (by omega) | replace ho0 := StOw.outN ho0 hos (by assumption) | skip); (try replace hC := below_store hC hos (by omega)); clear hos) | (refine wpList_storeW 34 (by rfl) _ _ rfl rfl hk2 rfl (by kernel_rfl) (by rfl) (by rfl) ?_; intro ws hkx hos; (try clear hgx); replace hB := below_store hB hos (by omega); (try replace hk0 := hk0.out hos (not_one (by omega))); (try replace hk1 := hk1.out hos (not_one (by omega))); replace hk2 := hkx; clear hkx; (first | replace ho0 := Ow.out ho0 hos (by omega) | replace ho0 := StOw.out ho0 hos (by omega) | replace ho0 := StOw.outN ho0 hos (by assumption) | skip); (try replace hC := below_store hC hos (by omega)); clear hos) | (refine wpList_load1 31 Try.underlying31 rfl (by rfl) _ rfl rfl (by assumption) (by rfl) ?_) | (refine wpList_store1 31 (by rfl) _ _ rfl rfl hk0 rfl rfl (by kernel_rfl) rfl (by simp only [List.length_set, List.length_cons, List.length_nil]; omega) ?_; intro ws hkx hos; (try clear hgx); replace hB := below_store hB hos (by omega); (try replace hk1 := hk1.out hos (not_one (by omega))); (try replace hk2 := hk2.out hos (not_one (by omega))); replace hk0 := hkx; clear hkx; (first | replace ho0 := Ow.out ho0 hos (by omega) | replace ho0 := StOw.out ho0 hos (by omega) | replace ho0 := StOw.outN ho0 hos (by assumption) | skip); (try replace hC := below_store hC hos (by omega)); clear hos) | (refine wpList_store1 31 (by rfl) _ _ rfl rfl hk1 rfl rfl (by kernel_rfl) rfl (by simp only [List.length_set, List.length_cons, List.length_nil]; omega) ?_; intro ws hkx hos; (try clear hgx); replace hB := below_store hB hos (by omega); (try replace hk0 := hk0.out hos (not_one (by omega))); (try replace hk2 := hk2.out hos (not_one (by omega))); replace hk1 := hkx; clear hkx; (first | replace ho0 := Ow.out ho0 hos (by omega) | replace ho0 := StOw.out ho0 hos (by omega) | replace ho0 := StOw.outN ho0 hos (by assumption) | skip); (try replace hC := below_store hC hos (by omega)); clear hos) | (refine wpList_store1 31 (by rfl) _ _ rfl rfl hk2 rfl rfl (by kernel_rfl) rfl (by simp only [List.length_set, List.length_cons, List.length_nil]; omega) ?_; intro ws hkx hos; (try clear hgx); replace hB := below_store hB hos (by omega); (try replace hk0 := hk0.out hos (not_one (by omega))); (try replace hk1 := hk1.out hos (not_one (by omega))); replace hk2 := hkx; clear hkx; (first | replace ho0 := Ow.out ho0 hos (by omega) | replace ho0 := StOw.out ho0 hos (by omega) | replace ho0 := StOw.outN ho0 hos (by assumption) | skip); (try replace hC := below_store hC hos (by omega)); clear hos) | (refine wpList_allocB 34 (by rfl) rfl (fun W => Try.zeroValue34 W) (by rfl) ?_; intro bn2 wn hbn hk2 hgn hzn; have hbl2_0 := hbn ▸ hk0.lt; have hbl2_1 := hbn ▸ hk1.lt; (try clear hgx); have hbB2 : w.heap.size ≤ bn2 := (by rw [hbn]; exact hB.size); replace hB := kept_trans hB hgn; replace hk0 := hk0.kept hgn; replace hk1 := hk1.kept hgn; (try replace hC := kept_trans hC hgn); have hbz2 := Nat.le_of_eq hbn.symm; (first | replace ho0 := Ow.kept ho0 hgn | replace ho0 := StOw.kept ho0 hgn | skip); clear hgn hbn)) | (go_at_fn fn; refine (HP.out ws (w.heap.size + 2) g s.th.length c6 s.th n hB (by omega) hn (ow_mono (HOO.out.kept hC).th hVb)).mono ?_; rintro e wf ⟨rfl, hT, hOut⟩; have ho0 := StOw.setT ((HOO.out.kept hC).mono hVb) rfl hT hOut; replace hk1 := hk1.out hOut (not_one (by omega)); replace hk2 := hk2.out hOut (not_one (by omega)); replace hB := below_store hB hOut (by omega); clear hk0 hT hOut hC))
  refine ret_cell Try.results27 rfl hk1 Try.underlying34 rfl st_size rfl ?_
  refine ⟨⟨q1, c1, q2, c2, q3, c3, q4, c4, q5, c5, some ⟨g, 0, none⟩, c6, q7, c7⟩, ?_, StOw.mono ho0 (Nat.le_add_right _ _), hB⟩
  simp only [St.setTh, List.length_set]
end Go.Proofs.Ytbbfdaehaiimiaa
