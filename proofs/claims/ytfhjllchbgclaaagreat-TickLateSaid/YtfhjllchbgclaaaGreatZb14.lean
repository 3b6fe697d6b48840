/- Texts merged: FxQ, RgmQ, RcHQ, RcUQ, StepHQ, StepPQ, StepCQ, StepSQ, StepRQ, StepOQ, TkOQ, Tk1Q. -/
import Derived.Test.YtfhjllchbgclaaaGreatZb4
import Derived.Test.YtfhjllchbgclaaaGreatZb6
import Derived.Test.YtfhjllchbgclaaaGreatZb13
import Derived.Test.YtfhjllchbgclaaaGreatZb12
import Derived.Test.YtfhjllchbgclaaaGreatZb10
/- A region that draws its order, stores into boxes of its own among what may come in whatever order: by a list of facts, kept over a relation R between worlds (OutG: what was there is kept but for these blocks, and for them G holds as soon as they change). -/
namespace Go.Proofs.YtfhjllchbgclaaaGreat
set_option linter.unusedVariables false
set_option linter.unusedSimpArgs false
open Go.RowKit
/-- What is known of a value, kept over R. -/
structure KX (R : World → World → Prop) where
  p : Value → World → Prop
  k : ∀ {v : Value} {W W' : World}, p v W → R W W' → p v W'
def KX.eq (R : World → World → Prop) (u : Value) : KX R := ⟨fun v _ => v = u, fun h _ => h⟩
def KX.tt (R : World → World → Prop) : KX R := ⟨fun _ _ => True, fun _ _ => trivial⟩
def FX (R : World → World → Prop) (Fs : List (KX R)) (i : Nat) (v : Value) (W : World) : Prop := (Fs.getD i (KX.tt R)).p v W
structure FactsX (R : World → World → Prop) (D : List (Option Nat)) (F : Nat → Value → World → Prop) (a : Act) (w : World) (done : Nat → Bool) (b : Act) (W : World) : Prop where
  kept : R w W
  defers : b.defers = a.defers
  size : b.tmps.size = a.tmps.size
  rest : ∀ t, some t ∉ D → b.tmps[t]? = a.tmps[t]?
  fact : ∀ i d, D[i]? = some d → done i = true → ∃ v, (∀ t, d = some t → b.tmps[t]? = some v) ∧ F i v W
theorem FactsX.did {R : World → World → Prop} {D : List (Option Nat)} {F : Nat → Value → World → Prop} {a b : Act} {w W : World} {done : Nat → Bool} (h : FactsX R D F a w done b W) (i : Nat) (hi : D[i]? = some none) (hd : done i = true) : ∃ v, F i v W := by
  obtain ⟨v, _, hF⟩ := h.fact i _ hi hd
  exact ⟨v, hF⟩
theorem FactsX.lit {R : World → World → Prop} {D : List (Option Nat)} {F : Nat → Value → World → Prop} {a b : Act} {w W : World} {done : Nat → Bool} (h : FactsX R D F a w done b W) {n : Nat} (hn : a.tmps.size = n) (hd : a.defers = []) :
    ∃ f : Nat → Value, b = ⟨(tab f n []).toArray, []⟩ ∧ ∀ t, b.tmps.getD t undef = f t :=
  ⟨fun t => b.tmps.getD t undef, by rw [tab_eq, List.append_nil]; exact act_lit (h.size.trans hn) (h.defers.trans hd), fun _ => rfl⟩
/-- No slot twice. -/
def onceB (D : List (Option Nat)) : Bool := (List.range D.length).all fun i => (List.range D.length).all fun j => i == j || D.getD i none == none || !(D.getD i none == D.getD j none)
theorem once_spec {D : List (Option Nat)} (h : onceB D = true) {i j d : Nat} (hi : D[i]? = some (some d)) (hj : D[j]? = some (some d)) : i = j := by
  have hil := (List.getElem?_eq_some_iff.1 hi).1
  have hjl := (List.getElem?_eq_some_iff.1 hj).1
  have h1 := List.all_eq_true.1 (List.all_eq_true.1 h i (List.mem_range.2 hil)) j (List.mem_range.2 hjl)
  simpa [List.getD_eq_getElem?_getD, hi, hj] using h1
section
variable {P : Program} {Q : Exit → Act → World → Prop}
end
/-- What was there is kept but for these blocks; if they have changed, G holds. -/
def OutG (X : List Nat) (G : World → Prop) (W W' : World) : Prop := Out X W W' ∧ (Below W.heap.size W W' ∨ G W')
theorem OutG.of {X : List Nat} {G : World → Prop} {W W' : World} (h : Below W.heap.size W W') : OutG X G W W' := ⟨Out.of_kept h, .inl h⟩
theorem OutG.trans {X : List Nat} {G : World → Prop} (hG : ∀ {W W' : World}, G W → Below W.heap.size W W' → G W') {W1 W2 W3 : World} (h : OutG X G W1 W2) (k : OutG X G W2 W3) : OutG X G W1 W3 := by
  refine ⟨h.1.trans k.1 (fun _ h => .inl h), ?_⟩
  rcases k.2 with k2 | k2
  · rcases h.2 with h2 | h2
    · exact .inl (h2.trans (k2.mono h2.size))
    · exact .inr (hG h2 k2)
  · exact .inr k2
/-- A fact kept but for those blocks. -/
def KX.out {X : List Nat} {G : World → Prop} (p : Value → World → Prop) (k : ∀ {v W W'}, p v W → Out X W W' → p v W') : KX (OutG X G) := ⟨p, fun h hk => k h hk.1⟩
def KX.here {X : List Nat} {G : World → Prop} (hG : ∀ {W W' : World}, G W → Below W.heap.size W W' → G W') : KX (OutG X G) := ⟨fun _ W => G W, fun h hk => by rcases hk.2 with h2 | h2; (exact hG h h2); exact h2⟩
end Go.Proofs.YtfhjllchbgclaaaGreat

/- A region that draws its order and fills a map: its rows come in whatever order; a fact on each value that is handed back, kept. -/
namespace Go.Proofs.YtfhjllchbgclaaaGreat
set_option linter.unusedVariables false
set_option linter.unusedSimpArgs false
open Go.RowKit
/-- All was there is kept below N; of what lies above, whatever is no map. -/
structure Rm (N : Nat) (W W' : World) : Prop where
  tape : W'.tape = W.tape
  os : W'.os = W.os
  output : W'.output = W.output
  size : W.heap.size ≤ W'.heap.size
  low : ∀ g : Nat, g < N → W'.heap[g]? = W.heap[g]?
  cels : ∀ (g : Nat) (arr : Array Value) (ty : TypeId) (fz : Nat × Nat), W.heap[g]? = some (.cells arr ty fz) → W'.heap[g]? = W.heap[g]?
theorem Rm.of {N : Nat} {W W' : World} (h : Below W.heap.size W W') (hN : N ≤ W.heap.size) : Rm N W W' :=
  ⟨h.tape, h.os, h.output, h.size, fun g hg => h.block g (by omega), fun g arr ty fz hg => h.block g (Array.getElem?_eq_some_iff.1 hg).1⟩
theorem Rm.trans {N : Nat} {A B C : World} (h : Rm N A B) (k : Rm N B C) : Rm N A C :=
  ⟨k.tape.trans h.tape, k.os.trans h.os, k.output.trans h.output, Nat.le_trans h.size k.size, fun g hg => (k.low g hg).trans (h.low g hg), fun g arr ty fz hg => (k.cels g arr ty fz ((h.cels g arr ty fz hg).trans hg)).trans (h.cels g arr ty fz hg)⟩
theorem Rm.kept {N : Nat} {W W' : World} (h : Rm N W W') (hN : W.heap.size = N) : Kept W W' := { tape := h.tape, os := h.os, output := h.output, size := h.size, block := fun g hg => h.low g (by omega) }
/-- What is known once some are done. -/
structure FactsM (N : Nat) (D : List (Option Nat)) (F : Nat → Value → World → Prop) (a : Act) (w : World) (done : Nat → Bool) (b : Act) (W : World) : Prop where
  kept : Rm N w W
  defers : b.defers = a.defers
  size : b.tmps.size = a.tmps.size
  rest : ∀ t, some t ∉ D → b.tmps[t]? = a.tmps[t]?
  fact : ∀ i d, D[i]? = some d → done i = true → ∃ v, (∀ t, d = some t → b.tmps[t]? = some v) ∧ F i v W
/-- The map, once some rows are laid: a row is the operation that lays it, its key, the operation that its element comes from. -/
structure MapM (N : Nat) (F : Nat → Value → World → Prop) (ins : List (Nat × Int × Nat)) (dm : Nat) (done : Nat → Bool) (b : Act) (W : World) (mb : Nat) (l : List (Int × Value)) : Prop where
  here : b.tmps[dm]? = some (.map (some mb))
  ge : N ≤ mb
  map : IMap W mb l
  nodup : (l.map (·.1)).Nodup
  from_ : ∀ d ∈ l, ∃ r ∈ ins, done r.1 = true ∧ d.1 = r.2.1 ∧ F r.2.2 d.2 W
  all : ∀ r ∈ ins, done r.1 = true → ∃ d ∈ l, d.1 = r.2.1
theorem getD_set_self' {listed : Array Bool} {i : Nat} (h : i < listed.size) : (listed.setIfInBounds i true).getD i false = true := by simp [Array.getD, h]
theorem getD_set_other' {listed : Array Bool} {i j : Nat} (h : j ≠ i) : (listed.setIfInBounds i true).getD j false = listed.getD j false := by
  by_cases hj : j < listed.size
  · simp [Array.getD, hj, Array.getElem_setIfInBounds, Ne.symm h]
  · simp [Array.getD, hj]
section
variable {P : Program} {Q : Exit → Act → World → Prop} {mty kt et : TypeId}
theorem wp_region_mp {id : Nat} {a : Act} {w : World} {l : List Oper} (N n : Nat) (D : List (Option Nat)) (F : Nat → Value → World → Prop) (dm : Nat) (ins : List (Nat × Int × Nat)) (hNw : w.heap.size = N)
    (hu : P.underlying mty = some (.map kt et)) (hd : P.underlying kt = some (.int .i64))
    (hm : P.follows .mixedOrders = true) (ha : acyc l = true) (htl : tailB l n = true) (hn : n ≤ l.length) (hD : (l.take n).map (·.dst) = D) (hN : onceB D = true) (hsz : ∀ d, some d ∈ D → d < a.tmps.size)
    (hg : (l.take n).all (fun o => o.guard.isNone) = true) (hmono : ∀ i v W W', F i v W → Rm N W W' → F i v W')
    (hmk : ∃ o, l[0]? = some o ∧ o.op = .makeMap mty none ∧ o.dst = some dm) (hF0 : ∀ v W, F 0 v W)
    (hins : ∀ r ∈ ins, r.1 < n ∧ r.1 ≠ 0 ∧ ∃ o d, l[r.1]? = some o ∧ o.dst = none ∧ o.op = .insert mty (.tmp dm) (.const (.int .i64 r.2.1)) (.tmp d) ∧ D[r.2.2]? = some (some d) ∧ r.2.2 < n ∧ waitB l r.1 0 = true ∧ waitB l r.1 r.2.2 = true ∧ ∀ v W, F r.1 v W)
    (hk1 : (ins.map (·.1)).Nodup) (hk2 : (ins.map (·.2.1)).Nodup)
    (hstep : ∀ i o, l[i]? = some o → i < n → i ≠ 0 → (∀ r ∈ ins, r.1 ≠ i) → ∀ b W, FactsM N D F a w (fun j => o.after.toList.any fun e => Region.binds .any e && e.on == j) b W →
      ∀ K : Act → World → Prop, (∀ v W', F i v W' → Below W.heap.size W W' → K (b.put o.dst v) W') → o.wp P b W K Q)
    (hend : ∀ b W mb m, FactsM N D F a w (fun _ => true) b W → MapM N F ins dm (fun _ => true) b W mb m → wpList P l.toArray Q (l.drop n) b W) (h0n : 0 < n) : (Code.region id l.toArray true).wp P Q a w := by
  have hln : (l.take n).length = n := by simp; omega
  have hlen : D.length = n := by rw [← hD, List.length_map, hln]
  have htk : ∀ {i : Nat}, i < n → (l.take n)[i]? = l[i]? := fun hi => List.getElem?_take_of_lt hi
  have hdst : ∀ (i : Nat) o, i < n → l[i]? = some o → D[i]? = some o.dst := fun i o hin hi => by
    rw [← hD, List.getElem?_map, htk hin, hi]; rfl
  have hinj : ∀ r ∈ ins, ∀ r' ∈ ins, r.1 = r'.1 → r = r' := fun r hr r' hr' e => by
    obtain ⟨i, hi⟩ := List.getElem?_of_mem hr
    obtain ⟨j, hj⟩ := List.getElem?_of_mem hr'
    have e1 : (ins.map (·.1))[i]? = some r.1 := by simp [hi]
    have e2 : (ins.map (·.1))[j]? = some r.1 := by simp [hj, e]
    have : i = j := (List.getElem?_inj (List.getElem?_eq_some_iff.1 e1).1 hk1).1 (e1.trans e2.symm)
    subst this
    rw [hi] at hj; exact Option.some.inj hj
  have hinj2 : ∀ r ∈ ins, ∀ r' ∈ ins, r.2.1 = r'.2.1 → r = r' := fun r hr r' hr' e => by
    obtain ⟨i, hi⟩ := List.getElem?_of_mem hr
    obtain ⟨j, hj⟩ := List.getElem?_of_mem hr'
    have e1 : (ins.map (·.2.1))[i]? = some r.2.1 := by simp [hi]
    have e2 : (ins.map (·.2.1))[j]? = some r.2.1 := by simp [hj, e]
    have : i = j := (List.getElem?_inj (List.getElem?_eq_some_iff.1 e1).1 hk2).1 (e1.trans e2.symm)
    subst this
    rw [hi] at hj; exact Option.some.inj hj
  refine wp_region_inv (fun listed b W => Closed l listed ∧ (((∀ i, n ≤ i → i < l.length → listed.getD i false = false) ∧ FactsM N D F a w (fun i => decide (i < n) && listed.getD i false) b W ∧
      (listed.getD 0 false = true → ∃ mb m, MapM N F ins dm (fun i => listed.getD i false) b W mb m) ∧ (listed.getD 0 false = false → ∀ r ∈ ins, listed.getD r.1 false = false)) ∨
      ∃ m, n < m ∧ (∀ i, i < l.length → listed.getD i false = decide (i < m)) ∧ wpList P l.toArray Q (l.drop m) b W)) hm ha ?_ ?_ ?_
  · refine ⟨fun k o hk hl => by
      have : k < l.length := (List.getElem?_eq_some_iff.1 hk).1
      simp [Array.getD, this] at hl, .inl ⟨fun i _ hi => ?_, ⟨⟨rfl, rfl, rfl, Nat.le_refl _, fun _ _ => rfl, fun _ _ _ _ _ => rfl⟩, rfl, rfl, fun _ _ => rfl, fun i d hi h => ?_⟩, fun h => ?_, fun _ r hr => ?_⟩⟩
    · simp [Array.getD, hi]
    · simp only [Bool.and_eq_true, decide_eq_true_eq] at h
      have : i < l.length := by omega
      simp [Array.getD, this] at h
    · have : 0 < l.length := by omega
      simp [Array.getD, this] at h
    · have : r.1 < l.length := by have := (hins r hr).1; omega
      simp [Array.getD, this]
  · intro listed b W i o hs hI hi hnl hw
    have hil : i < l.length := (List.getElem?_eq_some_iff.1 hi).1
    have hnl' : listed.getD i false = false := by
      have h1 : i < listed.size := by omega
      simpa [Array.getD, h1] using hnl
    obtain ⟨hC, hI⟩ := hI
    have hC' := hC.set hi hw
    have hset : ∀ j, j ≠ i → (listed.setIfInBounds i true).getD j false = listed.getD j false := fun j hj => getD_set_other' hj
    have hself : (listed.setIfInBounds i true).getD i false = true := getD_set_self' (by omega)
    rcases hI with ⟨hT, hF, hM, hM0⟩ | ⟨m, hnm, hL, hwp⟩
    · by_cases hin : i < n
      · have hdo := hdst i o hin hi
        have hgo : o.guard = none := by
          have := List.all_eq_true.1 hg o (List.mem_of_getElem? ((htk hin).trans hi))
          simpa using this
        have hTn : ∀ j, n ≤ j → j < l.length → (listed.setIfInBounds i true).getD j false = false := fun j hj1 hj2 => by
          rw [hset j (by omega)]; exact hT j hj1 hj2
        -- the facts behind one more
        have hnext : ∀ v W', F i v W' → Rm N W W' → FactsM N D F a w (fun i' => decide (i' < n) && (listed.setIfInBounds i true).getD i' false) (b.put o.dst v) W' := fun v W' hFv hB => by
          have hother : ∀ j dj, D[j]? = some dj → (decide (j < n) && (listed.setIfInBounds i true).getD j false) = true → j ≠ i → ∃ u, (∀ t, dj = some t → b.tmps[t]? = some u) ∧ F j u W' := fun j dj hj hdone hji => by
            simp only [Bool.and_eq_true, decide_eq_true_eq] at hdone
            have h4 : listed.getD j false = true := by rw [← hset j hji]; exact hdone.2
            obtain ⟨u, hu, hFu⟩ := hF.fact j dj hj (by simp [h4, hdone.1])
            exact ⟨u, hu, hmono _ _ _ _ hFu hB⟩
          cases hod : o.dst with
          | none =>
            rw [hod] at hdo
            refine ⟨hF.kept.trans hB, hF.defers, hF.size, hF.rest, fun j dj hj hdone => ?_⟩
            by_cases hji : j = i
            · subst hji
              rw [hdo] at hj; cases hj
              exact ⟨v, fun t ht => (by cases ht), hFv⟩
            · exact hother j dj hj hdone hji
          | some d =>
            rw [hod] at hdo
            have hdm : some d ∈ D := List.mem_of_getElem? hdo
            have hdb : d < b.tmps.size := by rw [hF.size]; exact hsz d hdm
            refine ⟨hF.kept.trans hB, hF.defers, by simpa [Act.put] using hF.size, fun t ht => ?_, fun j dj hj hdone => ?_⟩
            · have hne : t ≠ d := fun h => ht (h ▸ hdm)
              rw [← hF.rest t ht]
              simp [Act.put, Array.getElem?_setIfInBounds, Ne.symm hne]
            · by_cases hji : j = i
              · subst hji
                rw [hdo] at hj; cases hj
                exact ⟨v, fun t ht => (by cases ht; simp [Act.put, hdb]), hFv⟩
              · obtain ⟨u, hu, hFu⟩ := hother j dj hj hdone hji
                refine ⟨u, fun t ht => ?_, hFu⟩
                subst ht
                have hne : t ≠ d := fun h => hji (by subst h; exact once_spec hN hj hdo)
                simpa [Act.put, Array.getElem?_setIfInBounds, Ne.symm hne] using hu t rfl
        obtain ⟨om, hom, hopm, hdstm⟩ := hmk
        have hD0 : D[0]? = some (some dm) := by rw [← hdstm]; exact hdst 0 om h0n hom
        have hNW : N ≤ W.heap.size := by rw [← hNw]; exact hF.kept.size
        have hi' : l.toArray[i]? = some o := by simpa using hi
        have wpo : o.wp P b W (fun b' W' => Closed l (listed.setIfInBounds i true) ∧ (((∀ j, n ≤ j → j < l.length → (listed.setIfInBounds i true).getD j false = false) ∧ FactsM N D F a w (fun j => decide (j < n) && (listed.setIfInBounds i true).getD j false) b' W' ∧
            ((listed.setIfInBounds i true).getD 0 false = true → ∃ mb m, MapM N F ins dm (fun j => (listed.setIfInBounds i true).getD j false) b' W' mb m) ∧ ((listed.setIfInBounds i true).getD 0 false = false → ∀ r ∈ ins, (listed.setIfInBounds i true).getD r.1 false = false)) ∨
            ∃ m, n < m ∧ (∀ j, j < l.length → (listed.setIfInBounds i true).getD j false = decide (j < m)) ∧ wpList P l.toArray Q (l.drop m) b' W')) Q := by
          by_cases hi0 : i = 0
          · subst hi0
            obtain rfl : om = o := Option.some.inj (hom.symm.trans hi)
            have hrun : (execOp b.eval om).run P W = .ok (.value (.map (some W.heap.size))) (W.alloc (.map #[] 0)) := by simp [execOp, hopm, run_makeMap]
            unfold Oper.wp
            rw [hrun]
            have hB : Rm N W (W.alloc (.map #[] 0)) := Rm.of ((show Below W.heap.size W W from ⟨rfl, rfl, rfl, Nat.le_refl _, fun _ _ => rfl⟩).alloc (Nat.le_refl _) _) hNW
            have hnx := hnext (.map (some W.heap.size)) _ (hF0 _ _) hB
            refine ⟨hC', .inl ⟨hTn, hnx, fun _ => ⟨W.heap.size, [], ⟨?_, hNW, IMap.made W, by simp, fun d hd => (by cases hd), fun r hr hdone => ?_⟩⟩, fun h => ?_⟩⟩
            · obtain ⟨v, hv, -⟩ := hnx.fact 0 _ hD0 (by simp [h0n, hself])
              rw [hdstm]
              have hdb : dm < b.tmps.size := by rw [hF.size]; exact hsz dm (List.mem_of_getElem? hD0)
              simp [Act.put, hdb]
            · rw [hset r.1 (hins r hr).2.1, hM0 hnl' r hr] at hdone; cases hdone
            · rw [hself] at h; cases h
          · have h00 : (listed.setIfInBounds i true).getD 0 false = listed.getD 0 false := hset 0 (Ne.symm hi0)
            by_cases hr : ∃ r ∈ ins, r.1 = i
            · obtain ⟨r, hr, rfl⟩ := hr
              obtain ⟨-, -, o', d, ho', hdn, hop, hDs, hsn, hw0, hws, hFi⟩ := hins r hr
              obtain rfl : o' = o := Option.some.inj (ho'.symm.trans hi)
              obtain ⟨e0, he0, hb0, hon0⟩ := waitB_spec hw0 hi
              obtain ⟨e1, he1, hb1, hon1⟩ := waitB_spec hws hi
              have hd0 : listed.getD 0 false = true := hon0 ▸ hw e0 he0 hb0
              have hds : listed.getD r.2.2 false = true := hon1 ▸ hw e1 he1 hb1
              obtain ⟨mb, m, hMM⟩ := hM hd0
              obtain ⟨v, hv, hFv⟩ := hF.fact r.2.2 _ hDs (by simp [hsn, hds])
              have hv' := hv d rfl
              have hnk : ∀ d' ∈ m, d'.1 ≠ r.2.1 := fun d' hd' e => by
                obtain ⟨r', hr', hdone, hk, -⟩ := hMM.from_ d' hd'
                have := hinj2 r' hr' r hr (hk.symm.trans e)
                subst this
                rw [hnl'] at hdone; cases hdone
              obtain ⟨es, ck, hrun, hmap, hoth, -⟩ := imap_put2 (P := P) hu hd hMM.map r.2.1 v hnk
              have hrun' : (execOp b.eval o').run P W = .ok .skip { W with heap := W.heap.setIfInBounds mb (.map es ck) } := by
                have h1 : b.eval (.tmp dm) = .map (some mb) := by simp [Act.eval, hMM.here]
                have h2 : b.eval (.tmp d) = v := by simp [Act.eval, hv']
                have h3 : b.eval (.const (.int .i64 r.2.1)) = .int .i64 r.2.1 := rfl
                simp [execOp, hop, h1, h2, h3, hrun]
              have hmbl := hMM.map.lt
              have hB : Rm N W { W with heap := W.heap.setIfInBounds mb (.map es ck) } := ⟨rfl, rfl, rfl, by simp, fun g hg' => hoth g (by have := hMM.ge; omega), fun g arr ty fz hgc => by
                have hne : g ≠ mb := fun e => by
                  subst e
                  obtain ⟨es, ck, hm1⟩ := hMM.map
                  rw [hm1.obj] at hgc; cases hgc
                exact hoth g hne⟩
              unfold Oper.wp
              rw [hrun']
              have hnx := hnext undef _ (hFi _ _) hB
              refine ⟨hC', .inl ⟨hTn, hnx, fun _ => ⟨mb, m ++ [(r.2.1, v)], ⟨by show (b.put o'.dst undef).tmps[dm]? = _; rw [hdn]; exact hMM.here, hMM.ge, hmap, ?_, fun d' hd' => ?_, fun r' hr' hdone => ?_⟩⟩, fun h => ?_⟩⟩
              · rw [List.map_append]
                refine List.nodup_append.2 ⟨hMM.nodup, by simp, fun p hp q hq => ?_⟩
                simp only [List.map_cons, List.map_nil, List.mem_singleton] at hq
                subst hq
                obtain ⟨d', hd', rfl⟩ := List.mem_map.1 hp
                exact hnk d' hd'
              · rcases List.mem_append.1 hd' with hd' | hd'
                · obtain ⟨r', hr', hdone, hk, hFd⟩ := hMM.from_ d' hd'
                  refine ⟨r', hr', ?_, hk, hmono _ _ _ _ hFd hB⟩
                  by_cases e : r'.1 = r.1
                  · rw [e]; exact hself
                  · rw [hset r'.1 e]; exact hdone
                · simp only [List.mem_singleton] at hd'
                  subst hd'
                  exact ⟨r, hr, hself, rfl, hmono _ _ _ _ hFv hB⟩
              · by_cases e : r'.1 = r.1
                · have := hinj r' hr' r hr e
                  subst this
                  exact ⟨(r'.2.1, v), by simp, rfl⟩
                · rw [hset r'.1 e] at hdone
                  obtain ⟨d', hd', hk⟩ := hMM.all r' hr' hdone
                  exact ⟨d', List.mem_append_left _ hd', hk⟩
              · rw [h00, hd0] at h; cases h
            · have hno : ∀ r ∈ ins, r.1 ≠ i := fun r hr' e => hr ⟨r, hr', e⟩
              refine hstep i o hi hin hi0 hno b W ⟨hF.kept, hF.defers, hF.size, hF.rest, fun j dj hj hdone => by
                obtain ⟨e, he, h2⟩ := List.any_eq_true.1 hdone
                simp only [Bool.and_eq_true, beq_iff_eq] at h2
                have h3 := hw e (Array.mem_toList_iff.1 he) h2.1
                rw [h2.2] at h3
                have hjl : j < n := by rw [← hlen]; exact (List.getElem?_eq_some_iff.1 hj).1
                exact hF.fact j dj hj (by simp [h3, hjl])⟩ _ fun v W' hFv hBl => ?_
              have hB := Rm.of hBl hNW
              have hnx := hnext v W' hFv hB
              refine ⟨hC', .inl ⟨hTn, hnx, fun h => ?_, fun h r hr' => ?_⟩⟩
              · rw [h00] at h
                obtain ⟨mb, m, hMM⟩ := hM h
                refine ⟨mb, m, ?_, hMM.ge, hMM.map.kept hBl, hMM.nodup, fun d' hd' => ?_, fun r' hr' hdone => ?_⟩
                · cases hod : o.dst with
                  | none => exact hMM.here
                  | some d =>
                    have hne : d ≠ dm := fun e => by
                      subst e
                      rw [hod] at hdo
                      exact hi0 (once_spec hN hdo hD0)
                    simpa [Act.put, Array.getElem?_setIfInBounds, hne] using hMM.here
                · obtain ⟨r', hr', hdone, hk, hFd⟩ := hMM.from_ d' hd'
                  exact ⟨r', hr', by rw [hset r'.1 (hno r' hr')]; exact hdone, hk, hmono _ _ _ _ hFd hB⟩
                · rw [hset r'.1 (hno r' hr')] at hdone
                  exact hMM.all r' hr' hdone
              · rw [h00] at h
                rw [hset r.1 (hno r hr')]
                exact hM0 h r hr'
        unfold wpOp
        simp only [hi', Region.wanted, hgo, if_true]
        left
        exact wpo
      · have hall : ∀ j, j < i → listed.getD j false = true := fun j hj => tail_waits' htl hi (by omega) hj hC hw
        have hie : i = n := by
          rcases Nat.lt_or_ge n i with h | h
          · have h1 := hall n h
            rw [hT n (Nat.le_refl _) (by omega)] at h1
            cases h1
          · omega
        subst hie
        obtain ⟨mb, m, hMM⟩ := hM (hall 0 h0n)
        have h1 := hend b W mb m ⟨hF.kept, hF.defers, hF.size, hF.rest, fun j dj hj _ => hF.fact j dj hj (by
          have hjl : j < i := by rw [← hlen]; exact (List.getElem?_eq_some_iff.1 hj).1
          simp [hjl, hall j hjl])⟩ ⟨hMM.here, hMM.ge, hMM.map, hMM.nodup, fun d hd' => let ⟨r, hr, _, hk, hFd⟩ := hMM.from_ d hd'; ⟨r, hr, rfl, hk, hFd⟩, fun r hr _ => hMM.all r hr (hall r.1 (hins r hr).1)⟩
        have hdr : l.drop i = o :: l.drop (i + 1) := by
          rw [List.drop_eq_getElem_cons hil]
          congr 1
          exact (List.getElem?_eq_some_iff.1 hi).2
        rw [hdr] at h1
        refine wpOp_mono (fun a' w' h' => ⟨hC', .inr ⟨i + 1, by omega, fun j hj => ?_, h'⟩⟩) (wpOp_of_list hi h1)
        have hjs : j < listed.size := by omega
        by_cases hji : j = i
        · subst hji; simp [Array.getD, hjs]
        · by_cases hlt : j < i
          · have h4 := hall j hlt
            have : j < i + 1 := by omega
            simpa [Array.getD, hjs, Array.getElem_setIfInBounds, Ne.symm hji, this] using h4
          · have h4 := hT j (by omega) hj
            have : ¬ j < i + 1 := by omega
            simpa [Array.getD, hjs, Array.getElem_setIfInBounds, Ne.symm hji, this] using h4
    · have hin : m ≤ i := by
        have := hL i hil
        rw [hnl'] at this
        simpa using this.symm
      have hie : i = m := by
        rcases Nat.lt_or_ge m i with h | h
        · have h1 := tail_waits' htl hi (by omega) h hC hw
          rw [hL m (by omega)] at h1
          simp at h1
        · omega
      subst hie
      have hdr : l.drop i = o :: l.drop (i + 1) := by
        rw [List.drop_eq_getElem_cons hil]
        congr 1
        exact (List.getElem?_eq_some_iff.1 hi).2
      rw [hdr] at hwp
      refine wpOp_mono (fun a' w' h' => ⟨hC', .inr ⟨i + 1, by omega, fun j hj => ?_, h'⟩⟩) (wpOp_of_list hi hwp)
      have hjs : j < listed.size := by omega
      have h4 := hL j hj
      by_cases hji : j = i
      · subst hji; simp [Array.getD, hjs]
      · have h5 : decide (j < i + 1) = decide (j < i) := by
          by_cases h : j < i <;> simp [h] <;> omega
        rw [h5]
        simpa [Array.getD, hjs, Array.getElem_setIfInBounds, Ne.symm hji] using h4
  · intro b W hI
    rcases hI.2 with ⟨hT, hF, hM, -⟩ | ⟨m, hnm, hL, hwp⟩
    · have hnl : n = l.length := by
        rcases Nat.lt_or_ge n l.length with h | h
        · have := hT n (Nat.le_refl _) h
          simp [Array.getD, h] at this
        · omega
      have hall : ∀ j, j < l.length → (Array.replicate l.length true).getD j false = true := fun j hj => by simp [Array.getD, hj]
      obtain ⟨mb, m, hMM⟩ := hM (hall 0 (by omega))
      have h1 := hend b W mb m ⟨hF.kept, hF.defers, hF.size, hF.rest, fun j dj hj _ => hF.fact j dj hj (by
        have hjl : j < n := by rw [← hlen]; exact (List.getElem?_eq_some_iff.1 hj).1
        simp [hjl, hall j (by omega)])⟩ ⟨hMM.here, hMM.ge, hMM.map, hMM.nodup, fun d hd' => let ⟨r, hr, _, hk, hFd⟩ := hMM.from_ d hd'; ⟨r, hr, rfl, hk, hFd⟩, fun r hr _ => hMM.all r hr (hall r.1 (by have := (hins r hr).1; omega))⟩
      rw [hnl, List.drop_length] at h1
      exact h1
    · have hml : l.length ≤ m := by
        rcases Nat.lt_or_ge m l.length with h | h
        · have := hL m h
          simp [Array.getD, h] at this
        · exact h
      rw [List.drop_of_length_le hml] at hwp
      exact hwp
end
end Go.Proofs.YtfhjllchbgclaaaGreat

/- The table of steps is made (in a region that draws its order): its rows, in whatever order, are what they are. -/
namespace Go.Proofs.YtfhjllchbgclaaaGreat
set_option linter.unusedVariables false
set_option linter.unusedSimpArgs false
open Go.RowKit
def rgD : List (Option Nat) := [some 7, some 8, some 9, some 10, some 11, none, some 12, some 13, none, some 14, some 15, none, some 16, some 17, none, some 18, some 19, some 20, some 21, none, some 22, some 23, some 24, some 25, none, some 26, some 27, some 28, some 29, none, some 30, some 31, none, some 32, some 33, none]
def rgIns : List (Nat × Int × Nat) := [(5, 0, 4), (8, 1, 7), (11, 2, 10), (14, 3, 13), (19, 4, 18), (24, 5, 23), (29, 6, 28), (32, 7, 31), (35, 8, 34)]
noncomputable def rgL : List Oper := match regOf Tryz.prog 156 0 with
  | .region _ ops _ => ops.toList
  | _ => []
noncomputable def rgI : Nat := match regOf Tryz.prog 156 0 with
  | .region id _ _ => id
  | _ => 0
theorem rg_is : regOf Tryz.prog 156 0 = .region rgI rgL.toArray true := by kernel_rfl
noncomputable def rgO (i : Nat) : Oper := rgL.getD i ⟨none, .move (.const undef), 0, "", #[], none⟩
/-- A closure on to a step: what it does, its receiver, the step, each in a variable of its own. -/
def CloR (N : Nat) (bp c : Value) (g : Nat) (k : Int) (v : Value) (W : World) : Prop := ∃ (b1 b3 : Nat) (t1 t3 : TypeId), v = .func (.func 175) #[] #[.pointer (some ⟨b1, 0, none⟩), bp, .pointer (some ⟨b3, 0, none⟩)] ∧ N ≤ b1 ∧ N ≤ b3 ∧
  W.heap[b1]? = some (.cells #[.func (.func g) #[c] #[]] t1 (0, 0)) ∧ W.heap[b3]? = some (.cells #[.int .i64 k] t3 (0, 0))
def cloX (N : Nat) (bp c : Value) (g : Nat) (k : Int) : KX (Rm N) := ⟨fun v W => CloR N bp c g k v W, fun ⟨b1, b3, t1, t3, h1, h2, h3, h4, h5⟩ hR => ⟨b1, b3, t1, t3, h1, h2, h3, (hR.cels _ _ _ _ h4).trans h4, (hR.cels _ _ _ _ h5).trans h5⟩⟩
def rgF (N : Nat) (bp c V3 : Value) : List (KX (Rm N)) := [KX.tt _, KX.eq _ V3, KX.eq _ c, KX.eq _ (.func (.func 177) #[c] #[]), cloX N bp c 177 1, KX.tt _, KX.eq _ c, KX.eq _ (.func (.func 178) #[c] #[]), KX.tt _, KX.eq _ c, KX.eq _ (.func (.func 179) #[c] #[]), KX.tt _, KX.eq _ c, KX.eq _ (.func (.func 180) #[c] #[]), KX.tt _, KX.eq _ V3, KX.eq _ c, KX.eq _ (.func (.func 181) #[c] #[]), cloX N bp c 181 6, KX.tt _, KX.eq _ V3, KX.eq _ c, KX.eq _ (.func (.func 182) #[c] #[]), cloX N bp c 182 7, KX.tt _, KX.eq _ V3, KX.eq _ c, KX.eq _ (.func (.func 183) #[c] #[]), cloX N bp c 183 9, KX.tt _, KX.eq _ c, KX.eq _ (.func (.func 184) #[c] #[]), KX.tt _, KX.eq _ c, KX.eq _ (.func (.func 185) #[c] #[]), KX.tt _]
theorem steps1_any (g : Nat) (c p : Value) (k : Int) (w : World) : Calls Tryz.prog 174 #[.func (.func g) #[c] #[], .int .i64 k, p] w fun e w' => e = .returned (.func (.func 175) #[] #[.pointer (some ⟨w.heap.size, 0, none⟩), p, .pointer (some ⟨w.heap.size + 1, 0, none⟩)]) ∧
    w' = (w.alloc (.cells #[.func (.func g) #[c] #[]] 1)).alloc (.cells #[.int .i64 k] 3) := by
  go_enter Tryz.func174, Tryz.ntmps174
  go_wp2
  go_ret
  exact ⟨rfl, rfl⟩
section
variable {P : Program} {Q : Exit → Act → World → Prop}
theorem st_val {o : Oper} {b : Act} {W : World} {K : Act → World → Prop} {v : Value} (hr : (execOp b.eval o).run P W = .ok (.value v) W) (hK : K (b.put o.dst v) W) : o.wp P b W K Q := by unfold Oper.wp; rw [hr]; exact hK
theorem ld1 {o : Oper} {b : Act} {W : World} {t : TypeId} {x : Nat} {g : Nat} {u : Value} (ho : o.op = .load t (.tmp x)) (ht : tyRow P t = some false) (hx : b.tmps[x]? = some (.pointer (some ⟨g, 0, none⟩))) (hu : W.cell? ⟨g, 0, none⟩ = some u) : (execOp b.eval o).run P W = .ok (.value u) W := by
  have h1 : b.eval (.tmp x) = .pointer (some ⟨g, 0, none⟩) := by simp [Act.eval, hx]
  have h2 : (loadVar t ⟨g, 0, none⟩).run P W = .ok u W := by unfold loadVar; simp [Sem.run_bind, run_row ht, hu]
  simp [execOp, ho, h1, Instr.loadAt, Instr.sureAddr, Sem.run_bind, h2]
end
theorem st_clo {Q : Exit → Act → World → Prop} {o : Oper} {b : Act} {W : World} {K : Act → World → Prop} {x y N : Nat} {g : Nat} {k : Int} {c bp V3 : Value} {ats : Array TypeId} (ho : o.op = .call { callee := .value (.tmp x), args := #[.tmp y, .const (.int .i64 k)], argTypes := ats }) (hx : b.tmps[x]? = some V3) (hy : b.tmps[y]? = some (.func (.func g) #[c] #[])) (hV : V3 = .func (.func 174) #[] #[bp]) (hN : N ≤ W.heap.size)
    (hK : ∀ v W', CloR N bp c g k v W' → Below W.heap.size W W' → K (b.put o.dst v) W') : o.wp Tryz.prog b W K Q := by
  have h1 : b.eval (.tmp x) = .func (.func 174) #[] #[bp] := by simp [Act.eval, hx, hV]
  have h2 : b.eval (.tmp y) = .func (.func g) #[c] #[] := by simp [Act.eval, hy]
  have h3 : b.eval (.const (.int .i64 k)) = .int .i64 k := rfl
  have hrun := run_call (P := Tryz.prog) (W := W) (f := b.eval) ho h1 (by kernel_rfl)
  refine upon_enter' hrun ?_
  have e : (#[] ++ #[Operand.tmp y, .const (.int .i64 k)].map b.eval ++ #[bp] : Array Value) = #[.func (.func g) #[c] #[], .int .i64 k, bp] := by simp [h2, h3]
  rw [e]
  refine (steps1_any g c bp k W).mono ?_
  rintro e' W' ⟨rfl, rfl⟩
  have hB : Below W.heap.size W ((W.alloc (.cells #[.func (.func g) #[c] #[]] 1)).alloc (.cells #[.int .i64 k] 3)) := by
    have h0 : Below W.heap.size W (W.alloc (.cells #[.func (.func g) #[c] #[]] 1)) := (show Below W.heap.size W W from ⟨rfl, rfl, rfl, Nat.le_refl _, fun _ _ => rfl⟩).alloc (Nat.le_refl _) _
    exact h0.alloc h0.size _
  have a1 := MapKept.heap_alloc W (.cells #[.func (.func g) #[c] #[]] 1)
  have a2 := MapKept.heap_alloc (W.alloc (.cells #[.func (.func g) #[c] #[]] 1)) (.cells #[.int .i64 k] 3)
  have hsz : (W.alloc (.cells #[.func (.func g) #[c] #[]] 1)).heap.size = W.heap.size + 1 := World.size_alloc _ _
  refine ⟨_, rfl, hK _ _ ⟨W.heap.size, W.heap.size + 1, 1, 3, rfl, hN, by omega, ?_, ?_⟩ hB⟩
  · rw [a2.2 _ (by omega)]; exact a1.1
  · rw [← hsz]; exact a2.1
set_option maxRecDepth 100000 in
theorem rg_ins : ∀ r ∈ rgIns, r.1 < 36 ∧ r.1 ≠ 0 ∧ ∃ o d, rgL[r.1]? = some o ∧ o.dst = none ∧ o.op = .insert 179 (.tmp 7) (.const (.int .i64 r.2.1)) (.tmp d) ∧ rgD[r.2.2]? = some (some d) ∧ r.2.2 < 36 ∧ waitB rgL r.1 0 = true ∧ waitB rgL r.1 r.2.2 = true ∧ ∀ (N : Nat) (bp c V3 v : Value) (W : World), FX (Rm N) (rgF N bp c V3) r.1 v W := by
  intro r hr
  simp only [rgIns, List.mem_cons, List.not_mem_nil, or_false] at hr
  rcases hr with rfl | rfl | rfl | rfl | rfl | rfl | rfl | rfl | rfl
  · exact ⟨by decide, by decide, rgO 5, 11, by kernel_rfl, by kernel_rfl, by kernel_rfl, rfl, by decide, by kernel_rfl, by kernel_rfl, fun _ _ _ _ _ _ => trivial⟩
  · exact ⟨by decide, by decide, rgO 8, 13, by kernel_rfl, by kernel_rfl, by kernel_rfl, rfl, by decide, by kernel_rfl, by kernel_rfl, fun _ _ _ _ _ _ => trivial⟩
  · exact ⟨by decide, by decide, rgO 11, 15, by kernel_rfl, by kernel_rfl, by kernel_rfl, rfl, by decide, by kernel_rfl, by kernel_rfl, fun _ _ _ _ _ _ => trivial⟩
  · exact ⟨by decide, by decide, rgO 14, 17, by kernel_rfl, by kernel_rfl, by kernel_rfl, rfl, by decide, by kernel_rfl, by kernel_rfl, fun _ _ _ _ _ _ => trivial⟩
  · exact ⟨by decide, by decide, rgO 19, 21, by kernel_rfl, by kernel_rfl, by kernel_rfl, rfl, by decide, by kernel_rfl, by kernel_rfl, fun _ _ _ _ _ _ => trivial⟩
  · exact ⟨by decide, by decide, rgO 24, 25, by kernel_rfl, by kernel_rfl, by kernel_rfl, rfl, by decide, by kernel_rfl, by kernel_rfl, fun _ _ _ _ _ _ => trivial⟩
  · exact ⟨by decide, by decide, rgO 29, 29, by kernel_rfl, by kernel_rfl, by kernel_rfl, rfl, by decide, by kernel_rfl, by kernel_rfl, fun _ _ _ _ _ _ => trivial⟩
  · exact ⟨by decide, by decide, rgO 32, 31, by kernel_rfl, by kernel_rfl, by kernel_rfl, rfl, by decide, by kernel_rfl, by kernel_rfl, fun _ _ _ _ _ _ => trivial⟩
  · exact ⟨by decide, by decide, rgO 35, 33, by kernel_rfl, by kernel_rfl, by kernel_rfl, rfl, by decide, by kernel_rfl, by kernel_rfl, fun _ _ _ _ _ _ => trivial⟩
set_option maxRecDepth 100000 in
theorem rg_steps {Q : Exit → Act → World → Prop} {N gb : Nat} {a : Act} {w : World} {bp c V3 : Value} (hN : w.heap.size = N) (ha1 : a.tmps[1]? = some (.pointer (some ⟨gb, 0, none⟩))) (ha3 : a.tmps[3]? = some V3) (hV3 : V3 = .func (.func 174) #[] #[bp]) (hgb : ∃ arr ty, w.heap[gb]? = some (.cells arr ty (0, 0)) ∧ arr[0]? = some c) :
    ∀ i o, rgL[i]? = some o → i < 36 → i ≠ 0 → (∀ r ∈ rgIns, r.1 ≠ i) → ∀ b W, FactsM N rgD (FX (Rm N) (rgF N bp c V3)) a w (fun j => o.after.toList.any fun e => Region.binds .any e && e.on == j) b W →
      ∀ K : Act → World → Prop, (∀ v W', FX (Rm N) (rgF N bp c V3) i v W' → Below W.heap.size W W' → K (b.put o.dst v) W') → o.wp Tryz.prog b W K Q := by
  have h1 : ∀ b : Act, (∀ t, some t ∉ rgD → b.tmps[t]? = a.tmps[t]?) → b.tmps[1]? = some (.pointer (some ⟨gb, 0, none⟩)) := fun b h => (h 1 (by decide)).trans ha1
  have h3 : ∀ b : Act, (∀ t, some t ∉ rgD → b.tmps[t]? = a.tmps[t]?) → b.eval (.tmp 3) = V3 := fun b h => by simp [Act.eval, (h 3 (by decide)).trans ha3]
  have hc : ∀ W, Rm N w W → W.cell? ⟨gb, 0, none⟩ = some c := fun W h => by
    obtain ⟨arr, ty, e1, e2⟩ := hgb
    have := (h.cels _ _ _ _ e1).trans e1
    simp [World.cell?, this, e2]
  intro i o hi hin hi0 hno b W hF K hK
  have hcase : i = 1 ∨ i = 2 ∨ i = 3 ∨ i = 4 ∨ i = 6 ∨ i = 7 ∨ i = 9 ∨ i = 10 ∨ i = 12 ∨ i = 13 ∨ i = 15 ∨ i = 16 ∨ i = 17 ∨ i = 18 ∨ i = 20 ∨ i = 21 ∨ i = 22 ∨ i = 23 ∨ i = 25 ∨ i = 26 ∨ i = 27 ∨ i = 28 ∨ i = 30 ∨ i = 31 ∨ i = 33 ∨ i = 34 := by
    have e := fun r hr => hno r hr
    simp only [rgIns, List.mem_cons, List.not_mem_nil, or_false, forall_eq_or_imp, forall_eq] at e
    omega
  rcases hcase with rfl | rfl | rfl | rfl | rfl | rfl | rfl | rfl | rfl | rfl | rfl | rfl | rfl | rfl | rfl | rfl | rfl | rfl | rfl | rfl | rfl | rfl | rfl | rfl | rfl | rfl
  · obtain rfl : rgO 1 = o := Option.some.inj ((show rgL[1]? = some (rgO 1) by kernel_rfl).symm.trans hi)
    exact st_val (v := V3) (by simp [execOp, show (rgO 1).op = .move (.tmp 3) by kernel_rfl, h3 b hF.rest]) (hK _ _ rfl (Below.refl _ _))
  · obtain rfl : rgO 2 = o := Option.some.inj ((show rgL[2]? = some (rgO 2) by kernel_rfl).symm.trans hi)
    exact st_val (v := c) (ld1 (show (rgO 2).op = .load 176 (.tmp 1) by kernel_rfl) (by kernel_rfl) (h1 b hF.rest) (hc W hF.kept)) (hK _ _ rfl (Below.refl _ _))
  · obtain rfl : rgO 3 = o := Option.some.inj ((show rgL[3]? = some (rgO 3) by kernel_rfl).symm.trans hi)
    obtain ⟨va, hva, hFa⟩ := hF.fact 2 _ (show rgD[2]? = some (some 9) from rfl) (by kernel_rfl)
    have hea := hva _ rfl
    have hFa' : va = c := hFa
    subst hFa'
    exact st_val (v := .func (.func 177) #[va] #[]) (by simp [execOp, show (rgO 3).op = .makeFunc (.func 177) #[.tmp 9] #[] by kernel_rfl, Instr.makeFunc, Act.eval, hea]) (hK _ _ rfl (Below.refl _ _))
  · obtain rfl : rgO 4 = o := Option.some.inj ((show rgL[4]? = some (rgO 4) by kernel_rfl).symm.trans hi)
    obtain ⟨va, hva, hFa⟩ := hF.fact 1 _ (show rgD[1]? = some (some 8) from rfl) (by kernel_rfl)
    have hea := hva _ rfl
    obtain ⟨vb, hvb, hFb⟩ := hF.fact 3 _ (show rgD[3]? = some (some 10) from rfl) (by kernel_rfl)
    have heb := hvb _ rfl
    have hFa' : va = V3 := hFa
    have hFb' : vb = .func (.func 177) #[c] #[] := hFb
    rw [hFa'] at hea
    rw [hFb'] at heb
    exact st_clo (g := 177) (k := 1) (show (rgO 4).op = .call { callee := .value (.tmp 8), args := #[.tmp 10, .const (.int .i64 1)], argTypes := #[1, 3] } by kernel_rfl) hea heb hV3 (hN ▸ hF.kept.size) (fun v W' h => hK v W' h)
  · obtain rfl : rgO 6 = o := Option.some.inj ((show rgL[6]? = some (rgO 6) by kernel_rfl).symm.trans hi)
    exact st_val (v := c) (ld1 (show (rgO 6).op = .load 176 (.tmp 1) by kernel_rfl) (by kernel_rfl) (h1 b hF.rest) (hc W hF.kept)) (hK _ _ rfl (Below.refl _ _))
  · obtain rfl : rgO 7 = o := Option.some.inj ((show rgL[7]? = some (rgO 7) by kernel_rfl).symm.trans hi)
    obtain ⟨va, hva, hFa⟩ := hF.fact 6 _ (show rgD[6]? = some (some 12) from rfl) (by kernel_rfl)
    have hea := hva _ rfl
    have hFa' : va = c := hFa
    subst hFa'
    exact st_val (v := .func (.func 178) #[va] #[]) (by simp [execOp, show (rgO 7).op = .makeFunc (.func 178) #[.tmp 12] #[] by kernel_rfl, Instr.makeFunc, Act.eval, hea]) (hK _ _ rfl (Below.refl _ _))
  · obtain rfl : rgO 9 = o := Option.some.inj ((show rgL[9]? = some (rgO 9) by kernel_rfl).symm.trans hi)
    exact st_val (v := c) (ld1 (show (rgO 9).op = .load 176 (.tmp 1) by kernel_rfl) (by kernel_rfl) (h1 b hF.rest) (hc W hF.kept)) (hK _ _ rfl (Below.refl _ _))
  · obtain rfl : rgO 10 = o := Option.some.inj ((show rgL[10]? = some (rgO 10) by kernel_rfl).symm.trans hi)
    obtain ⟨va, hva, hFa⟩ := hF.fact 9 _ (show rgD[9]? = some (some 14) from rfl) (by kernel_rfl)
    have hea := hva _ rfl
    have hFa' : va = c := hFa
    subst hFa'
    exact st_val (v := .func (.func 179) #[va] #[]) (by simp [execOp, show (rgO 10).op = .makeFunc (.func 179) #[.tmp 14] #[] by kernel_rfl, Instr.makeFunc, Act.eval, hea]) (hK _ _ rfl (Below.refl _ _))
  · obtain rfl : rgO 12 = o := Option.some.inj ((show rgL[12]? = some (rgO 12) by kernel_rfl).symm.trans hi)
    exact st_val (v := c) (ld1 (show (rgO 12).op = .load 176 (.tmp 1) by kernel_rfl) (by kernel_rfl) (h1 b hF.rest) (hc W hF.kept)) (hK _ _ rfl (Below.refl _ _))
  · obtain rfl : rgO 13 = o := Option.some.inj ((show rgL[13]? = some (rgO 13) by kernel_rfl).symm.trans hi)
    obtain ⟨va, hva, hFa⟩ := hF.fact 12 _ (show rgD[12]? = some (some 16) from rfl) (by kernel_rfl)
    have hea := hva _ rfl
    have hFa' : va = c := hFa
    subst hFa'
    exact st_val (v := .func (.func 180) #[va] #[]) (by simp [execOp, show (rgO 13).op = .makeFunc (.func 180) #[.tmp 16] #[] by kernel_rfl, Instr.makeFunc, Act.eval, hea]) (hK _ _ rfl (Below.refl _ _))
  · obtain rfl : rgO 15 = o := Option.some.inj ((show rgL[15]? = some (rgO 15) by kernel_rfl).symm.trans hi)
    exact st_val (v := V3) (by simp [execOp, show (rgO 15).op = .move (.tmp 3) by kernel_rfl, h3 b hF.rest]) (hK _ _ rfl (Below.refl _ _))
  · obtain rfl : rgO 16 = o := Option.some.inj ((show rgL[16]? = some (rgO 16) by kernel_rfl).symm.trans hi)
    exact st_val (v := c) (ld1 (show (rgO 16).op = .load 176 (.tmp 1) by kernel_rfl) (by kernel_rfl) (h1 b hF.rest) (hc W hF.kept)) (hK _ _ rfl (Below.refl _ _))
  · obtain rfl : rgO 17 = o := Option.some.inj ((show rgL[17]? = some (rgO 17) by kernel_rfl).symm.trans hi)
    obtain ⟨va, hva, hFa⟩ := hF.fact 16 _ (show rgD[16]? = some (some 19) from rfl) (by kernel_rfl)
    have hea := hva _ rfl
    have hFa' : va = c := hFa
    subst hFa'
    exact st_val (v := .func (.func 181) #[va] #[]) (by simp [execOp, show (rgO 17).op = .makeFunc (.func 181) #[.tmp 19] #[] by kernel_rfl, Instr.makeFunc, Act.eval, hea]) (hK _ _ rfl (Below.refl _ _))
  · obtain rfl : rgO 18 = o := Option.some.inj ((show rgL[18]? = some (rgO 18) by kernel_rfl).symm.trans hi)
    obtain ⟨va, hva, hFa⟩ := hF.fact 15 _ (show rgD[15]? = some (some 18) from rfl) (by kernel_rfl)
    have hea := hva _ rfl
    obtain ⟨vb, hvb, hFb⟩ := hF.fact 17 _ (show rgD[17]? = some (some 20) from rfl) (by kernel_rfl)
    have heb := hvb _ rfl
    have hFa' : va = V3 := hFa
    have hFb' : vb = .func (.func 181) #[c] #[] := hFb
    rw [hFa'] at hea
    rw [hFb'] at heb
    exact st_clo (g := 181) (k := 6) (show (rgO 18).op = .call { callee := .value (.tmp 18), args := #[.tmp 20, .const (.int .i64 6)], argTypes := #[1, 3] } by kernel_rfl) hea heb hV3 (hN ▸ hF.kept.size) (fun v W' h => hK v W' h)
  · obtain rfl : rgO 20 = o := Option.some.inj ((show rgL[20]? = some (rgO 20) by kernel_rfl).symm.trans hi)
    exact st_val (v := V3) (by simp [execOp, show (rgO 20).op = .move (.tmp 3) by kernel_rfl, h3 b hF.rest]) (hK _ _ rfl (Below.refl _ _))
  · obtain rfl : rgO 21 = o := Option.some.inj ((show rgL[21]? = some (rgO 21) by kernel_rfl).symm.trans hi)
    exact st_val (v := c) (ld1 (show (rgO 21).op = .load 176 (.tmp 1) by kernel_rfl) (by kernel_rfl) (h1 b hF.rest) (hc W hF.kept)) (hK _ _ rfl (Below.refl _ _))
  · obtain rfl : rgO 22 = o := Option.some.inj ((show rgL[22]? = some (rgO 22) by kernel_rfl).symm.trans hi)
    obtain ⟨va, hva, hFa⟩ := hF.fact 21 _ (show rgD[21]? = some (some 23) from rfl) (by kernel_rfl)
    have hea := hva _ rfl
    have hFa' : va = c := hFa
    subst hFa'
    exact st_val (v := .func (.func 182) #[va] #[]) (by simp [execOp, show (rgO 22).op = .makeFunc (.func 182) #[.tmp 23] #[] by kernel_rfl, Instr.makeFunc, Act.eval, hea]) (hK _ _ rfl (Below.refl _ _))
  · obtain rfl : rgO 23 = o := Option.some.inj ((show rgL[23]? = some (rgO 23) by kernel_rfl).symm.trans hi)
    obtain ⟨va, hva, hFa⟩ := hF.fact 20 _ (show rgD[20]? = some (some 22) from rfl) (by kernel_rfl)
    have hea := hva _ rfl
    obtain ⟨vb, hvb, hFb⟩ := hF.fact 22 _ (show rgD[22]? = some (some 24) from rfl) (by kernel_rfl)
    have heb := hvb _ rfl
    have hFa' : va = V3 := hFa
    have hFb' : vb = .func (.func 182) #[c] #[] := hFb
    rw [hFa'] at hea
    rw [hFb'] at heb
    exact st_clo (g := 182) (k := 7) (show (rgO 23).op = .call { callee := .value (.tmp 22), args := #[.tmp 24, .const (.int .i64 7)], argTypes := #[1, 3] } by kernel_rfl) hea heb hV3 (hN ▸ hF.kept.size) (fun v W' h => hK v W' h)
  · obtain rfl : rgO 25 = o := Option.some.inj ((show rgL[25]? = some (rgO 25) by kernel_rfl).symm.trans hi)
    exact st_val (v := V3) (by simp [execOp, show (rgO 25).op = .move (.tmp 3) by kernel_rfl, h3 b hF.rest]) (hK _ _ rfl (Below.refl _ _))
  · obtain rfl : rgO 26 = o := Option.some.inj ((show rgL[26]? = some (rgO 26) by kernel_rfl).symm.trans hi)
    exact st_val (v := c) (ld1 (show (rgO 26).op = .load 176 (.tmp 1) by kernel_rfl) (by kernel_rfl) (h1 b hF.rest) (hc W hF.kept)) (hK _ _ rfl (Below.refl _ _))
  · obtain rfl : rgO 27 = o := Option.some.inj ((show rgL[27]? = some (rgO 27) by kernel_rfl).symm.trans hi)
    obtain ⟨va, hva, hFa⟩ := hF.fact 26 _ (show rgD[26]? = some (some 27) from rfl) (by kernel_rfl)
    have hea := hva _ rfl
    have hFa' : va = c := hFa
    subst hFa'
    exact st_val (v := .func (.func 183) #[va] #[]) (by simp [execOp, show (rgO 27).op = .makeFunc (.func 183) #[.tmp 27] #[] by kernel_rfl, Instr.makeFunc, Act.eval, hea]) (hK _ _ rfl (Below.refl _ _))
  · obtain rfl : rgO 28 = o := Option.some.inj ((show rgL[28]? = some (rgO 28) by kernel_rfl).symm.trans hi)
    obtain ⟨va, hva, hFa⟩ := hF.fact 25 _ (show rgD[25]? = some (some 26) from rfl) (by kernel_rfl)
    have hea := hva _ rfl
    obtain ⟨vb, hvb, hFb⟩ := hF.fact 27 _ (show rgD[27]? = some (some 28) from rfl) (by kernel_rfl)
    have heb := hvb _ rfl
    have hFa' : va = V3 := hFa
    have hFb' : vb = .func (.func 183) #[c] #[] := hFb
    rw [hFa'] at hea
    rw [hFb'] at heb
    exact st_clo (g := 183) (k := 9) (show (rgO 28).op = .call { callee := .value (.tmp 26), args := #[.tmp 28, .const (.int .i64 9)], argTypes := #[1, 3] } by kernel_rfl) hea heb hV3 (hN ▸ hF.kept.size) (fun v W' h => hK v W' h)
  · obtain rfl : rgO 30 = o := Option.some.inj ((show rgL[30]? = some (rgO 30) by kernel_rfl).symm.trans hi)
    exact st_val (v := c) (ld1 (show (rgO 30).op = .load 176 (.tmp 1) by kernel_rfl) (by kernel_rfl) (h1 b hF.rest) (hc W hF.kept)) (hK _ _ rfl (Below.refl _ _))
  · obtain rfl : rgO 31 = o := Option.some.inj ((show rgL[31]? = some (rgO 31) by kernel_rfl).symm.trans hi)
    obtain ⟨va, hva, hFa⟩ := hF.fact 30 _ (show rgD[30]? = some (some 30) from rfl) (by kernel_rfl)
    have hea := hva _ rfl
    have hFa' : va = c := hFa
    subst hFa'
    exact st_val (v := .func (.func 184) #[va] #[]) (by simp [execOp, show (rgO 31).op = .makeFunc (.func 184) #[.tmp 30] #[] by kernel_rfl, Instr.makeFunc, Act.eval, hea]) (hK _ _ rfl (Below.refl _ _))
  · obtain rfl : rgO 33 = o := Option.some.inj ((show rgL[33]? = some (rgO 33) by kernel_rfl).symm.trans hi)
    exact st_val (v := c) (ld1 (show (rgO 33).op = .load 176 (.tmp 1) by kernel_rfl) (by kernel_rfl) (h1 b hF.rest) (hc W hF.kept)) (hK _ _ rfl (Below.refl _ _))
  · obtain rfl : rgO 34 = o := Option.some.inj ((show rgL[34]? = some (rgO 34) by kernel_rfl).symm.trans hi)
    obtain ⟨va, hva, hFa⟩ := hF.fact 33 _ (show rgD[33]? = some (some 32) from rfl) (by kernel_rfl)
    have hea := hva _ rfl
    have hFa' : va = c := hFa
    subst hFa'
    exact st_val (v := .func (.func 185) #[va] #[]) (by simp [execOp, show (rgO 34).op = .makeFunc (.func 185) #[.tmp 32] #[] by kernel_rfl, Instr.makeFunc, Act.eval, hea]) (hK _ _ rfl (Below.refl _ _))
/-- The temporaries that the region writes. -/
def rgAll : List Nat := [4, 7, 8, 9, 10, 11, 12, 13, 14, 15, 16, 17, 18, 19, 20, 21, 22, 23, 24, 25, 26, 27, 28, 29, 30, 31, 32, 33, 34]
section
variable {ρ : PMap} {O : Nat → Prop} {W : World} {x : Nat}
theorem rp_met (g : Nat) {c v : Value} (hx : Rp ρ O W (pt x) c) (h : v = .func (.func g) #[c] #[]) : Rp ρ O W (vMet x g) v :=
  rp_func.2 ⟨#[c], #[], h, ⟨rfl, fun i y hy => by
    match i, hy with
    | 0, hy => simp at hy; subst hy; exact ⟨c, rfl, hx⟩
    | i + 1, hy => simp at hy⟩, rfl, fun i y hy => by simp at hy⟩
theorem rp_clo {N g : Nat} {k : Int} {c v bp pb : Value} (hx : Rp ρ O W (pt x) c) (hp : Rp ρ O W pb bp) (hge : ∀ g, N ≤ g → O g → ∃ es ck, W.heap[g]? = some (.map es ck)) (h : CloR N bp c g k v W) : Rp ρ O W (vClo x pb g k) v := by
  obtain ⟨b1, b3, t1, t3, rfl, h1, h3, h4, h5⟩ := h
  have no : ∀ (b : Nat) arr ty, N ≤ b → W.heap[b]? = some (.cells arr ty (0, 0)) → ¬ O b := fun b arr ty hb he hO => by
    obtain ⟨es, ck, hm⟩ := hge b hb hO
    rw [he] at hm; cases hm
  have l1 : b1 < W.heap.size := (Array.getElem?_eq_some_iff.1 h4).1
  have l3 : b3 < W.heap.size := (Array.getElem?_eq_some_iff.1 h5).1
  refine rp_func.2 ⟨#[], #[.pointer (some ⟨b1, 0, none⟩), bp, .pointer (some ⟨b3, 0, none⟩)], rfl, ⟨rfl, fun i y hy => by simp at hy⟩, rfl, fun i y hy => ?_⟩
  match i, hy with
  | 0, hy =>
    simp at hy; subst hy
    refine ⟨_, rfl, rp_fz.2 ⟨b1, 0, rfl, l1, no b1 _ _ h1 h4, fun j y hy => ?_⟩⟩
    match j, hy with
    | 0, hy => simp at hy; subst hy; exact ⟨_, by simp [World.cell?, h4], rp_met g hx rfl⟩
    | j + 1, hy => simp at hy
  | 1, hy => simp at hy; subst hy; exact ⟨bp, rfl, hp⟩
  | 2, hy =>
    simp at hy; subst hy
    refine ⟨_, rfl, rp_fz.2 ⟨b3, 0, rfl, l3, no b3 _ _ h3 h5, fun j y hy => ?_⟩⟩
    match j, hy with
    | 0, hy => simp at hy; subst hy; exact ⟨_, by simp [World.cell?, h5], rp_int.2 rfl⟩
    | j + 1, hy => simp at hy
  | i + 3, hy => simp at hy
end
theorem rgD_all (d : Nat) (h : some d ∈ rgD) : d ∈ rgAll ∧ d < 44 := by
  have := List.all_eq_true.1 (show rgD.all (fun x => match x with | some d => rgAll.contains d && Nat.blt d 44 | none => true) = true by decide) _ h
  simpa [Nat.blt_eq] using this
theorem rg_inj : ∀ r ∈ rgIns, ∀ r' ∈ rgIns, r'.2.1 = r.2.1 → r' = r := by decide
set_option maxRecDepth 100000 in
theorem reg_steps (x b : Nat) : RegM Tryz.prog (regOf Tryz.prog 156 0) 44 [(1, pt b), (3, .func (.func 174) #[] #[pt b])] [(b, ⟨true, false, 1, 1, [pt x]⟩)] rgAll 4 (els9 x (pt b)) := by
  intro ρ O a W Q hl hdf hsz hT hH hK
  obtain ⟨c1, ha1, hr1⟩ := hT (1, pt b) (by simp)
  obtain ⟨V3, ha3, hr3⟩ := hT (3, .func (.func 174) #[] #[pt b]) (by simp)
  obtain ⟨gb, kb, jb, hgb, hj, rfl⟩ := rp_ptr.1 hr1
  cases hj
  obtain ⟨us, ws, rfl, hus, hws⟩ := rp_func.1 hr3
  obtain ⟨bp, hbp0, hbp⟩ := hws.2 0 (pt b) rfl
  obtain ⟨gb2, kb2, jb2, hgb2, hj2, rfl⟩ := rp_ptr.1 hbp
  cases hj2
  have e2 : some (gb, kb) = some (gb2, kb2) := hgb.symm.trans hgb2
  cases e2
  have hu0 : us = #[] := Array.eq_empty_of_size_eq_zero hus.1
  have hw0 : ws = #[.pointer (some ⟨gb, 0 * kb + 0, none⟩)] := by
    have hs := hws.1
    apply Array.ext
    · simpa using hs
    · intro i h1 h2
      have : i = 0 := by simp at h2; exact h2
      subst this
      rw [Array.getElem?_eq_getElem h1] at hbp0
      exact Option.some.inj hbp0
  subst hu0 hw0
  have ez : 0 * kb + 0 = 0 := by omega
  rw [ez] at ha1 ha3
  have hh := hH (b, ⟨true, false, 1, 1, [pt x]⟩) (by simp)
  obtain ⟨gb3, hgb3, hOb, hB⟩ := hh
  have e3 : some (gb, kb) = some (gb3, 1) := hgb.symm.trans hgb3
  cases e3
  obtain ⟨arr, ty, hheap, -, hel⟩ := (blk_cells rfl).1 hB
  obtain ⟨-, hcells⟩ := hel 0 (pt x) rfl
  obtain ⟨c, hc, hrc⟩ := hcells 0 (pt x) rfl
  have hc0 : arr[0]? = some c := hc
  have hrx : ∀ (O' : Nat → Prop) (W' : World), Rp ρ O' W' (pt x) c := fun O' W' => rp_ptr.2 (rp_ptr.1 hrc)
  have hrb : ∀ (O' : Nat → Prop) (W' : World), Rp ρ O' W' (pt b) (.pointer (some ⟨gb, 0, none⟩)) := fun O' W' => rp_ptr.2 ⟨gb, 1, 0, hgb, rfl, rfl⟩
  rw [rg_is]
  refine wp_region_mp (P := Tryz.prog) (mty := 179) W.heap.size 36 rgD (FX (Rm W.heap.size) (rgF W.heap.size (.pointer (some ⟨gb, 0, none⟩)) c (.func (.func 174) #[] #[.pointer (some ⟨gb, 0, none⟩)]))) 7 rgIns rfl (kt := 3) (et := 1) (by kernel_rfl) (by kernel_rfl) mixed (by kernel_rfl) (by kernel_rfl) (by rw [show rgL.length = 38 by kernel_rfl]; decide) (by kernel_rfl) (by kernel_rfl)
    (fun d hd => ?_) (by kernel_rfl) (fun i _ _ _ h hk => (((rgF W.heap.size (.pointer (some ⟨gb, 0, none⟩)) c (.func (.func 174) #[] #[.pointer (some ⟨gb, 0, none⟩)])).getD i (KX.tt _))).k h hk) ⟨rgO 0, by kernel_rfl, by kernel_rfl, by kernel_rfl⟩ (fun _ _ => trivial)
    (fun r hr => let ⟨h1, h2, o, d, h3, h4, h5, h6, h7, h8, h9, h10⟩ := rg_ins r hr; ⟨h1, h2, o, d, h3, h4, h5, h6, h7, h8, h9, h10 _ _ _ _⟩) (by decide) (by decide) (rg_steps rfl ha1 ha3 rfl ⟨arr, ty, hheap, hc0⟩) ?_ (by decide)
  · rw [hsz]
    exact (rgD_all d hd).2
  · intro b' W' mb m hF hM
    have hl36 : rgL.drop 36 = [rgO 36, rgO 37] := by kernel_rfl
    rw [hl36]
    have hmt : b'.tmps[7]? = some (.map (some mb)) := hM.here
    have e1 : (execOp b'.eval (rgO 36)).run Tryz.prog W' = .ok (.value (.map (some mb))) W' := by simp [execOp, show (rgO 36).op = .move (.tmp 7) by kernel_rfl, Act.eval, hmt]
    have hsz' : b'.tmps.size = 44 := hF.size.trans hsz
    have e2 : (execOp (b'.put (some 34) (.map (some mb))).eval (rgO 37)).run Tryz.prog W' = .ok (.value (.map (some mb))) W' := by simp [execOp, show (rgO 37).op = .assign (.tmp 34) by kernel_rfl, Act.eval, Act.put, hsz']
    simp only [wpList, Region.wanted, show (rgO 36).guard = none by kernel_rfl, show (rgO 37).guard = none by kernel_rfl, if_true]
    refine .inl (st_val e1 ?_)
    rw [show (rgO 36).dst = some 34 by kernel_rfl]
    refine .inl (st_val e2 ?_)
    rw [show (rgO 37).dst = some 4 by kernel_rfl]
    have hkept := hF.kept.kept rfl
    have hge : ∀ g, W.heap.size ≤ g → (O g ∨ g = mb) → ∃ es ck, W'.heap[g]? = some (.map es ck) := fun g hg hO => by
      rcases hO with hO | rfl
      · have := hl g hO; omega
      · obtain ⟨es, ck, hm⟩ := hM.map; exact ⟨es, ck, hm.obj⟩
    refine hK _ W' mb (hF.defers.trans hdf) (by simp [Act.put, hsz']) (fun t ht => ?_) (by simp [Act.put, hsz']) hM.ge hkept ⟨m, ⟨hM.map, hM.nodup⟩, fun d hd => ?_, fun el hel => ?_⟩
    · have h34 : t ≠ 34 := fun e => ht (by subst e; decide)
      have h4 : t ≠ 4 := fun e => ht (by subst e; decide)
      have hD : some t ∉ rgD := fun h => ht (rgD_all t h).1
      rw [← hF.rest t hD]
      simp [Act.put, Array.getElem?_setIfInBounds, Ne.symm h34, Ne.symm h4]
    · obtain ⟨r, hr, -, hk, -⟩ := hM.from_ d hd
      rw [hk]
      simp only [rgIns, List.mem_cons, List.not_mem_nil, or_false] at hr
      rcases hr with rfl | rfl | rfl | rfl | rfl | rfl | rfl | rfl | rfl
      all_goals exact ⟨_, by simp only [els9, vEn]; simp only [List.mem_cons, Value.agg.injEq]; simp; rfl⟩
    · have row : ∀ r ∈ rgIns, ∃ v, (r.2.1, v) ∈ m ∧ FX (Rm W.heap.size) (rgF W.heap.size (.pointer (some ⟨gb, 0, none⟩)) c (.func (.func 174) #[] #[.pointer (some ⟨gb, 0, none⟩)])) r.2.2 v W' := fun r hr => by
        obtain ⟨d, hd, hk⟩ := hM.all r hr rfl
        obtain ⟨r', hr', -, hk', hFd⟩ := hM.from_ d hd
        have : r' = r := by
          have e : r'.2.1 = r.2.1 := hk'.symm.trans hk
          exact rg_inj r hr r' hr' e
        subst this
        obtain ⟨i, v⟩ := d
        simp only at hk
        subst hk
        exact ⟨v, hd, hFd⟩
      have hx := hrx (fun g => O g ∨ g = mb) W'
      have hp := hrb (fun g => O g ∨ g = mb) W'
      simp only [els9, List.mem_cons, List.not_mem_nil, or_false] at hel
      rcases hel with rfl | rfl | rfl | rfl | rfl | rfl | rfl | rfl | rfl
      · obtain ⟨v, hv, hFv⟩ := row (5, 0, 4) (by decide)
        exact ⟨0, _, v, rfl, hv, rp_clo (g := 177) (k := 1) hx hp hge hFv⟩
      · obtain ⟨v, hv, hFv⟩ := row (8, 1, 7) (by decide)
        exact ⟨1, _, v, rfl, hv, rp_met 178 hx hFv⟩
      · obtain ⟨v, hv, hFv⟩ := row (11, 2, 10) (by decide)
        exact ⟨2, _, v, rfl, hv, rp_met 179 hx hFv⟩
      · obtain ⟨v, hv, hFv⟩ := row (14, 3, 13) (by decide)
        exact ⟨3, _, v, rfl, hv, rp_met 180 hx hFv⟩
      · obtain ⟨v, hv, hFv⟩ := row (19, 4, 18) (by decide)
        exact ⟨4, _, v, rfl, hv, rp_clo (g := 181) (k := 6) hx hp hge hFv⟩
      · obtain ⟨v, hv, hFv⟩ := row (24, 5, 23) (by decide)
        exact ⟨5, _, v, rfl, hv, rp_clo (g := 182) (k := 7) hx hp hge hFv⟩
      · obtain ⟨v, hv, hFv⟩ := row (29, 6, 28) (by decide)
        exact ⟨6, _, v, rfl, hv, rp_clo (g := 183) (k := 9) hx hp hge hFv⟩
      · obtain ⟨v, hv, hFv⟩ := row (32, 7, 31) (by decide)
        exact ⟨7, _, v, rfl, hv, rp_met 184 hx hFv⟩
      · obtain ⟨v, hv, hFv⟩ := row (35, 8, 34) (by decide)
        exact ⟨8, _, v, rfl, hv, rp_met 185 hx hFv⟩
end Go.Proofs.YtfhjllchbgclaaaGreat

/- What the program's receive hands back, by contract: any step, some, Inside, Near. -/
namespace Go.Proofs.YtfhjllchbgclaaaGreat
set_option linter.unusedVariables false
set_option linter.unusedSimpArgs false
open Go.RowKit
section
variable {s : St} {i m o : Int}
set_option maxRecDepth 100000 in
theorem ve_many (h : decide (o < min m 1000) = false) : LoopP Tryz.prog (loopOf Tryz.prog 143 0) (hdV s i m o s.th.length) (.exit 0) (hdV s i m o s.th.length) := loop_end mixed (fuel := 9) (n := 12) (im := [0, 1, 2, 3, 4]) (keep := [2, 6, 8, 9, 10]) (ext := [22, 125, 93]) (orc := [.bool false]) (an h trivial) (by intro e; cases e) (by kernel_rfl)
set_option maxRecDepth 100000 in
theorem ve_check (h : decide (o < min m 1000) = true) (hB : stB s = false) (ho : s.ok) : LoopP Tryz.prog (loopOf Tryz.prog 143 0) (hdV s i m o s.th.length) (.exit 0) (hdV s i m o s.th.length) := loop_end mixed (fuel := 9) (n := 12) (im := [0, 1, 2, 3, 4]) (keep := [2, 6, 8, 9, 10]) (ext := [22, 125, 93]) (orc := [.bool true, vD false]) (an h <| an (len_map (f := thT) s.th) <| an (ac_pcheck hB ho) trivial) (by intro e; cases e) (by kernel_rfl)
set_option maxRecDepth 100000 in
theorem ve_low (h : decide (o < min m 1000) = true) (hB : stB s = true) (ho : s.ok) (hi : decide (i < 0) = true) : LoopP Tryz.prog (loopOf Tryz.prog 143 0) (hdV s i m o s.th.length) (.exit 0) (hdV s i m o s.th.length) := loop_end mixed (fuel := 9) (n := 12) (im := [0, 1, 2, 3, 4]) (keep := [2, 6, 8, 9, 10]) (ext := [22, 125, 93]) (orc := [.bool true, vD true, .bool true]) (an h <| an (len_map (f := thT) s.th) <| an (ac_pcheck hB ho) <| an hi trivial) (by intro e; cases e) (by kernel_rfl)
set_option maxRecDepth 100000 in
theorem ve_high (h : decide (o < min m 1000) = true) (hB : stB s = true) (ho : s.ok) (hi : decide (i < 0) = false) (hj : decide ((s.th.length : Int) ≤ i) = true) : LoopP Tryz.prog (loopOf Tryz.prog 143 0) (hdV s i m o s.th.length) (.exit 0) (hdV s i m o s.th.length) := loop_end mixed (fuel := 9) (n := 12) (im := [0, 1, 2, 3, 4]) (keep := [2, 6, 8, 9, 10]) (ext := [22, 125, 93]) (orc := [.bool true, vD true, .bool false, .bool true]) (an h <| an (len_map (f := thT) s.th) <| an (ac_pcheck hB ho) <| an hi <| an hj trivial) (by intro e; cases e) (by kernel_rfl)
variable {n : Nat}
set_option maxRecDepth 100000 in
theorem ve_runs (h : decide (o < min m 1000) = true) (hB : stB s = true) (ho : s.ok) (hn : n < s.th.length) (hr : (thRuns (gth s.th n).st == 0) = false) : LoopP Tryz.prog (loopOf Tryz.prog 143 0) (hdV s n m o s.th.length) (.exit 0) (hdV s n m o s.th.length) := loop_end mixed (fuel := 9) (n := 12) (im := [0, 1, 2, 3, 4]) (keep := [2, 6, 8, 9, 10]) (ext := [22, 125, 93]) (orc := [.bool true, vD true, .bool false, .bool false, thT (gth s.th n), .int .i64 (thRuns (gth s.th n).st), .bool false])
  (an h <| an (len_map (f := thT) s.th) <| an (ac_pcheck hB ho) <| an (show decide ((n : Int) < 0) = false by simp) <| an (show decide ((s.th.length : Int) ≤ n) = false by simp; omega) <| an (idT hn) <| an (elT hn) <| an (ac_pruns (t := gth s.th n) rfl) <| an hr trivial) (by intro e; cases e) (by kernel_rfl)
set_option maxRecDepth 100000 in
theorem ve_side (h : decide (o < min m 1000) = true) (hB : stB s = true) (ho : s.ok) (hn : n < s.th.length) (hr : thRuns (gth s.th n).st = 0) (hs : (opSide (gth s.th n).ki == 2) = false) : LoopP Tryz.prog (loopOf Tryz.prog 143 0) (hdV s n m o s.th.length) (.exit 0) (hdV s n m o s.th.length) := loop_end mixed (fuel := 9) (n := 12) (im := [0, 1, 2, 3, 4]) (keep := [2, 6, 8, 9, 10]) (ext := [22, 125, 93]) (orc := [.bool true, vD true, .bool false, .bool false, thT (gth s.th n), .int .i64 0, .nilFunc, thT (gth s.th n), .int .i64 (opSide (gth s.th n).ki), .bool false])
  (an h <| an (len_map (f := thT) s.th) <| an (ac_pcheck hB ho) <| an (show decide ((n : Int) < 0) = false by simp) <| an (show decide ((s.th.length : Int) ≤ n) = false by simp; omega) <| an (idT hn) <| an (elT hn) <| an (ac_pruns (t := gth s.th n) hr) <| an (idT hn) <| an (elT hn) <| an (ac_pside (gth s.th n).ki) <| an hs trivial) (by intro e; cases e) (by kernel_rfl)
/-- Who does not receive, makes no step. -/
theorem ve_not (ho : s.ok) (hr : runsB s i 2 = false) : LoopP Tryz.prog (loopOf Tryz.prog 143 0) (hdV s i m o s.th.length) (.exit 0) (hdV s i m o s.th.length) := by
  cases h : decide (o < min m 1000)
  · exact ve_many h
  · cases hB : stB s
    · exact ve_check h hB ho
    · by_cases h0 : i < 0
      · exact ve_low h hB ho (by simp [h0])
      · by_cases h1 : (s.th.length : Int) ≤ i
        · exact ve_high h hB ho (by simp; omega) (by simp [h1])
        · obtain ⟨n, rfl⟩ : ∃ n : Nat, i = n := ⟨i.toNat, by omega⟩
          have hn : n < s.th.length := by omega
          have hr' : ¬ ((gth s.th n).st = 1 ∧ opSide (gth s.th n).ki = 2) := fun e => by
            have : runsB s n 2 = true := runs_iff.2 ⟨has_of hB hn, by simpa using e⟩
            rw [hr] at this; cases this
          by_cases hs : thRuns (gth s.th n).st = 0
          · refine ve_side h hB ho hn hs (bne_of fun e => hr' ⟨?_, e⟩)
            have h2 := runs_not hs
            have h3 := gth_ok hB hn
            generalize gth s.th n = t at h2 h3
            obtain ⟨st, ki, va, un, pc, re, se, tr, la, rs, go⟩ := t
            rw [thB_iff] at h3
            simp only at h2 ⊢
            omega
          · exact ve_runs h hB ho hn (bne_of hs)
/-- The whole loop. -/
theorem vsteps_lp (k : Nat) : ∀ {s : St} {o : Int}, Vk s → 0 ≤ o → (min m 1000 - o).toNat = k → s.lg.length + k ≤ 900000 → s.ok → LoopP Tryz.prog (loopOf Tryz.prog 143 0) (hdV s i m o s.th.length) (.exit 0) (hdV (recvK s i k).1 i m (o + (recvK s i k).2) (recvK s i k).1.th.length) := by
  induction k with
  | zero =>
    intro s o _ _ hk _ _
    simp only [recvK]
    rw [show o + ((0 : Nat) : Int) = o by omega]
    exact ve_many (by simp; omega)
  | succ k ih =>
    intro s o hv h0 hk hl ho
    cases hr : runsB s i 2
    · have : recvK s i (k + 1) = (s, 0) := by simp [recvK, hr]
      rw [this]
      show LoopP Tryz.prog (loopOf Tryz.prog 143 0) (hdV s i m o s.th.length) (.exit 0) (hdV s i m (o + ((0 : Nat) : Int)) s.th.length)
      rw [show o + ((0 : Nat) : Int) = o by omega]
      exact ve_not ho hr
    · obtain ⟨h1, h2, h3⟩ := runs_iff.1 hr
      obtain ⟨hB, hi0, hi1⟩ := has_iff.1 h1
      obtain ⟨n, rfl⟩ : ∃ n : Nat, i = n := ⟨i.toNat, by omega⟩
      have hn : n < s.th.length := by omega
      rw [Int.toNat_natCast] at h2 h3
      have hs1 : (gth s.th n).st ≠ 0 := by omega
      have e : recvK s n (k + 1) = ((recvK (recvN s n) n k).1, (recvK (recvN s n) n k).2 + 1) := by simp only [recvK, hr, if_true, recvS_is hr]
      rw [e]
      have hB' := recvN_stB hB hn hs1
      have hv' := recvN_vk hv hB hn hs1
      have hl' : (recvN s n).lg.length ≤ s.lg.length + 1 := by rcases (recvN_lgOk (s := s) (n := n)).1 with h | ⟨x, h⟩ <;> rw [h] <;> simp
      refine step_lv (s := s) (n := n) ⟨by simp; omega, hB, ho, hn, h2, h3, by omega, by constructor <;> omega⟩ fun N hN => ?_
      have := ih (s := recvN s n) (o := o + 1) hv' (by omega) (by omega) (by omega) (ok_of hB' hv' (by omega))
      rw [hN]
      rw [show o + (((recvK (recvN s n) n k).2 + 1 : Nat) : Int) = o + 1 + ((recvK (recvN s n) n k).2 : Int) by omega]
      exact this
end
set_option maxRecDepth 100000 in
theorem ac_vsteps0 {s u : St} {i m o : Int} (hL : LoopP Tryz.prog (loopOf Tryz.prog 143 0) (hdV s i m 0 s.th.length) (.exit 0) (hdV u i m o u.th.length)) (ho : s.ok) (hf : s.fit) (ht : s.th ≠ []) : AC Tryz.prog 143 [stT s, .int .i64 i, .int .i64 m] (.tuple #[stT u, .int .i64 o]) :=
  ac_path mixed (ext := [53]) (fuel := 9) (n := 9) (orc := [.iface 1000004 (.func (.yield 18) #[.agg (stL s), .int .i64 11] #[]), oR [1, 3] [6] rgAll 4 (els9 5 (pt 6)), .nilFunc, .nilFunc, .nilFunc, .nilFunc,
    oL [5, 4, 1, 6, 7] [2, 6, 8, 9, 10] 0 [(2, .int .i64 m), (6, pt 2), (8, pt 0), (9, .map (some 4)), (10, .int .i64 o)] [bX u i u.th.length, bT u.th u.th.length, bZ, bBx 0, bMp 0 (pt 3)]])
    (an (ao_keep (neg_no s) ho hf ht) <| an (reg_steps 5 6) <| an (show In64 (9 + 1) by constructor <;> decide) <| an (show In64 (9 + 1 + 1) by constructor <;> decide) <| an (show In64 (9 + 1 + 1 + 1) by constructor <;> decide) <| an hL <| an (len_map (f := thT) u.th) trivial) (by kernel_rfl)
/-- Some steps. -/
theorem ac_vsteps {s : St} {i m : Int} (ho : s.ok) (hf : s.fit) (ht : s.th ≠ []) (hl : s.lg.length ≤ 800000) : AC Tryz.prog 143 [stT s, .int .i64 i, .int .i64 m] (.tuple #[stT (recvK s i (min m 1000).toNat).1, .int .i64 (recvK s i (min m 1000).toNat).2]) := by
  have h := vsteps_lp (i := i) (m := m) (min m 1000 - 0).toNat (s := s) (o := 0) (.of ho) (Int.le_refl _) rfl (by omega) ho
  rw [show min m 1000 - 0 = min m 1000 by omega, Int.zero_add] at h
  exact ac_vsteps0 h ho hf ht
set_option maxRecDepth 100000 in
theorem ac_vsteps_nil {s : St} {i m : Int} (h : s.th = []) (ho : s.ok) (hf : s.fit) : AC Tryz.prog 143 [stT s, .int .i64 i, .int .i64 m] (.tuple #[stT s, .int .i64 0]) := by
  cases hm : decide ((0 : Int) < min m 1000)
  · exact ac_path mixed (ext := [53, 22]) (fuel := 9) (n := 9) (orc := [stT s, oR [1, 3] [5] rgAll 4 (els9 4 (pt 5)), .nilFunc, .nilFunc, .nilFunc, .nilFunc, .bool false])
      (an (ac_keep (neg_no s) ho hf) <| an (reg_steps 4 5) <| an (show In64 (9 + 1) by constructor <;> decide) <| an (show In64 (9 + 1 + 1) by constructor <;> decide) <| an (show In64 (9 + 1 + 1 + 1) by constructor <;> decide) <| an hm trivial) (by kernel_rfl)
  · exact ac_path mixed (ext := [53, 22]) (fuel := 9) (n := 9) (orc := [stT s, oR [1, 3] [5] rgAll 4 (els9 4 (pt 5)), .nilFunc, .nilFunc, .nilFunc, .nilFunc, .bool true, vD false])
      (an (ac_keep (neg_no s) ho hf) <| an (reg_steps 4 5) <| an (show In64 (9 + 1) by constructor <;> decide) <| an (show In64 (9 + 1 + 1) by constructor <;> decide) <| an (show In64 (9 + 1 + 1 + 1) by constructor <;> decide) <| an hm <| an (ac_pcheck (nil_no h) ho) trivial) (by kernel_rfl)
theorem recvK_no {s : St} {i : Int} (h : stB s = false) (k : Nat) : recvK s i k = (s, 0) := by
  cases k with
  | zero => rfl
  | succ k => simp [recvK, runsB, hasB, h]
theorem recvK_1 (s : St) (i : Int) : (recvK s i 1).1 = recvS s i := by
  cases h : runsB s i 2 <;> simp [recvK, h, recvS]
/-- Some steps of the program, of any state. -/
theorem ac_vst {s : St} {i m : Int} (ho : s.ok) (hf : s.fit) (hl : s.lg.length ≤ 800000) : AC Tryz.prog 143 [stT s, .int .i64 i, .int .i64 m] (.tuple #[stT (recvK s i (min m 1000).toNat).1, .int .i64 (recvK s i (min m 1000).toNat).2]) := by
  by_cases h : s.th = []
  · rw [recvK_no (nil_no h)]; exact ac_vsteps_nil h ho hf
  · exact ac_vsteps ho hf h hl
set_option maxRecDepth 100000 in
theorem ac_vstep {s : St} {i : Int} (ho : s.ok) (hf : s.fit) (hl : s.lg.length ≤ 800000) : AC Tryz.prog 127 [stT s, .int .i64 i] (stT (recvS s i)) := by
  rw [← recvK_1]
  exact ac_path mixed (ext := [143]) (fuel := 9) (n := 3) (orc := [.tuple #[stT (recvK s i 1).1, .int .i64 (recvK s i 1).2]]) (an (ac_vst (i := i) (m := 1) ho hf hl) trivial) (by kernel_rfl)
end Go.Proofs.YtfhjllchbgclaaaGreat

/- Layer 17: the rounds of Some, and of the inner loop of Rounds. (Written by tools/stepH.py.) -/
namespace Go.Proofs.YtfhjllchbgclaaaGreat
set_option linter.unusedVariables false
set_option linter.unusedSimpArgs false
open Go.RowKit
theorem app_more {α : Type} {f : α → Value} (l k : List α) (hm : l.length + k.length ≤ 1000000) : AppP (l ++ k).length ((l ++ k).map f) l.length (l.map f) k.length (k.map f) := ⟨by simp, by simp, by omega⟩
def kOf {x k : Int} (_ : x = k) : Value := .int .i64 k
/-- Which step it is. -/
def SideAt (s : St) (n : Nat) (a : St) : Prop := (opSide (gth s.th n).ki = 1 ∧ AC Tryz.prog 126 [stT (s.toLg []), .int .i64 n] (stT a)) ∨ (opSide (gth s.th n).ki = 2 ∧ AC Tryz.prog 127 [stT (s.toLg []), .int .i64 n] (stT a)) ∨ (opSide (gth s.th n).ki = 3 ∧ AC Tryz.prog 128 [stT (s.toLg []), .int .i64 n] (stT a))
section
variable {s a : St} {n : Nat} {l : List Int} {m o j i N : Int} {x : Exit} {S : Sg} {b : Bool}
set_option maxRecDepth 100000 in
theorem so_cfg_o (lt : decide (j < l.length) = true) (ix : IxP ((l.map (Value.int .i64 ·)).toArray) j (.int .i64 i)) (j1 : In64 (j + 1)) (hL : LoopP Tryz.prog (loopOf Tryz.prog 25 0) ⟨smT l o (j + 1), (hO s false)⟩ x S) : LoopP Tryz.prog (loopOf Tryz.prog 25 0) ⟨smT l o j, hO s false⟩ x S :=
  loop_more mixed (fuel := 9) (n := 6) (keep := [4, 6, 7, 8, 14, 15, 16]) (ext := pkX) (im := [0, 1, 2, 3, 4, 5, 6, 7, 8]) (orc := [.bool true, .int .i64 i, .nilFunc, .nilFunc]) (an lt <| an ix <| an j1 trivial) (by kernel_rfl) hL
set_option maxRecDepth 100000 in
theorem so_low_o (lt : decide (j < l.length) = true) (ix : IxP ((l.map (Value.int .i64 ·)).toArray) j (.int .i64 i)) (h0 : decide (i < 0) = true) (j1 : In64 (j + 1)) (hL : LoopP Tryz.prog (loopOf Tryz.prog 25 0) ⟨smT l o (j + 1), (hO s true)⟩ x S) : LoopP Tryz.prog (loopOf Tryz.prog 25 0) ⟨smT l o j, hO s true⟩ x S :=
  loop_more mixed (fuel := 9) (n := 6) (keep := [4, 6, 7, 8, 14, 15, 16]) (ext := pkX) (im := [0, 1, 2, 3, 4, 5, 6, 7, 8]) (orc := [.bool true, .int .i64 i, .bool true, .nilFunc, .nilFunc]) (an lt <| an ix <| an h0 <| an j1 trivial) (by kernel_rfl) hL
set_option maxRecDepth 100000 in
theorem so_high_o (lt : decide (j < l.length) = true) (ix : IxP ((l.map (Value.int .i64 ·)).toArray) j (.int .i64 i)) (h0 : decide (i < 0) = false) (h1 : decide ((s.th.length : Int) ≤ i) = true) (j1 : In64 (j + 1)) (hL : LoopP Tryz.prog (loopOf Tryz.prog 25 0) ⟨smT l o (j + 1), (hO s true)⟩ x S) : LoopP Tryz.prog (loopOf Tryz.prog 25 0) ⟨smT l o j, hO s true⟩ x S :=
  loop_more mixed (fuel := 9) (n := 6) (keep := [4, 6, 7, 8, 14, 15, 16]) (ext := pkX) (im := [0, 1, 2, 3, 4, 5, 6, 7, 8]) (orc := [.bool true, .int .i64 i, .bool false, .bool true, .nilFunc, .nilFunc]) (an lt <| an ix <| an h0 <| an h1 <| an j1 trivial) (by kernel_rfl) hL
set_option maxRecDepth 100000 in
theorem so_runs_o (lt : decide (j < l.length) = true) (ix : IxP ((l.map (Value.int .i64 ·)).toArray) j (.int .i64 n)) (hn : n < s.th.length) (rs : (thRuns (gth s.th n).st == 0) = false) (j1 : In64 (j + 1)) (hL : LoopP Tryz.prog (loopOf Tryz.prog 25 0) ⟨smT l o (j + 1), hO s true⟩ x S) : LoopP Tryz.prog (loopOf Tryz.prog 25 0) ⟨smT l o j, hO s true⟩ x S :=
  loop_more mixed (fuel := 9) (n := 6) (keep := [4, 6, 7, 8, 14, 15, 16]) (ext := pkX) (im := [0, 1, 2, 3, 4, 5, 6, 7, 8]) (orc := [.bool true, .int .i64 n, .bool false, .bool false, thT (gth s.th n), .int .i64 (thRuns (gth s.th n).st), .bool false, .bool false]) (an lt <| an ix <| an (show decide ((n : Int) < 0) = false by simp) <| an (show decide ((s.th.length : Int) ≤ n) = false by have := hn; simp; omega) <| an (ixT hn) <| an (ac_pruns (t := gth s.th n) rfl) <| an rs <| an rs <| an j1 trivial) (by kernel_rfl) hL
set_option maxRecDepth 100000 in
theorem so_end_o (lt : decide (j < l.length) = false) : LoopP Tryz.prog (loopOf Tryz.prog 25 0) ⟨smT l o j, hO s b⟩ (.exit 0) ⟨smT l o j, hO s b⟩ :=
  loop_end mixed (fuel := 9) (n := 6) (keep := [4, 6, 7, 8, 14, 15, 16]) (ext := pkX) (im := [0, 1, 2, 3, 4, 5, 6, 7, 8]) (orc := [.bool false]) (an lt trivial) (by intro e; cases e) (by kernel_rfl)
set_option maxRecDepth 100000 in
theorem so_cfg_n (lt : decide (j < l.length) = true) (ix : IxP ((l.map (Value.int .i64 ·)).toArray) j (.int .i64 i)) (j1 : In64 (j + 1)) (hL : LoopP Tryz.prog (loopOf Tryz.prog 25 0) ⟨smT l o (j + 1), (hN s false)⟩ x S) : LoopP Tryz.prog (loopOf Tryz.prog 25 0) ⟨smT l o j, hN s false⟩ x S :=
  loop_more mixed (fuel := 9) (n := 6) (keep := [4, 6, 7, 8, 14, 15, 16]) (ext := pkX) (im := [0, 1, 2, 3, 4, 5, 6, 7]) (orc := [.bool true, .int .i64 i, .nilFunc, .nilFunc]) (an lt <| an ix <| an j1 trivial) (by kernel_rfl) hL
set_option maxRecDepth 100000 in
theorem so_low_n (lt : decide (j < l.length) = true) (ix : IxP ((l.map (Value.int .i64 ·)).toArray) j (.int .i64 i)) (h0 : decide (i < 0) = true) (j1 : In64 (j + 1)) (hL : LoopP Tryz.prog (loopOf Tryz.prog 25 0) ⟨smT l o (j + 1), (hN s true)⟩ x S) : LoopP Tryz.prog (loopOf Tryz.prog 25 0) ⟨smT l o j, hN s true⟩ x S :=
  loop_more mixed (fuel := 9) (n := 6) (keep := [4, 6, 7, 8, 14, 15, 16]) (ext := pkX) (im := [0, 1, 2, 3, 4, 5, 6, 7]) (orc := [.bool true, .int .i64 i, .bool true, .nilFunc, .nilFunc]) (an lt <| an ix <| an h0 <| an j1 trivial) (by kernel_rfl) hL
set_option maxRecDepth 100000 in
theorem so_high_n (lt : decide (j < l.length) = true) (ix : IxP ((l.map (Value.int .i64 ·)).toArray) j (.int .i64 i)) (h0 : decide (i < 0) = false) (h1 : decide ((s.th.length : Int) ≤ i) = true) (j1 : In64 (j + 1)) (hL : LoopP Tryz.prog (loopOf Tryz.prog 25 0) ⟨smT l o (j + 1), (hN s true)⟩ x S) : LoopP Tryz.prog (loopOf Tryz.prog 25 0) ⟨smT l o j, hN s true⟩ x S :=
  loop_more mixed (fuel := 9) (n := 6) (keep := [4, 6, 7, 8, 14, 15, 16]) (ext := pkX) (im := [0, 1, 2, 3, 4, 5, 6, 7]) (orc := [.bool true, .int .i64 i, .bool false, .bool true, .nilFunc, .nilFunc]) (an lt <| an ix <| an h0 <| an h1 <| an j1 trivial) (by kernel_rfl) hL
set_option maxRecDepth 100000 in
theorem so_runs_n (lt : decide (j < l.length) = true) (ix : IxP ((l.map (Value.int .i64 ·)).toArray) j (.int .i64 n)) (hn : n < s.th.length) (rs : (thRuns (gth s.th n).st == 0) = false) (j1 : In64 (j + 1)) (hL : LoopP Tryz.prog (loopOf Tryz.prog 25 0) ⟨smT l o (j + 1), hN s true⟩ x S) : LoopP Tryz.prog (loopOf Tryz.prog 25 0) ⟨smT l o j, hN s true⟩ x S :=
  loop_more mixed (fuel := 9) (n := 6) (keep := [4, 6, 7, 8, 14, 15, 16]) (ext := pkX) (im := [0, 1, 2, 3, 4, 5, 6, 7]) (orc := [.bool true, .int .i64 n, .bool false, .bool false, thT (gth s.th n), .int .i64 (thRuns (gth s.th n).st), .bool false, .bool false]) (an lt <| an ix <| an (show decide ((n : Int) < 0) = false by simp) <| an (show decide ((s.th.length : Int) ≤ n) = false by have := hn; simp; omega) <| an (ixT hn) <| an (ac_pruns (t := gth s.th n) rfl) <| an rs <| an rs <| an j1 trivial) (by kernel_rfl) hL
set_option maxRecDepth 100000 in
theorem so_end_n (lt : decide (j < l.length) = false) : LoopP Tryz.prog (loopOf Tryz.prog 25 0) ⟨smT l o j, hN s b⟩ (.exit 0) ⟨smT l o j, hN s b⟩ :=
  loop_end mixed (fuel := 9) (n := 6) (keep := [4, 6, 7, 8, 14, 15, 16]) (ext := pkX) (im := [0, 1, 2, 3, 4, 5, 6, 7]) (orc := [.bool false]) (an lt trivial) (by intro e; cases e) (by kernel_rfl)
set_option maxRecDepth 100000 in
theorem so_ok_o (lt : decide (j < l.length) = true) (ix : IxP ((l.map (Value.int .i64 ·)).toArray) j (.int .i64 n)) (hn : n < s.th.length) (rs : thRuns (gth s.th n).st = 0) (hs : SideAt s n a) (hm : s.lg.length + a.lg.length ≤ 1000000) (o1 : In64 (o + 1)) (j1 : In64 (j + 1)) (hL : LoopP Tryz.prog (loopOf Tryz.prog 25 0) ⟨smT l (o + 1) (j + 1), (hO (a.toLg (s.lg ++ a.lg)) true)⟩ x S) : LoopP Tryz.prog (loopOf Tryz.prog 25 0) ⟨smT l o j, hO s true⟩ x S := by
  rcases hs with ⟨sd, st⟩ | ⟨sd, st⟩ | ⟨sd, st⟩ <;> exact loop_more mixed (fuel := 9) (n := 6) (keep := [4, 6, 7, 8, 14, 15, 16]) (ext := pkX) (im := [0, 1, 2, 3, 4, 5, 6, 7, 10]) (orc := [.bool true, .int .i64 n, .bool false, .bool false, thT (gth s.th n), .int .i64 0, .nilFunc, thT (gth s.th n), kOf sd, stT a, rowE (s.lg ++ a.lg), .nilFunc]) (an lt <| an ix <| an (show decide ((n : Int) < 0) = false by simp) <| an (show decide ((s.th.length : Int) ≤ n) = false by have := hn; simp; omega) <| an (ixT hn) <| an (ac_pruns (t := gth s.th n) rs) <| an (ixT hn) <| an (sd ▸ ac_pside (gth s.th n).ki) <| an st <| an (allK_E a.lg) <| an (lenE s.lg) <| an (app_more (f := enT) s.lg a.lg hm) <| an o1 <| an j1 trivial) (by kernel_rfl) hL
set_option maxRecDepth 100000 in
theorem so_ok_f (lt : decide (j < l.length) = true) (ix : IxP ((l.map (Value.int .i64 ·)).toArray) j (.int .i64 n)) (hn : n < s.th.length) (rs : thRuns (gth s.th n).st = 0) (hs : SideAt s n a) (ha : a.lg ≠ []) (hm : a.lg.length ≤ 1000000) (o1 : In64 (o + 1)) (j1 : In64 (j + 1)) (hL : LoopP Tryz.prog (loopOf Tryz.prog 25 0) ⟨smT l (o + 1) (j + 1), (hO a true)⟩ x S) : LoopP Tryz.prog (loopOf Tryz.prog 25 0) ⟨smT l o j, hN s true⟩ x S := by
  rcases hs with ⟨sd, st⟩ | ⟨sd, st⟩ | ⟨sd, st⟩ <;> exact loop_more mixed (fuel := 9) (n := 6) (keep := [4, 6, 7, 8, 14, 15, 16]) (ext := pkX) (im := [0, 1, 2, 3, 4, 5, 6, 7, 9]) (orc := [.bool true, .int .i64 n, .bool false, .bool false, thT (gth s.th n), .int .i64 0, .nilFunc, thT (gth s.th n), kOf sd, stT a, rowE a.lg, .nilFunc]) (an lt <| an ix <| an (show decide ((n : Int) < 0) = false by simp) <| an (show decide ((s.th.length : Int) ≤ n) = false by have := hn; simp; omega) <| an (ixT hn) <| an (ac_pruns (t := gth s.th n) rs) <| an (ixT hn) <| an (sd ▸ ac_pside (gth s.th n).ki) <| an st <| an (allK_E a.lg) <| an (app_nil (f := enT) ha hm) <| an o1 <| an j1 trivial) (by kernel_rfl) hL
set_option maxRecDepth 100000 in
theorem so_ok_n (lt : decide (j < l.length) = true) (ix : IxP ((l.map (Value.int .i64 ·)).toArray) j (.int .i64 n)) (hn : n < s.th.length) (rs : thRuns (gth s.th n).st = 0) (hs : SideAt s n a) (ha : a.lg.length = 0) (o1 : In64 (o + 1)) (j1 : In64 (j + 1)) (hL : LoopP Tryz.prog (loopOf Tryz.prog 25 0) ⟨smT l (o + 1) (j + 1), (hN a true)⟩ x S) : LoopP Tryz.prog (loopOf Tryz.prog 25 0) ⟨smT l o j, hN s true⟩ x S := by
  rcases hs with ⟨sd, st⟩ | ⟨sd, st⟩ | ⟨sd, st⟩ <;> exact loop_more mixed (fuel := 9) (n := 6) (keep := [4, 6, 7, 8, 14, 15, 16]) (ext := pkX) (im := [0, 1, 2, 3, 4, 5, 6, 7]) (orc := [.bool true, .int .i64 n, .bool false, .bool false, thT (gth s.th n), .int .i64 0, .nilFunc, thT (gth s.th n), kOf sd, stT a, .slice none 0 0, .nilFunc]) (an lt <| an ix <| an (show decide ((n : Int) < 0) = false by simp) <| an (show decide ((s.th.length : Int) ≤ n) = false by have := hn; simp; omega) <| an (ixT hn) <| an (ac_pruns (t := gth s.th n) rs) <| an (ixT hn) <| an (sd ▸ ac_pside (gth s.th n).ki) <| an st <| an (allK_E a.lg) <| an ha <| an o1 <| an j1 trivial) (by kernel_rfl) hL
end
end Go.Proofs.YtfhjllchbgclaaaGreat

/- Layer 17: Pick, path by path. (Written by tools/stepH.py.) -/
namespace Go.Proofs.YtfhjllchbgclaaaGreat
set_option linter.unusedVariables false
set_option linter.unusedSimpArgs false
open Go.RowKit
theorem ok_lg {s : St} (h : s.ok) : (s.toLg []).ok := { h with lg := by show (0 : Nat) ≤ maxLen; decide }
section
variable {s a : St} {n : Nat} {i : Int}
end
end Go.Proofs.YtfhjllchbgclaaaGreat

/- What the program's step hands back, by contract: Pick, Some. -/
namespace Go.Proofs.YtfhjllchbgclaaaGreat
set_option linter.unusedVariables false
set_option linter.unusedSimpArgs false
open Go.RowKit
theorem lg_self {s : St} (h : s.lg = []) : s.toLg [] = s := by
  obtain ⟨cf, hd, tl, md, sl, sn, rc, fe, fl, ee, el, nw, th, lg⟩ := s
  cases h
  rfl
theorem fit_lg {s : St} (h : s.fit) : (s.toLg []).fit := { h with lg := Nat.zero_le _ }
theorem in_side {s : St} {n : Nat} (hB : stB s = true) (hn : n < s.th.length) (rs : thRuns (gth s.th n).st = 0) : opSide (gth s.th n).ki = 1 ∨ opSide (gth s.th n).ki = 2 ∨ opSide (gth s.th n).ki = 3 := by
  have h2 := runs_not rs
  have h3 := gth_ok hB hn
  have := side_is (gth s.th n).ki
  generalize gth s.th n = t at h2 h3 this
  obtain ⟨st, ki, va, un, pc, re, se, tr, la, rs, go⟩ := t
  rw [thB_iff] at h3
  simp only at h2 this ⊢
  omega
/-- Which step it is. -/
theorem step_at {s : St} {n : Nat} (hB : stB s = true) (ho : s.ok) (hf : s.fit) (hn : n < s.th.length) (rs : thRuns (gth s.th n).st = 0) :
    SideAt s n (stepD (s.toLg []) n) := by
  have o' := ok_lg ho
  have f' := fit_lg hf
  have l' : (s.toLg []).lg.length ≤ 800000 := by show (0 : Nat) ≤ _; omega
  rcases in_side hB hn rs with h | h | h
  · refine .inl ⟨h, ?_⟩
    have e : stepD (s.toLg []) n = sendS (s.toLg []) n := by unfold stepD; exact if_pos h
    rw [e]; exact ac_pstep o' f' l'
  · refine .inr (.inl ⟨h, ?_⟩)
    have e : stepD (s.toLg []) n = recvS (s.toLg []) n := by
      unfold stepD
      rw [if_neg (show ¬ opSide (gth (s.toLg []).th ((n : Nat) : Int).toNat).ki = 1 from fun e => by have e' : opSide (gth s.th n).ki = 1 := e; omega)]
      exact if_pos h
    rw [e]; exact ac_vstep o' f' l'
  · refine .inr (.inr ⟨h, ?_⟩)
    have e : stepD (s.toLg []) n = closeS (s.toLg []) n := by
      unfold stepD
      rw [if_neg (show ¬ opSide (gth (s.toLg []).th ((n : Nat) : Int).toNat).ki = 1 from fun e => by have e' : opSide (gth s.th n).ki = 1 := e; omega)]
      exact if_neg fun e => by have e' : opSide (gth s.th n).ki = 2 := e; omega
    rw [e]; exact ac_cstep o' f' l'
/-- How much a step tells. -/
theorem step_tells {s : St} (hB : stB s = true) (ho : s.ok) (i : Int) : (stepD (s.toLg []) i).lg.length ≤ 1 := by
  have := (stepD_wk (wk_lg (N := s.lg.length) ⟨hB, .of ho, Nat.le_refl _⟩) (by omega) i).l
  omega
theorem stepS_own {s : St} {i : Int} : stepS s i = (stepD (s.toLg []) i).toLg (s.lg ++ (stepD (s.toLg []) i).lg) := rfl
theorem stepS_fst {s : St} {i : Int} (h : s.lg = []) : stepS s i = stepD (s.toLg []) i := by
  unfold stepS; rw [h]; rfl
theorem pickE_cfg {s : St} (h : stB s = false) (i : Int) : pickE s i = 20 := if_pos h
theorem pickE_out {s : St} (h : stB s = true) {i : Int} (hi : i < 0 ∨ (s.th.length : Int) ≤ i) : pickE s i = 123 := by
  unfold pickE; rw [if_neg (by simp [h]), if_pos hi]
theorem pickE_in {s : St} (h : stB s = true) {n : Nat} (hn : n < s.th.length) : pickE s n = thRuns (gth s.th n).st := by
  unfold pickE; rw [if_neg (by simp [h]), if_neg (by omega)]; rfl
theorem pickS_not {s : St} {i e : Int} (h : pickE s i = e) (he : e ≠ 0) : pickS s i = s := pick_no (by rw [h]; exact he)
/-! ### A round of a loop -/
def hP (s : St) (b : Bool) : List (Option Blk) := match s.lg with
  | [] => hN s b
  | _ => hO s b
theorem hP_nil {s : St} {b : Bool} (h : s.lg = []) : hP s b = hN s b := by simp [hP, h]
theorem hP_own {s : St} {b : Bool} (h : s.lg ≠ []) : hP s b = hO s b := by
  unfold hP; split
  · next e => exact absurd e h
  · rfl
theorem app_ne {l k : List En} (h : l ≠ []) : l ++ k ≠ [] := fun e => h (List.append_eq_nil_iff.1 e).1
section
variable {s : St} {l : List Int} {o m N : Int} {x : Exit} {S : Sg}
theorem so_one {j : Nat} (hj : j < l.length) (hB : stB s = true) (ho : s.ok) (hf : s.fit) (hm : s.lg.length ≤ 900000) (o1 : In64 (o + 1)) (j1 : In64 ((j : Int) + 1)) (hL : LoopP Tryz.prog (loopOf Tryz.prog 25 0) ⟨smT l (o + okN (pickE s l[j])) (j + 1), hP (pickS s l[j]) true⟩ x S) : LoopP Tryz.prog (loopOf Tryz.prog 25 0) ⟨smT l o j, hP s true⟩ x S := by
  have lt : decide ((j : Int) < l.length) = true := by simp; omega
  have ix := ixIl hj
  generalize l[j] = i at ix hL
  have no : ∀ {e : Int}, pickE s i = e → e ≠ 0 → LoopP Tryz.prog (loopOf Tryz.prog 25 0) ⟨smT l o (j + 1), hP s true⟩ x S := fun {e} he hne => by
    have h0 : okN (pickE s i) = 0 := by unfold okN; exact if_neg (by rw [he]; exact hne)
    have e1 : o + ((0 : Nat) : Int) = o := by omega
    rw [pickS_not he hne, h0, e1] at hL
    exact hL
  by_cases h0 : i < 0
  · have hL := no (pickE_out hB (.inl h0)) (by decide)
    by_cases hl : s.lg = []
    · rw [hP_nil hl] at hL ⊢; exact so_low_n lt ix (by simp [h0]) j1 hL
    · rw [hP_own hl] at hL ⊢; exact so_low_o lt ix (by simp [h0]) j1 hL
  · by_cases h1 : (s.th.length : Int) ≤ i
    · have hL := no (pickE_out hB (.inr h1)) (by decide)
      by_cases hl : s.lg = []
      · rw [hP_nil hl] at hL ⊢; exact so_high_n lt ix (by simp; omega) (by simp [h1]) j1 hL
      · rw [hP_own hl] at hL ⊢; exact so_high_o lt ix (by simp; omega) (by simp [h1]) j1 hL
    · obtain ⟨n, rfl⟩ : ∃ n : Nat, i = n := ⟨i.toNat, by omega⟩
      have hn : n < s.th.length := by omega
      have he := pickE_in hB hn
      by_cases rs : thRuns (gth s.th n).st = 0
      · have he0 : pickE s n = 0 := he.trans rs
        have ht := step_tells hB ho n
        have hk : okN (pickE s n) = 1 := by unfold okN; exact if_pos he0
        have e1 : o + ((1 : Nat) : Int) = o + 1 := rfl
        rw [pick_yes he0, hk, e1] at hL
        by_cases hl : s.lg = []
        · rw [hP_nil hl]
          rw [stepS_fst hl] at hL
          by_cases ha : (stepD (s.toLg []) n).lg = []
          · have ha' : (stepD (s.toLg []) n).lg.length = 0 := by rw [ha]; rfl
            rw [hP_nil ha] at hL
            exact so_ok_n lt ix hn rs (step_at hB ho hf hn rs) ha' o1 j1 hL
          · rw [hP_own ha] at hL
            exact so_ok_f lt ix hn rs (step_at hB ho hf hn rs) ha (by omega) o1 j1 hL
        · rw [hP_own hl]
          rw [stepS_own, hP_own (show ((stepD (s.toLg []) n).toLg (s.lg ++ (stepD (s.toLg []) n).lg)).lg ≠ [] from app_ne hl)] at hL
          exact so_ok_o lt ix hn rs (step_at hB ho hf hn rs) (by omega) o1 j1 hL
      · have hL := no he rs
        by_cases hl : s.lg = []
        · rw [hP_nil hl] at hL ⊢; exact so_runs_n lt ix hn (bne_of rs) j1 hL
        · rw [hP_own hl] at hL ⊢; exact so_runs_o lt ix hn (bne_of rs) j1 hL
end
end Go.Proofs.YtfhjllchbgclaaaGreat

/- What the program's step hands back, by contract: Some; who is active; Quiet. -/
namespace Go.Proofs.YtfhjllchbgclaaaGreat
set_option linter.unusedVariables false
set_option linter.unusedSimpArgs false
open Go.RowKit
/-! ### Some -/
section
variable {s u : St} {l : List Int} {o j : Int} {b : Bool} (ho : s.ok) (hf : s.fit) (hB : stB s = b)
include ho hf hB
set_option maxRecDepth 100000 in
theorem so_run_o (hl : s.lg ≠ []) (hL : LoopP Tryz.prog (loopOf Tryz.prog 25 0) ⟨smT l 0 0, (hO s b)⟩ (.exit 0) ⟨smT l o j, (hO u b)⟩) : AC Tryz.prog 25 [stT s, rowI l] (.tuple #[stT u, .int .i64 o]) :=
  ac_path mixed (ext := pkX) (fuel := 9) (n := 6) (orc := [.iface 1000004 (.func (.yield 19) #[.agg (stL s), .int .i64 5] #[]), vD b, oL [5, 1, 6, 7, 8, 9, 10, 11, 4] [4, 6, 7, 8, 14, 15, 16] 0 (smTl l o j) (hO u b)])
    (an (ao_keepL (neg_no s) ho hf hl) <| an (len_map (f := enT) s.lg) <| an (ac_pcheck hB ho) <| an hL <| an (len_map (f := enT) u.lg) trivial) (by kernel_rfl)
set_option maxRecDepth 100000 in
theorem so_run_n (hl : s.lg = []) (hL : LoopP Tryz.prog (loopOf Tryz.prog 25 0) ⟨smT l 0 0, (hN s b)⟩ (.exit 0) ⟨smT l o j, (hN u b)⟩) : AC Tryz.prog 25 [stT s, rowI l] (.tuple #[stT (u.toLg []), .int .i64 o]) :=
  ac_path mixed (ext := pkX) (fuel := 9) (n := 6) (orc := [.agg (stN s), vD b, oL [4, 1, 5, 6, 7, 8, 9, 10] [4, 6, 7, 8, 14, 15, 16] 0 (smTl l o j) (hN u b)])
    (an (ac_keepN (neg_no s) ho hf hl) <| an (ac_pcheck (s := s.toLg []) hB (ok_lg ho)) <| an hL trivial) (by kernel_rfl)
set_option maxRecDepth 100000 in
theorem so_run_f (hl : s.lg = []) (hL : LoopP Tryz.prog (loopOf Tryz.prog 25 0) ⟨smT l 0 0, (hN s b)⟩ (.exit 0) ⟨smT l o j, (hO u b)⟩) : AC Tryz.prog 25 [stT s, rowI l] (.tuple #[stT u, .int .i64 o]) :=
  ac_path mixed (ext := pkX) (fuel := 9) (n := 6) (orc := [.agg (stN s), vD b, oL [4, 1, 5, 6, 7, 8, 9, 10] [4, 6, 7, 8, 14, 15, 16] 0 (smTl l o j) (hO u b)])
    (an (ac_keepN (neg_no s) ho hf hl) <| an (ac_pcheck (s := s.toLg []) hB (ok_lg ho)) <| an hL <| an (len_map (f := enT) u.lg) trivial) (by kernel_rfl)
theorem so_run (hg : s.lg ≠ [] → u.lg ≠ []) (hL : LoopP Tryz.prog (loopOf Tryz.prog 25 0) ⟨smT l 0 0, (hP s b)⟩ (.exit 0) ⟨smT l o j, (hP u b)⟩) : AC Tryz.prog 25 [stT s, rowI l] (.tuple #[stT u, .int .i64 o]) := by
  by_cases hl : s.lg = []
  · rw [hP_nil hl] at hL
    by_cases hu : u.lg = []
    · rw [hP_nil hu] at hL
      have := so_run_n ho hf hB hl hL
      rwa [lg_self hu] at this
    · rw [hP_own hu] at hL; exact so_run_f ho hf hB hl hL
  · rw [hP_own hl, hP_own (hg hl)] at hL
    exact so_run_o ho hf hB hl hL
end
theorem pick_lg {s : St} (h : s.lg ≠ []) (i : Int) : (pickS s i).lg ≠ [] := by
  unfold pickS; split
  · exact app_ne h
  · exact h
theorem some_lg : ∀ (l : List Int) {s : St}, s.lg ≠ [] → (someS s l).1.lg ≠ []
  | [], _, h => h
  | i :: l, _, h => some_lg l (pick_lg h i)
theorem so_lp {l : List Int} (hm : l.length ≤ 100000) : ∀ (k j : Nat) {s : St} {o : Int}, l.length - j = k → j ≤ l.length → Wk s (200000 - k) → 0 ≤ o → o ≤ j → LoopP Tryz.prog (loopOf Tryz.prog 25 0) ⟨smT l o j, hP s true⟩ (.exit 0) ⟨smT l (o + (someS s (l.drop j)).2) l.length, hP (someS s (l.drop j)).1 true⟩
  | 0, j, s, o, hk, hj, w, _, _ => by
    have : j = l.length := by omega
    subst this
    rw [List.drop_length]
    show LoopP Tryz.prog (loopOf Tryz.prog 25 0) ⟨smT l o l.length, hP s true⟩ (.exit 0) ⟨smT l (o + ((0 : Nat) : Int)) l.length, hP s true⟩
    rw [show o + ((0 : Nat) : Int) = o by omega]
    have lt : decide ((l.length : Int) < l.length) = false := by simp
    by_cases hl : s.lg = []
    · rw [hP_nil hl]; exact so_end_n lt
    · rw [hP_own hl]; exact so_end_o lt
  | k + 1, j, s, o, hk, hj, w, h0, h1 => by
    have hj' : j < l.length := by omega
    have hw := w.l
    have w' := pick_wk w l[j]
    have hn : okN (pickE s l[j]) ≤ 1 := by unfold okN; split <;> omega
    have ih := so_lp hm k (j + 1) (s := pickS s l[j]) (o := o + okN (pickE s l[j])) (by omega) (by omega) ⟨w'.b, w'.v, by have := w'.l; omega⟩ (by omega) (by omega)
    rw [List.drop_eq_getElem_cons hj']
    have e : o + ((someS s (l[j] :: l.drop (j + 1))).2 : Int) = o + (okN (pickE s l[j]) : Int) + ((someS (pickS s l[j]) (l.drop (j + 1))).2 : Int) := by
      have : (someS s (l[j] :: l.drop (j + 1))).2 = (someS (pickS s l[j]) (l.drop (j + 1))).2 + okN (pickE s l[j]) := rfl
      rw [this]; omega
    rw [e]
    exact so_one hj' w.b (w.ok (by omega)) (w.fit (by omega)) (by omega) (by constructor <;> omega) (by constructor <;> omega) ih
theorem so_cfg {l : List Int} {s : St} (hm : l.length ≤ 100000) : ∀ (k j : Nat), l.length - j = k → j ≤ l.length → LoopP Tryz.prog (loopOf Tryz.prog 25 0) ⟨smT l 0 j, hP s false⟩ (.exit 0) ⟨smT l 0 l.length, hP s false⟩
  | 0, j, hk, hj => by
    have : j = l.length := by omega
    subst this
    have lt : decide ((l.length : Int) < l.length) = false := by simp
    by_cases hl : s.lg = []
    · rw [hP_nil hl]; exact so_end_n lt
    · rw [hP_own hl]; exact so_end_o lt
  | k + 1, j, hk, hj => by
    have hj' : j < l.length := by omega
    have ih := so_cfg (s := s) hm k (j + 1) (by omega) (by omega)
    have lt : decide ((j : Int) < l.length) = true := by simp; omega
    have j1 : In64 ((j : Int) + 1) := by constructor <;> omega
    by_cases hl : s.lg = []
    · rw [hP_nil hl] at ih ⊢; exact so_cfg_n lt (ixIl hj') j1 ih
    · rw [hP_own hl] at ih ⊢; exact so_cfg_o lt (ixIl hj') j1 ih
theorem ac_some {s : St} {l : List Int} (ho : s.ok) (hf : s.fit) (hl : s.lg.length ≤ 90000) (hm : l.length ≤ 100000) : AC Tryz.prog 25 [stT s, rowI l] (.tuple #[stT (someS s l).1, .int .i64 (someS s l).2]) := by
  cases hB : stB s
  · rw [some_no fun i _ => by rw [pickE_cfg hB i]; decide]
    exact so_run ho hf hB (fun h => h) (so_cfg hm l.length 0 rfl (by omega))
  · have := so_lp hm l.length 0 (s := s) (o := 0) rfl (by omega) ⟨hB, .of ho, by omega⟩ (by omega) (by omega)
    rw [List.drop_zero, Int.zero_add] at this
    exact so_run ho hf hB (some_lg l) this
/-! ### Who is active -/
section
variable {s : St} {b : Bool} {N : Int} {n : Nat} {l : List Int} {S : Sg} {x : Exit}
section
variable (lt : decide ((n : Int) < N) = true) (j1 : In64 ((n : Int) + 1))
include lt j1
end
end
end Go.Proofs.YtfhjllchbgclaaaGreat

/- What the program's step hands back, by contract: Rounds. -/
namespace Go.Proofs.YtfhjllchbgclaaaGreat
set_option linter.unusedVariables false
set_option linter.unusedSimpArgs false
open Go.RowKit
section
variable {s u : St} {b : Bool} {m o : Int} {S : Sg} {x : Exit}
variable (lt : decide (o < min m 200) = true) (o1 : In64 (o + 1))
include lt o1
end
section
variable {s u : St} {b : Bool} {m o : Int}
end
/-! ### A round of all threads -/
/-! ### The whole -/
section
variable {s u : St} {m o : Int} {b : Bool} (ho : s.ok) (hf : s.fit) (hB : stB s = b)
include ho hf hB
end
end Go.Proofs.YtfhjllchbgclaaaGreat

/- The head of the laws of layer 17 (awake), by contracts told by abstract values. -/
namespace Go.Proofs.YtfhjllchbgclaaaGreat
set_option linter.unusedVariables false
set_option linter.unusedSimpArgs false
open Go.RowKit
theorem z_in : st0.ok := by
  constructor <;> simp [st0, Cf.ok, In64, cf0, maxLen]
theorem fit_s {s : St} (h : stB s = true) (hl : s.lg.length ≤ 10) : s.fit := fit_of h (by omega)
end Go.Proofs.YtfhjllchbgclaaaGreat

/- The head of the laws of layer 18 (awake), by contracts told by abstract values. -/
namespace Go.Proofs.YtfhjllchbgclaaaGreat
set_option linter.unusedVariables false
set_option linter.unusedSimpArgs false
open Go.RowKit
def cK : Cf := ⟨1, 3, 0, 3, 0, 0, false⟩
def t0K : Th := ⟨1, 6, 0, 5, 0, 0, 0, 0, false, 0, 0⟩
def t1K : Th := ⟨1, 3, 7, 3, 0, 0, 0, 0, false, 0, 0⟩
def t2K : Th := ⟨1, 4, 0, 0, 0, 0, 0, 0, false, 0, 0⟩
def s0K : St := newSt cK
def s1K : St := s0K.setTh 0 t0K
def s2K : St := s1K.setTh 1 t1K
def s3K : St := s2K.setTh 2 t2K
def sK : St := (someS s3K [0, 0, 0, 0, 0, 0]).1
def aK : St := tickS sK 4
def bK : St := tickS aK 1
theorem cK_b : cfB cK = true := by decide
theorem s0K_b : stB s0K = true := new_stB cK_b
theorem s1K_b : stB s1K = true := by decide
theorem s2K_b : stB s2K = true := by decide
theorem s3K_b : stB s3K = true := by decide
theorem cK_in : cK.ok := by simp [cK, Cf.ok, In64]
theorem in_smallK {s : St} (hB : stB s = true) (hc : s.cf = cK) (hs : ∀ x ∈ s.sl, 0 ≤ x.vl ∧ x.vl ≤ 100) (ht : ∀ t ∈ s.th, (0 ≤ t.va ∧ t.va ≤ 100) ∧ 0 ≤ t.go ∧ t.go ≤ 100) (hl : s.lg.length ≤ 1000000) : s.ok :=
  ok_of hB ⟨hc ▸ cK_in, fun x hx => by have := hs x hx; constructor <;> omega, fun t h => by have := ht t h; exact ⟨⟨by omega, by omega⟩, ⟨by omega, by omega⟩⟩⟩ hl
theorem s0K_in : s0K.ok := in_smallK s0K_b rfl (by decide) (by decide) (by decide)
theorem s1K_in : s1K.ok := in_smallK s1K_b rfl (by decide) (by decide) (by decide)
theorem s2K_in : s2K.ok := in_smallK s2K_b rfl (by decide) (by decide) (by decide)
theorem s3K_in : s3K.ok := in_smallK s3K_b rfl (by decide) (by decide) (by decide)
theorem w_K : Wk sK 100 := some_wk [0, 0, 0, 0, 0, 0] (N := 94) ⟨s3K_b, .of s3K_in, (by decide : s3K.lg.length ≤ 94)⟩
theorem wkK {s : St} (h : Wk s 100) : TkK s := ⟨h.ok (by omega), h.few (by omega)⟩
theorem k_e4 : tickE sK 4 = 0 := by kernel_rfl
theorem k_i4 : tickI sK 4 = [1] := by kernel_rfl
theorem k_e1 : tickE aK 1 = 0 := by kernel_rfl
theorem k_i1 : tickI aK 1 = [0] := by kernel_rfl
theorem k_em : tickE sK (-1) = 50 := by kernel_rfl
theorem k_im : tickI sK (-1) = [] := by kernel_rfl
theorem k_ez : tickE st0 1 = 20 := by kernel_rfl
theorem k_iz : tickI st0 1 = [] := by kernel_rfl
theorem k_nt : nextT sK = 3 := by kernel_rfl
theorem k_nb : nextB sK = true := by kernel_rfl
theorem k_t1 : (ticksS sK [4, -1, 1]).1 = bK := by kernel_rfl
theorem k_t2 : (ticksS sK [4, -1, 1]).2 = 2 := by kernel_rfl
theorem k_du : duesS sK = [⟨3, 1⟩, ⟨5, 0⟩] := by kernel_rfl
theorem k_la : aK.th.length = 3 := by kernel_rfl
theorem k_lb : bK.th.length = 3 := by kernel_rfl
theorem k_ls : sK.th.length = 3 := by kernel_rfl
theorem k_s0 : (gth sK.th 0).st = 2 := by kernel_rfl
theorem k_nw : aK.nw = 4 := by kernel_rfl
theorem k_a1 : (gth aK.th 1).la = true := by kernel_rfl
theorem k_a0 : (gth aK.th 0).la = false := by kernel_rfl
theorem k_b0 : (gth bK.th 0).la = true := by kernel_rfl
theorem k_b1 : (gth bK.th 0).st = 1 := by kernel_rfl
theorem k_el : bK.el.length = 0 := by kernel_rfl
def awK : List FuncId := [23, 24, 25, 11, 15, 13, 20, 18, 19, 17]
set_option maxRecDepth 100000 in
theorem ak_path {s0 s1 s2 s3 s a b z : St} {n : Nat} (h0 : AC Tryz.prog 23 [cfT ⟨1, 3, 0, 3, 0, 0, false⟩] (.tuple #[stT s0, .int .i64 0])) (h1 : AC Tryz.prog 24 [stT s0, .int .i64 0, .int .i64 6, .int .i64 0, .int .i64 5] (.tuple #[stT s1, .int .i64 0])) (h2 : AC Tryz.prog 24 [stT s1, .int .i64 1, .int .i64 3, .int .i64 7, .int .i64 3] (.tuple #[stT s2, .int .i64 0])) (h3 : AC Tryz.prog 24 [stT s2, .int .i64 2, .int .i64 4, .int .i64 0, .int .i64 0] (.tuple #[stT s3, .int .i64 0]))
    (h4 : AC Tryz.prog 25 [stT s3, rowI [0, 0, 0, 0, 0, 0]] (.tuple #[stT s, .int .i64 n])) (h5 : AC Tryz.prog 11 [stT s, .int .i64 4] (.tuple #[stT a, rowI [1], .int .i64 0])) (h6 : AC Tryz.prog 11 [stT a, .int .i64 1] (.tuple #[stT b, rowI [0], .int .i64 0])) (h7 : AC Tryz.prog 11 [stT s, .int .i64 (-1)] (.tuple #[stT z, rowI [], .int .i64 50])) (h8 : AC Tryz.prog 11 [stT st0, .int .i64 1] (.tuple #[stT st0, rowI [], .int .i64 20])) (h9 : AC Tryz.prog 15 [stT s] (.tuple #[.int .i64 3, .bool true])) (h10 : AC Tryz.prog 13 [stT s, rowI [4, -1, 1]] (.tuple #[stT b, .int .i64 2]))
    (la : a.th.length = 3) (lb : b.th.length = 3) (ls : s.th.length = 3) (c0 : (gth s.th 0).st = 2) (c1 : a.nw = 4) (c2 : (gth a.th 1).la = true) (c3 : (gth a.th 0).la = false) (c4 : (gth b.th 0).la = true) (c5 : (gth b.th 0).st = 1) (c6 : b.el.length = 0) (h11 : AC Tryz.prog 17 [stT b, stT b] (.bool true)) (h12 : AC Tryz.prog 20 [stT s] (rowD [⟨3, 1⟩, ⟨5, 0⟩])) : AC Tryz.prog 9 [] (.bool true) :=
  ac_path mixed (ext := awK) (fuel := 9) (n := 6) (orc := [.tuple #[stT s0, .int .i64 0], .tuple #[stT s1, .int .i64 0], .tuple #[stT s2, .int .i64 0], .tuple #[stT s3, .int .i64 0], .tuple #[stT s, .int .i64 n], .tuple #[stT a, rowI [1], .int .i64 0], .tuple #[stT b, rowI [0], .int .i64 0], .tuple #[stT z, rowI [], .int .i64 50], .tuple #[stT st0, rowI [], .int .i64 20], .tuple #[.int .i64 3, .bool true], .tuple #[stT b, .int .i64 2], .bool false, .bool false, .bool false,
      thT (gth s.th 0), .bool true, vD true, .nilFunc, .bool true, thT (gth a.th 1), .bool true, thT (gth a.th 0), .bool true, vD true, .nilFunc, thT (gth b.th 0), .bool true, thT (gth b.th 0), .bool true, .bool true, .nilFunc, .nilFunc, .nilFunc, .nilFunc, vD true, .nilFunc, rowD [⟨3, 1⟩, ⟨5, 0⟩], vD true])
    (an h0 <| an h1 <| an h2 <| an h3 <| an (⟨rfl, rfl⟩ : LenP 6 6 [.int .i64 0, .int .i64 0, .int .i64 0, .int .i64 0, .int .i64 0, .int .i64 0]) <| an h4 <| an h5 <| an h6 <| an h7 <| an h8 <| an h9 <| an (⟨rfl, rfl⟩ : LenP 3 3 [.int .i64 4, .int .i64 (-1), .int .i64 1]) <| an h10 <|
      an (show ((a.th.length : Int) != 3) = false by rw [la]; rfl) <| an (show ((b.th.length : Int) != 3) = false by rw [lb]; rfl) <| an (show ((s.th.length : Int) != 3) = false by rw [ls]; rfl) <| an (ixT (l := s.th) (n := 0) (by omega)) <| an (show ((gth s.th 0).st == 2) = true by rw [c0]; rfl) <| an (⟨rfl, rfl⟩ : LenP 1 1 [.int .i64 1]) <| an (ac_rints [1] (by decide)) <|
      an (show (a.nw == 4) = true by rw [c1]; rfl) <| an (ixT (l := a.th) (n := 1) (by omega)) <| an c2 <| an (ixT (l := a.th) (n := 0) (by omega)) <| an (show (!(gth a.th 0).la) = true by rw [c3]; rfl) <| an (⟨rfl, rfl⟩ : LenP 1 1 [.int .i64 0]) <| an (ac_rints [0] (by decide)) <| an (ixT (l := b.th) (n := 0) (by omega)) <| an c4 <| an (ixT (l := b.th) (n := 0) (by omega)) <| an (show ((gth b.th 0).st == 1) = true by rw [c5]; rfl) <|
      an (show ((b.el.length : Int) == 0) = true by rw [c6]; rfl) <| an h11 <| an h12 <| an (⟨rfl, rfl⟩ : LenP 2 2 [duT ⟨3, 1⟩, duT ⟨5, 0⟩]) <| an (ac_rdsame [⟨3, 1⟩, ⟨5, 0⟩] (by decide)) trivial) (by kernel_rfl)
theorem v_1K : stBeg s0K 0 6 0 5 0 s1K := .inr (.inr ⟨s0K_b, by decide, 0, t0K, rfl, by decide, beg_ok_t (t := gth s0K.th 0) (v := 0) (u := 5) (by decide) (by decide) (by decide) (by decide), rfl⟩)
theorem v_2K : stBeg s1K 1 3 7 3 0 s2K := .inr (.inr ⟨s1K_b, by decide, 1, t1K, rfl, by decide, beg_ok_t (t := gth s1K.th 1) (v := 7) (u := 3) (by decide) (by decide) (by decide) (by decide), rfl⟩)
theorem v_3K : stBeg s2K 2 4 0 0 0 s3K := .inr (.inr ⟨s2K_b, by decide, 2, t2K, rfl, by decide, beg_ok_u (t := gth s2K.th 2) (v := 0) (u := 0) (by decide) (by decide) (by decide), rfl⟩)
theorem z_K : TkK st0 := ⟨z_in, by constructor <;> simp [st0]⟩
theorem ac_awakeK : AC Tryz.prog 9 [] (.bool true) := by
  have hs := wkK w_K
  have wa : Wk aK 100 := tick_wk w_K 4
  have wb : Wk bK 100 := tick_wk wa 1
  have p4 := ac_ptick (n := 4) hs (by decide)
  rw [k_e4, k_i4] at p4
  have p1 := ac_ptick (n := 1) (wkK wa) (by decide)
  rw [k_e1, k_i1] at p1
  have pm := ac_ptick (n := -1) hs (by decide)
  rw [k_em, k_im] at pm
  have pz := ac_ptick (n := 1) z_K (by decide)
  rw [k_ez, k_iz, (tick_no (s := st0) (n := 1) (by rw [k_ez]; decide)).1] at pz
  have pn := ac_ptnext hs
  rw [k_nt, k_nb] at pn
  have pt := ac_pticks (l := [4, -1, 1]) hs (by decide) (by decide)
  rw [k_t1, k_t2] at pt
  have pd := ac_pdues hs
  rw [k_du] at pd
  exact ak_path (ac_pnew cK_b) (ac_pinvoke v_1K s0K_in (fit_s s0K_b (by decide))) (ac_pinvoke v_2K s1K_in (fit_s s1K_b (by decide))) (ac_pinvoke v_3K s2K_in (fit_s s2K_b (by decide))) (ac_some s3K_in (fit_s s3K_b (by decide)) (by decide) (by decide)) p4 p1 pm pz pn pt k_la k_lb k_ls k_s0 k_nw k_a1 k_a0 k_b0 k_b1 k_el (ac_rsame (wb.few (by omega)) (Nat.le_trans wb.l (by omega))) pd
end Go.Proofs.YtfhjllchbgclaaaGreat

/- Any tick, some, who is to be late, and when the first one is, are what the document says: true of every state, time and list. -/
namespace Go.Proofs.YtfhjllchbgclaaaGreat
set_option linter.unusedVariables false
set_option linter.unusedSimpArgs false
open Go.ChangeShapes Go.WideShapes Go.ChangeAt Go.RowKit
def lkX : List FuncId := [9, 10, 11, 15, 13, 20, 12, 14, 16, 21, 18, 19, 17, 22]
theorem lk_few {s : St} (hF : fewB s = true) (ho : s.ok) : TkK s := ⟨ho, (few_is hF).1⟩
theorem TkK.same {s : St} (h : TkK s) : AC Tryz.prog 17 [stT s, stT s] (.bool true) := ac_rsame h.few (by have := h.few.lg; omega)
end Go.Proofs.YtfhjllchbgclaaaGreat
