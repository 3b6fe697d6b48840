/- Texts merged: FactsQ, FabTQ, FabKQ, OwnQ, ThEQ, ThIQ, ThGQ, ThMQ, FabLQ, FabMQ, TailQ, FabNQ, FabOQ, FabPQ. -/
import Derived.Test.YtjbcfjfnobklkaaGreatZb1
import Derived.Test.YtjbcfjfnobklkaaGreatZb6
import Derived.BigRegion
import Derived.Deep.RegionLaw
import Derived.StillTail
/- A region that draws its order, each of whose operations hands back one value: by a fact on each value, whatever the order. -/
namespace Go.Proofs.YtjbcfjfnobklkaaGreat
set_option linter.unusedVariables false
set_option linter.unusedSimpArgs false
open Go.RowKit
section
variable {P : Program} {Q : Exit → Act → World → Prop}

/-- K at the normal end, and no other end. -/
def Just (K : Act → World → Prop) : Exit → Act → World → Prop := Exit.then K (fun _ _ _ => False)
theorem wp_just {o : Oper} {a : Act} {w : World} {K K' : Act → World → Prop} (hh : o.wp P a w K (Just K')) : o.wp P a w K Q := by
  unfold Oper.wp at *
  generalize (execOp a.eval o).run P w = r at *
  cases r with
  | ok n w' =>
    cases n <;> simp only [Oper.upon] at hh ⊢ <;> try exact hh
    refine Calls.mono hh fun e w'' he => ?_
    cases e with
    | returned v => exact he
    | panicked c => exact (he : False).elim
    | outgrown => obtain ⟨_, _, h⟩ := he; exact (h : False).elim
  | halt x w' => cases x <;> simp only [Oper.upon] at hh ⊢ <;> first | exact hh | exact (hh : False).elim

/-- What is known while the region runs: what was there is kept; of each value of D (by number: in which temporary it stands) whose operation is done, a fact. -/
structure Facts (D : List Nat) (F : Nat → Value → World → Prop) (a : Act) (w : World) (done : Nat → Bool) (b : Act) (W : World) : Prop where
  kept : Below w.heap.size w W
  defers : b.defers = a.defers
  size : b.tmps.size = a.tmps.size
  rest : ∀ t, t ∉ D → b.tmps[t]? = a.tmps[t]?
  fact : ∀ i d, D[i]? = some d → done i = true → ∃ v, b.tmps[d]? = some v ∧ F i v W

theorem Facts.got {D : List Nat} {F : Nat → Value → World → Prop} {a b : Act} {w W : World} {done : Nat → Bool} (h : Facts D F a w done b W) (i : Nat) {d : Nat} (hi : D[i]? = some d) (hd : done i = true) : ∃ v, b.tmps.getD d undef = v ∧ F i v W := by
  obtain ⟨v, hv, hF⟩ := h.fact i d hi hd
  exact ⟨v, by simp [hv], hF⟩
theorem Facts.base {D : List Nat} {F : Nat → Value → World → Prop} {a b : Act} {w W : World} {done : Nat → Bool} (h : Facts D F a w done b W) (t : Nat) {v : Value} (ht : t ∉ D) (hv : a.tmps[t]? = some v) : b.tmps.getD t undef = v := by
  simp [h.rest t ht, hv]
theorem act_lit {b : Act} {n : Nat} {ds : List Deferred} (hz : b.tmps.size = n) (hd : b.defers = ds) : b = ⟨((List.range n).map fun i => b.tmps.getD i undef).toArray, ds⟩ := by
  obtain ⟨tm, df⟩ := b
  subst hz hd
  congr 1
  apply Array.ext
  · simp
  · intro i h1 h2
    simp [Array.getD, h1]
theorem wp_region_facts {id : Nat} {a : Act} {w : World} {l : List Oper} (D : List Nat) (F : Nat → Value → World → Prop) (hm : P.follows .mixedOrders = true) (ha : acyc l = true) (hD : l.map (·.dst) = D.map some) (hN : D.Nodup) (hsz : ∀ d ∈ D, d < a.tmps.size)
    (hg : l.all (fun o => o.guard.isNone) = true) (hmono : ∀ i v W W', F i v W → Below W.heap.size W W' → F i v W')
    (hstep : ∀ i o, l[i]? = some o → ∀ b W, Facts D F a w (fun j => o.after.toList.any fun e => Region.binds .any e && e.on == j) b W →
      wpList P l.toArray (Just (fun b' W' => ∃ v, b' = b.put o.dst v ∧ F i v W' ∧ Below W.heap.size W W')) [o] b W)
    (hend : ∀ b W, Facts D F a w (fun _ => true) b W → Q .normal b W) : (Code.region id l.toArray true).wp P Q a w := by
  have hlen : D.length = l.length := by have := congrArg List.length hD; simpa using this.symm
  have hdst : ∀ (i : Nat) o, l[i]? = some o → ∃ d, D[i]? = some d ∧ o.dst = some d := fun i o hi => by
    have h1 := congrArg (·[i]?) hD
    simp only [List.getElem?_map, hi, Option.map_some] at h1
    obtain ⟨d, hd, h2⟩ := Option.map_eq_some_iff.1 h1.symm
    exact ⟨d, hd, h2.symm⟩
  refine wp_region_inv (fun listed b W => Facts D F a w (fun i => decide (i < l.length) && listed.getD i false) b W) hm ha ?_ ?_ ?_
  · refine ⟨⟨rfl, rfl, rfl, Nat.le_refl _, fun _ _ => rfl⟩, rfl, rfl, fun _ _ => rfl, fun i d hi h => ?_⟩
    simp only [Bool.and_eq_true, decide_eq_true_eq] at h
    simp [Array.getD, h.1] at h
  · intro listed b W i o hs hI hi hn hw
    obtain ⟨d, hd, hod⟩ := hdst i o hi
    have hgo : o.guard = none := by
      have := List.all_eq_true.1 hg o (List.mem_of_getElem? hi)
      simpa using this
    have hil : i < l.length := (List.getElem?_eq_some_iff.1 hi).1
    have h1 := hstep i o hi b W ⟨hI.kept, hI.defers, hI.size, hI.rest, fun j dj hj hdone => by
      obtain ⟨e, he, h2⟩ := List.any_eq_true.1 hdone
      simp only [Bool.and_eq_true, beq_iff_eq] at h2
      have h3 := hw e (Array.mem_toList_iff.1 he) h2.1
      rw [h2.2] at h3
      have hjl : j < l.length := by rw [← hlen]; exact (List.getElem?_eq_some_iff.1 hj).1
      exact hI.fact j dj hj (by simp [h3, hjl])⟩
    have hi' : l.toArray[i]? = some o := by simpa using hi
    unfold wpOp
    simp only [hi', Region.wanted, hgo, if_true]
    left
    simp only [wpList, Region.wanted, hgo, if_true] at h1
    rcases h1 with h1 | ⟨_, _, _, h1⟩
    · refine Oper.wp_mono (fun b' W' hb => ?_) (wp_just h1)
      obtain ⟨v, rfl, hF, hB⟩ := (show ∃ v, b' = b.put o.dst v ∧ F i v W' ∧ Below W.heap.size W W' from hb)
      rw [hod]
      have hdm : d ∈ D := List.mem_of_getElem? hd
      have hdb : d < b.tmps.size := by rw [hI.size]; exact hsz d hdm
      refine ⟨hI.kept.trans (hB.mono hI.kept.size), hI.defers, by simpa [Act.put] using hI.size, fun t ht => ?_, fun j dj hj hdone => ?_⟩
      · have hne : t ≠ d := fun h => ht (h ▸ hdm)
        rw [← hI.rest t ht]
        simp [Act.put, Array.getElem?_setIfInBounds, Ne.symm hne]
      · by_cases hji : j = i
        · subst hji
          rw [hd] at hj; cases hj
          exact ⟨v, by simp [Act.put, hdb], hF⟩
        · have hne : dj ≠ d := fun h => hji (by
            subst h
            exact (List.getElem?_inj (List.getElem?_eq_some_iff.1 hj).1 hN).1 (hj.trans hd.symm))
          simp only [Bool.and_eq_true, decide_eq_true_eq] at hdone
          have h4 : listed.getD j false = true := by
            have := hdone.2
            by_cases hjz : j < listed.size
            · simpa [Array.getD, hjz, Array.getElem_setIfInBounds, Ne.symm hji] using this
            · simp [Array.getD, hjz] at this
          obtain ⟨u, hu, hFu⟩ := hI.fact j dj hj (by simp [h4, hdone.1])
          exact ⟨u, by simpa [Act.put, Array.getElem?_setIfInBounds, Ne.symm hne] using hu, hmono _ _ _ _ hFu hB⟩
    · exact (h1 : False).elim
  · intro b W hI
    refine hend b W ⟨hI.kept, hI.defers, hI.size, hI.rest, fun j dj hj _ => hI.fact j dj hj ?_⟩
    have hjl : j < l.length := by rw [← hlen]; exact (List.getElem?_eq_some_iff.1 hj).1
    simp [Array.getD, hjl]
end
end Go.Proofs.YtjbcfjfnobklkaaGreat

/- A region that draws its order: its head hands back values, a fact on each, whatever the order; its tail waits for all that stands ahead and is walked in the text's order. -/
namespace Go.Proofs.YtjbcfjfnobklkaaGreat
set_option linter.unusedVariables false
set_option linter.unusedSimpArgs false
open Go.RowKit
/-- Operation i waits for j, as it says itself. -/
def waitB (l : List Oper) (i j : Nat) : Bool := match l[i]? with | some o => o.after.any fun e => Region.binds .any e && e.on == j | none => false
theorem waitB_spec {l : List Oper} {i j : Nat} {o : Oper} (h : waitB l i j = true) (hi : l[i]? = some o) : ∃ e ∈ o.after, Region.binds .any e = true ∧ e.on = j := by
  simp only [waitB, hi] at h
  obtain ⟨k, hk, h3⟩ := Array.any_eq_true.1 h
  simp only [Bool.and_eq_true, beq_iff_eq] at h3
  exact ⟨_, Array.getElem_mem hk, h3.1, h3.2⟩
/-- The same, by as many between as f. -/
def waitN (l : List Oper) : Nat → Nat → Nat → Bool
  | 0, i, j => waitB l i j
  | f + 1, i, j => waitB l i j || (List.range l.length).any fun k => waitB l i k && waitN l f k j
/-- From number n on each operation waits for all ahead of it, by itself or by some between. -/
def tailB (l : List Oper) (n : Nat) : Bool := (List.range l.length).all fun i => decide (i < n) || (List.range i).all fun j => waitN l 9 i j
/-- What is done waited for what is done. -/
def Closed (l : List Oper) (listed : Array Bool) : Prop := ∀ (k : Nat) (o : Oper), l[k]? = some o → listed.getD k false = true → ∀ e ∈ o.after, Region.binds .any e = true → listed.getD e.on false = true
theorem Closed.set {l : List Oper} {listed : Array Bool} {i : Nat} {o : Oper} (h : Closed l listed) (hi : l[i]? = some o) (hw : ∀ e ∈ o.after, Region.binds .any e = true → listed.getD e.on false = true) : Closed l (listed.setIfInBounds i true) := by
  have hmono : ∀ j, listed.getD j false = true → (listed.setIfInBounds i true).getD j false = true := fun j hj => by
    by_cases hjz : j < listed.size
    · by_cases e : i = j
      · subst e; simp [Array.getD, hjz]
      · simpa [Array.getD, hjz, Array.getElem_setIfInBounds, e] using hj
    · simp [Array.getD, hjz] at hj
  intro k o' hk hl e he hb
  by_cases e1 : k = i
  · subst e1
    rw [hi] at hk; cases hk
    exact hmono _ (hw e he hb)
  · refine hmono _ (h k o' hk ?_ e he hb)
    by_cases hkz : k < listed.size
    · simpa [Array.getD, hkz, Array.getElem_setIfInBounds, Ne.symm e1] using hl
    · simp [Array.getD, hkz] at hl
theorem waitN_listed {l : List Oper} {j : Nat} {listed : Array Bool} (hc : Closed l listed) : ∀ (f i : Nat) (o : Oper), waitN l f i j = true → l[i]? = some o → (∀ e ∈ o.after, Region.binds .any e = true → listed.getD e.on false = true) → listed.getD j false = true
  | 0, i, o, h, hi, hw => by
    obtain ⟨e, he, hb, rfl⟩ := waitB_spec h hi
    exact hw e he hb
  | f + 1, i, o, h, hi, hw => by
    simp only [waitN, Bool.or_eq_true] at h
    rcases h with h | h
    · obtain ⟨e, he, hb, rfl⟩ := waitB_spec h hi
      exact hw e he hb
    · obtain ⟨k, hk, h3⟩ := List.any_eq_true.1 h
      simp only [Bool.and_eq_true] at h3
      obtain ⟨e, he, hb, rfl⟩ := waitB_spec h3.1 hi
      have hkl : e.on < l.length := List.mem_range.1 hk
      exact waitN_listed hc f _ _ h3.2 (List.getElem?_eq_getElem hkl) (hc _ _ (List.getElem?_eq_getElem hkl) (hw e he hb))
theorem tail_waits' {l : List Oper} {n i j : Nat} {o : Oper} {listed : Array Bool} (h : tailB l n = true) (hi : l[i]? = some o) (hn : n ≤ i) (hj : j < i) (hc : Closed l listed) (hw : ∀ e ∈ o.after, Region.binds .any e = true → listed.getD e.on false = true) : listed.getD j false = true := by
  have hil : i < l.length := (List.getElem?_eq_some_iff.1 hi).1
  have h1 := List.all_eq_true.1 h i (List.mem_range.2 hil)
  simp only [Bool.or_eq_true, decide_eq_true_eq] at h1
  rcases h1 with h1 | h1
  · omega
  · exact waitN_listed hc 9 i o (List.all_eq_true.1 h1 j (List.mem_range.2 hj)) hi hw
section
variable {P : Program} {Q : Exit → Act → World → Prop}
theorem wpOp_of_list {l : List Oper} {i : Nat} {o : Oper} {rest : List Oper} {a : Act} {w : World} (hi : l[i]? = some o) (h : wpList P l.toArray Q (o :: rest) a w) : wpOp P l.toArray Q i (wpList P l.toArray Q rest) a w := by
  have hi' : l.toArray[i]? = some o := by simpa using hi
  unfold wpOp
  simp only [hi']
  exact h
end
end Go.Proofs.YtjbcfjfnobklkaaGreat

/- Layer 13: a state copied. -/
namespace Go.Proofs.YtjbcfjfnobklkaaGreat
set_option linter.unusedVariables false
set_option linter.unusedSimpArgs false
open Go.ChangeShapes Go.WideShapes Go.ChangeAt Go.RowKit
/-- In which block a list lies. -/
def pbk (p : Option Addr) : Option Nat := p.map (·.block)
theorem own_pbk (p : Option Addr) (n k : Nat) : (Value.slice p n k).ownBlock = pbk p := by cases p <;> rfl
/-- Two lists that lie in no one block. -/
def NoSh (p q : Option Addr) : Prop := ∀ g, pbk p = some g → pbk q ≠ some g
theorem NoSh.symm {p q : Option Addr} (h : NoSh p q) : NoSh q p := fun g h1 h2 => h g h2 h1
theorem Ow.up {α : Type} {W : World} {base k n c : Nat} {e : TypeId} {enc : α → List Value} {xs : List α} {p : Option Addr} (h : Ow W base e k enc xs (.slice p n c)) : ∀ g, pbk p = some g → g < W.heap.size := fun g hg => (h.lt g (by rw [own_pbk]; exact hg)).2
theorem Ow.lo {α : Type} {W : World} {base k n c : Nat} {e : TypeId} {enc : α → List Value} {xs : List α} {p : Option Addr} (h : Ow W base e k enc xs (.slice p n c)) : ∀ g, pbk p = some g → base ≤ g := fun g hg => (h.lt g (by rw [own_pbk]; exact hg)).1
/-- A state whose lists are all the call's own (in no block below base), its threads, and its log, each in a block that no other list lies in. -/
structure StOw (W : World) (base : Nat) (s : St) (z : Pz) : Prop where
  sl : Ow W base 64 2 Slo.cells s.sl (.slice z.p1 s.sl.length z.k1)
  sn : Ow W base 3 1 intC s.sn (.slice z.p2 s.sn.length z.k2)
  rc : Ow W base 3 1 intC s.rc (.slice z.p3 s.rc.length z.k3)
  fl : Ow W base 3 1 intC s.fl (.slice z.p4 s.fl.length z.k4)
  el : Ow W base 3 1 intC s.el (.slice z.p5 s.el.length z.k5)
  th : Ow W base 44 11 Th.cells s.th (.slice z.p6 s.th.length z.k6)
  lg : Ow W base 60 5 En.cells s.lg (.slice z.p7 s.lg.length z.k7)
  a6 : NoSh z.p1 z.p6 ∧ NoSh z.p2 z.p6 ∧ NoSh z.p3 z.p6 ∧ NoSh z.p4 z.p6 ∧ NoSh z.p5 z.p6
  a7 : NoSh z.p1 z.p7 ∧ NoSh z.p2 z.p7 ∧ NoSh z.p3 z.p7 ∧ NoSh z.p4 z.p7 ∧ NoSh z.p5 z.p7 ∧ NoSh z.p6 z.p7
theorem StOw.at {W : World} {base : Nat} {s : St} {z : Pz} (h : StOw W base s z) : StAt W s z := ⟨Ow.sl Slo.enc h.sl, Ow.sl intEnc h.sn, Ow.sl intEnc h.rc, Ow.sl intEnc h.fl, Ow.sl intEnc h.el, Ow.sl Th.enc h.th, Ow.sl En.enc h.lg⟩
theorem StOw.kept {W W' : World} {base : Nat} {s : St} {z : Pz} (h : StOw W base s z) (hg : Below W.heap.size W W') : StOw W' base s z := ⟨Ow.kept h.sl hg, Ow.kept h.sn hg, Ow.kept h.rc hg, Ow.kept h.fl hg, Ow.kept h.el hg, Ow.kept h.th hg, Ow.kept h.lg hg, h.a6, h.a7⟩
theorem StOw.mono {W : World} {base base' : Nat} {s : St} {z : Pz} (h : StOw W base s z) (hb : base' ≤ base) : StOw W base' s z := ⟨ow_mono h.sl hb, ow_mono h.sn hb, ow_mono h.rc hb, ow_mono h.fl hb, ow_mono h.el hb, ow_mono h.th hb, ow_mono h.lg hb, h.a6, h.a7⟩
theorem StOw.out {W W' : World} {base b : Nat} {s : St} {z : Pz} (h : StOw W base s z) (ho : Out [b] W W') (hb : b < base) : StOw W' base s z := ⟨Ow.out h.sl ho hb, Ow.out h.sn ho hb, Ow.out h.rc ho hb, Ow.out h.fl ho hb, Ow.out h.el ho hb, Ow.out h.th ho hb, Ow.out h.lg ho hb, h.a6, h.a7⟩
/-- No list of a state is long. -/
structure St.few (s : St) : Prop where
  sl : s.sl.length ≤ 1000
  sn : s.sn.length ≤ 1000
  rc : s.rc.length ≤ 1000
  fl : s.fl.length ≤ 1000
  el : s.el.length ≤ 1000
  th : s.th.length ≤ 1000
  lg : s.lg.length ≤ 1000
/-- A list of integers copied, in no block below base. -/
def CopI (base : Nat) (l : List Int) (v : Value) (W : World) : Prop := ∃ q c, v = .slice q l.length c ∧ Ow W base 3 1 intC l (.slice q l.length c)
theorem CopI.kept {base : Nat} {l : List Int} {v : Value} {W W' : World} (h : CopI base l v W) (hg : Below W.heap.size W W') : CopI base l v W' := by
  obtain ⟨q, c, rfl, h⟩ := h
  exact ⟨q, c, rfl, Ow.kept h hg⟩
end Go.Proofs.YtjbcfjfnobklkaaGreat

/- STORES INTO A ROW OF THE CALL's OWN: a whole element, or one cell of it. -/
namespace Go.Proofs.YtjbcfjfnobklkaaGreat
set_option linter.unusedVariables false
set_option linter.unusedSimpArgs false
open Go.ChangeShapes Go.WideShapes Go.ChangeAt Go.RowKit
section
variable {α : Type} {k : Nat} {enc : α → List Value}
/-- A row's block: what it holds. -/
theorem Ow.block {W : World} {base : Nat} {e : TypeId} {l : List α} {g n c : Nat} (h : Ow W base e k enc l (.slice (some ⟨g, 0, none⟩) n c)) : ∃ cur : Array Value, W.heap[g]? = some (.cells cur e (0, 0)) ∧ l.length = n ∧ n ≤ c ∧ c ≤ maxLen ∧ cur.size = c * k ∧ cur.toList.take (l.length * k) = l.flatMap enc := by
  obtain ⟨h0, ⟨h1, _⟩ | ⟨_, _, cur, h1, hb, hg, hl, hm, hs, ht⟩⟩ := h
  · cases h1
  cases h1
  exact ⟨cur, hg, rfl, hl, hm, hs, ht⟩
theorem Ow.pos {W : World} {base : Nat} {e : TypeId} {l : List α} {p : Option Addr} {n c : Nat} (h : Ow W base e k enc l (.slice p n c)) (hn : 0 < l.length) : ∃ g, p = some ⟨g, 0, none⟩ := by
  obtain ⟨_, ⟨h1, h2⟩ | ⟨g, _, _, h1, _⟩⟩ := h
  · omega
  · cases h1; exact ⟨g, rfl⟩
end
section
variable {P : Program} {ops : Array Oper} {rest : List Oper} {o : Oper} {a : Act} {w : World} {Q : Exit → Act → World → Prop}
end
end Go.Proofs.YtjbcfjfnobklkaaGreat

/- Layer 12: a thread parked, woken, and done: the program's, and the document's. -/
namespace Go.Proofs.YtjbcfjfnobklkaaGreat
set_option linter.unusedVariables false
set_option linter.unusedSimpArgs false
open Go.ChangeShapes Go.WideShapes Go.ChangeAt Go.RowKit

theorem truns_x {st ki va un pc re se tr rs go E : Int} {la : Bool} (e : thRuns st = E) (w : World) : Calls Tryz.prog 84 #[.agg #[.int .i64 st, .int .i64 ki, .int .i64 va, .int .i64 un, .int .i64 pc, .int .i64 re, .int .i64 se, .int .i64 tr, .bool la, .int .i64 rs, .int .i64 go]] w fun e w' => e = .returned (.int .i64 E) ∧ w' = w.alloc (.cells #[.int .i64 (st), .int .i64 ki, .int .i64 va, .int .i64 un, .int .i64 pc, .int .i64 re, .int .i64 se, .int .i64 tr, .bool la, .int .i64 rs, .int .i64 go] 44) := by
  subst e
  go_enter Tryz.func84, Tryz.ntmps84
  go_wp2
  all_goals (go_ret; exact ⟨ret_int (by simp_all [thRuns]), rfl⟩)
theorem tended_x {st ki va un pc re se tr rs go : Int} {la : Bool} (w : World) : Calls Tryz.prog 217 #[.agg #[.int .i64 st, .int .i64 ki, .int .i64 va, .int .i64 un, .int .i64 pc, .int .i64 re, .int .i64 se, .int .i64 tr, .bool la, .int .i64 rs, .int .i64 go]] w fun e w' => e = .returned (.agg #[.int .i64 0, .int .i64 ki, .int .i64 va, .int .i64 un, .int .i64 0, .int .i64 0, .int .i64 0, .int .i64 0, .bool false, .int .i64 rs, .int .i64 go]) ∧ w' = (w.alloc (.cells #[.int .i64 (st), .int .i64 ki, .int .i64 va, .int .i64 un, .int .i64 pc, .int .i64 re, .int .i64 se, .int .i64 tr, .bool la, .int .i64 rs, .int .i64 go] 147)).alloc (.cells #[.int .i64 0, .int .i64 ki, .int .i64 va, .int .i64 un, .int .i64 0, .int .i64 0, .int .i64 0, .int .i64 0, .bool false, .int .i64 rs, .int .i64 go] 44) := by
  go_enter Tryz.func217, Tryz.ntmps217
  go_wp2
  refine bodyPost_ret (v := .agg #[.int .i64 0, .int .i64 ki, .int .i64 va, .int .i64 un, .int .i64 0, .int .i64 0, .int .i64 0, .int .i64 0, .bool false, .int .i64 rs, .int .i64 go]) (by simp [results, Tryz.results217, go_sem, *]) rfl ?_
  exact ⟨rfl, rfl⟩
theorem tidle_x {st ki va un pc re se tr rs go : Int} {la b : Bool} (e : (st == 0) = b) (w : World) : Calls Tryz.prog 126 #[.agg #[.int .i64 st, .int .i64 ki, .int .i64 va, .int .i64 un, .int .i64 pc, .int .i64 re, .int .i64 se, .int .i64 tr, .bool la, .int .i64 rs, .int .i64 go]] w fun e w' => e = .returned (.bool b) ∧ w' = w.alloc (.cells #[.int .i64 (st), .int .i64 ki, .int .i64 va, .int .i64 un, .int .i64 pc, .int .i64 re, .int .i64 se, .int .i64 tr, .bool la, .int .i64 rs, .int .i64 go] 147) := by
  subst e
  go_enter Tryz.func126, Tryz.ntmps126
  go_wp2
  all_goals (go_ret; exact ⟨ret_bool (by first | rfl | simp), rfl⟩)
theorem twithin_x (n l h : Int) (w : World) : Calls Tryz.prog 128 #[.int .i64 n, .int .i64 l, .int .i64 h] w fun e w' => e = .returned (.bool (thIn n l h)) ∧ w' = w := by
  go_enter Tryz.func128, Tryz.ntmps128
  go_wp2
  all_goals (go_ret; exact ⟨ret_bool (by first | (rw [Bool.eq_iff_iff]; simp [thIn]; omega) | (simp [thIn, *]; done) | (simp [thIn, *]; omega)), rfl⟩)
theorem otimed_x (k : Int) (w : World) : Calls Tryz.prog 127 #[.int .i64 k] w fun e w' => e = .returned (.bool (opTimed k)) ∧ w' = w := by
  go_enter Tryz.func127, Tryz.ntmps127
  go_wp2
  all_goals (go_ret; exact ⟨ret_bool (by first | (rw [Bool.eq_iff_iff]; simp [opTimed]; omega) | (simp [opTimed, *]; done)), rfl⟩)
theorem oside_x (k : Int) (w : World) : Calls Tryz.prog 85 #[.int .i64 k] w fun e w' => e = .returned (.int .i64 (opSide k)) ∧ w' = w := by
  by_cases h : 1 ≤ k ∧ k ≤ 8
  · obtain rfl | rfl | rfl | rfl | rfl | rfl | rfl | rfl : k = 1 ∨ k = 2 ∨ k = 3 ∨ k = 4 ∨ k = 5 ∨ k = 6 ∨ k = 7 ∨ k = 8 := by omega
    all_goals
      go_enter Tryz.func85, Tryz.ntmps85
      go_wp2
      all_goals (go_ret; exact ⟨ret_int (by decide), rfl⟩)
  · (have e1 : (k == 1) = false := by simp; omega); (have e2 : (k == 2) = false := by simp; omega); (have e3 : (k == 3) = false := by simp; omega); (have e4 : (k == 4) = false := by simp; omega); (have e5 : (k == 5) = false := by simp; omega); (have e6 : (k == 6) = false := by simp; omega); (have e7 : (k == 7) = false := by simp; omega); (have e8 : (k == 8) = false := by simp; omega)
    have e0 : opSide k = 0 := by have := side_is k; omega
    go_enter Tryz.func85, Tryz.ntmps85
    go_wp2
    all_goals (go_ret; exact ⟨ret_int (by first | rfl | exact e0.symm), rfl⟩)
theorem ocheck_x (k : Int) (w : World) : Calls Tryz.prog 125 #[.int .i64 k] w fun e w' => e = .returned (.bool (opB k)) ∧ w' = w := by
  go_enter Tryz.func125, Tryz.ntmps125
  go_wp2_with (go_at_call 85; refine (oside_x _ _).mono ?_; rintro e wx ⟨rfl, rfl⟩)
  all_goals (go_ret; exact ⟨ret_bool (by rw [opB_side]; first | rfl | simp), rfl⟩)
theorem runs0 : thRuns 0 = 121 := by decide
theorem runs2 : thRuns 2 = 122 := by decide
theorem runs1 {st : Int} (h0 : st ≠ 0) (h2 : st ≠ 2) : thRuns st = 0 := by unfold thRuns; rw [if_neg h0, if_neg h2]

set_option maxHeartbeats 2000000 in
theorem tdone_val {st ki va un pc re se tr rs go S K V U P R Q T X G E : Int} {la L : Bool} (h : thDone ⟨st, ki, va, un, pc, re, se, tr, la, rs, go⟩ E ⟨S, K, V, U, P, R, Q, T, L, X, G⟩) (w : World) : Calls Tryz.prog 163 #[.agg #[.int .i64 st, .int .i64 ki, .int .i64 va, .int .i64 un, .int .i64 pc, .int .i64 re, .int .i64 se, .int .i64 tr, .bool la, .int .i64 rs, .int .i64 go]] w fun e w' => e = .returned (.tuple #[.agg #[.int .i64 S, .int .i64 K, .int .i64 V, .int .i64 U, .int .i64 P, .int .i64 R, .int .i64 Q, .int .i64 T, .bool L, .int .i64 X, .int .i64 G], .int .i64 E]) ∧ Kept w w' := by
  rcases h with ⟨h0, rfl, hr⟩ | ⟨h0, rfl, hr⟩ | ⟨h0, h2, rfl, hr⟩
  · cases hr
    obtain rfl : st = 0 := h0
    go_enter Tryz.func163, Tryz.ntmps163
    go_wp2_with fail; refine (truns_x runs0 _).mono ?_; rintro e w1 ⟨rfl, rfl⟩
    go_wp2
    all_goals (refine bodyPost_ret (v := (.tuple #[.agg #[.int .i64 (0), .int .i64 ki, .int .i64 va, .int .i64 un, .int .i64 pc, .int .i64 re, .int .i64 se, .int .i64 tr, .bool la, .int .i64 rs, .int .i64 go], .int .i64 121])) (by simp [results, Tryz.results163, go_sem, *]) rfl ?_; exact ⟨rfl, by repeat' (first | (with_reducible exact Below.refl _ _) | (with_reducible assumption) | (with_reducible refine kept_alloc ?_ _) | (with_reducible refine kept_drewN ?_ _) | (with_reducible refine Below.drew ?_) | (with_reducible refine Below.setCell ?_ (by first | omega | (simp; omega) | (simp; done)) _) | (refine kept_trans ?_ (by with_reducible assumption)))⟩)
  · cases hr
    obtain rfl : st = 2 := h0
    go_enter Tryz.func163, Tryz.ntmps163
    go_wp2_with fail; refine (truns_x runs2 _).mono ?_; rintro e w1 ⟨rfl, rfl⟩
    go_wp2
    all_goals (refine bodyPost_ret (v := (.tuple #[.agg #[.int .i64 (2), .int .i64 ki, .int .i64 va, .int .i64 un, .int .i64 pc, .int .i64 re, .int .i64 se, .int .i64 tr, .bool la, .int .i64 rs, .int .i64 go], .int .i64 122])) (by simp [results, Tryz.results163, go_sem, *]) rfl ?_; exact ⟨rfl, by repeat' (first | (with_reducible exact Below.refl _ _) | (with_reducible assumption) | (with_reducible refine kept_alloc ?_ _) | (with_reducible refine kept_drewN ?_ _) | (with_reducible refine Below.drew ?_) | (with_reducible refine Below.setCell ?_ (by first | omega | (simp; omega) | (simp; done)) _) | (refine kept_trans ?_ (by with_reducible assumption)))⟩)
  · cases hr
    go_enter Tryz.func163, Tryz.ntmps163
    go_wp2_with fail; refine (truns_x (runs1 h0 h2) _).mono ?_; rintro e w1 ⟨rfl, rfl⟩
    clear h0 h2
    go_wp2_with (go_at_call 217; refine (tended_x _).mono ?_; rintro e wx ⟨rfl, rfl⟩)
    all_goals (refine bodyPost_ret (v := (.tuple #[.agg #[.int .i64 0, .int .i64 ki, .int .i64 va, .int .i64 un, .int .i64 0, .int .i64 0, .int .i64 0, .int .i64 0, .bool false, .int .i64 rs, .int .i64 go], .int .i64 0])) (by simp [results, Tryz.results163, go_sem, *]) rfl ?_; exact ⟨rfl, by repeat' (first | (with_reducible exact Below.refl _ _) | (with_reducible assumption) | (with_reducible refine kept_alloc ?_ _) | (with_reducible refine kept_drewN ?_ _) | (with_reducible refine Below.drew ?_) | (with_reducible refine Below.setCell ?_ (by first | omega | (simp; omega) | (simp; done)) _) | (refine kept_trans ?_ (by with_reducible assumption)))⟩)
set_option maxHeartbeats 2000000 in
theorem tpark_val {st ki va un pc re se tr rs go S K V U P R Q T X G E p : Int} {la L : Bool} (h : thPark ⟨st, ki, va, un, pc, re, se, tr, la, rs, go⟩ p E ⟨S, K, V, U, P, R, Q, T, L, X, G⟩) (w : World) : Calls Tryz.prog 161 #[.agg #[.int .i64 st, .int .i64 ki, .int .i64 va, .int .i64 un, .int .i64 pc, .int .i64 re, .int .i64 se, .int .i64 tr, .bool la, .int .i64 rs, .int .i64 go], .int .i64 p] w fun e w' => e = .returned (.tuple #[.agg #[.int .i64 S, .int .i64 K, .int .i64 V, .int .i64 U, .int .i64 P, .int .i64 R, .int .i64 Q, .int .i64 T, .bool L, .int .i64 X, .int .i64 G], .int .i64 E]) ∧ Kept w w' := by
  rcases h with ⟨h0, rfl, hr⟩ | ⟨h0, rfl, hr⟩ | ⟨h0, h2, rfl, hr⟩
  · cases hr
    obtain rfl : st = 0 := h0
    go_enter Tryz.func161, Tryz.ntmps161
    go_wp2_with fail; refine (truns_x runs0 _).mono ?_; rintro e w1 ⟨rfl, rfl⟩
    go_wp2
    all_goals (refine bodyPost_ret (v := (.tuple #[.agg #[.int .i64 (0), .int .i64 ki, .int .i64 va, .int .i64 un, .int .i64 pc, .int .i64 re, .int .i64 se, .int .i64 tr, .bool la, .int .i64 rs, .int .i64 go], .int .i64 121])) (by simp [results, Tryz.results161, go_sem, *]) rfl ?_; exact ⟨rfl, by repeat' (first | (with_reducible exact Below.refl _ _) | (with_reducible assumption) | (with_reducible refine kept_alloc ?_ _) | (with_reducible refine kept_drewN ?_ _) | (with_reducible refine Below.drew ?_) | (with_reducible refine Below.setCell ?_ (by first | omega | (simp; omega) | (simp; done)) _) | (refine kept_trans ?_ (by with_reducible assumption)))⟩)
  · cases hr
    obtain rfl : st = 2 := h0
    go_enter Tryz.func161, Tryz.ntmps161
    go_wp2_with fail; refine (truns_x runs2 _).mono ?_; rintro e w1 ⟨rfl, rfl⟩
    go_wp2
    all_goals (refine bodyPost_ret (v := (.tuple #[.agg #[.int .i64 (2), .int .i64 ki, .int .i64 va, .int .i64 un, .int .i64 pc, .int .i64 re, .int .i64 se, .int .i64 tr, .bool la, .int .i64 rs, .int .i64 go], .int .i64 122])) (by simp [results, Tryz.results161, go_sem, *]) rfl ?_; exact ⟨rfl, by repeat' (first | (with_reducible exact Below.refl _ _) | (with_reducible assumption) | (with_reducible refine kept_alloc ?_ _) | (with_reducible refine kept_drewN ?_ _) | (with_reducible refine Below.drew ?_) | (with_reducible refine Below.setCell ?_ (by first | omega | (simp; omega) | (simp; done)) _) | (refine kept_trans ?_ (by with_reducible assumption)))⟩)
  · cases hr
    go_enter Tryz.func161, Tryz.ntmps161
    go_wp2_with fail; refine (truns_x (runs1 h0 h2) _).mono ?_; rintro e w1 ⟨rfl, rfl⟩
    clear h0 h2
    go_wp2
    all_goals (refine bodyPost_ret (v := (.tuple #[.agg #[.int .i64 2, .int .i64 ki, .int .i64 va, .int .i64 un, .int .i64 P, .int .i64 re, .int .i64 se, .int .i64 0, .bool la, .int .i64 rs, .int .i64 go], .int .i64 0])) (by simp [results, Tryz.results161, go_sem, *]) rfl ?_; exact ⟨rfl, by repeat' (first | (with_reducible exact Below.refl _ _) | (with_reducible assumption) | (with_reducible refine kept_alloc ?_ _) | (with_reducible refine kept_drewN ?_ _) | (with_reducible refine Below.drew ?_) | (with_reducible refine Below.setCell ?_ (by first | omega | (simp; omega) | (simp; done)) _) | (refine kept_trans ?_ (by with_reducible assumption)))⟩)
set_option maxHeartbeats 2000000 in
theorem twake_val {st ki va un pc re se tr rs go S K V U P R Q T X G : Int} {la L : Bool} (h : thWake ⟨st, ki, va, un, pc, re, se, tr, la, rs, go⟩ ⟨S, K, V, U, P, R, Q, T, L, X, G⟩) (w : World) : Calls Tryz.prog 147 #[.agg #[.int .i64 st, .int .i64 ki, .int .i64 va, .int .i64 un, .int .i64 pc, .int .i64 re, .int .i64 se, .int .i64 tr, .bool la, .int .i64 rs, .int .i64 go]] w fun e w' => e = .returned (.agg #[.int .i64 S, .int .i64 K, .int .i64 V, .int .i64 U, .int .i64 P, .int .i64 R, .int .i64 Q, .int .i64 T, .bool L, .int .i64 X, .int .i64 G]) ∧ Kept w w' := by
  rcases h with ⟨h0, hr⟩ | ⟨h0, hr⟩
  · cases hr
    obtain rfl : st = 2 := h0
    go_enter Tryz.func147, Tryz.ntmps147
    go_wp2
    all_goals (refine bodyPost_ret (v := (.agg #[.int .i64 (1), .int .i64 ki, .int .i64 va, .int .i64 un, .int .i64 pc, .int .i64 re, .int .i64 se, .int .i64 tr, .bool la, .int .i64 rs, .int .i64 go])) (by simp [results, Tryz.results147, go_sem, *]) rfl ?_; exact ⟨rfl, by repeat' (first | (with_reducible exact Below.refl _ _) | (with_reducible assumption) | (with_reducible refine kept_alloc ?_ _) | (with_reducible refine kept_drewN ?_ _) | (with_reducible refine Below.drew ?_) | (with_reducible refine Below.setCell ?_ (by first | omega | (simp; omega) | (simp; done)) _) | (refine kept_trans ?_ (by with_reducible assumption)))⟩)
  · cases hr
    have k0 : (st == 2) = false := by simpa using h0
    have k1 : (st != 2) = true := by simpa using h0
    clear h0
    go_enter Tryz.func147, Tryz.ntmps147
    go_wp2
    all_goals (refine bodyPost_ret (v := (.agg #[.int .i64 (st), .int .i64 ki, .int .i64 va, .int .i64 un, .int .i64 pc, .int .i64 re, .int .i64 se, .int .i64 tr, .bool la, .int .i64 rs, .int .i64 go])) (by simp [results, Tryz.results147, go_sem, *]) rfl ?_; exact ⟨rfl, by repeat' (first | (with_reducible exact Below.refl _ _) | (with_reducible assumption) | (with_reducible refine kept_alloc ?_ _) | (with_reducible refine kept_drewN ?_ _) | (with_reducible refine Below.drew ?_) | (with_reducible refine Below.setCell ?_ (by first | omega | (simp; omega) | (simp; done)) _) | (refine kept_trans ?_ (by with_reducible assumption)))⟩)
end Go.Proofs.YtjbcfjfnobklkaaGreat

/- Layer 12: what begins on a thread: the program's, and the document's. -/
namespace Go.Proofs.YtjbcfjfnobklkaaGreat
set_option linter.unusedVariables false
set_option linter.unusedSimpArgs false
open Go.ChangeShapes Go.WideShapes Go.ChangeAt Go.RowKit
set_option maxHeartbeats 2000000 in
theorem tbeg_val {st ki va un pc re se tr rs go k v u S K V U P R Q T X G E : Int} {la L : Bool} (h : thBeg ⟨st, ki, va, un, pc, re, se, tr, la, rs, go⟩ k v u E ⟨S, K, V, U, P, R, Q, T, L, X, G⟩) (w : World) : Calls Tryz.prog 61 #[.agg #[.int .i64 st, .int .i64 ki, .int .i64 va, .int .i64 un, .int .i64 pc, .int .i64 re, .int .i64 se, .int .i64 tr, .bool la, .int .i64 rs, .int .i64 go], .int .i64 k, .int .i64 v, .int .i64 u] w fun e w' => e = .returned (.tuple #[.agg #[.int .i64 S, .int .i64 K, .int .i64 V, .int .i64 U, .int .i64 P, .int .i64 R, .int .i64 Q, .int .i64 T, .bool L, .int .i64 X, .int .i64 G], .int .i64 E]) ∧ Kept w w' := by
  rcases h with ⟨h0, rfl, hr⟩ | ⟨h0, h1, rfl, hr⟩ | ⟨h0, h1, h2, rfl, hr⟩ | ⟨h0, h1, h2, h3, rfl, hr⟩ | ⟨h0, h1, h2, h3, rfl, hr⟩
  · cases hr
    go_enter Tryz.func61, Tryz.ntmps61
    go_wp2_with fail; refine (tidle_x (b := false) (by simpa using h0) _).mono ?_; rintro e w1 ⟨rfl, rfl⟩
    clear h0
    go_wp2
    all_goals (refine bodyPost_ret (v := (.tuple #[.agg #[.int .i64 (st), .int .i64 ki, .int .i64 va, .int .i64 un, .int .i64 pc, .int .i64 re, .int .i64 se, .int .i64 tr, .bool la, .int .i64 rs, .int .i64 go], .int .i64 120])) (by simp [results, Tryz.results61, go_sem, *]) rfl ?_; exact ⟨rfl, by repeat' (first | (with_reducible exact Below.refl _ _) | (with_reducible assumption) | (with_reducible refine kept_alloc ?_ _) | (with_reducible refine kept_drewN ?_ _) | (with_reducible refine Below.drew ?_) | (with_reducible refine Below.setCell ?_ (by first | omega | (simp; omega) | (simp; done)) _) | (refine kept_trans ?_ (by with_reducible assumption)))⟩)
  · cases hr
    obtain rfl : st = 0 := h0
    go_enter Tryz.func61, Tryz.ntmps61
    go_wp2_with fail; refine (tidle_x (b := true) (by decide) _).mono ?_; rintro e w1 ⟨rfl, rfl⟩
    go_wp2_with (first | (go_at_call 125; refine (ocheck_x _ _).mono ?_; rintro e wx ⟨rfl, rfl⟩) | (go_at_call 127; refine (otimed_x _ _).mono ?_; rintro e wx ⟨rfl, rfl⟩) | (go_at_call 128; refine (twithin_x _ _ _ _).mono ?_; rintro e wx ⟨rfl, rfl⟩))
    all_goals (refine bodyPost_ret (v := (.tuple #[.agg #[.int .i64 (0), .int .i64 ki, .int .i64 va, .int .i64 un, .int .i64 pc, .int .i64 re, .int .i64 se, .int .i64 tr, .bool la, .int .i64 rs, .int .i64 go], .int .i64 190])) (by simp [results, Tryz.results61, go_sem, *]) rfl ?_; exact ⟨rfl, by repeat' (first | (with_reducible exact Below.refl _ _) | (with_reducible assumption) | (with_reducible refine kept_alloc ?_ _) | (with_reducible refine kept_drewN ?_ _) | (with_reducible refine Below.drew ?_) | (with_reducible refine Below.setCell ?_ (by first | omega | (simp; omega) | (simp; done)) _) | (refine kept_trans ?_ (by with_reducible assumption)))⟩)
  · cases hr
    obtain rfl : st = 0 := h0
    go_enter Tryz.func61, Tryz.ntmps61
    go_wp2_with fail; refine (tidle_x (b := true) (by decide) _).mono ?_; rintro e w1 ⟨rfl, rfl⟩
    go_wp2_with (first | (go_at_call 125; refine (ocheck_x _ _).mono ?_; rintro e wx ⟨rfl, rfl⟩) | (go_at_call 127; refine (otimed_x _ _).mono ?_; rintro e wx ⟨rfl, rfl⟩) | (go_at_call 128; refine (twithin_x _ _ _ _).mono ?_; rintro e wx ⟨rfl, rfl⟩))
    all_goals (refine bodyPost_ret (v := (.tuple #[(.agg #[.int .i64 1, .int .i64 k, .int .i64 v, .int .i64 0, .int .i64 0, .int .i64 0, .int .i64 0, .int .i64 0, .bool false, .int .i64 0, .int .i64 0]), .int .i64 0])) (by simp [results, Tryz.results61, go_sem, *]) rfl ?_; exact ⟨rfl, by repeat' (first | (with_reducible exact Below.refl _ _) | (with_reducible assumption) | (with_reducible refine kept_alloc ?_ _) | (with_reducible refine kept_drewN ?_ _) | (with_reducible refine Below.drew ?_) | (with_reducible refine Below.setCell ?_ (by first | omega | (simp; omega) | (simp; done)) _) | (refine kept_trans ?_ (by with_reducible assumption)))⟩)
  · cases hr
    obtain rfl : st = 0 := h0
    have h4 : thIn u 0 1099511627776 = false := by rw [← Bool.not_eq_true]; simp only [thIn, Bool.and_eq_true, decide_eq_true_eq]; exact h3
    clear h3
    go_enter Tryz.func61, Tryz.ntmps61
    go_wp2_with fail; refine (tidle_x (b := true) (by decide) _).mono ?_; rintro e w1 ⟨rfl, rfl⟩
    go_wp2_with (first | (go_at_call 125; refine (ocheck_x _ _).mono ?_; rintro e wx ⟨rfl, rfl⟩) | (go_at_call 127; refine (otimed_x _ _).mono ?_; rintro e wx ⟨rfl, rfl⟩) | (go_at_call 128; refine (twithin_x _ _ _ _).mono ?_; rintro e wx ⟨rfl, rfl⟩))
    all_goals (refine bodyPost_ret (v := (.tuple #[.agg #[.int .i64 (0), .int .i64 ki, .int .i64 va, .int .i64 un, .int .i64 pc, .int .i64 re, .int .i64 se, .int .i64 tr, .bool la, .int .i64 rs, .int .i64 go], .int .i64 50])) (by simp [results, Tryz.results61, go_sem, *]) rfl ?_; exact ⟨rfl, by repeat' (first | (with_reducible exact Below.refl _ _) | (with_reducible assumption) | (with_reducible refine kept_alloc ?_ _) | (with_reducible refine kept_drewN ?_ _) | (with_reducible refine Below.drew ?_) | (with_reducible refine Below.setCell ?_ (by first | omega | (simp; omega) | (simp; done)) _) | (refine kept_trans ?_ (by with_reducible assumption)))⟩)
  · cases hr
    obtain rfl : st = 0 := h0
    have h4 : thIn u 0 1099511627776 = true := by simp only [thIn, Bool.and_eq_true, decide_eq_true_eq]; exact h3
    clear h3
    go_enter Tryz.func61, Tryz.ntmps61
    go_wp2_with fail; refine (tidle_x (b := true) (by decide) _).mono ?_; rintro e w1 ⟨rfl, rfl⟩
    go_wp2_with (first | (go_at_call 125; refine (ocheck_x _ _).mono ?_; rintro e wx ⟨rfl, rfl⟩) | (go_at_call 127; refine (otimed_x _ _).mono ?_; rintro e wx ⟨rfl, rfl⟩) | (go_at_call 128; refine (twithin_x _ _ _ _).mono ?_; rintro e wx ⟨rfl, rfl⟩))
    all_goals (refine bodyPost_ret (v := (.tuple #[(.agg #[.int .i64 1, .int .i64 k, .int .i64 v, .int .i64 u, .int .i64 0, .int .i64 0, .int .i64 0, .int .i64 0, .bool false, .int .i64 0, .int .i64 0]), .int .i64 0])) (by simp [results, Tryz.results61, go_sem, *]) rfl ?_; exact ⟨rfl, by repeat' (first | (with_reducible exact Below.refl _ _) | (with_reducible assumption) | (with_reducible refine kept_alloc ?_ _) | (with_reducible refine kept_drewN ?_ _) | (with_reducible refine Below.drew ?_) | (with_reducible refine Below.setCell ?_ (by first | omega | (simp; omega) | (simp; done)) _) | (refine kept_trans ?_ (by with_reducible assumption)))⟩)
end Go.Proofs.YtjbcfjfnobklkaaGreat

/- Layer 12: whether a thread may be: the document's. -/
namespace Go.Proofs.YtjbcfjfnobklkaaGreat
set_option linter.unusedVariables false
set_option linter.unusedSimpArgs false
open Go.ChangeShapes Go.WideShapes Go.ChangeAt Go.RowKit
end Go.Proofs.YtjbcfjfnobklkaaGreat

/- Layer 12: values given; what every statement asks first. -/
namespace Go.Proofs.YtjbcfjfnobklkaaGreat
set_option linter.unusedVariables false
set_option linter.unusedSimpArgs false
open Go.ChangeShapes Go.WideShapes Go.ChangeAt Go.RowKit
theorem beg_ok_u {t : Th} {k v u : Int} (h : t.st = 0) (h1 : opB k = true) (h2 : opTimed k = false) : thBeg t k v u 0 ⟨1, k, v, 0, 0, 0, 0, 0, false, 0, 0⟩ := .inr (.inr (.inl ⟨h, h1, h2, rfl, rfl⟩))
end Go.Proofs.YtjbcfjfnobklkaaGreat

/- Layer 13: a state of which one thread is changed; what a thread begins. -/
namespace Go.Proofs.YtjbcfjfnobklkaaGreat
set_option linter.unusedVariables false
set_option linter.unusedSimpArgs false
open Go.ChangeShapes Go.WideShapes Go.ChangeAt Go.RowKit
theorem Ow.outN {α : Type} {W W' : World} {base k n c g : Nat} {e : TypeId} {enc : α → List Value} {xs : List α} {p : Option Addr} (h : Ow W base e k enc xs (.slice p n c)) (ho : Out [g] W W') (hne : NoSh p (some ⟨g, 0, none⟩)) : Ow W' base e k enc xs (.slice p n c) :=
  Ow.of_block h fun b hb => ho.block b (h.lt b hb).2 (by
    rw [own_pbk] at hb
    have := hne b hb
    intro h2
    exact this (by simp at h2; subst h2; rfl))
theorem StOw.setT {W W' : World} {base g : Nat} {s : St} {z : Pz} {n : Nat} {t : Th} (h : StOw W base s z) (hp : z.p6 = some ⟨g, 0, none⟩) (hT : Ow W' base 44 11 Th.cells (s.th.set n t) (.slice (some ⟨g, 0, none⟩) s.th.length z.k6)) (ho : Out [g] W W') : StOw W' base (s.setTh n t) z := by
  obtain ⟨a, b, c, d, e, f, i, a6, a7⟩ := h
  rw [hp] at a6 a7
  refine ⟨Ow.outN a ho a6.1, Ow.outN b ho a6.2.1, Ow.outN c ho a6.2.2.1, Ow.outN d ho a6.2.2.2.1, Ow.outN e ho a6.2.2.2.2, ?_, Ow.outN i ho a7.2.2.2.2.2.symm, by rw [hp]; exact a6, by rw [hp]; exact a7⟩
  show Ow W' base _ _ _ (s.th.set n t) (.slice z.p6 (s.th.set n t).length z.k6)
  rw [List.length_set, hp]
  exact hT
end Go.Proofs.YtjbcfjfnobklkaaGreat

/- Layer 13: Invoke. -/
namespace Go.Proofs.YtjbcfjfnobklkaaGreat
set_option linter.unusedVariables false
set_option linter.unusedSimpArgs false
open Go.ChangeShapes Go.WideShapes Go.ChangeAt Go.RowKit
end Go.Proofs.YtjbcfjfnobklkaaGreat

/- A region that draws its order, whose operations read, reckon and call what keeps the world, and which ends in stores, one behind the other ('return q, f(q) && g(q)', a struct among the results): one walk in the text's order, its head over a class of worlds, its tail as a list. -/
namespace Go.Proofs.YtjbcfjfnobklkaaGreat
set_option linter.unusedVariables false
set_option linter.unusedSimpArgs false
open Go.RowKit
section
variable {P : Program} {ops : Array Oper} {md : Region.Mode} {C : World → Prop}

end

/-- These blocks hold these objects. -/
def ObjsAt (W : World) : List (Nat × Obj) → Prop
  | [] => True
  | x :: r => W.heap[x.1]? = some x.2 ∧ ObjsAt W r
/-- THE CLASS OF WORLDS: what was there is kept, and these blocks hold these objects. -/
def Wo (w : World) (l : List (Nat × Obj)) : Type := { w' : World // Below w.heap.size w w' ∧ ObjsAt w' l }
def Wo.at {w : World} {l : List (Nat × Obj)} (x : Wo w l) : World := x.1
theorem Wo.kept {w : World} {l : List (Nat × Obj)} (x : Wo w l) : Below w.heap.size w x.at := x.2.1
theorem Wo.mk {w W : World} {l : List (Nat × Obj)} (h : Below w.heap.size w W) (c : ObjsAt W l) : ∃ x : Wo w l, W = x.at := ⟨⟨W, h, c⟩, rfl⟩
end Go.Proofs.YtjbcfjfnobklkaaGreat

/- Layer 13: Tell. -/
namespace Go.Proofs.YtjbcfjfnobklkaaGreat
set_option linter.unusedVariables false
set_option linter.unusedSimpArgs false
open Go.ChangeShapes Go.WideShapes Go.ChangeAt Go.RowKit
theorem Bk.grown {W W' : World} {b : Nat} {cs : List Value} {row : Option Nat} (h : Bk W b cs) (hg : W.grownBy W' row) (hne : row ≠ some b) : Bk W' b cs := by
  obtain ⟨t, ht⟩ := h
  exact ⟨t, (hg.block b (Array.getElem?_eq_some_iff.1 ht).1 (fun e => hne e.symm)).trans ht⟩
/-- No list of it lies in that block. -/
def Pz.free (z : Pz) (b : Nat) : Prop := (pbk z.p1 ≠ some b ∧ pbk z.p2 ≠ some b ∧ pbk z.p3 ≠ some b ∧ pbk z.p4 ≠ some b ∧ pbk z.p5 ≠ some b) ∧ pbk z.p6 ≠ some b ∧ pbk z.p7 ≠ some b
theorem Ow.outP {α : Type} {W W' : World} {base k n c b : Nat} {e : TypeId} {enc : α → List Value} {xs : List α} {p : Option Addr} (h : Ow W base e k enc xs (.slice p n c)) (ho : Out [b] W W') (hne : pbk p ≠ some b) : Ow W' base e k enc xs (.slice p n c) :=
  Ow.of_block h fun g hg => ho.block g (h.lt g hg).2 (by
    rw [own_pbk] at hg
    intro h2
    simp at h2; subst h2; exact hne hg)
theorem StOw.outN {W W' : World} {base b : Nat} {s : St} {z : Pz} (h : StOw W base s z) (ho : Out [b] W W') (hf : z.free b) : StOw W' base s z :=
  ⟨Ow.outP h.sl ho hf.1.1, Ow.outP h.sn ho hf.1.2.1, Ow.outP h.rc ho hf.1.2.2.1, Ow.outP h.fl ho hf.1.2.2.2.1, Ow.outP h.el ho hf.1.2.2.2.2, Ow.outP h.th ho hf.2.1, Ow.outP h.lg ho hf.2.2, h.a6, h.a7⟩
theorem Ow.grownP {α : Type} {W W' : World} {base k n c : Nat} {e : TypeId} {enc : α → List Value} {xs : List α} {p q : Option Addr} (h : Ow W base e k enc xs (.slice p n c)) (hg : W.grownBy W' (pbk q)) (hne : NoSh p q) : Ow W' base e k enc xs (.slice p n c) :=
  Ow.grown h hg fun g hg => by rw [own_pbk] at hg; exact hne g hg
/-- A state behind an append to its log. -/
theorem StOw.app {W W' : World} {base : Nat} {s : St} {z : Pz} {x : En} {p : Option Addr} {n c : Nat} (h : StOw W base s z) (hA : Ow W' base 60 5 En.cells (s.lg ++ [x]) (.slice p n c)) (hn : n = (s.lg ++ [x]).length) (hg : W.grownBy W' (pbk z.p7)) (hp : ∀ g, pbk p = some g → pbk z.p7 = some g ∨ g = W.heap.size) :
    StOw W' base (s.addLg x) ⟨z.p1, z.k1, z.p2, z.k2, z.p3, z.k3, z.p4, z.k4, z.p5, z.k5, z.p6, z.k6, p, c⟩ := by
  subst hn
  have f : ∀ {u : Option Addr}, (∀ g, pbk u = some g → g < W.heap.size) → NoSh u z.p7 → NoSh u p := fun hu hne g h1 h2 => by
    rcases hp g h2 with h3 | h3
    · exact hne g h1 h3
    · have := hu g h1; omega
  exact ⟨Ow.grownP h.sl hg h.a7.1, Ow.grownP h.sn hg h.a7.2.1, Ow.grownP h.rc hg h.a7.2.2.1, Ow.grownP h.fl hg h.a7.2.2.2.1, Ow.grownP h.el hg h.a7.2.2.2.2.1, Ow.grownP h.th hg h.a7.2.2.2.2.2, hA, h.a6,
    f (Ow.up h.sl) h.a7.1, f (Ow.up h.sn) h.a7.2.1, f (Ow.up h.rc) h.a7.2.2.1, f (Ow.up h.fl) h.a7.2.2.2.1, f (Ow.up h.el) h.a7.2.2.2.2.1, f (Ow.up h.th) h.a7.2.2.2.2.2⟩
/-- A literal of one entry. -/
def OneE (x : En) (v : Value) (W : World) : Prop := ∃ g, v = .slice (some ⟨g, 0, none⟩) 1 1 ∧ Sl W 5 En.cells [x] (.slice (some ⟨g, 0, none⟩) 1 1)
theorem OneE.kept {x : En} {v : Value} {W W' : World} (h : OneE x v W) (hg : Below W.heap.size W W') : OneE x v W' := by
  obtain ⟨g, rfl, h⟩ := h
  exact ⟨g, rfl, h.kept hg⟩
end Go.Proofs.YtjbcfjfnobklkaaGreat

/- Layer 13: a new state. -/
namespace Go.Proofs.YtjbcfjfnobklkaaGreat
set_option linter.unusedVariables false
set_option linter.unusedSimpArgs false
open Go.ChangeShapes Go.WideShapes Go.ChangeAt Go.RowKit
def CopS (base : Nat) (l : List Slo) (v : Value) (W : World) : Prop := ∃ q c, v = .slice q l.length c ∧ Ow W base 64 2 Slo.cells l (.slice q l.length c)
def CopT (base : Nat) (l : List Th) (v : Value) (W : World) : Prop := ∃ q c, v = .slice q l.length c ∧ Ow W base 44 11 Th.cells l (.slice q l.length c)
theorem CopS.kept {base : Nat} {l : List Slo} {v : Value} {W W' : World} (h : CopS base l v W) (hg : Below W.heap.size W W') : CopS base l v W' := by
  obtain ⟨q, c, rfl, h⟩ := h
  exact ⟨q, c, rfl, Ow.kept h hg⟩
theorem CopT.kept {base : Nat} {l : List Th} {v : Value} {W W' : World} (h : CopT base l v W) (hg : Below W.heap.size W W') : CopT base l v W' := by
  obtain ⟨q, c, rfl, h⟩ := h
  exact ⟨q, c, rfl, Ow.kept h hg⟩
end Go.Proofs.YtjbcfjfnobklkaaGreat

/- Layer 13: what a state is told by. -/
namespace Go.Proofs.YtjbcfjfnobklkaaGreat
set_option linter.unusedVariables false
set_option linter.unusedSimpArgs false
open Go.ChangeShapes Go.WideShapes Go.ChangeAt Go.RowKit
/-- A literal of one integer. -/
def OneI (x : Int) (v : Value) (W : World) : Prop := ∃ g, v = .slice (some ⟨g, 0, none⟩) 1 1 ∧ Sl W 1 intC [x] (.slice (some ⟨g, 0, none⟩) 1 1)
theorem OneI.kept {x : Int} {v : Value} {W W' : World} (h : OneI x v W) (hg : Below W.heap.size W W') : OneI x v W' := by
  obtain ⟨g, rfl, h⟩ := h
  exact ⟨g, rfl, h.kept hg⟩
end Go.Proofs.YtjbcfjfnobklkaaGreat
