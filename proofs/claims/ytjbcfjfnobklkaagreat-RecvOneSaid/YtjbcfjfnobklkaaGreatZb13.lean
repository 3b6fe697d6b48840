/- Texts merged: RcHQ, RcUQ, RcPQ, RcWQ, RcLQ, RcMQ, RcNQ, RcRQ, EqLQ, AcSQ, RecvRQ. -/
import Derived.Test.YtjbcfjfnobklkaaGreatZb12
import Derived.Test.YtjbcfjfnobklkaaGreatZb11
import Derived.Test.YtjbcfjfnobklkaaGreatZb9
import Derived.Test.YtjbcfjfnobklkaaGreatZb3
import Derived.Laws.StructEq
import Derived.Test.YtjbcfjfnobklkaaGreatZb10
/- The table of steps is made (in a region that draws its order): its rows, in whatever order, are what they are. -/
namespace Go.Proofs.YtjbcfjfnobklkaaGreat
set_option linter.unusedVariables false
set_option linter.unusedSimpArgs false
open Go.RowKit
def rgD : List (Option Nat) := [some 7, some 8, some 9, some 10, some 11, none, some 12, some 13, none, some 14, some 15, none, some 16, some 17, none, some 18, some 19, some 20, some 21, none, some 22, some 23, some 24, some 25, none, some 26, some 27, some 28, some 29, none, some 30, some 31, none, some 32, some 33, none]
def rgIns : List (Nat × Int × Nat) := [(5, 0, 4), (8, 1, 7), (11, 2, 10), (14, 3, 13), (19, 4, 18), (24, 5, 23), (29, 6, 28), (32, 7, 31), (35, 8, 34)]
noncomputable def rgL : List Oper := match regOf Tryz.prog 28 0 with
  | .region _ ops _ => ops.toList
  | _ => []
noncomputable def rgI : Nat := match regOf Tryz.prog 28 0 with
  | .region id _ _ => id
  | _ => 0
theorem rg_is : regOf Tryz.prog 28 0 = .region rgI rgL.toArray true := by kernel_rfl
noncomputable def rgO (i : Nat) : Oper := rgL.getD i ⟨none, .move (.const undef), 0, "", #[], none⟩
/-- A closure on to a step: what it does, its receiver, the step, each in a variable of its own. -/
def CloR (N : Nat) (bp c : Value) (g : Nat) (k : Int) (v : Value) (W : World) : Prop := ∃ (b1 b3 : Nat) (t1 t3 : TypeId), v = .func (.func 72) #[] #[.pointer (some ⟨b1, 0, none⟩), bp, .pointer (some ⟨b3, 0, none⟩)] ∧ N ≤ b1 ∧ N ≤ b3 ∧
  W.heap[b1]? = some (.cells #[.func (.func g) #[c] #[]] t1 (0, 0)) ∧ W.heap[b3]? = some (.cells #[.int .i64 k] t3 (0, 0))
def cloX (N : Nat) (bp c : Value) (g : Nat) (k : Int) : KX (Rm N) := ⟨fun v W => CloR N bp c g k v W, fun ⟨b1, b3, t1, t3, h1, h2, h3, h4, h5⟩ hR => ⟨b1, b3, t1, t3, h1, h2, h3, (hR.cels _ _ _ _ h4).trans h4, (hR.cels _ _ _ _ h5).trans h5⟩⟩
def rgF (N : Nat) (bp c V3 : Value) : List (KX (Rm N)) := [KX.tt _, KX.eq _ V3, KX.eq _ c, KX.eq _ (.func (.func 74) #[c] #[]), cloX N bp c 74 1, KX.tt _, KX.eq _ c, KX.eq _ (.func (.func 75) #[c] #[]), KX.tt _, KX.eq _ c, KX.eq _ (.func (.func 76) #[c] #[]), KX.tt _, KX.eq _ c, KX.eq _ (.func (.func 77) #[c] #[]), KX.tt _, KX.eq _ V3, KX.eq _ c, KX.eq _ (.func (.func 78) #[c] #[]), cloX N bp c 78 6, KX.tt _, KX.eq _ V3, KX.eq _ c, KX.eq _ (.func (.func 79) #[c] #[]), cloX N bp c 79 7, KX.tt _, KX.eq _ V3, KX.eq _ c, KX.eq _ (.func (.func 80) #[c] #[]), cloX N bp c 80 9, KX.tt _, KX.eq _ c, KX.eq _ (.func (.func 81) #[c] #[]), KX.tt _, KX.eq _ c, KX.eq _ (.func (.func 82) #[c] #[]), KX.tt _]
theorem steps1_any (g : Nat) (c p : Value) (k : Int) (w : World) : Calls Tryz.prog 71 #[.func (.func g) #[c] #[], .int .i64 k, p] w fun e w' => e = .returned (.func (.func 72) #[] #[.pointer (some ⟨w.heap.size, 0, none⟩), p, .pointer (some ⟨w.heap.size + 1, 0, none⟩)]) ∧
    w' = (w.alloc (.cells #[.func (.func g) #[c] #[]] 1)).alloc (.cells #[.int .i64 k] 3) := by
  go_enter Tryz.func71, Tryz.ntmps71
  go_wp2
  go_ret
  exact ⟨rfl, rfl⟩
section
variable {P : Program} {Q : Exit → Act → World → Prop}
theorem st_val {o : Oper} {b : Act} {W : World} {K : Act → World → Prop} {v : Value} (hr : (execOp b.eval o).run P W = .ok (.value v) W) (hK : K (b.put o.dst v) W) : o.wp P b W K Q := by unfold Oper.wp; rw [hr]; exact hK
theorem ld1 {o : Oper} {b : Act} {W : World} {t : TypeId} {x : Nat} {g : Nat} {u : Value} (ho : o.op = .load t (.tmp x)) (ht : tyRow P t = some false) (hx : b.tmps[x]? = some (.pointer (some ⟨g, 0, none⟩))) (hu : W.cell? ⟨g, 0, none⟩ = some u) : (execOp b.eval o).run P W = .ok (.value u) W := by
  have h1 : b.eval (.tmp x) = .pointer (some ⟨g, 0, none⟩) := by simp [Act.eval, hx]
  have h2 : (loadVar t ⟨g, 0, none⟩).run P W = .ok u W := by unfold loadVar; simp [Sem.run_bind, run_row ht, hu]
  simp [execOp, ho, h1, Instr.loadAt, Instr.sureAddr, Sem.run_bind, h2]
end
theorem st_clo {Q : Exit → Act → World → Prop} {o : Oper} {b : Act} {W : World} {K : Act → World → Prop} {x y N : Nat} {g : Nat} {k : Int} {c bp V3 : Value} {ats : Array TypeId} (ho : o.op = .call { callee := .value (.tmp x), args := #[.tmp y, .const (.int .i64 k)], argTypes := ats }) (hx : b.tmps[x]? = some V3) (hy : b.tmps[y]? = some (.func (.func g) #[c] #[])) (hV : V3 = .func (.func 71) #[] #[bp]) (hN : N ≤ W.heap.size)
    (hK : ∀ v W', CloR N bp c g k v W' → Below W.heap.size W W' → K (b.put o.dst v) W') : o.wp Tryz.prog b W K Q := by
  have h1 : b.eval (.tmp x) = .func (.func 71) #[] #[bp] := by simp [Act.eval, hx, hV]
  have h2 : b.eval (.tmp y) = .func (.func g) #[c] #[] := by simp [Act.eval, hy]
  have h3 : b.eval (.const (.int .i64 k)) = .int .i64 k := rfl
  have hrun := run_call (P := Tryz.prog) (W := W) (f := b.eval) ho h1 (by kernel_rfl)
  refine upon_enter' hrun ?_
  have e : (#[] ++ #[Operand.tmp y, .const (.int .i64 k)].map b.eval ++ #[bp] : Array Value) = #[.func (.func g) #[c] #[], .int .i64 k, bp] := by simp [h2, h3]
  rw [e]
  refine (steps1_any g c bp k W).mono ?_
  rintro e' W' ⟨rfl, rfl⟩
  have hB : Below W.heap.size W ((W.alloc (.cells #[.func (.func g) #[c] #[]] 1)).alloc (.cells #[.int .i64 k] 3)) := by
    have h0 : Below W.heap.size W (W.alloc (.cells #[.func (.func g) #[c] #[]] 1)) := (show Below W.heap.size W W from ⟨rfl, rfl, rfl, Nat.le_refl _, fun _ _ => rfl⟩).alloc (Nat.le_refl _) _
    exact h0.alloc h0.size _
  have a1 := MapKept.heap_alloc W (.cells #[.func (.func g) #[c] #[]] 1)
  have a2 := MapKept.heap_alloc (W.alloc (.cells #[.func (.func g) #[c] #[]] 1)) (.cells #[.int .i64 k] 3)
  have hsz : (W.alloc (.cells #[.func (.func g) #[c] #[]] 1)).heap.size = W.heap.size + 1 := World.size_alloc _ _
  refine ⟨_, rfl, hK _ _ ⟨W.heap.size, W.heap.size + 1, 1, 3, rfl, hN, by omega, ?_, ?_⟩ hB⟩
  · rw [a2.2 _ (by omega)]; exact a1.1
  · rw [← hsz]; exact a2.1
set_option maxRecDepth 100000 in
theorem rg_ins : ∀ r ∈ rgIns, r.1 < 36 ∧ r.1 ≠ 0 ∧ ∃ o d, rgL[r.1]? = some o ∧ o.dst = none ∧ o.op = .insert 70 (.tmp 7) (.const (.int .i64 r.2.1)) (.tmp d) ∧ rgD[r.2.2]? = some (some d) ∧ r.2.2 < 36 ∧ waitB rgL r.1 0 = true ∧ waitB rgL r.1 r.2.2 = true ∧ ∀ (N : Nat) (bp c V3 v : Value) (W : World), FX (Rm N) (rgF N bp c V3) r.1 v W := by
  intro r hr
  simp only [rgIns, List.mem_cons, List.not_mem_nil, or_false] at hr
  rcases hr with rfl | rfl | rfl | rfl | rfl | rfl | rfl | rfl | rfl
  · exact ⟨by decide, by decide, rgO 5, 11, by kernel_rfl, by kernel_rfl, by kernel_rfl, rfl, by decide, by kernel_rfl, by kernel_rfl, fun _ _ _ _ _ _ => trivial⟩
  · exact ⟨by decide, by decide, rgO 8, 13, by kernel_rfl, by kernel_rfl, by kernel_rfl, rfl, by decide, by kernel_rfl, by kernel_rfl, fun _ _ _ _ _ _ => trivial⟩
  · exact ⟨by decide, by decide, rgO 11, 15, by kernel_rfl, by kernel_rfl, by kernel_rfl, rfl, by decide, by kernel_rfl, by kernel_rfl, fun _ _ _ _ _ _ => trivial⟩
  · exact ⟨by decide, by decide, rgO 14, 17, by kernel_rfl, by kernel_rfl, by kernel_rfl, rfl, by decide, by kernel_rfl, by kernel_rfl, fun _ _ _ _ _ _ => trivial⟩
  · exact ⟨by decide, by decide, rgO 19, 21, by kernel_rfl, by kernel_rfl, by kernel_rfl, rfl, by decide, by kernel_rfl, by kernel_rfl, fun _ _ _ _ _ _ => trivial⟩
  · exact ⟨by decide, by decide, rgO 24, 25, by kernel_rfl, by kernel_rfl, by kernel_rfl, rfl, by decide, by kernel_rfl, by kernel_rfl, fun _ _ _ _ _ _ => trivial⟩
  · exact ⟨by decide, by decide, rgO 29, 29, by kernel_rfl, by kernel_rfl, by kernel_rfl, rfl, by decide, by kernel_rfl, by kernel_rfl, fun _ _ _ _ _ _ => trivial⟩
  · exact ⟨by decide, by decide, rgO 32, 31, by kernel_rfl, by kernel_rfl, by kernel_rfl, rfl, by decide, by kernel_rfl, by kernel_rfl, fun _ _ _ _ _ _ => trivial⟩
  · exact ⟨by decide, by decide, rgO 35, 33, by kernel_rfl, by kernel_rfl, by kernel_rfl, rfl, by decide, by kernel_rfl, by kernel_rfl, fun _ _ _ _ _ _ => trivial⟩
set_option maxRecDepth 100000 in
theorem rg_steps {Q : Exit → Act → World → Prop} {N gb : Nat} {a : Act} {w : World} {bp c V3 : Value} (hN : w.heap.size = N) (ha1 : a.tmps[1]? = some (.pointer (some ⟨gb, 0, none⟩))) (ha3 : a.tmps[3]? = some V3) (hV3 : V3 = .func (.func 71) #[] #[bp]) (hgb : ∃ arr ty, w.heap[gb]? = some (.cells arr ty (0, 0)) ∧ arr[0]? = some c) :
    ∀ i o, rgL[i]? = some o → i < 36 → i ≠ 0 → (∀ r ∈ rgIns, r.1 ≠ i) → ∀ b W, FactsM N rgD (FX (Rm N) (rgF N bp c V3)) a w (fun j => o.after.toList.any fun e => Region.binds .any e && e.on == j) b W →
      ∀ K : Act → World → Prop, (∀ v W', FX (Rm N) (rgF N bp c V3) i v W' → Below W.heap.size W W' → K (b.put o.dst v) W') → o.wp Tryz.prog b W K Q := by
  have h1 : ∀ b : Act, (∀ t, some t ∉ rgD → b.tmps[t]? = a.tmps[t]?) → b.tmps[1]? = some (.pointer (some ⟨gb, 0, none⟩)) := fun b h => (h 1 (by decide)).trans ha1
  have h3 : ∀ b : Act, (∀ t, some t ∉ rgD → b.tmps[t]? = a.tmps[t]?) → b.eval (.tmp 3) = V3 := fun b h => by simp [Act.eval, (h 3 (by decide)).trans ha3]
  have hc : ∀ W, Rm N w W → W.cell? ⟨gb, 0, none⟩ = some c := fun W h => by
    obtain ⟨arr, ty, e1, e2⟩ := hgb
    have := (h.cels _ _ _ _ e1).trans e1
    simp [World.cell?, this, e2]
  intro i o hi hin hi0 hno b W hF K hK
  have hcase : i = 1 ∨ i = 2 ∨ i = 3 ∨ i = 4 ∨ i = 6 ∨ i = 7 ∨ i = 9 ∨ i = 10 ∨ i = 12 ∨ i = 13 ∨ i = 15 ∨ i = 16 ∨ i = 17 ∨ i = 18 ∨ i = 20 ∨ i = 21 ∨ i = 22 ∨ i = 23 ∨ i = 25 ∨ i = 26 ∨ i = 27 ∨ i = 28 ∨ i = 30 ∨ i = 31 ∨ i = 33 ∨ i = 34 := by
    have e := fun r hr => hno r hr
    simp only [rgIns, List.mem_cons, List.not_mem_nil, or_false, forall_eq_or_imp, forall_eq] at e
    omega
  rcases hcase with rfl | rfl | rfl | rfl | rfl | rfl | rfl | rfl | rfl | rfl | rfl | rfl | rfl | rfl | rfl | rfl | rfl | rfl | rfl | rfl | rfl | rfl | rfl | rfl | rfl | rfl
  · obtain rfl : rgO 1 = o := Option.some.inj ((show rgL[1]? = some (rgO 1) by kernel_rfl).symm.trans hi)
    exact st_val (v := V3) (by simp [execOp, show (rgO 1).op = .move (.tmp 3) by kernel_rfl, h3 b hF.rest]) (hK _ _ rfl (Below.refl _ _))
  · obtain rfl : rgO 2 = o := Option.some.inj ((show rgL[2]? = some (rgO 2) by kernel_rfl).symm.trans hi)
    exact st_val (v := c) (ld1 (show (rgO 2).op = .load 66 (.tmp 1) by kernel_rfl) (by kernel_rfl) (h1 b hF.rest) (hc W hF.kept)) (hK _ _ rfl (Below.refl _ _))
  · obtain rfl : rgO 3 = o := Option.some.inj ((show rgL[3]? = some (rgO 3) by kernel_rfl).symm.trans hi)
    obtain ⟨va, hva, hFa⟩ := hF.fact 2 _ (show rgD[2]? = some (some 9) from rfl) (by kernel_rfl)
    have hea := hva _ rfl
    have hFa' : va = c := hFa
    subst hFa'
    exact st_val (v := .func (.func 74) #[va] #[]) (by simp [execOp, show (rgO 3).op = .makeFunc (.func 74) #[.tmp 9] #[] by kernel_rfl, Instr.makeFunc, Act.eval, hea]) (hK _ _ rfl (Below.refl _ _))
  · obtain rfl : rgO 4 = o := Option.some.inj ((show rgL[4]? = some (rgO 4) by kernel_rfl).symm.trans hi)
    obtain ⟨va, hva, hFa⟩ := hF.fact 1 _ (show rgD[1]? = some (some 8) from rfl) (by kernel_rfl)
    have hea := hva _ rfl
    obtain ⟨vb, hvb, hFb⟩ := hF.fact 3 _ (show rgD[3]? = some (some 10) from rfl) (by kernel_rfl)
    have heb := hvb _ rfl
    have hFa' : va = V3 := hFa
    have hFb' : vb = .func (.func 74) #[c] #[] := hFb
    rw [hFa'] at hea
    rw [hFb'] at heb
    exact st_clo (g := 74) (k := 1) (show (rgO 4).op = .call { callee := .value (.tmp 8), args := #[.tmp 10, .const (.int .i64 1)], argTypes := #[1, 3] } by kernel_rfl) hea heb hV3 (hN ▸ hF.kept.size) (fun v W' h => hK v W' h)
  · obtain rfl : rgO 6 = o := Option.some.inj ((show rgL[6]? = some (rgO 6) by kernel_rfl).symm.trans hi)
    exact st_val (v := c) (ld1 (show (rgO 6).op = .load 66 (.tmp 1) by kernel_rfl) (by kernel_rfl) (h1 b hF.rest) (hc W hF.kept)) (hK _ _ rfl (Below.refl _ _))
  · obtain rfl : rgO 7 = o := Option.some.inj ((show rgL[7]? = some (rgO 7) by kernel_rfl).symm.trans hi)
    obtain ⟨va, hva, hFa⟩ := hF.fact 6 _ (show rgD[6]? = some (some 12) from rfl) (by kernel_rfl)
    have hea := hva _ rfl
    have hFa' : va = c := hFa
    subst hFa'
    exact st_val (v := .func (.func 75) #[va] #[]) (by simp [execOp, show (rgO 7).op = .makeFunc (.func 75) #[.tmp 12] #[] by kernel_rfl, Instr.makeFunc, Act.eval, hea]) (hK _ _ rfl (Below.refl _ _))
  · obtain rfl : rgO 9 = o := Option.some.inj ((show rgL[9]? = some (rgO 9) by kernel_rfl).symm.trans hi)
    exact st_val (v := c) (ld1 (show (rgO 9).op = .load 66 (.tmp 1) by kernel_rfl) (by kernel_rfl) (h1 b hF.rest) (hc W hF.kept)) (hK _ _ rfl (Below.refl _ _))
  · obtain rfl : rgO 10 = o := Option.some.inj ((show rgL[10]? = some (rgO 10) by kernel_rfl).symm.trans hi)
    obtain ⟨va, hva, hFa⟩ := hF.fact 9 _ (show rgD[9]? = some (some 14) from rfl) (by kernel_rfl)
    have hea := hva _ rfl
    have hFa' : va = c := hFa
    subst hFa'
    exact st_val (v := .func (.func 76) #[va] #[]) (by simp [execOp, show (rgO 10).op = .makeFunc (.func 76) #[.tmp 14] #[] by kernel_rfl, Instr.makeFunc, Act.eval, hea]) (hK _ _ rfl (Below.refl _ _))
  · obtain rfl : rgO 12 = o := Option.some.inj ((show rgL[12]? = some (rgO 12) by kernel_rfl).symm.trans hi)
    exact st_val (v := c) (ld1 (show (rgO 12).op = .load 66 (.tmp 1) by kernel_rfl) (by kernel_rfl) (h1 b hF.rest) (hc W hF.kept)) (hK _ _ rfl (Below.refl _ _))
  · obtain rfl : rgO 13 = o := Option.some.inj ((show rgL[13]? = some (rgO 13) by kernel_rfl).symm.trans hi)
    obtain ⟨va, hva, hFa⟩ := hF.fact 12 _ (show rgD[12]? = some (some 16) from rfl) (by kernel_rfl)
    have hea := hva _ rfl
    have hFa' : va = c := hFa
    subst hFa'
    exact st_val (v := .func (.func 77) #[va] #[]) (by simp [execOp, show (rgO 13).op = .makeFunc (.func 77) #[.tmp 16] #[] by kernel_rfl, Instr.makeFunc, Act.eval, hea]) (hK _ _ rfl (Below.refl _ _))
  · obtain rfl : rgO 15 = o := Option.some.inj ((show rgL[15]? = some (rgO 15) by kernel_rfl).symm.trans hi)
    exact st_val (v := V3) (by simp [execOp, show (rgO 15).op = .move (.tmp 3) by kernel_rfl, h3 b hF.rest]) (hK _ _ rfl (Below.refl _ _))
  · obtain rfl : rgO 16 = o := Option.some.inj ((show rgL[16]? = some (rgO 16) by kernel_rfl).symm.trans hi)
    exact st_val (v := c) (ld1 (show (rgO 16).op = .load 66 (.tmp 1) by kernel_rfl) (by kernel_rfl) (h1 b hF.rest) (hc W hF.kept)) (hK _ _ rfl (Below.refl _ _))
  · obtain rfl : rgO 17 = o := Option.some.inj ((show rgL[17]? = some (rgO 17) by kernel_rfl).symm.trans hi)
    obtain ⟨va, hva, hFa⟩ := hF.fact 16 _ (show rgD[16]? = some (some 19) from rfl) (by kernel_rfl)
    have hea := hva _ rfl
    have hFa' : va = c := hFa
    subst hFa'
    exact st_val (v := .func (.func 78) #[va] #[]) (by simp [execOp, show (rgO 17).op = .makeFunc (.func 78) #[.tmp 19] #[] by kernel_rfl, Instr.makeFunc, Act.eval, hea]) (hK _ _ rfl (Below.refl _ _))
  · obtain rfl : rgO 18 = o := Option.some.inj ((show rgL[18]? = some (rgO 18) by kernel_rfl).symm.trans hi)
    obtain ⟨va, hva, hFa⟩ := hF.fact 15 _ (show rgD[15]? = some (some 18) from rfl) (by kernel_rfl)
    have hea := hva _ rfl
    obtain ⟨vb, hvb, hFb⟩ := hF.fact 17 _ (show rgD[17]? = some (some 20) from rfl) (by kernel_rfl)
    have heb := hvb _ rfl
    have hFa' : va = V3 := hFa
    have hFb' : vb = .func (.func 78) #[c] #[] := hFb
    rw [hFa'] at hea
    rw [hFb'] at heb
    exact st_clo (g := 78) (k := 6) (show (rgO 18).op = .call { callee := .value (.tmp 18), args := #[.tmp 20, .const (.int .i64 6)], argTypes := #[1, 3] } by kernel_rfl) hea heb hV3 (hN ▸ hF.kept.size) (fun v W' h => hK v W' h)
  · obtain rfl : rgO 20 = o := Option.some.inj ((show rgL[20]? = some (rgO 20) by kernel_rfl).symm.trans hi)
    exact st_val (v := V3) (by simp [execOp, show (rgO 20).op = .move (.tmp 3) by kernel_rfl, h3 b hF.rest]) (hK _ _ rfl (Below.refl _ _))
  · obtain rfl : rgO 21 = o := Option.some.inj ((show rgL[21]? = some (rgO 21) by kernel_rfl).symm.trans hi)
    exact st_val (v := c) (ld1 (show (rgO 21).op = .load 66 (.tmp 1) by kernel_rfl) (by kernel_rfl) (h1 b hF.rest) (hc W hF.kept)) (hK _ _ rfl (Below.refl _ _))
  · obtain rfl : rgO 22 = o := Option.some.inj ((show rgL[22]? = some (rgO 22) by kernel_rfl).symm.trans hi)
    obtain ⟨va, hva, hFa⟩ := hF.fact 21 _ (show rgD[21]? = some (some 23) from rfl) (by kernel_rfl)
    have hea := hva _ rfl
    have hFa' : va = c := hFa
    subst hFa'
    exact st_val (v := .func (.func 79) #[va] #[]) (by simp [execOp, show (rgO 22).op = .makeFunc (.func 79) #[.tmp 23] #[] by kernel_rfl, Instr.makeFunc, Act.eval, hea]) (hK _ _ rfl (Below.refl _ _))
  · obtain rfl : rgO 23 = o := Option.some.inj ((show rgL[23]? = some (rgO 23) by kernel_rfl).symm.trans hi)
    obtain ⟨va, hva, hFa⟩ := hF.fact 20 _ (show rgD[20]? = some (some 22) from rfl) (by kernel_rfl)
    have hea := hva _ rfl
    obtain ⟨vb, hvb, hFb⟩ := hF.fact 22 _ (show rgD[22]? = some (some 24) from rfl) (by kernel_rfl)
    have heb := hvb _ rfl
    have hFa' : va = V3 := hFa
    have hFb' : vb = .func (.func 79) #[c] #[] := hFb
    rw [hFa'] at hea
    rw [hFb'] at heb
    exact st_clo (g := 79) (k := 7) (show (rgO 23).op = .call { callee := .value (.tmp 22), args := #[.tmp 24, .const (.int .i64 7)], argTypes := #[1, 3] } by kernel_rfl) hea heb hV3 (hN ▸ hF.kept.size) (fun v W' h => hK v W' h)
  · obtain rfl : rgO 25 = o := Option.some.inj ((show rgL[25]? = some (rgO 25) by kernel_rfl).symm.trans hi)
    exact st_val (v := V3) (by simp [execOp, show (rgO 25).op = .move (.tmp 3) by kernel_rfl, h3 b hF.rest]) (hK _ _ rfl (Below.refl _ _))
  · obtain rfl : rgO 26 = o := Option.some.inj ((show rgL[26]? = some (rgO 26) by kernel_rfl).symm.trans hi)
    exact st_val (v := c) (ld1 (show (rgO 26).op = .load 66 (.tmp 1) by kernel_rfl) (by kernel_rfl) (h1 b hF.rest) (hc W hF.kept)) (hK _ _ rfl (Below.refl _ _))
  · obtain rfl : rgO 27 = o := Option.some.inj ((show rgL[27]? = some (rgO 27) by kernel_rfl).symm.trans hi)
    obtain ⟨va, hva, hFa⟩ := hF.fact 26 _ (show rgD[26]? = some (some 27) from rfl) (by kernel_rfl)
    have hea := hva _ rfl
    have hFa' : va = c := hFa
    subst hFa'
    exact st_val (v := .func (.func 80) #[va] #[]) (by simp [execOp, show (rgO 27).op = .makeFunc (.func 80) #[.tmp 27] #[] by kernel_rfl, Instr.makeFunc, Act.eval, hea]) (hK _ _ rfl (Below.refl _ _))
  · obtain rfl : rgO 28 = o := Option.some.inj ((show rgL[28]? = some (rgO 28) by kernel_rfl).symm.trans hi)
    obtain ⟨va, hva, hFa⟩ := hF.fact 25 _ (show rgD[25]? = some (some 26) from rfl) (by kernel_rfl)
    have hea := hva _ rfl
    obtain ⟨vb, hvb, hFb⟩ := hF.fact 27 _ (show rgD[27]? = some (some 28) from rfl) (by kernel_rfl)
    have heb := hvb _ rfl
    have hFa' : va = V3 := hFa
    have hFb' : vb = .func (.func 80) #[c] #[] := hFb
    rw [hFa'] at hea
    rw [hFb'] at heb
    exact st_clo (g := 80) (k := 9) (show (rgO 28).op = .call { callee := .value (.tmp 26), args := #[.tmp 28, .const (.int .i64 9)], argTypes := #[1, 3] } by kernel_rfl) hea heb hV3 (hN ▸ hF.kept.size) (fun v W' h => hK v W' h)
  · obtain rfl : rgO 30 = o := Option.some.inj ((show rgL[30]? = some (rgO 30) by kernel_rfl).symm.trans hi)
    exact st_val (v := c) (ld1 (show (rgO 30).op = .load 66 (.tmp 1) by kernel_rfl) (by kernel_rfl) (h1 b hF.rest) (hc W hF.kept)) (hK _ _ rfl (Below.refl _ _))
  · obtain rfl : rgO 31 = o := Option.some.inj ((show rgL[31]? = some (rgO 31) by kernel_rfl).symm.trans hi)
    obtain ⟨va, hva, hFa⟩ := hF.fact 30 _ (show rgD[30]? = some (some 30) from rfl) (by kernel_rfl)
    have hea := hva _ rfl
    have hFa' : va = c := hFa
    subst hFa'
    exact st_val (v := .func (.func 81) #[va] #[]) (by simp [execOp, show (rgO 31).op = .makeFunc (.func 81) #[.tmp 30] #[] by kernel_rfl, Instr.makeFunc, Act.eval, hea]) (hK _ _ rfl (Below.refl _ _))
  · obtain rfl : rgO 33 = o := Option.some.inj ((show rgL[33]? = some (rgO 33) by kernel_rfl).symm.trans hi)
    exact st_val (v := c) (ld1 (show (rgO 33).op = .load 66 (.tmp 1) by kernel_rfl) (by kernel_rfl) (h1 b hF.rest) (hc W hF.kept)) (hK _ _ rfl (Below.refl _ _))
  · obtain rfl : rgO 34 = o := Option.some.inj ((show rgL[34]? = some (rgO 34) by kernel_rfl).symm.trans hi)
    obtain ⟨va, hva, hFa⟩ := hF.fact 33 _ (show rgD[33]? = some (some 32) from rfl) (by kernel_rfl)
    have hea := hva _ rfl
    have hFa' : va = c := hFa
    subst hFa'
    exact st_val (v := .func (.func 82) #[va] #[]) (by simp [execOp, show (rgO 34).op = .makeFunc (.func 82) #[.tmp 32] #[] by kernel_rfl, Instr.makeFunc, Act.eval, hea]) (hK _ _ rfl (Below.refl _ _))
/-- The temporaries that the region writes. -/
def rgAll : List Nat := [4, 7, 8, 9, 10, 11, 12, 13, 14, 15, 16, 17, 18, 19, 20, 21, 22, 23, 24, 25, 26, 27, 28, 29, 30, 31, 32, 33, 34]
section
variable {ρ : PMap} {O : Nat → Prop} {W : World} {x : Nat}
theorem rp_met (g : Nat) {c v : Value} (hx : Rp ρ O W (pt x) c) (h : v = .func (.func g) #[c] #[]) : Rp ρ O W (vMet x g) v :=
  rp_func.2 ⟨#[c], #[], h, ⟨rfl, fun i y hy => by
    match i, hy with
    | 0, hy => simp at hy; subst hy; exact ⟨c, rfl, hx⟩
    | i + 1, hy => simp at hy⟩, rfl, fun i y hy => by simp at hy⟩
theorem rp_clo {N g : Nat} {k : Int} {c v bp pb : Value} (hx : Rp ρ O W (pt x) c) (hp : Rp ρ O W pb bp) (hge : ∀ g, N ≤ g → O g → ∃ es ck, W.heap[g]? = some (.map es ck)) (h : CloR N bp c g k v W) : Rp ρ O W (vClo x pb g k) v := by
  obtain ⟨b1, b3, t1, t3, rfl, h1, h3, h4, h5⟩ := h
  have no : ∀ (b : Nat) arr ty, N ≤ b → W.heap[b]? = some (.cells arr ty (0, 0)) → ¬ O b := fun b arr ty hb he hO => by
    obtain ⟨es, ck, hm⟩ := hge b hb hO
    rw [he] at hm; cases hm
  have l1 : b1 < W.heap.size := (Array.getElem?_eq_some_iff.1 h4).1
  have l3 : b3 < W.heap.size := (Array.getElem?_eq_some_iff.1 h5).1
  refine rp_func.2 ⟨#[], #[.pointer (some ⟨b1, 0, none⟩), bp, .pointer (some ⟨b3, 0, none⟩)], rfl, ⟨rfl, fun i y hy => by simp at hy⟩, rfl, fun i y hy => ?_⟩
  match i, hy with
  | 0, hy =>
    simp at hy; subst hy
    refine ⟨_, rfl, rp_fz.2 ⟨b1, 0, rfl, l1, no b1 _ _ h1 h4, fun j y hy => ?_⟩⟩
    match j, hy with
    | 0, hy => simp at hy; subst hy; exact ⟨_, by simp [World.cell?, h4], rp_met g hx rfl⟩
    | j + 1, hy => simp at hy
  | 1, hy => simp at hy; subst hy; exact ⟨bp, rfl, hp⟩
  | 2, hy =>
    simp at hy; subst hy
    refine ⟨_, rfl, rp_fz.2 ⟨b3, 0, rfl, l3, no b3 _ _ h3 h5, fun j y hy => ?_⟩⟩
    match j, hy with
    | 0, hy => simp at hy; subst hy; exact ⟨_, by simp [World.cell?, h5], rp_int.2 rfl⟩
    | j + 1, hy => simp at hy
  | i + 3, hy => simp at hy
end
theorem rgD_all (d : Nat) (h : some d ∈ rgD) : d ∈ rgAll ∧ d < 44 := by
  have := List.all_eq_true.1 (show rgD.all (fun x => match x with | some d => rgAll.contains d && Nat.blt d 44 | none => true) = true by decide) _ h
  simpa [Nat.blt_eq] using this
theorem rg_inj : ∀ r ∈ rgIns, ∀ r' ∈ rgIns, r'.2.1 = r.2.1 → r' = r := by decide
set_option maxRecDepth 100000 in
theorem reg_steps (x b : Nat) : RegM Tryz.prog (regOf Tryz.prog 28 0) 44 [(1, pt b), (3, .func (.func 71) #[] #[pt b])] [(b, ⟨true, false, 1, 1, [pt x]⟩)] rgAll 4 (els9 x (pt b)) := by
  intro ρ O a W Q hl hdf hsz hT hH hK
  obtain ⟨c1, ha1, hr1⟩ := hT (1, pt b) (by simp)
  obtain ⟨V3, ha3, hr3⟩ := hT (3, .func (.func 71) #[] #[pt b]) (by simp)
  obtain ⟨gb, kb, jb, hgb, hj, rfl⟩ := rp_ptr.1 hr1
  cases hj
  obtain ⟨us, ws, rfl, hus, hws⟩ := rp_func.1 hr3
  obtain ⟨bp, hbp0, hbp⟩ := hws.2 0 (pt b) rfl
  obtain ⟨gb2, kb2, jb2, hgb2, hj2, rfl⟩ := rp_ptr.1 hbp
  cases hj2
  have e2 : some (gb, kb) = some (gb2, kb2) := hgb.symm.trans hgb2
  cases e2
  have hu0 : us = #[] := Array.eq_empty_of_size_eq_zero hus.1
  have hw0 : ws = #[.pointer (some ⟨gb, 0 * kb + 0, none⟩)] := by
    have hs := hws.1
    apply Array.ext
    · simpa using hs
    · intro i h1 h2
      have : i = 0 := by simp at h2; exact h2
      subst this
      rw [Array.getElem?_eq_getElem h1] at hbp0
      exact Option.some.inj hbp0
  subst hu0 hw0
  have ez : 0 * kb + 0 = 0 := by omega
  rw [ez] at ha1 ha3
  have hh := hH (b, ⟨true, false, 1, 1, [pt x]⟩) (by simp)
  obtain ⟨gb3, hgb3, hOb, hB⟩ := hh
  have e3 : some (gb, kb) = some (gb3, 1) := hgb.symm.trans hgb3
  cases e3
  obtain ⟨arr, ty, hheap, -, hel⟩ := (blk_cells rfl).1 hB
  obtain ⟨-, hcells⟩ := hel 0 (pt x) rfl
  obtain ⟨c, hc, hrc⟩ := hcells 0 (pt x) rfl
  have hc0 : arr[0]? = some c := hc
  have hrx : ∀ (O' : Nat → Prop) (W' : World), Rp ρ O' W' (pt x) c := fun O' W' => rp_ptr.2 (rp_ptr.1 hrc)
  have hrb : ∀ (O' : Nat → Prop) (W' : World), Rp ρ O' W' (pt b) (.pointer (some ⟨gb, 0, none⟩)) := fun O' W' => rp_ptr.2 ⟨gb, 1, 0, hgb, rfl, rfl⟩
  rw [rg_is]
  refine wp_region_mp (P := Tryz.prog) (mty := 70) W.heap.size 36 rgD (FX (Rm W.heap.size) (rgF W.heap.size (.pointer (some ⟨gb, 0, none⟩)) c (.func (.func 71) #[] #[.pointer (some ⟨gb, 0, none⟩)]))) 7 rgIns rfl (kt := 3) (et := 1) (by kernel_rfl) (by kernel_rfl) mixed (by kernel_rfl) (by kernel_rfl) (by rw [show rgL.length = 38 by kernel_rfl]; decide) (by kernel_rfl) (by kernel_rfl)
    (fun d hd => ?_) (by kernel_rfl) (fun i _ _ _ h hk => (((rgF W.heap.size (.pointer (some ⟨gb, 0, none⟩)) c (.func (.func 71) #[] #[.pointer (some ⟨gb, 0, none⟩)])).getD i (KX.tt _))).k h hk) ⟨rgO 0, by kernel_rfl, by kernel_rfl, by kernel_rfl⟩ (fun _ _ => trivial)
    (fun r hr => let ⟨h1, h2, o, d, h3, h4, h5, h6, h7, h8, h9, h10⟩ := rg_ins r hr; ⟨h1, h2, o, d, h3, h4, h5, h6, h7, h8, h9, h10 _ _ _ _⟩) (by decide) (by decide) (rg_steps rfl ha1 ha3 rfl ⟨arr, ty, hheap, hc0⟩) ?_ (by decide)
  · rw [hsz]
    exact (rgD_all d hd).2
  · intro b' W' mb m hF hM
    have hl36 : rgL.drop 36 = [rgO 36, rgO 37] := by kernel_rfl
    rw [hl36]
    have hmt : b'.tmps[7]? = some (.map (some mb)) := hM.here
    have e1 : (execOp b'.eval (rgO 36)).run Tryz.prog W' = .ok (.value (.map (some mb))) W' := by simp [execOp, show (rgO 36).op = .move (.tmp 7) by kernel_rfl, Act.eval, hmt]
    have hsz' : b'.tmps.size = 44 := hF.size.trans hsz
    have e2 : (execOp (b'.put (some 34) (.map (some mb))).eval (rgO 37)).run Tryz.prog W' = .ok (.value (.map (some mb))) W' := by simp [execOp, show (rgO 37).op = .assign (.tmp 34) by kernel_rfl, Act.eval, Act.put, hsz']
    simp only [wpList, Region.wanted, show (rgO 36).guard = none by kernel_rfl, show (rgO 37).guard = none by kernel_rfl, if_true]
    refine .inl (st_val e1 ?_)
    rw [show (rgO 36).dst = some 34 by kernel_rfl]
    refine .inl (st_val e2 ?_)
    rw [show (rgO 37).dst = some 4 by kernel_rfl]
    have hkept := hF.kept.kept rfl
    have hge : ∀ g, W.heap.size ≤ g → (O g ∨ g = mb) → ∃ es ck, W'.heap[g]? = some (.map es ck) := fun g hg hO => by
      rcases hO with hO | rfl
      · have := hl g hO; omega
      · obtain ⟨es, ck, hm⟩ := hM.map; exact ⟨es, ck, hm.obj⟩
    refine hK _ W' mb (hF.defers.trans hdf) (by simp [Act.put, hsz']) (fun t ht => ?_) (by simp [Act.put, hsz']) hM.ge hkept ⟨m, ⟨hM.map, hM.nodup⟩, fun d hd => ?_, fun el hel => ?_⟩
    · have h34 : t ≠ 34 := fun e => ht (by subst e; decide)
      have h4 : t ≠ 4 := fun e => ht (by subst e; decide)
      have hD : some t ∉ rgD := fun h => ht (rgD_all t h).1
      rw [← hF.rest t hD]
      simp [Act.put, Array.getElem?_setIfInBounds, Ne.symm h34, Ne.symm h4]
    · obtain ⟨r, hr, -, hk, -⟩ := hM.from_ d hd
      rw [hk]
      simp only [rgIns, List.mem_cons, List.not_mem_nil, or_false] at hr
      rcases hr with rfl | rfl | rfl | rfl | rfl | rfl | rfl | rfl | rfl
      all_goals exact ⟨_, by simp only [els9, vEn]; simp only [List.mem_cons, Value.agg.injEq]; simp; rfl⟩
    · have row : ∀ r ∈ rgIns, ∃ v, (r.2.1, v) ∈ m ∧ FX (Rm W.heap.size) (rgF W.heap.size (.pointer (some ⟨gb, 0, none⟩)) c (.func (.func 71) #[] #[.pointer (some ⟨gb, 0, none⟩)])) r.2.2 v W' := fun r hr => by
        obtain ⟨d, hd, hk⟩ := hM.all r hr rfl
        obtain ⟨r', hr', -, hk', hFd⟩ := hM.from_ d hd
        have : r' = r := by
          have e : r'.2.1 = r.2.1 := hk'.symm.trans hk
          exact rg_inj r hr r' hr' e
        subst this
        obtain ⟨i, v⟩ := d
        simp only at hk
        subst hk
        exact ⟨v, hd, hFd⟩
      have hx := hrx (fun g => O g ∨ g = mb) W'
      have hp := hrb (fun g => O g ∨ g = mb) W'
      simp only [els9, List.mem_cons, List.not_mem_nil, or_false] at hel
      rcases hel with rfl | rfl | rfl | rfl | rfl | rfl | rfl | rfl | rfl
      · obtain ⟨v, hv, hFv⟩ := row (5, 0, 4) (by decide)
        exact ⟨0, _, v, rfl, hv, rp_clo (g := 74) (k := 1) hx hp hge hFv⟩
      · obtain ⟨v, hv, hFv⟩ := row (8, 1, 7) (by decide)
        exact ⟨1, _, v, rfl, hv, rp_met 75 hx hFv⟩
      · obtain ⟨v, hv, hFv⟩ := row (11, 2, 10) (by decide)
        exact ⟨2, _, v, rfl, hv, rp_met 76 hx hFv⟩
      · obtain ⟨v, hv, hFv⟩ := row (14, 3, 13) (by decide)
        exact ⟨3, _, v, rfl, hv, rp_met 77 hx hFv⟩
      · obtain ⟨v, hv, hFv⟩ := row (19, 4, 18) (by decide)
        exact ⟨4, _, v, rfl, hv, rp_clo (g := 78) (k := 6) hx hp hge hFv⟩
      · obtain ⟨v, hv, hFv⟩ := row (24, 5, 23) (by decide)
        exact ⟨5, _, v, rfl, hv, rp_clo (g := 79) (k := 7) hx hp hge hFv⟩
      · obtain ⟨v, hv, hFv⟩ := row (29, 6, 28) (by decide)
        exact ⟨6, _, v, rfl, hv, rp_clo (g := 80) (k := 9) hx hp hge hFv⟩
      · obtain ⟨v, hv, hFv⟩ := row (32, 7, 31) (by decide)
        exact ⟨7, _, v, rfl, hv, rp_met 81 hx hFv⟩
      · obtain ⟨v, hv, hFv⟩ := row (35, 8, 34) (by decide)
        exact ⟨8, _, v, rfl, hv, rp_met 82 hx hFv⟩
end Go.Proofs.YtjbcfjfnobklkaaGreat

/- What the program's receive hands back, by contract: any step, some, Inside, Near. -/
namespace Go.Proofs.YtjbcfjfnobklkaaGreat
set_option linter.unusedVariables false
set_option linter.unusedSimpArgs false
open Go.RowKit
theorem recvN_len {s : St} {n : Nat} (h : stB s = true) (hn : n < s.th.length) (h1 : (gth s.th n).st ≠ 0) : (recvN s n).th.length = s.th.length := by
  have a := (th_len h).1
  have b := (th_len (recvN_stB h hn h1)).1
  rw [(recvN_lgOk (s := s) (n := n)).2.1] at b
  omega
section
variable {s : St} {i m o : Int}
set_option maxRecDepth 100000 in
theorem ve_many (h : decide (o < min m 1000) = false) : LoopP Tryz.prog (loopOf Tryz.prog 12 0) (hdV s i m o s.th.length) (.exit 0) (hdV s i m o s.th.length) := loop_end mixed (fuel := 9) (n := 12) (im := [0, 1, 2, 3, 4]) (keep := [2, 6, 8, 9, 10]) (ext := [21, 84, 85]) (orc := [.bool false]) (an h trivial) (by intro e; cases e) (by kernel_rfl)
set_option maxRecDepth 100000 in
theorem ve_check (h : decide (o < min m 1000) = true) (hB : stB s = false) (ho : s.ok) : LoopP Tryz.prog (loopOf Tryz.prog 12 0) (hdV s i m o s.th.length) (.exit 0) (hdV s i m o s.th.length) := loop_end mixed (fuel := 9) (n := 12) (im := [0, 1, 2, 3, 4]) (keep := [2, 6, 8, 9, 10]) (ext := [21, 84, 85]) (orc := [.bool true, vD false]) (an h <| an (len_map (f := thT) s.th) <| an (ac_pcheck hB ho) trivial) (by intro e; cases e) (by kernel_rfl)
set_option maxRecDepth 100000 in
theorem ve_low (h : decide (o < min m 1000) = true) (hB : stB s = true) (ho : s.ok) (hi : decide (i < 0) = true) : LoopP Tryz.prog (loopOf Tryz.prog 12 0) (hdV s i m o s.th.length) (.exit 0) (hdV s i m o s.th.length) := loop_end mixed (fuel := 9) (n := 12) (im := [0, 1, 2, 3, 4]) (keep := [2, 6, 8, 9, 10]) (ext := [21, 84, 85]) (orc := [.bool true, vD true, .bool true]) (an h <| an (len_map (f := thT) s.th) <| an (ac_pcheck hB ho) <| an hi trivial) (by intro e; cases e) (by kernel_rfl)
set_option maxRecDepth 100000 in
theorem ve_high (h : decide (o < min m 1000) = true) (hB : stB s = true) (ho : s.ok) (hi : decide (i < 0) = false) (hj : decide ((s.th.length : Int) ≤ i) = true) : LoopP Tryz.prog (loopOf Tryz.prog 12 0) (hdV s i m o s.th.length) (.exit 0) (hdV s i m o s.th.length) := loop_end mixed (fuel := 9) (n := 12) (im := [0, 1, 2, 3, 4]) (keep := [2, 6, 8, 9, 10]) (ext := [21, 84, 85]) (orc := [.bool true, vD true, .bool false, .bool true]) (an h <| an (len_map (f := thT) s.th) <| an (ac_pcheck hB ho) <| an hi <| an hj trivial) (by intro e; cases e) (by kernel_rfl)
variable {n : Nat}
set_option maxRecDepth 100000 in
theorem ve_runs (h : decide (o < min m 1000) = true) (hB : stB s = true) (ho : s.ok) (hn : n < s.th.length) (hr : (thRuns (gth s.th n).st == 0) = false) : LoopP Tryz.prog (loopOf Tryz.prog 12 0) (hdV s n m o s.th.length) (.exit 0) (hdV s n m o s.th.length) := loop_end mixed (fuel := 9) (n := 12) (im := [0, 1, 2, 3, 4]) (keep := [2, 6, 8, 9, 10]) (ext := [21, 84, 85]) (orc := [.bool true, vD true, .bool false, .bool false, thT (gth s.th n), .int .i64 (thRuns (gth s.th n).st), .bool false])
  (an h <| an (len_map (f := thT) s.th) <| an (ac_pcheck hB ho) <| an (show decide ((n : Int) < 0) = false by simp) <| an (show decide ((s.th.length : Int) ≤ n) = false by simp; omega) <| an (idT hn) <| an (elT hn) <| an (ac_pruns (t := gth s.th n) rfl) <| an hr trivial) (by intro e; cases e) (by kernel_rfl)
set_option maxRecDepth 100000 in
theorem ve_side (h : decide (o < min m 1000) = true) (hB : stB s = true) (ho : s.ok) (hn : n < s.th.length) (hr : thRuns (gth s.th n).st = 0) (hs : (opSide (gth s.th n).ki == 2) = false) : LoopP Tryz.prog (loopOf Tryz.prog 12 0) (hdV s n m o s.th.length) (.exit 0) (hdV s n m o s.th.length) := loop_end mixed (fuel := 9) (n := 12) (im := [0, 1, 2, 3, 4]) (keep := [2, 6, 8, 9, 10]) (ext := [21, 84, 85]) (orc := [.bool true, vD true, .bool false, .bool false, thT (gth s.th n), .int .i64 0, .nilFunc, thT (gth s.th n), .int .i64 (opSide (gth s.th n).ki), .bool false])
  (an h <| an (len_map (f := thT) s.th) <| an (ac_pcheck hB ho) <| an (show decide ((n : Int) < 0) = false by simp) <| an (show decide ((s.th.length : Int) ≤ n) = false by simp; omega) <| an (idT hn) <| an (elT hn) <| an (ac_pruns (t := gth s.th n) hr) <| an (idT hn) <| an (elT hn) <| an (ac_pside (gth s.th n).ki) <| an hs trivial) (by intro e; cases e) (by kernel_rfl)
/-- Who does not receive, makes no step. -/
theorem ve_not (ho : s.ok) (hr : runsB s i 2 = false) : LoopP Tryz.prog (loopOf Tryz.prog 12 0) (hdV s i m o s.th.length) (.exit 0) (hdV s i m o s.th.length) := by
  cases h : decide (o < min m 1000)
  · exact ve_many h
  · cases hB : stB s
    · exact ve_check h hB ho
    · by_cases h0 : i < 0
      · exact ve_low h hB ho (by simp [h0])
      · by_cases h1 : (s.th.length : Int) ≤ i
        · exact ve_high h hB ho (by simp; omega) (by simp [h1])
        · obtain ⟨n, rfl⟩ : ∃ n : Nat, i = n := ⟨i.toNat, by omega⟩
          have hn : n < s.th.length := by omega
          have hr' : ¬ ((gth s.th n).st = 1 ∧ opSide (gth s.th n).ki = 2) := fun e => by
            have : runsB s n 2 = true := runs_iff.2 ⟨has_of hB hn, by simpa using e⟩
            rw [hr] at this; cases this
          by_cases hs : thRuns (gth s.th n).st = 0
          · refine ve_side h hB ho hn hs (bne_of fun e => hr' ⟨?_, e⟩)
            have h2 := runs_not hs
            have h3 := gth_ok hB hn
            generalize gth s.th n = t at h2 h3
            obtain ⟨st, ki, va, un, pc, re, se, tr, la, rs, go⟩ := t
            rw [thB_iff] at h3
            simp only at h2 ⊢
            omega
          · exact ve_runs h hB ho hn (bne_of hs)
/-- The whole loop. -/
theorem vsteps_lp (k : Nat) : ∀ {s : St} {o : Int}, Vk s → 0 ≤ o → (min m 1000 - o).toNat = k → s.lg.length + k ≤ 900000 → s.ok → LoopP Tryz.prog (loopOf Tryz.prog 12 0) (hdV s i m o s.th.length) (.exit 0) (hdV (recvK s i k).1 i m (o + (recvK s i k).2) (recvK s i k).1.th.length) := by
  induction k with
  | zero =>
    intro s o _ _ hk _ _
    simp only [recvK]
    rw [show o + ((0 : Nat) : Int) = o by omega]
    exact ve_many (by simp; omega)
  | succ k ih =>
    intro s o hv h0 hk hl ho
    cases hr : runsB s i 2
    · have : recvK s i (k + 1) = (s, 0) := by simp [recvK, hr]
      rw [this]
      show LoopP Tryz.prog (loopOf Tryz.prog 12 0) (hdV s i m o s.th.length) (.exit 0) (hdV s i m (o + ((0 : Nat) : Int)) s.th.length)
      rw [show o + ((0 : Nat) : Int) = o by omega]
      exact ve_not ho hr
    · obtain ⟨h1, h2, h3⟩ := runs_iff.1 hr
      obtain ⟨hB, hi0, hi1⟩ := has_iff.1 h1
      obtain ⟨n, rfl⟩ : ∃ n : Nat, i = n := ⟨i.toNat, by omega⟩
      have hn : n < s.th.length := by omega
      rw [Int.toNat_natCast] at h2 h3
      have hs1 : (gth s.th n).st ≠ 0 := by omega
      have e : recvK s n (k + 1) = ((recvK (recvN s n) n k).1, (recvK (recvN s n) n k).2 + 1) := by simp only [recvK, hr, if_true, recvS_is hr]
      rw [e]
      have hB' := recvN_stB hB hn hs1
      have hv' := recvN_vk hv hB hn hs1
      have hl' : (recvN s n).lg.length ≤ s.lg.length + 1 := by rcases (recvN_lgOk (s := s) (n := n)).1 with h | ⟨x, h⟩ <;> rw [h] <;> simp
      refine step_lv (s := s) (n := n) ⟨by simp; omega, hB, ho, hn, h2, h3, by omega, by constructor <;> omega⟩ fun N hN => ?_
      have := ih (s := recvN s n) (o := o + 1) hv' (by omega) (by omega) (by omega) (ok_of hB' hv' (by omega))
      rw [hN]
      rw [show o + (((recvK (recvN s n) n k).2 + 1 : Nat) : Int) = o + 1 + ((recvK (recvN s n) n k).2 : Int) by omega]
      exact this
end
set_option maxRecDepth 100000 in
theorem ac_vsteps0 {s u : St} {i m o : Int} (hL : LoopP Tryz.prog (loopOf Tryz.prog 12 0) (hdV s i m 0 s.th.length) (.exit 0) (hdV u i m o u.th.length)) (ho : s.ok) (hf : s.fit) (ht : s.th ≠ []) : AC Tryz.prog 12 [stT s, .int .i64 i, .int .i64 m] (.tuple #[stT u, .int .i64 o]) :=
  ac_path mixed (ext := [70]) (fuel := 9) (n := 9) (orc := [.iface 1000004 (.func (.yield 18) #[.agg (stL s), .int .i64 11] #[]), oR [1, 3] [6] rgAll 4 (els9 5 (pt 6)), .nilFunc, .nilFunc, .nilFunc, .nilFunc,
    oL [5, 4, 1, 6, 7] [2, 6, 8, 9, 10] 0 [(2, .int .i64 m), (6, pt 2), (8, pt 0), (9, .map (some 4)), (10, .int .i64 o)] [bX u i u.th.length, bT u.th u.th.length, bZ, bBx 0, bMp 0 (pt 3)]])
    (an (ao_keep (neg_no s) ho hf ht) <| an (reg_steps 5 6) <| an (show In64 (9 + 1) by constructor <;> decide) <| an (show In64 (9 + 1 + 1) by constructor <;> decide) <| an (show In64 (9 + 1 + 1 + 1) by constructor <;> decide) <| an hL <| an (len_map (f := thT) u.th) trivial) (by kernel_rfl)
/-- Some steps. -/
theorem ac_vsteps {s : St} {i m : Int} (ho : s.ok) (hf : s.fit) (ht : s.th ≠ []) (hl : s.lg.length ≤ 800000) : AC Tryz.prog 12 [stT s, .int .i64 i, .int .i64 m] (.tuple #[stT (recvK s i (min m 1000).toNat).1, .int .i64 (recvK s i (min m 1000).toNat).2]) := by
  have h := vsteps_lp (i := i) (m := m) (min m 1000 - 0).toNat (s := s) (o := 0) (.of ho) (Int.le_refl _) rfl (by omega) ho
  rw [show min m 1000 - 0 = min m 1000 by omega, Int.zero_add] at h
  exact ac_vsteps0 h ho hf ht
set_option maxRecDepth 100000 in
theorem ac_vsteps_nil {s : St} {i m : Int} (h : s.th = []) (ho : s.ok) (hf : s.fit) : AC Tryz.prog 12 [stT s, .int .i64 i, .int .i64 m] (.tuple #[stT s, .int .i64 0]) := by
  cases hm : decide ((0 : Int) < min m 1000)
  · exact ac_path mixed (ext := [70, 21]) (fuel := 9) (n := 9) (orc := [stT s, oR [1, 3] [5] rgAll 4 (els9 4 (pt 5)), .nilFunc, .nilFunc, .nilFunc, .nilFunc, .bool false])
      (an (ac_keep (neg_no s) ho hf) <| an (reg_steps 4 5) <| an (show In64 (9 + 1) by constructor <;> decide) <| an (show In64 (9 + 1 + 1) by constructor <;> decide) <| an (show In64 (9 + 1 + 1 + 1) by constructor <;> decide) <| an hm trivial) (by kernel_rfl)
  · exact ac_path mixed (ext := [70, 21]) (fuel := 9) (n := 9) (orc := [stT s, oR [1, 3] [5] rgAll 4 (els9 4 (pt 5)), .nilFunc, .nilFunc, .nilFunc, .nilFunc, .bool true, vD false])
      (an (ac_keep (neg_no s) ho hf) <| an (reg_steps 4 5) <| an (show In64 (9 + 1) by constructor <;> decide) <| an (show In64 (9 + 1 + 1) by constructor <;> decide) <| an (show In64 (9 + 1 + 1 + 1) by constructor <;> decide) <| an hm <| an (ac_pcheck (nil_no h) ho) trivial) (by kernel_rfl)
theorem recvK_no {s : St} {i : Int} (h : stB s = false) (k : Nat) : recvK s i k = (s, 0) := by
  cases k with
  | zero => rfl
  | succ k => simp [recvK, runsB, hasB, h]
theorem recvK_1 (s : St) (i : Int) : (recvK s i 1).1 = recvS s i := by
  cases h : runsB s i 2 <;> simp [recvK, h, recvS]
/-- Some steps of the program, of any state. -/
theorem ac_vst {s : St} {i m : Int} (ho : s.ok) (hf : s.fit) (hl : s.lg.length ≤ 800000) : AC Tryz.prog 12 [stT s, .int .i64 i, .int .i64 m] (.tuple #[stT (recvK s i (min m 1000).toNat).1, .int .i64 (recvK s i (min m 1000).toNat).2]) := by
  by_cases h : s.th = []
  · rw [recvK_no (nil_no h)]; exact ac_vsteps_nil h ho hf
  · exact ac_vsteps ho hf h hl
set_option maxRecDepth 100000 in
theorem ac_vstep {s : St} {i : Int} (ho : s.ok) (hf : s.fit) (hl : s.lg.length ≤ 800000) : AC Tryz.prog 15 [stT s, .int .i64 i] (stT (recvS s i)) := by
  rw [← recvK_1]
  exact ac_path mixed (ext := [12]) (fuel := 9) (n := 3) (orc := [.tuple #[stT (recvK s i 1).1, .int .i64 (recvK s i 1).2]]) (an (ac_vst (i := i) (m := 1) ho hf hl) trivial) (by kernel_rfl)
theorem ac_vinside {pc : Int} {b : Bool} (h : (decide (1 ≤ pc) && decide (pc ≤ 11)) = b) : AC Tryz.prog 17 [.int .i64 pc] (.bool b) := by
  subst h
  have e : decide (1 ≤ pc) = decide (0 < pc) := by by_cases h : 1 ≤ pc <;> simp <;> omega
  rw [e]
  cases h1 : decide (0 < pc)
  · exact ac_path mixed (ext := []) (fuel := 9) (n := 3) (orc := [.bool false]) (an h1 trivial) (by kernel_rfl)
  · exact ac_path mixed (ext := []) (fuel := 9) (n := 3) (orc := [.bool true]) (an h1 trivial) (by kernel_rfl)
theorem ac_vnear {pc k : Int} (h : (if pc = 3 then 3 else if pc = 4 then 2 else if pc = 6 then 1 else 0) = k) : AC Tryz.prog 18 [.int .i64 pc] (.int .i64 k) := by
  by_cases h3 : pc = 3
  · rw [if_pos h3] at h; subst h
    exact ac_path mixed (ext := []) (fuel := 9) (n := 3) (orc := [.bool true]) (an (show (pc == 3) = true by simp [h3]) trivial) (by kernel_rfl)
  rw [if_neg h3] at h
  by_cases h4 : pc = 4
  · rw [if_pos h4] at h; subst h
    exact ac_path mixed (ext := []) (fuel := 9) (n := 3) (orc := [.bool false, .bool true]) (an (show (pc == 3) = false by simp [h3]) <| an (show (pc == 4) = true by simp [h4]) trivial) (by kernel_rfl)
  rw [if_neg h4] at h
  by_cases h6 : pc = 6
  · rw [if_pos h6] at h; subst h
    exact ac_path mixed (ext := []) (fuel := 9) (n := 3) (orc := [.bool false, .bool false, .bool true]) (an (show (pc == 3) = false by simp [h3]) <| an (show (pc == 4) = false by simp [h4]) <| an (show (pc == 6) = true by simp [h6]) trivial) (by kernel_rfl)
  rw [if_neg h6] at h; subst h
  exact ac_path mixed (ext := []) (fuel := 9) (n := 3) (orc := [.bool false, .bool false, .bool false]) (an (show (pc == 3) = false by simp [h3]) <| an (show (pc == 4) = false by simp [h4]) <| an (show (pc == 6) = false by simp [h6]) trivial) (by kernel_rfl)
end Go.Proofs.YtjbcfjfnobklkaaGreat

/- The head of the laws of layer 15 (awake), by contracts told by abstract values. -/
namespace Go.Proofs.YtjbcfjfnobklkaaGreat
set_option linter.unusedVariables false
set_option linter.unusedSimpArgs false
open Go.RowKit
theorem flN_v : flN cW 1 = vR := by rfl
theorem st_R {s : St} {i m : Int} {k : Nat} {r : St} {c : Nat} (hB : stB s = true) (ho : s.ok) (hg : s.lg.length ≤ 10) (hk : (min m 1000).toNat = k) (h : recvK s i k = (r, c)) : AC Tryz.prog 12 [stT s, .int .i64 i, .int .i64 m] (.tuple #[stT r, .int .i64 c]) := by
  have := ac_vst (i := i) (m := m) ho (fit_of hB (by omega)) (by omega)
  rw [hk, h] at this
  exact this
set_option maxRecDepth 100000 in
theorem ac_awakeR : AC Tryz.prog 10 [] (.bool true) :=
  ac_path mixed (ext := [22, 23, 12, 17, 18]) (fuel := 9) (n := 5)
    (orc := [.tuple #[stT vR, .bool true], .tuple #[stT xR, .int .i64 0], .tuple #[stT aR, .int .i64 7], .tuple #[stT bR, .int .i64 4], .tuple #[stT yR, .int .i64 0], .tuple #[stT zR, .int .i64 4], .nilFunc, .nilFunc, .nilFunc, .nilFunc, .nilFunc, .nilFunc, thT ⟨0, 4, 0, 0, 0, 0, 0, 0, false, 1, 10⟩, .nilFunc, thT ⟨0, 4, 0, 0, 0, 0, 0, 0, false, 1, 10⟩, .nilFunc, .bool true, .nilFunc, enT e1R, .bool true, .nilFunc, .nilFunc, thT ⟨1, 4, 0, 0, 4, 0, 0, 0, false, 1, 10⟩, .nilFunc, .nilFunc, thT ⟨0, 5, 0, 0, 0, 0, 0, 0, false, 4, 0⟩, .nilFunc, vD true, vD false, .int .i64 3, .nilFunc, .int .i64 1, .nilFunc, .int .i64 0])
    (an (flN_v ▸ ac_filled (n := 1) cW_b sW_in (by decide)) <| an (ac_pinvoke w_ix vR_in (fit_of vR_b (by decide))) <| an (st_R (i := 1) (m := 100) xR_b xR_in (by decide) (by decide) w_ar) <| an (st_R (i := 1) (m := 4) xR_b xR_in (by decide) (by decide) w_br) <| an (ac_pinvoke w_iy aR_in (fit_of aR_b (by decide))) <| an (st_R (i := 0) (m := 100) yR_b yR_in (by decide) (by decide) w_zr) <|
      an (ixT (l := aR.th) (n := 1) (by decide)) <| an (ixT (l := aR.th) (n := 1) (by decide)) <| an (ask_bin (fun x y W => (guard_agg (by kernel_rfl) x y _ _ W).2) (fun W => by simpa using wo_eql ⟨1, 1, 0⟩ ⟨1, 1, 0⟩ W) (.tmp 86) (.tmp 87)) <| an (ixEn (l := aR.lg) (i := 1) (by decide)) <| an (ask_bin (fun x y W => (guard_agg (by kernel_rfl) x y _ _ W).2) (fun W => by simpa using en_eql e1R e1R W) (.tmp 94) (.tmp 95)) <|
      an (ixT (l := bR.th) (n := 1) (by decide)) <| an (ixT (l := zR.th) (n := 0) (by decide)) <| an (ac_vinside (pc := 1) (b := true) (by decide)) <| an (ac_vinside (pc := 0) (b := false) (by decide)) <| an (ac_vnear (pc := 3) (k := 3) (by decide)) <| an (ac_vnear (pc := 6) (k := 1) (by decide)) <| an (ac_vnear (pc := 9) (k := 0) (by decide)) trivial) (by kernel_rfl)
end Go.Proofs.YtjbcfjfnobklkaaGreat

/- The document's Take, by the engine. -/
namespace Go.Proofs.YtjbcfjfnobklkaaGreat
set_option linter.unusedVariables false
set_option linter.unusedSimpArgs false
open Go.RowKit
section
variable {h t m r : Int}
end
end Go.Proofs.YtjbcfjfnobklkaaGreat

/- The document's Step of who receives, case by case, told by plain states. -/
namespace Go.Proofs.YtjbcfjfnobklkaaGreat
set_option linter.unusedVariables false
set_option linter.unusedSimpArgs false
open Go.RowKit
/-- What is true of a state in which thread n, at step c, receives. -/
structure Dr (s : St) (n : Nat) (c : Int) : Prop where
  ck : stB s = true
  ok : s.ok
  few : s.few
  hn : n < s.th.length
  st : (gth s.th n).st = 1
  sd : opSide (gth s.th n).ki = 2
  pc : (gth s.th n).pc = c
section
variable {s : St} {n : Nat} {c : Int}
theorem Dr.ht (h : Dr s n c) : gth s.th n = pcT (gth s.th n) c := by rw [← h.pc]; rfl
theorem Dr.ix (h : Dr s n c) : IxP ((s.th.map thT).toArray) (n : Int) (thT (pcT (gth s.th n) c)) := by
  have := ixT h.hn
  rw [h.ht] at this
  exact this
theorem Dr.has (h : Dr s n c) : hasB s n = true := has_of h.ck h.hn
theorem Dr.ru (h : Dr s n c) : runsB s n 2 = true := runs_iff.2 ⟨h.has, by simpa using h.st, by simpa using h.sd⟩
theorem Dr.rs (h : Dr s n c) : thRuns (gth s.th n).st = 0 := by rw [h.st]; rfl
theorem Dr.i15 (h : Dr s n c) : (0 : Int) ≤ n ∧ (n : Int) ≤ 15 := (ok_th h.ck h.hn).2
theorem Dr.ful (h : Dr s n c) : okE s.fe s.fl = true := (full_lines h.ck).2.2.2.2.1
theorem Dr.emp (h : Dr s n c) : okE s.ee s.el = true := (full_lines h.ck).2.2.2.2.2
theorem Dr.sl (h : Dr s n c) : okSl s.sl = true := (word_ok h.ck).2.1
theorem Dr.bd (h : Dr s n c) : 0 ≤ (gth s.th n).re ∧ (gth s.th n).re ≤ 1099511627776 ∧ 0 ≤ (gth s.th n).tr ∧ (gth s.th n).tr ≤ 1099511627776 := by
  have h1 := gth_ok h.ck h.hn
  generalize gth s.th n = t at h1
  obtain ⟨st, ki, va, un, pc, re, se, tr, la, rs, go⟩ := t
  rw [thB_iff] at h1
  simp only
  omega
theorem Dr.len (h : Dr s n c) : In64 (s.sl.length : Int) := by have := h.few.sl; constructor <;> omega
theorem Dr.nx {v : Int} (_h : Dr s n c) (hn : waySt s (gth s.th n).tr = v) : AC Tryz.prog 93 [cfT s.cf, .int .i64 (gth s.th n).tr] (.int .i64 v) := by subst hn; exact ac_rnext s.cf (gth s.th n).tr
theorem Dr.con (h : Dr s n c) (hb : cmB s.ee s.el (gth s.th n).se n = false) : AC Tryz.prog 103 [evT s.ee s.el, .int .i64 (gth s.th n).se, .int .i64 n] (.tuple #[evT s.ee s.el, .bool false, .int .i64 (entE s.el n)]) := by
  have := ac_rcommit hb h.emp h.i15
  rw [show cmL s.ee s.el (gth s.th n).se n = s.el by unfold cmL; rw [hb]; rfl] at this
  exact this
end
end Go.Proofs.YtjbcfjfnobklkaaGreat

/- The document's Step of who receives is the step of plain states. -/
namespace Go.Proofs.YtjbcfjfnobklkaaGreat
set_option linter.unusedVariables false
set_option linter.unusedSimpArgs false
open Go.RowKit
section
variable {s : St} {n : Nat} {c : Int}
end
end Go.Proofs.YtjbcfjfnobklkaaGreat

/- The document's Steps of who receives: as many steps as there are, told by plain states. -/
namespace Go.Proofs.YtjbcfjfnobklkaaGreat
set_option linter.unusedVariables false
set_option linter.unusedSimpArgs false
open Go.RowKit
section
variable {s : St} {i m o : Int} {b : Bool}
end
end Go.Proofs.YtjbcfjfnobklkaaGreat

/- Layer 15's first law (RecvTells): its walk, by contracts told by abstract values. -/
namespace Go.Proofs.YtjbcfjfnobklkaaGreat
set_option linter.unusedVariables false
set_option linter.unusedSimpArgs false
open Go.RowKit
theorem recvK_few {i : Int} (k : Nat) : ∀ {s : St}, stB s = true → s.lg.length + k ≤ 1000 → (recvK s i k).1.few ∧ (recvK s i k).1.lg.length ≤ 1000000 := by
  induction k with
  | zero => intro s hB hl; exact ⟨few_of (s := s) hB (by omega), by show s.lg.length ≤ 1000000; omega⟩
  | succ k ih =>
    intro s hB hl
    cases hr : runsB s i 2
    · rw [recvK_off hr]; exact ⟨few_of (s := s) hB (by omega), by show s.lg.length ≤ 1000000; omega⟩
    · rw [recvK_on hr]
      have h1 : (recvS s i).lg.length ≤ s.lg.length + 1 := by rcases (recvS_lgOk s i).1 with h | ⟨x, h⟩ <;> rw [h] <;> simp
      exact ih (s := recvS s i) (by rw [recvS_stB]; exact hB) (by omega)
section
variable {s u v : St} {i m pc : Int} {k : Nat}
end
end Go.Proofs.YtjbcfjfnobklkaaGreat

/- '==' on slots, field by field. -/
namespace Go.Proofs.YtjbcfjfnobklkaaGreat
set_option linter.unusedVariables false
set_option linter.unusedSimpArgs false
open Go.ChangeShapes Go.WideShapes Go.ChangeAt Go.RowKit
set_option maxHeartbeats 1000000 in
theorem sl_equal (a b : Slo) (w : World) : (Op.equal 64 (.agg #[.int .i64 a.st, .int .i64 a.vl]) (.agg #[.int .i64 b.st, .int .i64 b.vl])).run Tryz.prog w = .ok (decide (a = b)) w := by
  have hu := Tryz.underlying64
  have h3 := Tryz.underlying3
  have h4 := Tryz.underlying4
  have hp : Tryz.prog.stoodInHeld 64 = false := by kernel_rfl
  have hc : Tryz.prog.info? 3 = _ := rfl
  have hd : Tryz.prog.info? 4 = _ := rfl
  have e : decide (a = b) = (a.st == b.st && (a.vl == b.vl)) := by
    rw [Bool.eq_iff_iff]; cases a; cases b; simp [and_assoc]
  rw [e]
  unfold Op.equal Op.maxDepth
  rw [run_equalIn_struct w 9999 _ _ _ (by unfold Program.fieldsOf; rw [hu]) hp]
  unfold Program.fieldsOf
  rw [hu]
  cases c0 : (a.st == b.st)
  · simp [Op.eqFields, part, isAgg, run_underlying h3, run_underlying h4, run_equalIn_int _ _ _ _ _ _ _ h3, run_equalIn_bool _ _ _ _ _ h4, c0]
  cases c1 : (a.vl == b.vl)
  · simp [Op.eqFields, part, isAgg, run_underlying h3, run_underlying h4, run_equalIn_int _ _ _ _ _ _ _ h3, run_equalIn_bool _ _ _ _ _ h4, c0, c1]
  simp [Op.eqFields, part, isAgg, run_underlying h3, run_underlying h4, run_equalIn_int _ _ _ _ _ _ _ h3, run_equalIn_bool _ _ _ _ _ h4, c0, c1]
theorem sl_neq (a b : Slo) (w : World) : (binOp .neq 64 (.agg #[.int .i64 a.st, .int .i64 a.vl]) (.agg #[.int .i64 b.st, .int .i64 b.vl])).run Tryz.prog w = .ok (.bool (!decide (a = b))) w := by
  have h := sl_equal a b w
  have hu := Tryz.underlying64
  simp [binOp, h, run_underlying hu, Result.andThen]
end Go.Proofs.YtjbcfjfnobklkaaGreat

/- Contracts told by abstract values: in how many things two states differ. -/
namespace Go.Proofs.YtjbcfjfnobklkaaGreat
set_option linter.unusedVariables false
set_option linter.unusedSimpArgs false
open Go.RowKit
def gI (l : List Int) (i : Nat) : Int := l.getD i 0
theorem gI_eq {l : List Int} {i : Nat} (h : i < l.length) : gI l i = l[i] := by simp [gI, h]
theorem ixI' {l : List Int} {i : Nat} (h : i < l.length) : IxP ((l.map (Value.int .i64 ·)).toArray) (i : Int) (.int .i64 (gI l i)) := ⟨by omega, by simp [gI_eq h, h]⟩
theorem ixS {l : List Slo} {i : Nat} (h : i < l.length) : IxP ((l.map slT).toArray) (i : Int) (slT (gs l i)) := ⟨by omega, by simp [gs_eq h, h]⟩
/-! ### Two lists of numbers -/
def hdI2 (a b : List Int) (i : Int) : Sg := ⟨mkT 26 [(0, rowI a), (1, rowI b), (5, .int .i64 i)], []⟩
def hdN2 : Sg := ⟨mkT 26 [(4, vD false)], []⟩
section
variable {a b : List Int}
set_option maxRecDepth 100000 in
theorem in_yes (hl : a.length = b.length) (hm : a.length ≤ 1000000) : ∀ (k i : Nat), a.length - i = k → i ≤ a.length → a.drop i = b.drop i → LoopP Tryz.prog (loopOf Tryz.prog 51 0) (hdI2 a b i) (.exit 0) (hdI2 a b a.length)
  | 0, i, hk, hi, _ => by
    have : i = a.length := by omega
    subst this
    exact loop_end mixed (fuel := 9) (n := 3) (im := []) (keep := [0, 1, 5]) (ext := []) (orc := [.bool false]) (an (show decide ((a.length : Int) < a.length) = false by simp) trivial) (by intro e; cases e) (by kernel_rfl)
  | k + 1, i, hk, hi, he => by
    have ha : i < a.length := by omega
    have hb : i < b.length := by omega
    rw [List.drop_eq_getElem_cons ha, List.drop_eq_getElem_cons hb] at he
    have h1 : gI a i = gI b i := by rw [gI_eq ha, gI_eq hb]; exact (List.cons.inj he).1
    have ih := in_yes hl hm k (i + 1) (by omega) (by omega) (List.cons.inj he).2
    rw [show ((i + 1 : Nat) : Int) = (i : Int) + 1 by omega] at ih
    exact loop_more mixed (fuel := 9) (n := 3) (im := []) (keep := [0, 1, 5]) (ext := []) (orc := [.bool true, .int .i64 (gI a i), .int .i64 (gI b i), .bool false])
      (an (show decide ((i : Int) < a.length) = true by simp; omega) <| an (ixI' ha) <| an (ixI' hb) <| an (show (gI a i != gI b i) = false by simp [h1]) <| an (show In64 ((i : Int) + 1) by constructor <;> omega) trivial) (by kernel_rfl) ih
set_option maxRecDepth 100000 in
theorem in_no (hl : a.length = b.length) (hm : a.length ≤ 1000000) : ∀ (k i : Nat), a.length - i = k → i ≤ a.length → a.drop i ≠ b.drop i → LoopP Tryz.prog (loopOf Tryz.prog 51 0) (hdI2 a b i) .ret hdN2
  | 0, i, hk, hi, he => absurd (by rw [List.drop_eq_nil_of_le (by omega), List.drop_eq_nil_of_le (by omega)]) he
  | k + 1, i, hk, hi, he => by
    have ha : i < a.length := by omega
    have hb : i < b.length := by omega
    by_cases h1 : gI a i = gI b i
    · have ih := in_no hl hm k (i + 1) (by omega) (by omega) (fun e => he (by rw [List.drop_eq_getElem_cons ha, List.drop_eq_getElem_cons hb, e, ← gI_eq ha, ← gI_eq hb, h1]))
      rw [show ((i + 1 : Nat) : Int) = (i : Int) + 1 by omega] at ih
      exact loop_more mixed (fuel := 9) (n := 3) (im := []) (keep := [0, 1, 5]) (ext := []) (orc := [.bool true, .int .i64 (gI a i), .int .i64 (gI b i), .bool false])
        (an (show decide ((i : Int) < a.length) = true by simp; omega) <| an (ixI' ha) <| an (ixI' hb) <| an (show (gI a i != gI b i) = false by simp [h1]) <| an (show In64 ((i : Int) + 1) by constructor <;> omega) trivial) (by kernel_rfl) ih
    · exact loop_end mixed (fuel := 9) (n := 3) (im := []) (keep := [4]) (ext := []) (orc := [.bool true, .int .i64 (gI a i), .int .i64 (gI b i), .bool true])
        (an (show decide ((i : Int) < a.length) = true by simp; omega) <| an (ixI' ha) <| an (ixI' hb) <| an (show (gI a i != gI b i) = true by simpa using h1) trivial) (by intro e; cases e) (by kernel_rfl)
set_option maxRecDepth 100000 in
theorem ac_ints {r : Bool} (hr : decide (a = b) = r) (hm : a.length ≤ 1000000) : AC Tryz.prog 51 [rowI a, rowI b] (.bool r) := by
  subst hr
  by_cases hl : a.length = b.length
  · by_cases h : a = b
    · rw [show decide (a = b) = true by simp [h]]
      exact ac_path mixed (ext := []) (fuel := 9) (n := 3) (orc := [.bool false, oL [] [0, 1, 5] 0 [(0, rowI a), (1, rowI b), (5, .int .i64 a.length)] []])
        (an (show ((a.length : Int) != b.length) = false by simp [hl]) <| an (in_yes hl hm a.length 0 rfl (by omega) (by simpa using h)) trivial) (by kernel_rfl)
    · rw [show decide (a = b) = false by simp [h]]
      exact ac_path mixed (ext := []) (fuel := 9) (n := 3) (orc := [.bool false, oL [] [0, 1, 5] (-1) [(4, vD false)] []])
        (an (show ((a.length : Int) != b.length) = false by simp [hl]) <| an (in_no hl hm a.length 0 rfl (by omega) (by simpa using h)) trivial) (by kernel_rfl)
  · rw [show decide (a = b) = false by simp; intro e; exact hl (by rw [e])]
    exact ac_path mixed (ext := []) (fuel := 9) (n := 3) (orc := [.bool true]) (an (show ((a.length : Int) != b.length) = true by simp; omega) trivial) (by kernel_rfl)
end
/-! ### Things -/
theorem ask_sl (s t : Slo) {r : Bool} (h : (!decide (s = t)) = r) (x y : Operand) : AskP Tryz.prog (.binOp .neq 64 x y 64) [slT s, slT t] (.bool r) :=
  ask_bin (fun x y W => (guard_agg (by kernel_rfl) x y _ _ W).1) (fun W => by rw [← h]; exact sl_neq s t W) x y
def hdTg (a b : St) (n i : Int) : Sg := ⟨mkT 96 [(2, pt 0), (3, pt 1), (5, .int .i64 n), (6, .int .i64 i)], [some ⟨true, false, 20, 1, [stT a]⟩, some ⟨true, false, 20, 1, [stT b]⟩]⟩
theorem diffL_drop {l m : List Slo} {i : Nat} (h1 : i < l.length) (h2 : i < m.length) : diffL (l.drop i) (m.drop i) = (if gs l i = gs m i then 0 else 1) + diffL (l.drop (i + 1)) (m.drop (i + 1)) := by
  rw [List.drop_eq_getElem_cons h1, List.drop_eq_getElem_cons h2, gs_eq h1, gs_eq h2]; rfl
set_option maxRecDepth 100000 in
theorem tg_lp {a b : St} (hl : a.sl.length = b.sl.length) (hm : a.sl.length ≤ 1000) : ∀ (k i n : Nat), a.sl.length - i = k → i ≤ a.sl.length → n ≤ 1000 + i → LoopP Tryz.prog (loopOf Tryz.prog 19 0) (hdTg a b n i) (.exit 0) (hdTg a b (n + diffL (a.sl.drop i) (b.sl.drop i) : Nat) a.sl.length)
  | 0, i, n, hk, hi, _ => by
    have : i = a.sl.length := by omega
    subst this
    rw [List.drop_length, show diffL [] (b.sl.drop a.sl.length) = 0 from by simp [diffL], Nat.add_zero]
    exact loop_end mixed (fuel := 9) (n := 3) (im := [0, 1]) (keep := [2, 3, 5, 6]) (ext := []) (orc := [.bool false]) (an (show decide ((a.sl.length : Int) < a.sl.length) = false by simp) trivial) (by intro e; cases e) (by kernel_rfl)
  | k + 1, i, n, hk, hi, hn => by
    have h1 : i < a.sl.length := by omega
    have h2 : i < b.sl.length := by omega
    rw [diffL_drop h1 h2]
    by_cases hs : gs a.sl i = gs b.sl i
    · have ih := tg_lp hl hm k (i + 1) n (by omega) (by omega) (by omega)
      rw [if_pos hs, Nat.zero_add]
      rw [show ((i + 1 : Nat) : Int) = (i : Int) + 1 by omega] at ih
      exact loop_more mixed (fuel := 9) (n := 3) (im := [0, 1]) (keep := [2, 3, 5, 6]) (ext := []) (orc := [.bool true, .bool true, slT (gs a.sl i), slT (gs b.sl i), .bool false, .bool false])
        (an (show decide ((i : Int) < a.sl.length) = true by simp; omega) <| an (show decide ((i : Int) < b.sl.length) = true by simp; omega) <| an (ixS h1) <| an (ixS h2) <| an (ask_sl (gs a.sl i) (gs b.sl i) (r := false) (by simp [hs]) (.tmp 32) (.tmp 37)) <| an (rfl : false = false) <| an (show In64 ((i : Int) + 1) by constructor <;> omega) trivial) (by kernel_rfl) ih
    · have ih := tg_lp hl hm k (i + 1) (n + 1) (by omega) (by omega) (by omega)
      rw [if_neg hs, ← Nat.add_assoc]
      rw [show ((i + 1 : Nat) : Int) = (i : Int) + 1 by omega, show ((n + 1 : Nat) : Int) = (n : Int) + 1 by omega] at ih
      exact loop_more mixed (fuel := 9) (n := 3) (im := [0, 1]) (keep := [2, 3, 5, 6]) (ext := []) (orc := [.bool true, .bool true, slT (gs a.sl i), slT (gs b.sl i), .bool true, .bool true])
        (an (show decide ((i : Int) < a.sl.length) = true by simp; omega) <| an (show decide ((i : Int) < b.sl.length) = true by simp; omega) <| an (ixS h1) <| an (ixS h2) <| an (ask_sl (gs a.sl i) (gs b.sl i) (r := true) (by simp [hs]) (.tmp 32) (.tmp 37)) <| an (rfl : true = true) <| an (show In64 ((n : Int) + 1) by constructor <;> omega) <| an (show In64 ((i : Int) + 1) by constructor <;> omega) trivial) (by kernel_rfl) ih
section
variable {a b : St} (hl : a.sl.length = b.sl.length) (hm : a.sl.length ≤ 1000) (hx : a.sn.length ≤ 1000000 ∧ a.rc.length ≤ 1000000 ∧ a.fl.length ≤ 1000000 ∧ a.el.length ≤ 1000000)
include hl hm hx
set_option maxRecDepth 100000 in
theorem tg_0 (hw : (!decide ((⟨a.hd, a.tl, a.md⟩ : Wo3) = ⟨b.hd, b.tl, b.md⟩)) = false) (hsn : decide (a.sn = b.sn) = true) (hrc : decide (a.rc = b.rc) = true) (hfe : (a.fe != b.fe) = false) (hfl : decide (a.fl = b.fl) = true) (hee : (a.ee != b.ee) = false) (hel : decide (a.el = b.el) = true) : AC Tryz.prog 19 [stT a, stT b] (.int .i64 (((0 + diffL a.sl b.sl : Nat) : Int))) :=
  ac_path mixed (ext := [51]) (fuel := 9) (n := 3) (orc := [.bool false, .nilFunc, oL [0, 1] [2, 3, 5, 6] 0 [(2, pt 0), (3, pt 1), (5, .int .i64 ((0 + diffL a.sl b.sl : Nat) : Int)), (6, .int .i64 a.sl.length)] (hdTg a b 0 0).H, vD true, vD true, .bool false, vD true, .bool false, vD true])
    (an (ask_wn (q := false) hw (.tmp 8) (.tmp 10)) <| an (tg_lp hl hm a.sl.length 0 0 rfl (by omega) (by omega)) <| an (ac_ints (r := true) hsn (by omega)) <| an (ac_ints (r := true) hrc (by omega)) <| an (show (a.fe != b.fe) = false from hfe) <| an (ac_ints (r := true) hfl (by omega)) <| an (show (a.ee != b.ee) = false from hee) <| an (ac_ints (r := true) hel (by omega)) trivial) (by kernel_rfl)
set_option maxRecDepth 100000 in
theorem tg_w (hw : (!decide ((⟨a.hd, a.tl, a.md⟩ : Wo3) = ⟨b.hd, b.tl, b.md⟩)) = true) (hsn : decide (a.sn = b.sn) = true) (hrc : decide (a.rc = b.rc) = true) (hfe : (a.fe != b.fe) = false) (hfl : decide (a.fl = b.fl) = true) (hee : (a.ee != b.ee) = false) (hel : decide (a.el = b.el) = true) : AC Tryz.prog 19 [stT a, stT b] (.int .i64 (((1 + diffL a.sl b.sl : Nat) : Int))) :=
  ac_path mixed (ext := [51]) (fuel := 9) (n := 3) (orc := [.bool true, .nilFunc, oL [0, 1] [2, 3, 5, 6] 0 [(2, pt 0), (3, pt 1), (5, .int .i64 ((1 + diffL a.sl b.sl : Nat) : Int)), (6, .int .i64 a.sl.length)] (hdTg a b 0 0).H, vD true, vD true, .bool false, vD true, .bool false, vD true])
    (an (ask_wn (q := true) hw (.tmp 8) (.tmp 10)) <| an (show In64 ((0 : Int) + 1) by decide) <| an (tg_lp hl hm a.sl.length 0 1 rfl (by omega) (by omega)) <| an (ac_ints (r := true) hsn (by omega)) <| an (ac_ints (r := true) hrc (by omega)) <| an (show (a.fe != b.fe) = false from hfe) <| an (ac_ints (r := true) hfl (by omega)) <| an (show (a.ee != b.ee) = false from hee) <| an (ac_ints (r := true) hel (by omega)) trivial) (by kernel_rfl)
set_option maxRecDepth 100000 in
theorem tg_sn (hd : diffL a.sl b.sl ≤ 1000) (hw : (!decide ((⟨a.hd, a.tl, a.md⟩ : Wo3) = ⟨b.hd, b.tl, b.md⟩)) = false) (hsn : decide (a.sn = b.sn) = false) (hrc : decide (a.rc = b.rc) = true) (hfe : (a.fe != b.fe) = false) (hfl : decide (a.fl = b.fl) = true) (hee : (a.ee != b.ee) = false) (hel : decide (a.el = b.el) = true) : AC Tryz.prog 19 [stT a, stT b] (.int .i64 (((0 + diffL a.sl b.sl : Nat) : Int) + 1)) :=
  ac_path mixed (ext := [51]) (fuel := 9) (n := 3) (orc := [.bool false, .nilFunc, oL [0, 1] [2, 3, 5, 6] 0 [(2, pt 0), (3, pt 1), (5, .int .i64 ((0 + diffL a.sl b.sl : Nat) : Int)), (6, .int .i64 a.sl.length)] (hdTg a b 0 0).H, vD false, vD true, .bool false, vD true, .bool false, vD true])
    (an (ask_wn (q := false) hw (.tmp 8) (.tmp 10)) <| an (tg_lp hl hm a.sl.length 0 0 rfl (by omega) (by omega)) <| an (ac_ints (r := false) hsn (by omega)) <| an (show In64 (((0 + diffL a.sl b.sl : Nat) : Int) + 1) by constructor <;> omega) <| an (ac_ints (r := true) hrc (by omega)) <| an (show (a.fe != b.fe) = false from hfe) <| an (ac_ints (r := true) hfl (by omega)) <| an (show (a.ee != b.ee) = false from hee) <| an (ac_ints (r := true) hel (by omega)) trivial) (by kernel_rfl)
set_option maxRecDepth 100000 in
theorem tg_rc (hd : diffL a.sl b.sl ≤ 1000) (hw : (!decide ((⟨a.hd, a.tl, a.md⟩ : Wo3) = ⟨b.hd, b.tl, b.md⟩)) = false) (hsn : decide (a.sn = b.sn) = true) (hrc : decide (a.rc = b.rc) = false) (hfe : (a.fe != b.fe) = false) (hfl : decide (a.fl = b.fl) = true) (hee : (a.ee != b.ee) = false) (hel : decide (a.el = b.el) = true) : AC Tryz.prog 19 [stT a, stT b] (.int .i64 (((0 + diffL a.sl b.sl : Nat) : Int) + 1)) :=
  ac_path mixed (ext := [51]) (fuel := 9) (n := 3) (orc := [.bool false, .nilFunc, oL [0, 1] [2, 3, 5, 6] 0 [(2, pt 0), (3, pt 1), (5, .int .i64 ((0 + diffL a.sl b.sl : Nat) : Int)), (6, .int .i64 a.sl.length)] (hdTg a b 0 0).H, vD true, vD false, .bool false, vD true, .bool false, vD true])
    (an (ask_wn (q := false) hw (.tmp 8) (.tmp 10)) <| an (tg_lp hl hm a.sl.length 0 0 rfl (by omega) (by omega)) <| an (ac_ints (r := true) hsn (by omega)) <| an (ac_ints (r := false) hrc (by omega)) <| an (show In64 (((0 + diffL a.sl b.sl : Nat) : Int) + 1) by constructor <;> omega) <| an (show (a.fe != b.fe) = false from hfe) <| an (ac_ints (r := true) hfl (by omega)) <| an (show (a.ee != b.ee) = false from hee) <| an (ac_ints (r := true) hel (by omega)) trivial) (by kernel_rfl)
set_option maxRecDepth 100000 in
theorem tg_fe (hd : diffL a.sl b.sl ≤ 1000) (hw : (!decide ((⟨a.hd, a.tl, a.md⟩ : Wo3) = ⟨b.hd, b.tl, b.md⟩)) = false) (hsn : decide (a.sn = b.sn) = true) (hrc : decide (a.rc = b.rc) = true) (hfe : (a.fe != b.fe) = true) (hee : (a.ee != b.ee) = false) (hel : decide (a.el = b.el) = true) : AC Tryz.prog 19 [stT a, stT b] (.int .i64 (((0 + diffL a.sl b.sl : Nat) : Int) + 1)) :=
  ac_path mixed (ext := [51]) (fuel := 9) (n := 3) (orc := [.bool false, .nilFunc, oL [0, 1] [2, 3, 5, 6] 0 [(2, pt 0), (3, pt 1), (5, .int .i64 ((0 + diffL a.sl b.sl : Nat) : Int)), (6, .int .i64 a.sl.length)] (hdTg a b 0 0).H, vD true, vD true, .bool true, .bool false, vD true])
    (an (ask_wn (q := false) hw (.tmp 8) (.tmp 10)) <| an (tg_lp hl hm a.sl.length 0 0 rfl (by omega) (by omega)) <| an (ac_ints (r := true) hsn (by omega)) <| an (ac_ints (r := true) hrc (by omega)) <| an (show (a.fe != b.fe) = true from hfe) <| an (show In64 (((0 + diffL a.sl b.sl : Nat) : Int) + 1) by constructor <;> omega) <| an (show (a.ee != b.ee) = false from hee) <| an (ac_ints (r := true) hel (by omega)) trivial) (by kernel_rfl)
set_option maxRecDepth 100000 in
theorem tg_fl (hd : diffL a.sl b.sl ≤ 1000) (hw : (!decide ((⟨a.hd, a.tl, a.md⟩ : Wo3) = ⟨b.hd, b.tl, b.md⟩)) = false) (hsn : decide (a.sn = b.sn) = true) (hrc : decide (a.rc = b.rc) = true) (hfe : (a.fe != b.fe) = false) (hfl : decide (a.fl = b.fl) = false) (hee : (a.ee != b.ee) = false) (hel : decide (a.el = b.el) = true) : AC Tryz.prog 19 [stT a, stT b] (.int .i64 (((0 + diffL a.sl b.sl : Nat) : Int) + 1)) :=
  ac_path mixed (ext := [51]) (fuel := 9) (n := 3) (orc := [.bool false, .nilFunc, oL [0, 1] [2, 3, 5, 6] 0 [(2, pt 0), (3, pt 1), (5, .int .i64 ((0 + diffL a.sl b.sl : Nat) : Int)), (6, .int .i64 a.sl.length)] (hdTg a b 0 0).H, vD true, vD true, .bool false, vD false, .bool false, vD true])
    (an (ask_wn (q := false) hw (.tmp 8) (.tmp 10)) <| an (tg_lp hl hm a.sl.length 0 0 rfl (by omega) (by omega)) <| an (ac_ints (r := true) hsn (by omega)) <| an (ac_ints (r := true) hrc (by omega)) <| an (show (a.fe != b.fe) = false from hfe) <| an (ac_ints (r := false) hfl (by omega)) <| an (show In64 (((0 + diffL a.sl b.sl : Nat) : Int) + 1) by constructor <;> omega) <| an (show (a.ee != b.ee) = false from hee) <| an (ac_ints (r := true) hel (by omega)) trivial) (by kernel_rfl)
set_option maxRecDepth 100000 in
theorem tg_ee (hd : diffL a.sl b.sl ≤ 1000) (hw : (!decide ((⟨a.hd, a.tl, a.md⟩ : Wo3) = ⟨b.hd, b.tl, b.md⟩)) = false) (hsn : decide (a.sn = b.sn) = true) (hrc : decide (a.rc = b.rc) = true) (hfe : (a.fe != b.fe) = false) (hfl : decide (a.fl = b.fl) = true) (hee : (a.ee != b.ee) = true) : AC Tryz.prog 19 [stT a, stT b] (.int .i64 (((0 + diffL a.sl b.sl : Nat) : Int) + 1)) :=
  ac_path mixed (ext := [51]) (fuel := 9) (n := 3) (orc := [.bool false, .nilFunc, oL [0, 1] [2, 3, 5, 6] 0 [(2, pt 0), (3, pt 1), (5, .int .i64 ((0 + diffL a.sl b.sl : Nat) : Int)), (6, .int .i64 a.sl.length)] (hdTg a b 0 0).H, vD true, vD true, .bool false, vD true, .bool true])
    (an (ask_wn (q := false) hw (.tmp 8) (.tmp 10)) <| an (tg_lp hl hm a.sl.length 0 0 rfl (by omega) (by omega)) <| an (ac_ints (r := true) hsn (by omega)) <| an (ac_ints (r := true) hrc (by omega)) <| an (show (a.fe != b.fe) = false from hfe) <| an (ac_ints (r := true) hfl (by omega)) <| an (show (a.ee != b.ee) = true from hee) <| an (show In64 (((0 + diffL a.sl b.sl : Nat) : Int) + 1) by constructor <;> omega) trivial) (by kernel_rfl)
set_option maxRecDepth 100000 in
theorem tg_el (hd : diffL a.sl b.sl ≤ 1000) (hw : (!decide ((⟨a.hd, a.tl, a.md⟩ : Wo3) = ⟨b.hd, b.tl, b.md⟩)) = false) (hsn : decide (a.sn = b.sn) = true) (hrc : decide (a.rc = b.rc) = true) (hfe : (a.fe != b.fe) = false) (hfl : decide (a.fl = b.fl) = true) (hee : (a.ee != b.ee) = false) (hel : decide (a.el = b.el) = false) : AC Tryz.prog 19 [stT a, stT b] (.int .i64 (((0 + diffL a.sl b.sl : Nat) : Int) + 1)) :=
  ac_path mixed (ext := [51]) (fuel := 9) (n := 3) (orc := [.bool false, .nilFunc, oL [0, 1] [2, 3, 5, 6] 0 [(2, pt 0), (3, pt 1), (5, .int .i64 ((0 + diffL a.sl b.sl : Nat) : Int)), (6, .int .i64 a.sl.length)] (hdTg a b 0 0).H, vD true, vD true, .bool false, vD true, .bool false, vD false])
    (an (ask_wn (q := false) hw (.tmp 8) (.tmp 10)) <| an (tg_lp hl hm a.sl.length 0 0 rfl (by omega) (by omega)) <| an (ac_ints (r := true) hsn (by omega)) <| an (ac_ints (r := true) hrc (by omega)) <| an (show (a.fe != b.fe) = false from hfe) <| an (ac_ints (r := true) hfl (by omega)) <| an (show (a.ee != b.ee) = false from hee) <| an (ac_ints (r := false) hel (by omega)) <| an (show In64 (((0 + diffL a.sl b.sl : Nat) : Int) + 1) by constructor <;> omega) trivial) (by kernel_rfl)
/-- Two states that differ in no more than one thing. -/
theorem ac_things (h : thingsN a b ≤ 1) : ∃ v : Int, v ≤ 1 ∧ AC Tryz.prog 19 [stT a, stT b] (.int .i64 v) := by
  unfold thingsN oneI at h
  have hd : diffL a.sl b.sl ≤ 1000 := by omega
  have cast : (((0 + diffL a.sl b.sl : Nat) : Int)) = (diffL a.sl b.sl : Int) := by omega
  by_cases cw : (a.hd, a.tl, a.md) = (b.hd, b.tl, b.md)
  · have hw : (!decide ((⟨a.hd, a.tl, a.md⟩ : Wo3) = ⟨b.hd, b.tl, b.md⟩)) = false := by simp only [Prod.mk.injEq] at cw; simp [cw.1, cw.2.1, cw.2.2]
    by_cases csn : a.sn = b.sn
    · by_cases crc : a.rc = b.rc
      · by_cases cfe : a.fe = b.fe
        · by_cases cfl : a.fl = b.fl
          · by_cases cee : a.ee = b.ee
            · by_cases cel : a.el = b.el
              · refine ⟨_, ?_, tg_0 hl hm hx hw (by simp [csn]) (by simp [crc]) (by simp [cfe]) (by simp [cfl]) (by simp [cee]) (by simp [cel])⟩
                simp only [cw, csn, crc, cfe, cfl, cee, cel, and_self, if_true] at h; omega
              · refine ⟨_, ?_, tg_el hl hm hx hd hw (by simp [csn]) (by simp [crc]) (by simp [cfe]) (by simp [cfl]) (by simp [cee]) (by simp [cel])⟩
                simp only [cw, csn, crc, cfe, cfl, cee, cel, and_self, and_false, if_true, if_false] at h; omega
            · refine ⟨_, ?_, tg_ee hl hm hx hd hw (by simp [csn]) (by simp [crc]) (by simp [cfe]) (by simp [cfl]) (by simp [cee])⟩
              simp only [cw, csn, crc, cfe, cfl, cee, and_self, false_and, if_true, if_false] at h; omega
          · refine ⟨_, ?_, tg_fl hl hm hx hd hw (by simp [csn]) (by simp [crc]) (by simp [cfe]) (by simp [cfl]) ?_ ?_⟩
            · simp only [cw, csn, crc, cfe, cfl, and_false, if_true, if_false] at h; omega
            · by_cases cee : a.ee = b.ee
              · simp [cee]
              · simp only [cw, csn, crc, cfe, cfl, cee, and_false, false_and, if_true, if_false] at h; omega
            · by_cases cel : a.el = b.el
              · simp [cel]
              · simp only [cw, csn, crc, cfe, cfl, cel, and_false, if_true, if_false] at h; omega
        · refine ⟨_, ?_, tg_fe hl hm hx hd hw (by simp [csn]) (by simp [crc]) (by simp [cfe]) ?_ ?_⟩
          · simp only [cw, csn, crc, cfe, false_and, if_true, if_false] at h; omega
          · by_cases cee : a.ee = b.ee
            · simp [cee]
            · simp only [cw, csn, crc, cfe, cee, false_and, if_true, if_false] at h; omega
          · by_cases cel : a.el = b.el
            · simp [cel]
            · simp only [cw, csn, crc, cfe, cel, and_false, false_and, if_true, if_false] at h; omega
      · by_cases c1 : a.fe = b.fe ∧ a.fl = b.fl
        · by_cases c2 : a.ee = b.ee ∧ a.el = b.el
          · refine ⟨_, ?_, tg_rc hl hm hx hd hw (by simp [csn]) (by simp [crc]) (by simp [c1.1]) (by simp [c1.2]) (by simp [c2.1]) (by simp [c2.2])⟩
            simp only [cw, csn, crc, c1, c2, and_self, if_true, if_false] at h; omega
          · simp only [cw, csn, crc, c1, c2, and_self, if_true, if_false] at h; omega
        · simp only [cw, csn, crc, c1, if_true, if_false] at h; omega
    · by_cases crc : a.rc = b.rc
      · by_cases c1 : a.fe = b.fe ∧ a.fl = b.fl
        · by_cases c2 : a.ee = b.ee ∧ a.el = b.el
          · refine ⟨_, ?_, tg_sn hl hm hx hd hw (by simp [csn]) (by simp [crc]) (by simp [c1.1]) (by simp [c1.2]) (by simp [c2.1]) (by simp [c2.2])⟩
            simp only [cw, csn, crc, c1, c2, and_self, if_true, if_false] at h; omega
          · simp only [cw, csn, crc, c1, c2, and_self, if_true, if_false] at h; omega
        · simp only [cw, csn, crc, c1, if_true, if_false] at h; omega
      · simp only [cw, csn, crc, if_true, if_false] at h; omega
  · have hw : (!decide ((⟨a.hd, a.tl, a.md⟩ : Wo3) = ⟨b.hd, b.tl, b.md⟩)) = true := by simp only [Prod.mk.injEq] at cw; simp; omega
    by_cases csn : a.sn = b.sn
    · by_cases crc : a.rc = b.rc
      · by_cases c1 : a.fe = b.fe ∧ a.fl = b.fl
        · by_cases c2 : a.ee = b.ee ∧ a.el = b.el
          · refine ⟨_, ?_, tg_w hl hm hx hw (by simp [csn]) (by simp [crc]) (by simp [c1.1]) (by simp [c1.2]) (by simp [c2.1]) (by simp [c2.2])⟩
            simp only [cw, csn, crc, c1, c2, and_self, if_true, if_false] at h; omega
          · simp only [cw, csn, crc, c1, c2, and_self, if_true, if_false] at h; omega
        · simp only [cw, csn, crc, c1, if_true, if_false] at h; omega
      · simp only [cw, csn, crc, if_true, if_false] at h; omega
    · simp only [cw, csn, if_true, if_false] at h; omega
end
end Go.Proofs.YtjbcfjfnobklkaaGreat

/- Layer 15, plain: who has taken something gets it with the next step. -/
namespace Go.Proofs.YtjbcfjfnobklkaaGreat
set_option linter.unusedVariables false
set_option linter.unusedSimpArgs false
open Go.RowKit
section
variable {s : St} {n : Nat}
theorem gth_told (h : stB s = true) (hn : n < s.th.length) (k r g p : Int) : gth (toldS s n k r g p).th n = pcT (tellT (gth s.th n) k r g) p := by
  unfold toldS
  have hl : n < (tellS s n k r g).th.length := by rw [tell_th h hn]; show n < (s.th.set n _).length; simpa using hn
  rw [gth_on hl, gth_tell h hn]
/-- What is told at step 3, if step 4 is next. -/
theorem take_is (h : stB s = true) (hn : n < s.th.length) (h3 : (gth s.th n).pc = 3) (h4 : (gth (recvN s n).th n).pc = 4) : seesR s = 1 ∧ recvN s n = toldS ((s.toWord (s.hd + 1) s.tl s.md).onTh n (regT · s.hd 4)) n (gth s.th n).ki 1 (valV s s.hd) 4 := by
  rw [recvN_3 h3] at h4 ⊢
  unfold takeR at h4 ⊢
  split at h4
  · rw [gth_on hn] at h4
    exact absurd (show (2 : Int) = 4 from h4) (by decide)
  · next c4 =>
    split at h4
    · rw [gth_told h hn] at h4
      exact absurd (show (9 : Int) = 4 from h4) (by decide)
    · next c1 =>
      have hs : seesR s = 1 := Classical.not_not.1 c1
      exact ⟨hs, by rw [if_neg c4, if_neg c1]⟩
/-- Who took something: its position, and what it gets. -/
theorem recvN_reads (h : stB s = true) (hn : n < s.th.length) (h1 : (gth s.th n).st = 1) (hk : opSide (gth s.th n).ki = 2) (h3 : (gth s.th n).pc = 3) (h4 : (gth (recvN s n).th n).pc = 4) :
    runsB (recvN s n) n 2 = true ∧ (gth (recvN s n).th n).re = s.hd ∧ (gth (recvN (recvN s n) n).th n).pc = 6 ∧ (recvN s n).th.length = s.th.length ∧ (recvN (recvN s n) n).th.length = s.th.length ∧ (recvN (recvN s n) n).sl.length = s.sl.length ∧
      ((gs s.sl (plc s.sl s.hd)).st = s.hd → (gth (recvN (recvN s n) n).th n).go = (gth (recvN s n).th n).go ∧ (gs (recvN (recvN s n) n).sl (plc s.sl s.hd)).st = s.hd + s.sl.length) := by
  obtain ⟨hs, e⟩ := take_is h hn h3 h4
  have hc := check_len (word_ok h).1
  have hB := takeB_ok h hn (by omega) hs
  have hn' : n < ((s.toWord (s.hd + 1) s.tl s.md).onTh n (regT · s.hd 4)).th.length := by show n < (s.th.set n _).length; simpa using hn
  have hg' := gth_on (s := s.toWord (s.hd + 1) s.tl s.md) (n := n) hn (regT · s.hd 4)
  have h9 : (gth s.th n).ki ≠ 9 := fun e9 => by rw [e9] at hk; exact absurd hk (by decide)
  have hg : gth (recvN s n).th n = ⟨(gth s.th n).st, (gth s.th n).ki, (gth s.th n).va, (gth s.th n).un, 4, s.hd, (gth s.th n).se, (gth s.th n).tr, (gth s.th n).la, 1, valV s s.hd⟩ := by
    rw [e, gth_told hB hn', hg']
    unfold tellT
    rw [if_neg h9]
    rfl
  have hsh := shr_told ((s.toWord (s.hd + 1) s.tl s.md).onTh n (regT · s.hd 4)) n (gth s.th n).ki 1 (valV s s.hd) 4
  rw [← e] at hsh
  have hsl : (recvN s n).sl = s.sl := by simp only [shr, Prod.mk.injEq] at hsh; exact hsh.2.1
  have hA : stB (recvN s n) = true := recvN_stB h hn (by omega)
  have hln : (recvN s n).th.length = s.th.length := by
    rw [e]
    unfold toldS
    rw [tell_th hB hn']
    show (((s.th.set n _).set n _).set n _).length = _
    simp
  have e2 : recvN (recvN s n) n = readR (recvN s n) n := recvN_4 h4
  have hlr : (gth s.th n).st = (gth (recvN s n).th n).st := by rw [hg]
  have hg2 : gth (readR (recvN s n) n).th n = gotT (gth (recvN s n).th n) (rdV (recvN s n).sl (gth (recvN s n).th n).re) 6 := gth_on (s := (recvN s n).toSl _) (by show n < (recvN s n).th.length; omega) _
  have hre : (gth (recvN s n).th n).re = s.hd := by rw [hg]
  refine ⟨runs_iff.2 ⟨has_of hA (by omega), by rw [Int.toNat_natCast, hg]; exact h1, by rw [Int.toNat_natCast, hg]; exact hk⟩, hre, by rw [e2, hg2]; rfl, hln, ?_, ?_, fun ht => ?_⟩
  · rw [e2]; show ((recvN s n).th.set n _).length = _; rw [List.length_set, hln]
  · rw [e2]; show (rlL (recvN s n).sl _).length = _; rw [rl_len, hsl]
  · have hrd : rdyB s.sl s.hd = true := by
      unfold rdyB
      rw [show liesS s.sl s.hd = true from lies_iff.2 ⟨by omega, (word_ok h).2.1⟩, ht]
      simp
    have hrl : rlB s.sl s.hd = true := by unfold rlB; rw [hrd]; simp; omega
    refine ⟨?_, ?_⟩
    · rw [e2, hg2, hre, hsl]
      show rdV s.sl s.hd = _
      rw [hg]
      show rdV s.sl s.hd = valV s s.hd
      unfold rdV valV atV
      rw [if_pos hrd, if_neg (by omega), if_pos h]
    · rw [e2]
      show (gs (rlL (recvN s n).sl (gth (recvN s n).th n).re) _).st = _
      rw [hre, hsl]
      unfold rlL
      have hp : plc s.sl s.hd < s.sl.length := by
        have := (ok_iff.1 (word_ok h).2.1).1
        unfold plc
        have h0 := place_bd (p := s.hd) (r := s.sl.length) (by omega) (by omega)
        omega
      rw [if_pos hrl, gs_set hp, if_pos rfl]
end
end Go.Proofs.YtjbcfjfnobklkaaGreat
