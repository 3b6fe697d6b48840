/- Texts merged: RcHQ, RcUQ, StepHQ, StepPQ, StepCQ, StepSQ, StepRQ, StepOQ, EqLQ. -/
import Derived.Test.YtcakapmpifnfpaaGreatZa11
import Derived.Test.YtcakapmpifnfpaaGreatZa10
import Derived.Test.YtcakapmpifnfpaaGreatZa4
import Derived.Laws.StructEq
/- The table of steps is made (in a region that draws its order): its rows, in whatever order, are what they are. -/
namespace Go.Proofs.YtcakapmpifnfpaaGreat
set_option linter.unusedVariables false
set_option linter.unusedSimpArgs false
open Go.RowKit
def rgD : List (Option Nat) := [some 7, some 8, some 9, some 10, some 11, none, some 12, some 13, none, some 14, some 15, none, some 16, some 17, none, some 18, some 19, some 20, some 21, none, some 22, some 23, some 24, some 25, none, some 26, some 27, some 28, some 29, none, some 30, some 31, none, some 32, some 33, none]
def rgIns : List (Nat × Int × Nat) := [(5, 0, 4), (8, 1, 7), (11, 2, 10), (14, 3, 13), (19, 4, 18), (24, 5, 23), (29, 6, 28), (32, 7, 31), (35, 8, 34)]
noncomputable def rgL : List Oper := match regOf Tryz.prog 99 0 with
  | .region _ ops _ => ops.toList
  | _ => []
noncomputable def rgI : Nat := match regOf Tryz.prog 99 0 with
  | .region id _ _ => id
  | _ => 0
theorem rg_is : regOf Tryz.prog 99 0 = .region rgI rgL.toArray true := by kernel_rfl
noncomputable def rgO (i : Nat) : Oper := rgL.getD i ⟨none, .move (.const undef), 0, "", #[], none⟩
/-- A closure on to a step: what it does, its receiver, the step, each in a variable of its own. -/
def CloR (N : Nat) (bp c : Value) (g : Nat) (k : Int) (v : Value) (W : World) : Prop := ∃ (b1 b3 : Nat) (t1 t3 : TypeId), v = .func (.func 119) #[] #[.pointer (some ⟨b1, 0, none⟩), bp, .pointer (some ⟨b3, 0, none⟩)] ∧ N ≤ b1 ∧ N ≤ b3 ∧
  W.heap[b1]? = some (.cells #[.func (.func g) #[c] #[]] t1 (0, 0)) ∧ W.heap[b3]? = some (.cells #[.int .i64 k] t3 (0, 0))
def cloX (N : Nat) (bp c : Value) (g : Nat) (k : Int) : KX (Rm N) := ⟨fun v W => CloR N bp c g k v W, fun ⟨b1, b3, t1, t3, h1, h2, h3, h4, h5⟩ hR => ⟨b1, b3, t1, t3, h1, h2, h3, (hR.cels _ _ _ _ h4).trans h4, (hR.cels _ _ _ _ h5).trans h5⟩⟩
def rgF (N : Nat) (bp c V3 : Value) : List (KX (Rm N)) := [KX.tt _, KX.eq _ V3, KX.eq _ c, KX.eq _ (.func (.func 121) #[c] #[]), cloX N bp c 121 1, KX.tt _, KX.eq _ c, KX.eq _ (.func (.func 122) #[c] #[]), KX.tt _, KX.eq _ c, KX.eq _ (.func (.func 123) #[c] #[]), KX.tt _, KX.eq _ c, KX.eq _ (.func (.func 124) #[c] #[]), KX.tt _, KX.eq _ V3, KX.eq _ c, KX.eq _ (.func (.func 125) #[c] #[]), cloX N bp c 125 6, KX.tt _, KX.eq _ V3, KX.eq _ c, KX.eq _ (.func (.func 126) #[c] #[]), cloX N bp c 126 7, KX.tt _, KX.eq _ V3, KX.eq _ c, KX.eq _ (.func (.func 127) #[c] #[]), cloX N bp c 127 9, KX.tt _, KX.eq _ c, KX.eq _ (.func (.func 128) #[c] #[]), KX.tt _, KX.eq _ c, KX.eq _ (.func (.func 129) #[c] #[]), KX.tt _]
theorem steps1_any (g : Nat) (c p : Value) (k : Int) (w : World) : Calls Tryz.prog 118 #[.func (.func g) #[c] #[], .int .i64 k, p] w fun e w' => e = .returned (.func (.func 119) #[] #[.pointer (some ⟨w.heap.size, 0, none⟩), p, .pointer (some ⟨w.heap.size + 1, 0, none⟩)]) ∧
    w' = (w.alloc (.cells #[.func (.func g) #[c] #[]] 1)).alloc (.cells #[.int .i64 k] 3) := by
  go_enter Tryz.func118, Tryz.ntmps118
  go_wp2
  go_ret
  exact ⟨rfl, rfl⟩
section
variable {P : Program} {Q : Exit → Act → World → Prop}
theorem st_val {o : Oper} {b : Act} {W : World} {K : Act → World → Prop} {v : Value} (hr : (execOp b.eval o).run P W = .ok (.value v) W) (hK : K (b.put o.dst v) W) : o.wp P b W K Q := by unfold Oper.wp; rw [hr]; exact hK
theorem ld1 {o : Oper} {b : Act} {W : World} {t : TypeId} {x : Nat} {g : Nat} {u : Value} (ho : o.op = .load t (.tmp x)) (ht : tyRow P t = some false) (hx : b.tmps[x]? = some (.pointer (some ⟨g, 0, none⟩))) (hu : W.cell? ⟨g, 0, none⟩ = some u) : (execOp b.eval o).run P W = .ok (.value u) W := by
  have h1 : b.eval (.tmp x) = .pointer (some ⟨g, 0, none⟩) := by simp [Act.eval, hx]
  have h2 : (loadVar t ⟨g, 0, none⟩).run P W = .ok u W := by unfold loadVar; simp [Sem.run_bind, run_row ht, hu]
  simp [execOp, ho, h1, Instr.loadAt, Instr.sureAddr, Sem.run_bind, h2]
end
theorem st_clo {Q : Exit → Act → World → Prop} {o : Oper} {b : Act} {W : World} {K : Act → World → Prop} {x y N : Nat} {g : Nat} {k : Int} {c bp V3 : Value} {ats : Array TypeId} (ho : o.op = .call { callee := .value (.tmp x), args := #[.tmp y, .const (.int .i64 k)], argTypes := ats }) (hx : b.tmps[x]? = some V3) (hy : b.tmps[y]? = some (.func (.func g) #[c] #[])) (hV : V3 = .func (.func 118) #[] #[bp]) (hN : N ≤ W.heap.size)
    (hK : ∀ v W', CloR N bp c g k v W' → Below W.heap.size W W' → K (b.put o.dst v) W') : o.wp Tryz.prog b W K Q := by
  have h1 : b.eval (.tmp x) = .func (.func 118) #[] #[bp] := by simp [Act.eval, hx, hV]
  have h2 : b.eval (.tmp y) = .func (.func g) #[c] #[] := by simp [Act.eval, hy]
  have h3 : b.eval (.const (.int .i64 k)) = .int .i64 k := rfl
  have hrun := run_call (P := Tryz.prog) (W := W) (f := b.eval) ho h1 (by kernel_rfl)
  refine upon_enter' hrun ?_
  have e : (#[] ++ #[Operand.tmp y, .const (.int .i64 k)].map b.eval ++ #[bp] : Array Value) = #[.func (.func g) #[c] #[], .int .i64 k, bp] := by simp [h2, h3]
  rw [e]
  refine (steps1_any g c bp k W).mono ?_
  rintro e' W' ⟨rfl, rfl⟩
  have hB : Below W.heap.size W ((W.alloc (.cells #[.func (.func g) #[c] #[]] 1)).alloc (.cells #[.int .i64 k] 3)) := by
    have h0 : Below W.heap.size W (W.alloc (.cells #[.func (.func g) #[c] #[]] 1)) := (show Below W.heap.size W W from ⟨rfl, rfl, rfl, Nat.le_refl _, fun _ _ => rfl⟩).alloc (Nat.le_refl _) _
    exact h0.alloc h0.size _
  have a1 := MapKept.heap_alloc W (.cells #[.func (.func g) #[c] #[]] 1)
  have a2 := MapKept.heap_alloc (W.alloc (.cells #[.func (.func g) #[c] #[]] 1)) (.cells #[.int .i64 k] 3)
  have hsz : (W.alloc (.cells #[.func (.func g) #[c] #[]] 1)).heap.size = W.heap.size + 1 := World.size_alloc _ _
  refine ⟨_, rfl, hK _ _ ⟨W.heap.size, W.heap.size + 1, 1, 3, rfl, hN, by omega, ?_, ?_⟩ hB⟩
  · rw [a2.2 _ (by omega)]; exact a1.1
  · rw [← hsz]; exact a2.1
set_option maxRecDepth 100000 in
theorem rg_ins : ∀ r ∈ rgIns, r.1 < 36 ∧ r.1 ≠ 0 ∧ ∃ o d, rgL[r.1]? = some o ∧ o.dst = none ∧ o.op = .insert 127 (.tmp 7) (.const (.int .i64 r.2.1)) (.tmp d) ∧ rgD[r.2.2]? = some (some d) ∧ r.2.2 < 36 ∧ waitB rgL r.1 0 = true ∧ waitB rgL r.1 r.2.2 = true ∧ ∀ (N : Nat) (bp c V3 v : Value) (W : World), FX (Rm N) (rgF N bp c V3) r.1 v W := by
  intro r hr
  simp only [rgIns, List.mem_cons, List.not_mem_nil, or_false] at hr
  rcases hr with rfl | rfl | rfl | rfl | rfl | rfl | rfl | rfl | rfl
  · exact ⟨by decide, by decide, rgO 5, 11, by kernel_rfl, by kernel_rfl, by kernel_rfl, rfl, by decide, by kernel_rfl, by kernel_rfl, fun _ _ _ _ _ _ => trivial⟩
  · exact ⟨by decide, by decide, rgO 8, 13, by kernel_rfl, by kernel_rfl, by kernel_rfl, rfl, by decide, by kernel_rfl, by kernel_rfl, fun _ _ _ _ _ _ => trivial⟩
  · exact ⟨by decide, by decide, rgO 11, 15, by kernel_rfl, by kernel_rfl, by kernel_rfl, rfl, by decide, by kernel_rfl, by kernel_rfl, fun _ _ _ _ _ _ => trivial⟩
  · exact ⟨by decide, by decide, rgO 14, 17, by kernel_rfl, by kernel_rfl, by kernel_rfl, rfl, by decide, by kernel_rfl, by kernel_rfl, fun _ _ _ _ _ _ => trivial⟩
  · exact ⟨by decide, by decide, rgO 19, 21, by kernel_rfl, by kernel_rfl, by kernel_rfl, rfl, by decide, by kernel_rfl, by kernel_rfl, fun _ _ _ _ _ _ => trivial⟩
  · exact ⟨by decide, by decide, rgO 24, 25, by kernel_rfl, by kernel_rfl, by kernel_rfl, rfl, by decide, by kernel_rfl, by kernel_rfl, fun _ _ _ _ _ _ => trivial⟩
  · exact ⟨by decide, by decide, rgO 29, 29, by kernel_rfl, by kernel_rfl, by kernel_rfl, rfl, by decide, by kernel_rfl, by kernel_rfl, fun _ _ _ _ _ _ => trivial⟩
  · exact ⟨by decide, by decide, rgO 32, 31, by kernel_rfl, by kernel_rfl, by kernel_rfl, rfl, by decide, by kernel_rfl, by kernel_rfl, fun _ _ _ _ _ _ => trivial⟩
  · exact ⟨by decide, by decide, rgO 35, 33, by kernel_rfl, by kernel_rfl, by kernel_rfl, rfl, by decide, by kernel_rfl, by kernel_rfl, fun _ _ _ _ _ _ => trivial⟩
set_option maxRecDepth 100000 in
theorem rg_steps {Q : Exit → Act → World → Prop} {N gb : Nat} {a : Act} {w : World} {bp c V3 : Value} (hN : w.heap.size = N) (ha1 : a.tmps[1]? = some (.pointer (some ⟨gb, 0, none⟩))) (ha3 : a.tmps[3]? = some V3) (hV3 : V3 = .func (.func 118) #[] #[bp]) (hgb : ∃ arr ty, w.heap[gb]? = some (.cells arr ty (0, 0)) ∧ arr[0]? = some c) :
    ∀ i o, rgL[i]? = some o → i < 36 → i ≠ 0 → (∀ r ∈ rgIns, r.1 ≠ i) → ∀ b W, FactsM N rgD (FX (Rm N) (rgF N bp c V3)) a w (fun j => o.after.toList.any fun e => Region.binds .any e && e.on == j) b W →
      ∀ K : Act → World → Prop, (∀ v W', FX (Rm N) (rgF N bp c V3) i v W' → Below W.heap.size W W' → K (b.put o.dst v) W') → o.wp Tryz.prog b W K Q := by
  have h1 : ∀ b : Act, (∀ t, some t ∉ rgD → b.tmps[t]? = a.tmps[t]?) → b.tmps[1]? = some (.pointer (some ⟨gb, 0, none⟩)) := fun b h => (h 1 (by decide)).trans ha1
  have h3 : ∀ b : Act, (∀ t, some t ∉ rgD → b.tmps[t]? = a.tmps[t]?) → b.eval (.tmp 3) = V3 := fun b h => by simp [Act.eval, (h 3 (by decide)).trans ha3]
  have hc : ∀ W, Rm N w W → W.cell? ⟨gb, 0, none⟩ = some c := fun W h => by
    obtain ⟨arr, ty, e1, e2⟩ := hgb
    have := (h.cels _ _ _ _ e1).trans e1
    simp [World.cell?, this, e2]
  intro i o hi hin hi0 hno b W hF K hK
  have hcase : i = 1 ∨ i = 2 ∨ i = 3 ∨ i = 4 ∨ i = 6 ∨ i = 7 ∨ i = 9 ∨ i = 10 ∨ i = 12 ∨ i = 13 ∨ i = 15 ∨ i = 16 ∨ i = 17 ∨ i = 18 ∨ i = 20 ∨ i = 21 ∨ i = 22 ∨ i = 23 ∨ i = 25 ∨ i = 26 ∨ i = 27 ∨ i = 28 ∨ i = 30 ∨ i = 31 ∨ i = 33 ∨ i = 34 := by
    have e := fun r hr => hno r hr
    simp only [rgIns, List.mem_cons, List.not_mem_nil, or_false, forall_eq_or_imp, forall_eq] at e
    omega
  rcases hcase with rfl | rfl | rfl | rfl | rfl | rfl | rfl | rfl | rfl | rfl | rfl | rfl | rfl | rfl | rfl | rfl | rfl | rfl | rfl | rfl | rfl | rfl | rfl | rfl | rfl | rfl
  · obtain rfl : rgO 1 = o := Option.some.inj ((show rgL[1]? = some (rgO 1) by kernel_rfl).symm.trans hi)
    exact st_val (v := V3) (by simp [execOp, show (rgO 1).op = .move (.tmp 3) by kernel_rfl, h3 b hF.rest]) (hK _ _ rfl (Below.refl _ _))
  · obtain rfl : rgO 2 = o := Option.some.inj ((show rgL[2]? = some (rgO 2) by kernel_rfl).symm.trans hi)
    exact st_val (v := c) (ld1 (show (rgO 2).op = .load 124 (.tmp 1) by kernel_rfl) (by kernel_rfl) (h1 b hF.rest) (hc W hF.kept)) (hK _ _ rfl (Below.refl _ _))
  · obtain rfl : rgO 3 = o := Option.some.inj ((show rgL[3]? = some (rgO 3) by kernel_rfl).symm.trans hi)
    obtain ⟨va, hva, hFa⟩ := hF.fact 2 _ (show rgD[2]? = some (some 9) from rfl) (by kernel_rfl)
    have hea := hva _ rfl
    have hFa' : va = c := hFa
    subst hFa'
    exact st_val (v := .func (.func 121) #[va] #[]) (by simp [execOp, show (rgO 3).op = .makeFunc (.func 121) #[.tmp 9] #[] by kernel_rfl, Instr.makeFunc, Act.eval, hea]) (hK _ _ rfl (Below.refl _ _))
  · obtain rfl : rgO 4 = o := Option.some.inj ((show rgL[4]? = some (rgO 4) by kernel_rfl).symm.trans hi)
    obtain ⟨va, hva, hFa⟩ := hF.fact 1 _ (show rgD[1]? = some (some 8) from rfl) (by kernel_rfl)
    have hea := hva _ rfl
    obtain ⟨vb, hvb, hFb⟩ := hF.fact 3 _ (show rgD[3]? = some (some 10) from rfl) (by kernel_rfl)
    have heb := hvb _ rfl
    have hFa' : va = V3 := hFa
    have hFb' : vb = .func (.func 121) #[c] #[] := hFb
    rw [hFa'] at hea
    rw [hFb'] at heb
    exact st_clo (g := 121) (k := 1) (show (rgO 4).op = .call { callee := .value (.tmp 8), args := #[.tmp 10, .const (.int .i64 1)], argTypes := #[1, 3] } by kernel_rfl) hea heb hV3 (hN ▸ hF.kept.size) (fun v W' h => hK v W' h)
  · obtain rfl : rgO 6 = o := Option.some.inj ((show rgL[6]? = some (rgO 6) by kernel_rfl).symm.trans hi)
    exact st_val (v := c) (ld1 (show (rgO 6).op = .load 124 (.tmp 1) by kernel_rfl) (by kernel_rfl) (h1 b hF.rest) (hc W hF.kept)) (hK _ _ rfl (Below.refl _ _))
  · obtain rfl : rgO 7 = o := Option.some.inj ((show rgL[7]? = some (rgO 7) by kernel_rfl).symm.trans hi)
    obtain ⟨va, hva, hFa⟩ := hF.fact 6 _ (show rgD[6]? = some (some 12) from rfl) (by kernel_rfl)
    have hea := hva _ rfl
    have hFa' : va = c := hFa
    subst hFa'
    exact st_val (v := .func (.func 122) #[va] #[]) (by simp [execOp, show (rgO 7).op = .makeFunc (.func 122) #[.tmp 12] #[] by kernel_rfl, Instr.makeFunc, Act.eval, hea]) (hK _ _ rfl (Below.refl _ _))
  · obtain rfl : rgO 9 = o := Option.some.inj ((show rgL[9]? = some (rgO 9) by kernel_rfl).symm.trans hi)
    exact st_val (v := c) (ld1 (show (rgO 9).op = .load 124 (.tmp 1) by kernel_rfl) (by kernel_rfl) (h1 b hF.rest) (hc W hF.kept)) (hK _ _ rfl (Below.refl _ _))
  · obtain rfl : rgO 10 = o := Option.some.inj ((show rgL[10]? = some (rgO 10) by kernel_rfl).symm.trans hi)
    obtain ⟨va, hva, hFa⟩ := hF.fact 9 _ (show rgD[9]? = some (some 14) from rfl) (by kernel_rfl)
    have hea := hva _ rfl
    have hFa' : va = c := hFa
    subst hFa'
    exact st_val (v := .func (.func 123) #[va] #[]) (by simp [execOp, show (rgO 10).op = .makeFunc (.func 123) #[.tmp 14] #[] by kernel_rfl, Instr.makeFunc, Act.eval, hea]) (hK _ _ rfl (Below.refl _ _))
  · obtain rfl : rgO 12 = o := Option.some.inj ((show rgL[12]? = some (rgO 12) by kernel_rfl).symm.trans hi)
    exact st_val (v := c) (ld1 (show (rgO 12).op = .load 124 (.tmp 1) by kernel_rfl) (by kernel_rfl) (h1 b hF.rest) (hc W hF.kept)) (hK _ _ rfl (Below.refl _ _))
  · obtain rfl : rgO 13 = o := Option.some.inj ((show rgL[13]? = some (rgO 13) by kernel_rfl).symm.trans hi)
    obtain ⟨va, hva, hFa⟩ := hF.fact 12 _ (show rgD[12]? = some (some 16) from rfl) (by kernel_rfl)
    have hea := hva _ rfl
    have hFa' : va = c := hFa
    subst hFa'
    exact st_val (v := .func (.func 124) #[va] #[]) (by simp [execOp, show (rgO 13).op = .makeFunc (.func 124) #[.tmp 16] #[] by kernel_rfl, Instr.makeFunc, Act.eval, hea]) (hK _ _ rfl (Below.refl _ _))
  · obtain rfl : rgO 15 = o := Option.some.inj ((show rgL[15]? = some (rgO 15) by kernel_rfl).symm.trans hi)
    exact st_val (v := V3) (by simp [execOp, show (rgO 15).op = .move (.tmp 3) by kernel_rfl, h3 b hF.rest]) (hK _ _ rfl (Below.refl _ _))
  · obtain rfl : rgO 16 = o := Option.some.inj ((show rgL[16]? = some (rgO 16) by kernel_rfl).symm.trans hi)
    exact st_val (v := c) (ld1 (show (rgO 16).op = .load 124 (.tmp 1) by kernel_rfl) (by kernel_rfl) (h1 b hF.rest) (hc W hF.kept)) (hK _ _ rfl (Below.refl _ _))
  · obtain rfl : rgO 17 = o := Option.some.inj ((show rgL[17]? = some (rgO 17) by kernel_rfl).symm.trans hi)
    obtain ⟨va, hva, hFa⟩ := hF.fact 16 _ (show rgD[16]? = some (some 19) from rfl) (by kernel_rfl)
    have hea := hva _ rfl
    have hFa' : va = c := hFa
    subst hFa'
    exact st_val (v := .func (.func 125) #[va] #[]) (by simp [execOp, show (rgO 17).op = .makeFunc (.func 125) #[.tmp 19] #[] by kernel_rfl, Instr.makeFunc, Act.eval, hea]) (hK _ _ rfl (Below.refl _ _))
  · obtain rfl : rgO 18 = o := Option.some.inj ((show rgL[18]? = some (rgO 18) by kernel_rfl).symm.trans hi)
    obtain ⟨va, hva, hFa⟩ := hF.fact 15 _ (show rgD[15]? = some (some 18) from rfl) (by kernel_rfl)
    have hea := hva _ rfl
    obtain ⟨vb, hvb, hFb⟩ := hF.fact 17 _ (show rgD[17]? = some (some 20) from rfl) (by kernel_rfl)
    have heb := hvb _ rfl
    have hFa' : va = V3 := hFa
    have hFb' : vb = .func (.func 125) #[c] #[] := hFb
    rw [hFa'] at hea
    rw [hFb'] at heb
    exact st_clo (g := 125) (k := 6) (show (rgO 18).op = .call { callee := .value (.tmp 18), args := #[.tmp 20, .const (.int .i64 6)], argTypes := #[1, 3] } by kernel_rfl) hea heb hV3 (hN ▸ hF.kept.size) (fun v W' h => hK v W' h)
  · obtain rfl : rgO 20 = o := Option.some.inj ((show rgL[20]? = some (rgO 20) by kernel_rfl).symm.trans hi)
    exact st_val (v := V3) (by simp [execOp, show (rgO 20).op = .move (.tmp 3) by kernel_rfl, h3 b hF.rest]) (hK _ _ rfl (Below.refl _ _))
  · obtain rfl : rgO 21 = o := Option.some.inj ((show rgL[21]? = some (rgO 21) by kernel_rfl).symm.trans hi)
    exact st_val (v := c) (ld1 (show (rgO 21).op = .load 124 (.tmp 1) by kernel_rfl) (by kernel_rfl) (h1 b hF.rest) (hc W hF.kept)) (hK _ _ rfl (Below.refl _ _))
  · obtain rfl : rgO 22 = o := Option.some.inj ((show rgL[22]? = some (rgO 22) by kernel_rfl).symm.trans hi)
    obtain ⟨va, hva, hFa⟩ := hF.fact 21 _ (show rgD[21]? = some (some 23) from rfl) (by kernel_rfl)
    have hea := hva _ rfl
    have hFa' : va = c := hFa
    subst hFa'
    exact st_val (v := .func (.func 126) #[va] #[]) (by simp [execOp, show (rgO 22).op = .makeFunc (.func 126) #[.tmp 23] #[] by kernel_rfl, Instr.makeFunc, Act.eval, hea]) (hK _ _ rfl (Below.refl _ _))
  · obtain rfl : rgO 23 = o := Option.some.inj ((show rgL[23]? = some (rgO 23) by kernel_rfl).symm.trans hi)
    obtain ⟨va, hva, hFa⟩ := hF.fact 20 _ (show rgD[20]? = some (some 22) from rfl) (by kernel_rfl)
    have hea := hva _ rfl
    obtain ⟨vb, hvb, hFb⟩ := hF.fact 22 _ (show rgD[22]? = some (some 24) from rfl) (by kernel_rfl)
    have heb := hvb _ rfl
    have hFa' : va = V3 := hFa
    have hFb' : vb = .func (.func 126) #[c] #[] := hFb
    rw [hFa'] at hea
    rw [hFb'] at heb
    exact st_clo (g := 126) (k := 7) (show (rgO 23).op = .call { callee := .value (.tmp 22), args := #[.tmp 24, .const (.int .i64 7)], argTypes := #[1, 3] } by kernel_rfl) hea heb hV3 (hN ▸ hF.kept.size) (fun v W' h => hK v W' h)
  · obtain rfl : rgO 25 = o := Option.some.inj ((show rgL[25]? = some (rgO 25) by kernel_rfl).symm.trans hi)
    exact st_val (v := V3) (by simp [execOp, show (rgO 25).op = .move (.tmp 3) by kernel_rfl, h3 b hF.rest]) (hK _ _ rfl (Below.refl _ _))
  · obtain rfl : rgO 26 = o := Option.some.inj ((show rgL[26]? = some (rgO 26) by kernel_rfl).symm.trans hi)
    exact st_val (v := c) (ld1 (show (rgO 26).op = .load 124 (.tmp 1) by kernel_rfl) (by kernel_rfl) (h1 b hF.rest) (hc W hF.kept)) (hK _ _ rfl (Below.refl _ _))
  · obtain rfl : rgO 27 = o := Option.some.inj ((show rgL[27]? = some (rgO 27) by kernel_rfl).symm.trans hi)
    obtain ⟨va, hva, hFa⟩ := hF.fact 26 _ (show rgD[26]? = some (some 27) from rfl) (by kernel_rfl)
    have hea := hva _ rfl
    have hFa' : va = c := hFa
    subst hFa'
    exact st_val (v := .func (.func 127) #[va] #[]) (by simp [execOp, show (rgO 27).op = .makeFunc (.func 127) #[.tmp 27] #[] by kernel_rfl, Instr.makeFunc, Act.eval, hea]) (hK _ _ rfl (Below.refl _ _))
  · obtain rfl : rgO 28 = o := Option.some.inj ((show rgL[28]? = some (rgO 28) by kernel_rfl).symm.trans hi)
    obtain ⟨va, hva, hFa⟩ := hF.fact 25 _ (show rgD[25]? = some (some 26) from rfl) (by kernel_rfl)
    have hea := hva _ rfl
    obtain ⟨vb, hvb, hFb⟩ := hF.fact 27 _ (show rgD[27]? = some (some 28) from rfl) (by kernel_rfl)
    have heb := hvb _ rfl
    have hFa' : va = V3 := hFa
    have hFb' : vb = .func (.func 127) #[c] #[] := hFb
    rw [hFa'] at hea
    rw [hFb'] at heb
    exact st_clo (g := 127) (k := 9) (show (rgO 28).op = .call { callee := .value (.tmp 26), args := #[.tmp 28, .const (.int .i64 9)], argTypes := #[1, 3] } by kernel_rfl) hea heb hV3 (hN ▸ hF.kept.size) (fun v W' h => hK v W' h)
  · obtain rfl : rgO 30 = o := Option.some.inj ((show rgL[30]? = some (rgO 30) by kernel_rfl).symm.trans hi)
    exact st_val (v := c) (ld1 (show (rgO 30).op = .load 124 (.tmp 1) by kernel_rfl) (by kernel_rfl) (h1 b hF.rest) (hc W hF.kept)) (hK _ _ rfl (Below.refl _ _))
  · obtain rfl : rgO 31 = o := Option.some.inj ((show rgL[31]? = some (rgO 31) by kernel_rfl).symm.trans hi)
    obtain ⟨va, hva, hFa⟩ := hF.fact 30 _ (show rgD[30]? = some (some 30) from rfl) (by kernel_rfl)
    have hea := hva _ rfl
    have hFa' : va = c := hFa
    subst hFa'
    exact st_val (v := .func (.func 128) #[va] #[]) (by simp [execOp, show (rgO 31).op = .makeFunc (.func 128) #[.tmp 30] #[] by kernel_rfl, Instr.makeFunc, Act.eval, hea]) (hK _ _ rfl (Below.refl _ _))
  · obtain rfl : rgO 33 = o := Option.some.inj ((show rgL[33]? = some (rgO 33) by kernel_rfl).symm.trans hi)
    exact st_val (v := c) (ld1 (show (rgO 33).op = .load 124 (.tmp 1) by kernel_rfl) (by kernel_rfl) (h1 b hF.rest) (hc W hF.kept)) (hK _ _ rfl (Below.refl _ _))
  · obtain rfl : rgO 34 = o := Option.some.inj ((show rgL[34]? = some (rgO 34) by kernel_rfl).symm.trans hi)
    obtain ⟨va, hva, hFa⟩ := hF.fact 33 _ (show rgD[33]? = some (some 32) from rfl) (by kernel_rfl)
    have hea := hva _ rfl
    have hFa' : va = c := hFa
    subst hFa'
    exact st_val (v := .func (.func 129) #[va] #[]) (by simp [execOp, show (rgO 34).op = .makeFunc (.func 129) #[.tmp 32] #[] by kernel_rfl, Instr.makeFunc, Act.eval, hea]) (hK _ _ rfl (Below.refl _ _))
/-- The temporaries that the region writes. -/
def rgAll : List Nat := [4, 7, 8, 9, 10, 11, 12, 13, 14, 15, 16, 17, 18, 19, 20, 21, 22, 23, 24, 25, 26, 27, 28, 29, 30, 31, 32, 33, 34]
section
variable {ρ : PMap} {O : Nat → Prop} {W : World} {x : Nat}
theorem rp_met (g : Nat) {c v : Value} (hx : Rp ρ O W (pt x) c) (h : v = .func (.func g) #[c] #[]) : Rp ρ O W (vMet x g) v :=
  rp_func.2 ⟨#[c], #[], h, ⟨rfl, fun i y hy => by
    match i, hy with
    | 0, hy => simp at hy; subst hy; exact ⟨c, rfl, hx⟩
    | i + 1, hy => simp at hy⟩, rfl, fun i y hy => by simp at hy⟩
theorem rp_clo {N g : Nat} {k : Int} {c v bp pb : Value} (hx : Rp ρ O W (pt x) c) (hp : Rp ρ O W pb bp) (hge : ∀ g, N ≤ g → O g → ∃ es ck, W.heap[g]? = some (.map es ck)) (h : CloR N bp c g k v W) : Rp ρ O W (vClo x pb g k) v := by
  obtain ⟨b1, b3, t1, t3, rfl, h1, h3, h4, h5⟩ := h
  have no : ∀ (b : Nat) arr ty, N ≤ b → W.heap[b]? = some (.cells arr ty (0, 0)) → ¬ O b := fun b arr ty hb he hO => by
    obtain ⟨es, ck, hm⟩ := hge b hb hO
    rw [he] at hm; cases hm
  have l1 : b1 < W.heap.size := (Array.getElem?_eq_some_iff.1 h4).1
  have l3 : b3 < W.heap.size := (Array.getElem?_eq_some_iff.1 h5).1
  refine rp_func.2 ⟨#[], #[.pointer (some ⟨b1, 0, none⟩), bp, .pointer (some ⟨b3, 0, none⟩)], rfl, ⟨rfl, fun i y hy => by simp at hy⟩, rfl, fun i y hy => ?_⟩
  match i, hy with
  | 0, hy =>
    simp at hy; subst hy
    refine ⟨_, rfl, rp_fz.2 ⟨b1, 0, rfl, l1, no b1 _ _ h1 h4, fun j y hy => ?_⟩⟩
    match j, hy with
    | 0, hy => simp at hy; subst hy; exact ⟨_, by simp [World.cell?, h4], rp_met g hx rfl⟩
    | j + 1, hy => simp at hy
  | 1, hy => simp at hy; subst hy; exact ⟨bp, rfl, hp⟩
  | 2, hy =>
    simp at hy; subst hy
    refine ⟨_, rfl, rp_fz.2 ⟨b3, 0, rfl, l3, no b3 _ _ h3 h5, fun j y hy => ?_⟩⟩
    match j, hy with
    | 0, hy => simp at hy; subst hy; exact ⟨_, by simp [World.cell?, h5], rp_int.2 rfl⟩
    | j + 1, hy => simp at hy
  | i + 3, hy => simp at hy
end
theorem rgD_all (d : Nat) (h : some d ∈ rgD) : d ∈ rgAll ∧ d < 44 := by
  have := List.all_eq_true.1 (show rgD.all (fun x => match x with | some d => rgAll.contains d && Nat.blt d 44 | none => true) = true by decide) _ h
  simpa [Nat.blt_eq] using this
theorem rg_inj : ∀ r ∈ rgIns, ∀ r' ∈ rgIns, r'.2.1 = r.2.1 → r' = r := by decide
set_option maxRecDepth 100000 in
theorem reg_steps (x b : Nat) : RegM Tryz.prog (regOf Tryz.prog 99 0) 44 [(1, pt b), (3, .func (.func 118) #[] #[pt b])] [(b, ⟨true, false, 1, 1, [pt x]⟩)] rgAll 4 (els9 x (pt b)) := by
  intro ρ O a W Q hl hdf hsz hT hH hK
  obtain ⟨c1, ha1, hr1⟩ := hT (1, pt b) (by simp)
  obtain ⟨V3, ha3, hr3⟩ := hT (3, .func (.func 118) #[] #[pt b]) (by simp)
  obtain ⟨gb, kb, jb, hgb, hj, rfl⟩ := rp_ptr.1 hr1
  cases hj
  obtain ⟨us, ws, rfl, hus, hws⟩ := rp_func.1 hr3
  obtain ⟨bp, hbp0, hbp⟩ := hws.2 0 (pt b) rfl
  obtain ⟨gb2, kb2, jb2, hgb2, hj2, rfl⟩ := rp_ptr.1 hbp
  cases hj2
  have e2 : some (gb, kb) = some (gb2, kb2) := hgb.symm.trans hgb2
  cases e2
  have hu0 : us = #[] := Array.eq_empty_of_size_eq_zero hus.1
  have hw0 : ws = #[.pointer (some ⟨gb, 0 * kb + 0, none⟩)] := by
    have hs := hws.1
    apply Array.ext
    · simpa using hs
    · intro i h1 h2
      have : i = 0 := by simp at h2; exact h2
      subst this
      rw [Array.getElem?_eq_getElem h1] at hbp0
      exact Option.some.inj hbp0
  subst hu0 hw0
  have ez : 0 * kb + 0 = 0 := by omega
  rw [ez] at ha1 ha3
  have hh := hH (b, ⟨true, false, 1, 1, [pt x]⟩) (by simp)
  obtain ⟨gb3, hgb3, hOb, hB⟩ := hh
  have e3 : some (gb, kb) = some (gb3, 1) := hgb.symm.trans hgb3
  cases e3
  obtain ⟨arr, ty, hheap, -, hel⟩ := (blk_cells rfl).1 hB
  obtain ⟨-, hcells⟩ := hel 0 (pt x) rfl
  obtain ⟨c, hc, hrc⟩ := hcells 0 (pt x) rfl
  have hc0 : arr[0]? = some c := hc
  have hrx : ∀ (O' : Nat → Prop) (W' : World), Rp ρ O' W' (pt x) c := fun O' W' => rp_ptr.2 (rp_ptr.1 hrc)
  have hrb : ∀ (O' : Nat → Prop) (W' : World), Rp ρ O' W' (pt b) (.pointer (some ⟨gb, 0, none⟩)) := fun O' W' => rp_ptr.2 ⟨gb, 1, 0, hgb, rfl, rfl⟩
  rw [rg_is]
  refine wp_region_mp (P := Tryz.prog) (mty := 127) W.heap.size 36 rgD (FX (Rm W.heap.size) (rgF W.heap.size (.pointer (some ⟨gb, 0, none⟩)) c (.func (.func 118) #[] #[.pointer (some ⟨gb, 0, none⟩)]))) 7 rgIns rfl (kt := 3) (et := 1) (by kernel_rfl) (by kernel_rfl) mixed (by kernel_rfl) (by kernel_rfl) (by rw [show rgL.length = 38 by kernel_rfl]; decide) (by kernel_rfl) (by kernel_rfl)
    (fun d hd => ?_) (by kernel_rfl) (fun i _ _ _ h hk => (((rgF W.heap.size (.pointer (some ⟨gb, 0, none⟩)) c (.func (.func 118) #[] #[.pointer (some ⟨gb, 0, none⟩)])).getD i (KX.tt _))).k h hk) ⟨rgO 0, by kernel_rfl, by kernel_rfl, by kernel_rfl⟩ (fun _ _ => trivial)
    (fun r hr => let ⟨h1, h2, o, d, h3, h4, h5, h6, h7, h8, h9, h10⟩ := rg_ins r hr; ⟨h1, h2, o, d, h3, h4, h5, h6, h7, h8, h9, h10 _ _ _ _⟩) (by decide) (by decide) (rg_steps rfl ha1 ha3 rfl ⟨arr, ty, hheap, hc0⟩) ?_ (by decide)
  · rw [hsz]
    exact (rgD_all d hd).2
  · intro b' W' mb m hF hM
    have hl36 : rgL.drop 36 = [rgO 36, rgO 37] := by kernel_rfl
    rw [hl36]
    have hmt : b'.tmps[7]? = some (.map (some mb)) := hM.here
    have e1 : (execOp b'.eval (rgO 36)).run Tryz.prog W' = .ok (.value (.map (some mb))) W' := by simp [execOp, show (rgO 36).op = .move (.tmp 7) by kernel_rfl, Act.eval, hmt]
    have hsz' : b'.tmps.size = 44 := hF.size.trans hsz
    have e2 : (execOp (b'.put (some 34) (.map (some mb))).eval (rgO 37)).run Tryz.prog W' = .ok (.value (.map (some mb))) W' := by simp [execOp, show (rgO 37).op = .assign (.tmp 34) by kernel_rfl, Act.eval, Act.put, hsz']
    simp only [wpList, Region.wanted, show (rgO 36).guard = none by kernel_rfl, show (rgO 37).guard = none by kernel_rfl, if_true]
    refine .inl (st_val e1 ?_)
    rw [show (rgO 36).dst = some 34 by kernel_rfl]
    refine .inl (st_val e2 ?_)
    rw [show (rgO 37).dst = some 4 by kernel_rfl]
    have hkept := hF.kept.kept rfl
    have hge : ∀ g, W.heap.size ≤ g → (O g ∨ g = mb) → ∃ es ck, W'.heap[g]? = some (.map es ck) := fun g hg hO => by
      rcases hO with hO | rfl
      · have := hl g hO; omega
      · obtain ⟨es, ck, hm⟩ := hM.map; exact ⟨es, ck, hm.obj⟩
    refine hK _ W' mb (hF.defers.trans hdf) (by simp [Act.put, hsz']) (fun t ht => ?_) (by simp [Act.put, hsz']) hM.ge hkept ⟨m, ⟨hM.map, hM.nodup⟩, fun d hd => ?_, fun el hel => ?_⟩
    · have h34 : t ≠ 34 := fun e => ht (by subst e; decide)
      have h4 : t ≠ 4 := fun e => ht (by subst e; decide)
      have hD : some t ∉ rgD := fun h => ht (rgD_all t h).1
      rw [← hF.rest t hD]
      simp [Act.put, Array.getElem?_setIfInBounds, Ne.symm h34, Ne.symm h4]
    · obtain ⟨r, hr, -, hk, -⟩ := hM.from_ d hd
      rw [hk]
      simp only [rgIns, List.mem_cons, List.not_mem_nil, or_false] at hr
      rcases hr with rfl | rfl | rfl | rfl | rfl | rfl | rfl | rfl | rfl
      all_goals exact ⟨_, by simp only [els9, vEn]; simp only [List.mem_cons, Value.agg.injEq]; simp; rfl⟩
    · have row : ∀ r ∈ rgIns, ∃ v, (r.2.1, v) ∈ m ∧ FX (Rm W.heap.size) (rgF W.heap.size (.pointer (some ⟨gb, 0, none⟩)) c (.func (.func 118) #[] #[.pointer (some ⟨gb, 0, none⟩)])) r.2.2 v W' := fun r hr => by
        obtain ⟨d, hd, hk⟩ := hM.all r hr rfl
        obtain ⟨r', hr', -, hk', hFd⟩ := hM.from_ d hd
        have : r' = r := by
          have e : r'.2.1 = r.2.1 := hk'.symm.trans hk
          exact rg_inj r hr r' hr' e
        subst this
        obtain ⟨i, v⟩ := d
        simp only at hk
        subst hk
        exact ⟨v, hd, hFd⟩
      have hx := hrx (fun g => O g ∨ g = mb) W'
      have hp := hrb (fun g => O g ∨ g = mb) W'
      simp only [els9, List.mem_cons, List.not_mem_nil, or_false] at hel
      rcases hel with rfl | rfl | rfl | rfl | rfl | rfl | rfl | rfl | rfl
      · obtain ⟨v, hv, hFv⟩ := row (5, 0, 4) (by decide)
        exact ⟨0, _, v, rfl, hv, rp_clo (g := 121) (k := 1) hx hp hge hFv⟩
      · obtain ⟨v, hv, hFv⟩ := row (8, 1, 7) (by decide)
        exact ⟨1, _, v, rfl, hv, rp_met 122 hx hFv⟩
      · obtain ⟨v, hv, hFv⟩ := row (11, 2, 10) (by decide)
        exact ⟨2, _, v, rfl, hv, rp_met 123 hx hFv⟩
      · obtain ⟨v, hv, hFv⟩ := row (14, 3, 13) (by decide)
        exact ⟨3, _, v, rfl, hv, rp_met 124 hx hFv⟩
      · obtain ⟨v, hv, hFv⟩ := row (19, 4, 18) (by decide)
        exact ⟨4, _, v, rfl, hv, rp_clo (g := 125) (k := 6) hx hp hge hFv⟩
      · obtain ⟨v, hv, hFv⟩ := row (24, 5, 23) (by decide)
        exact ⟨5, _, v, rfl, hv, rp_clo (g := 126) (k := 7) hx hp hge hFv⟩
      · obtain ⟨v, hv, hFv⟩ := row (29, 6, 28) (by decide)
        exact ⟨6, _, v, rfl, hv, rp_clo (g := 127) (k := 9) hx hp hge hFv⟩
      · obtain ⟨v, hv, hFv⟩ := row (32, 7, 31) (by decide)
        exact ⟨7, _, v, rfl, hv, rp_met 128 hx hFv⟩
      · obtain ⟨v, hv, hFv⟩ := row (35, 8, 34) (by decide)
        exact ⟨8, _, v, rfl, hv, rp_met 129 hx hFv⟩
end Go.Proofs.YtcakapmpifnfpaaGreat

/- What the program's receive hands back, by contract: any step, some, Inside, Near. -/
namespace Go.Proofs.YtcakapmpifnfpaaGreat
set_option linter.unusedVariables false
set_option linter.unusedSimpArgs false
open Go.RowKit
section
variable {s : St} {i m o : Int}
set_option maxRecDepth 100000 in
theorem ve_many (h : decide (o < min m 1000) = false) : LoopP Tryz.prog (loopOf Tryz.prog 85 0) (hdV s i m o s.th.length) (.exit 0) (hdV s i m o s.th.length) := loop_end mixed (fuel := 9) (n := 12) (im := [0, 1, 2, 3, 4]) (keep := [2, 6, 8, 9, 10]) (ext := [11, 56, 43]) (orc := [.bool false]) (an h trivial) (by intro e; cases e) (by kernel_rfl)
set_option maxRecDepth 100000 in
theorem ve_check (h : decide (o < min m 1000) = true) (hB : stB s = false) (ho : s.ok) : LoopP Tryz.prog (loopOf Tryz.prog 85 0) (hdV s i m o s.th.length) (.exit 0) (hdV s i m o s.th.length) := loop_end mixed (fuel := 9) (n := 12) (im := [0, 1, 2, 3, 4]) (keep := [2, 6, 8, 9, 10]) (ext := [11, 56, 43]) (orc := [.bool true, vD false]) (an h <| an (len_map (f := thT) s.th) <| an (ac_pcheck hB ho) trivial) (by intro e; cases e) (by kernel_rfl)
set_option maxRecDepth 100000 in
theorem ve_low (h : decide (o < min m 1000) = true) (hB : stB s = true) (ho : s.ok) (hi : decide (i < 0) = true) : LoopP Tryz.prog (loopOf Tryz.prog 85 0) (hdV s i m o s.th.length) (.exit 0) (hdV s i m o s.th.length) := loop_end mixed (fuel := 9) (n := 12) (im := [0, 1, 2, 3, 4]) (keep := [2, 6, 8, 9, 10]) (ext := [11, 56, 43]) (orc := [.bool true, vD true, .bool true]) (an h <| an (len_map (f := thT) s.th) <| an (ac_pcheck hB ho) <| an hi trivial) (by intro e; cases e) (by kernel_rfl)
set_option maxRecDepth 100000 in
theorem ve_high (h : decide (o < min m 1000) = true) (hB : stB s = true) (ho : s.ok) (hi : decide (i < 0) = false) (hj : decide ((s.th.length : Int) ≤ i) = true) : LoopP Tryz.prog (loopOf Tryz.prog 85 0) (hdV s i m o s.th.length) (.exit 0) (hdV s i m o s.th.length) := loop_end mixed (fuel := 9) (n := 12) (im := [0, 1, 2, 3, 4]) (keep := [2, 6, 8, 9, 10]) (ext := [11, 56, 43]) (orc := [.bool true, vD true, .bool false, .bool true]) (an h <| an (len_map (f := thT) s.th) <| an (ac_pcheck hB ho) <| an hi <| an hj trivial) (by intro e; cases e) (by kernel_rfl)
variable {n : Nat}
set_option maxRecDepth 100000 in
theorem ve_runs (h : decide (o < min m 1000) = true) (hB : stB s = true) (ho : s.ok) (hn : n < s.th.length) (hr : (thRuns (gth s.th n).st == 0) = false) : LoopP Tryz.prog (loopOf Tryz.prog 85 0) (hdV s n m o s.th.length) (.exit 0) (hdV s n m o s.th.length) := loop_end mixed (fuel := 9) (n := 12) (im := [0, 1, 2, 3, 4]) (keep := [2, 6, 8, 9, 10]) (ext := [11, 56, 43]) (orc := [.bool true, vD true, .bool false, .bool false, thT (gth s.th n), .int .i64 (thRuns (gth s.th n).st), .bool false])
  (an h <| an (len_map (f := thT) s.th) <| an (ac_pcheck hB ho) <| an (show decide ((n : Int) < 0) = false by simp) <| an (show decide ((s.th.length : Int) ≤ n) = false by simp; omega) <| an (idT hn) <| an (elT hn) <| an (ac_pruns (t := gth s.th n) rfl) <| an hr trivial) (by intro e; cases e) (by kernel_rfl)
set_option maxRecDepth 100000 in
theorem ve_side (h : decide (o < min m 1000) = true) (hB : stB s = true) (ho : s.ok) (hn : n < s.th.length) (hr : thRuns (gth s.th n).st = 0) (hs : (opSide (gth s.th n).ki == 2) = false) : LoopP Tryz.prog (loopOf Tryz.prog 85 0) (hdV s n m o s.th.length) (.exit 0) (hdV s n m o s.th.length) := loop_end mixed (fuel := 9) (n := 12) (im := [0, 1, 2, 3, 4]) (keep := [2, 6, 8, 9, 10]) (ext := [11, 56, 43]) (orc := [.bool true, vD true, .bool false, .bool false, thT (gth s.th n), .int .i64 0, .nilFunc, thT (gth s.th n), .int .i64 (opSide (gth s.th n).ki), .bool false])
  (an h <| an (len_map (f := thT) s.th) <| an (ac_pcheck hB ho) <| an (show decide ((n : Int) < 0) = false by simp) <| an (show decide ((s.th.length : Int) ≤ n) = false by simp; omega) <| an (idT hn) <| an (elT hn) <| an (ac_pruns (t := gth s.th n) hr) <| an (idT hn) <| an (elT hn) <| an (ac_pside (gth s.th n).ki) <| an hs trivial) (by intro e; cases e) (by kernel_rfl)
/-- Who does not receive, makes no step. -/
theorem ve_not (ho : s.ok) (hr : runsB s i 2 = false) : LoopP Tryz.prog (loopOf Tryz.prog 85 0) (hdV s i m o s.th.length) (.exit 0) (hdV s i m o s.th.length) := by
  cases h : decide (o < min m 1000)
  · exact ve_many h
  · cases hB : stB s
    · exact ve_check h hB ho
    · by_cases h0 : i < 0
      · exact ve_low h hB ho (by simp [h0])
      · by_cases h1 : (s.th.length : Int) ≤ i
        · exact ve_high h hB ho (by simp; omega) (by simp [h1])
        · obtain ⟨n, rfl⟩ : ∃ n : Nat, i = n := ⟨i.toNat, by omega⟩
          have hn : n < s.th.length := by omega
          have hr' : ¬ ((gth s.th n).st = 1 ∧ opSide (gth s.th n).ki = 2) := fun e => by
            have : runsB s n 2 = true := runs_iff.2 ⟨has_of hB hn, by simpa using e⟩
            rw [hr] at this; cases this
          by_cases hs : thRuns (gth s.th n).st = 0
          · refine ve_side h hB ho hn hs (bne_of fun e => hr' ⟨?_, e⟩)
            have h2 := runs_not hs
            have h3 := gth_ok hB hn
            generalize gth s.th n = t at h2 h3
            obtain ⟨st, ki, va, un, pc, re, se, tr, la, rs, go⟩ := t
            rw [thB_iff] at h3
            simp only at h2 ⊢
            omega
          · exact ve_runs h hB ho hn (bne_of hs)
/-- The whole loop. -/
theorem vsteps_lp (k : Nat) : ∀ {s : St} {o : Int}, Vk s → 0 ≤ o → (min m 1000 - o).toNat = k → s.lg.length + k ≤ 900000 → s.ok → LoopP Tryz.prog (loopOf Tryz.prog 85 0) (hdV s i m o s.th.length) (.exit 0) (hdV (recvK s i k).1 i m (o + (recvK s i k).2) (recvK s i k).1.th.length) := by
  induction k with
  | zero =>
    intro s o _ _ hk _ _
    simp only [recvK]
    rw [show o + ((0 : Nat) : Int) = o by omega]
    exact ve_many (by simp; omega)
  | succ k ih =>
    intro s o hv h0 hk hl ho
    cases hr : runsB s i 2
    · have : recvK s i (k + 1) = (s, 0) := by simp [recvK, hr]
      rw [this]
      show LoopP Tryz.prog (loopOf Tryz.prog 85 0) (hdV s i m o s.th.length) (.exit 0) (hdV s i m (o + ((0 : Nat) : Int)) s.th.length)
      rw [show o + ((0 : Nat) : Int) = o by omega]
      exact ve_not ho hr
    · obtain ⟨h1, h2, h3⟩ := runs_iff.1 hr
      obtain ⟨hB, hi0, hi1⟩ := has_iff.1 h1
      obtain ⟨n, rfl⟩ : ∃ n : Nat, i = n := ⟨i.toNat, by omega⟩
      have hn : n < s.th.length := by omega
      rw [Int.toNat_natCast] at h2 h3
      have hs1 : (gth s.th n).st ≠ 0 := by omega
      have e : recvK s n (k + 1) = ((recvK (recvN s n) n k).1, (recvK (recvN s n) n k).2 + 1) := by simp only [recvK, hr, if_true, recvS_is hr]
      rw [e]
      have hB' := recvN_stB hB hn hs1
      have hv' := recvN_vk hv hB hn hs1
      have hl' : (recvN s n).lg.length ≤ s.lg.length + 1 := by rcases (recvN_lgOk (s := s) (n := n)).1 with h | ⟨x, h⟩ <;> rw [h] <;> simp
      refine step_lv (s := s) (n := n) ⟨by simp; omega, hB, ho, hn, h2, h3, by omega, by constructor <;> omega⟩ fun N hN => ?_
      have := ih (s := recvN s n) (o := o + 1) hv' (by omega) (by omega) (by omega) (ok_of hB' hv' (by omega))
      rw [hN]
      rw [show o + (((recvK (recvN s n) n k).2 + 1 : Nat) : Int) = o + 1 + ((recvK (recvN s n) n k).2 : Int) by omega]
      exact this
end
set_option maxRecDepth 100000 in
theorem ac_vsteps0 {s u : St} {i m o : Int} (hL : LoopP Tryz.prog (loopOf Tryz.prog 85 0) (hdV s i m 0 s.th.length) (.exit 0) (hdV u i m o u.th.length)) (ho : s.ok) (hf : s.fit) (ht : s.th ≠ []) : AC Tryz.prog 85 [stT s, .int .i64 i, .int .i64 m] (.tuple #[stT u, .int .i64 o]) :=
  ac_path mixed (ext := [40]) (fuel := 9) (n := 9) (orc := [.iface 1000004 (.func (.yield 18) #[.agg (stL s), .int .i64 11] #[]), oR [1, 3] [6] rgAll 4 (els9 5 (pt 6)), .nilFunc, .nilFunc, .nilFunc, .nilFunc,
    oL [5, 4, 1, 6, 7] [2, 6, 8, 9, 10] 0 [(2, .int .i64 m), (6, pt 2), (8, pt 0), (9, .map (some 4)), (10, .int .i64 o)] [bX u i u.th.length, bT u.th u.th.length, bZ, bBx 0, bMp 0 (pt 3)]])
    (an (ao_keep (neg_no s) ho hf ht) <| an (reg_steps 5 6) <| an (show In64 (9 + 1) by constructor <;> decide) <| an (show In64 (9 + 1 + 1) by constructor <;> decide) <| an (show In64 (9 + 1 + 1 + 1) by constructor <;> decide) <| an hL <| an (len_map (f := thT) u.th) trivial) (by kernel_rfl)
/-- Some steps. -/
theorem ac_vsteps {s : St} {i m : Int} (ho : s.ok) (hf : s.fit) (ht : s.th ≠ []) (hl : s.lg.length ≤ 800000) : AC Tryz.prog 85 [stT s, .int .i64 i, .int .i64 m] (.tuple #[stT (recvK s i (min m 1000).toNat).1, .int .i64 (recvK s i (min m 1000).toNat).2]) := by
  have h := vsteps_lp (i := i) (m := m) (min m 1000 - 0).toNat (s := s) (o := 0) (.of ho) (Int.le_refl _) rfl (by omega) ho
  rw [show min m 1000 - 0 = min m 1000 by omega, Int.zero_add] at h
  exact ac_vsteps0 h ho hf ht
set_option maxRecDepth 100000 in
theorem ac_vsteps_nil {s : St} {i m : Int} (h : s.th = []) (ho : s.ok) (hf : s.fit) : AC Tryz.prog 85 [stT s, .int .i64 i, .int .i64 m] (.tuple #[stT s, .int .i64 0]) := by
  cases hm : decide ((0 : Int) < min m 1000)
  · exact ac_path mixed (ext := [40, 11]) (fuel := 9) (n := 9) (orc := [stT s, oR [1, 3] [5] rgAll 4 (els9 4 (pt 5)), .nilFunc, .nilFunc, .nilFunc, .nilFunc, .bool false])
      (an (ac_keep (neg_no s) ho hf) <| an (reg_steps 4 5) <| an (show In64 (9 + 1) by constructor <;> decide) <| an (show In64 (9 + 1 + 1) by constructor <;> decide) <| an (show In64 (9 + 1 + 1 + 1) by constructor <;> decide) <| an hm trivial) (by kernel_rfl)
  · exact ac_path mixed (ext := [40, 11]) (fuel := 9) (n := 9) (orc := [stT s, oR [1, 3] [5] rgAll 4 (els9 4 (pt 5)), .nilFunc, .nilFunc, .nilFunc, .nilFunc, .bool true, vD false])
      (an (ac_keep (neg_no s) ho hf) <| an (reg_steps 4 5) <| an (show In64 (9 + 1) by constructor <;> decide) <| an (show In64 (9 + 1 + 1) by constructor <;> decide) <| an (show In64 (9 + 1 + 1 + 1) by constructor <;> decide) <| an hm <| an (ac_pcheck (nil_no h) ho) trivial) (by kernel_rfl)
theorem recvK_no {s : St} {i : Int} (h : stB s = false) (k : Nat) : recvK s i k = (s, 0) := by
  cases k with
  | zero => rfl
  | succ k => simp [recvK, runsB, hasB, h]
theorem recvK_1 (s : St) (i : Int) : (recvK s i 1).1 = recvS s i := by
  cases h : runsB s i 2 <;> simp [recvK, h, recvS]
/-- Some steps of the program, of any state. -/
theorem ac_vst {s : St} {i m : Int} (ho : s.ok) (hf : s.fit) (hl : s.lg.length ≤ 800000) : AC Tryz.prog 85 [stT s, .int .i64 i, .int .i64 m] (.tuple #[stT (recvK s i (min m 1000).toNat).1, .int .i64 (recvK s i (min m 1000).toNat).2]) := by
  by_cases h : s.th = []
  · rw [recvK_no (nil_no h)]; exact ac_vsteps_nil h ho hf
  · exact ac_vsteps ho hf h hl
set_option maxRecDepth 100000 in
theorem ac_vstep {s : St} {i : Int} (ho : s.ok) (hf : s.fit) (hl : s.lg.length ≤ 800000) : AC Tryz.prog 71 [stT s, .int .i64 i] (stT (recvS s i)) := by
  rw [← recvK_1]
  exact ac_path mixed (ext := [85]) (fuel := 9) (n := 3) (orc := [.tuple #[stT (recvK s i 1).1, .int .i64 (recvK s i 1).2]]) (an (ac_vst (i := i) (m := 1) ho hf hl) trivial) (by kernel_rfl)
end Go.Proofs.YtcakapmpifnfpaaGreat

/- Layer 17: the rounds of Some, and of the inner loop of Rounds. (Written by tools/stepH.py.) -/
namespace Go.Proofs.YtcakapmpifnfpaaGreat
set_option linter.unusedVariables false
set_option linter.unusedSimpArgs false
open Go.RowKit
theorem app_more {α : Type} {f : α → Value} (l k : List α) (hm : l.length + k.length ≤ 1000000) : AppP (l ++ k).length ((l ++ k).map f) l.length (l.map f) k.length (k.map f) := ⟨by simp, by simp, by omega⟩
section
variable {s a : St} {n : Nat} {l : List Int} {m o j i N : Int} {x : Exit} {S : Sg} {b : Bool}
set_option maxRecDepth 100000 in
theorem so_cfg_o (lt : decide (j < l.length) = true) (ix : IxP ((l.map (Value.int .i64 ·)).toArray) j (.int .i64 i)) (j1 : In64 (j + 1)) (hL : LoopP Tryz.prog (loopOf Tryz.prog 13 0) ⟨smT l o (j + 1), (hO s false)⟩ x S) : LoopP Tryz.prog (loopOf Tryz.prog 13 0) ⟨smT l o j, hO s false⟩ x S :=
  loop_more mixed (fuel := 9) (n := 6) (keep := [4, 6, 7, 8, 14, 15, 16]) (ext := pkX) (im := [0, 1, 2, 3, 4, 5, 6, 7, 8]) (orc := [.bool true, .int .i64 i, .nilFunc, .nilFunc]) (an lt <| an ix <| an j1 trivial) (by kernel_rfl) hL
set_option maxRecDepth 100000 in
theorem so_low_o (lt : decide (j < l.length) = true) (ix : IxP ((l.map (Value.int .i64 ·)).toArray) j (.int .i64 i)) (h0 : decide (i < 0) = true) (j1 : In64 (j + 1)) (hL : LoopP Tryz.prog (loopOf Tryz.prog 13 0) ⟨smT l o (j + 1), (hO s true)⟩ x S) : LoopP Tryz.prog (loopOf Tryz.prog 13 0) ⟨smT l o j, hO s true⟩ x S :=
  loop_more mixed (fuel := 9) (n := 6) (keep := [4, 6, 7, 8, 14, 15, 16]) (ext := pkX) (im := [0, 1, 2, 3, 4, 5, 6, 7, 8]) (orc := [.bool true, .int .i64 i, .bool true, .nilFunc, .nilFunc]) (an lt <| an ix <| an h0 <| an j1 trivial) (by kernel_rfl) hL
set_option maxRecDepth 100000 in
theorem so_high_o (lt : decide (j < l.length) = true) (ix : IxP ((l.map (Value.int .i64 ·)).toArray) j (.int .i64 i)) (h0 : decide (i < 0) = false) (h1 : decide ((s.th.length : Int) ≤ i) = true) (j1 : In64 (j + 1)) (hL : LoopP Tryz.prog (loopOf Tryz.prog 13 0) ⟨smT l o (j + 1), (hO s true)⟩ x S) : LoopP Tryz.prog (loopOf Tryz.prog 13 0) ⟨smT l o j, hO s true⟩ x S :=
  loop_more mixed (fuel := 9) (n := 6) (keep := [4, 6, 7, 8, 14, 15, 16]) (ext := pkX) (im := [0, 1, 2, 3, 4, 5, 6, 7, 8]) (orc := [.bool true, .int .i64 i, .bool false, .bool true, .nilFunc, .nilFunc]) (an lt <| an ix <| an h0 <| an h1 <| an j1 trivial) (by kernel_rfl) hL
set_option maxRecDepth 100000 in
theorem so_runs_o (lt : decide (j < l.length) = true) (ix : IxP ((l.map (Value.int .i64 ·)).toArray) j (.int .i64 n)) (hn : n < s.th.length) (rs : (thRuns (gth s.th n).st == 0) = false) (j1 : In64 (j + 1)) (hL : LoopP Tryz.prog (loopOf Tryz.prog 13 0) ⟨smT l o (j + 1), hO s true⟩ x S) : LoopP Tryz.prog (loopOf Tryz.prog 13 0) ⟨smT l o j, hO s true⟩ x S :=
  loop_more mixed (fuel := 9) (n := 6) (keep := [4, 6, 7, 8, 14, 15, 16]) (ext := pkX) (im := [0, 1, 2, 3, 4, 5, 6, 7, 8]) (orc := [.bool true, .int .i64 n, .bool false, .bool false, thT (gth s.th n), .int .i64 (thRuns (gth s.th n).st), .bool false, .bool false]) (an lt <| an ix <| an (show decide ((n : Int) < 0) = false by simp) <| an (show decide ((s.th.length : Int) ≤ n) = false by have := hn; simp; omega) <| an (ixT hn) <| an (ac_pruns (t := gth s.th n) rfl) <| an rs <| an rs <| an j1 trivial) (by kernel_rfl) hL
set_option maxRecDepth 100000 in
theorem ro_runs_o (lt : decide ((n : Int) < N) = true) (hn : n < s.th.length) (rs : (thRuns (gth s.th n).st == 0) = false) (j1 : In64 ((n : Int) + 1)) (hL : LoopP Tryz.prog (loopOf Tryz.prog 15 1) ⟨riT m o N ((n : Int) + 1), hO s true⟩ x S) : LoopP Tryz.prog (loopOf Tryz.prog 15 1) ⟨riT m o N n, hO s true⟩ x S :=
  loop_more mixed (fuel := 9) (n := 6) (keep := [1, 4, 6, 7, 8, 24, 25]) (ext := pkX) (im := [0, 1, 2, 3, 4, 5, 6, 7, 8]) (orc := [.bool true, .bool false, .bool false, thT (gth s.th n), .int .i64 (thRuns (gth s.th n).st), .bool false]) (an lt <| an (show decide ((n : Int) < 0) = false by simp) <| an (show decide ((s.th.length : Int) ≤ n) = false by have := hn; simp; omega) <| an (ixT hn) <| an (ac_pruns (t := gth s.th n) rfl) <| an rs <| an j1 trivial) (by kernel_rfl) hL
set_option maxRecDepth 100000 in
theorem so_end_o (lt : decide (j < l.length) = false) : LoopP Tryz.prog (loopOf Tryz.prog 13 0) ⟨smT l o j, hO s b⟩ (.exit 0) ⟨smT l o j, hO s b⟩ :=
  loop_end mixed (fuel := 9) (n := 6) (keep := [4, 6, 7, 8, 14, 15, 16]) (ext := pkX) (im := [0, 1, 2, 3, 4, 5, 6, 7, 8]) (orc := [.bool false]) (an lt trivial) (by intro e; cases e) (by kernel_rfl)
set_option maxRecDepth 100000 in
theorem ri_end_o (lt : decide (j < N) = false) : LoopP Tryz.prog (loopOf Tryz.prog 15 1) ⟨riT m o N j, hO s b⟩ (.exit 2) ⟨riT m o N j, hO s b⟩ :=
  loop_end mixed (fuel := 9) (n := 6) (keep := [1, 4, 6, 7, 8, 24, 25]) (ext := pkX) (im := [0, 1, 2, 3, 4, 5, 6, 7, 8]) (orc := [.bool false]) (an lt trivial) (by intro e; cases e) (by kernel_rfl)
set_option maxRecDepth 100000 in
theorem so_cfg_n (lt : decide (j < l.length) = true) (ix : IxP ((l.map (Value.int .i64 ·)).toArray) j (.int .i64 i)) (j1 : In64 (j + 1)) (hL : LoopP Tryz.prog (loopOf Tryz.prog 13 0) ⟨smT l o (j + 1), (hN s false)⟩ x S) : LoopP Tryz.prog (loopOf Tryz.prog 13 0) ⟨smT l o j, hN s false⟩ x S :=
  loop_more mixed (fuel := 9) (n := 6) (keep := [4, 6, 7, 8, 14, 15, 16]) (ext := pkX) (im := [0, 1, 2, 3, 4, 5, 6, 7]) (orc := [.bool true, .int .i64 i, .nilFunc, .nilFunc]) (an lt <| an ix <| an j1 trivial) (by kernel_rfl) hL
set_option maxRecDepth 100000 in
theorem so_low_n (lt : decide (j < l.length) = true) (ix : IxP ((l.map (Value.int .i64 ·)).toArray) j (.int .i64 i)) (h0 : decide (i < 0) = true) (j1 : In64 (j + 1)) (hL : LoopP Tryz.prog (loopOf Tryz.prog 13 0) ⟨smT l o (j + 1), (hN s true)⟩ x S) : LoopP Tryz.prog (loopOf Tryz.prog 13 0) ⟨smT l o j, hN s true⟩ x S :=
  loop_more mixed (fuel := 9) (n := 6) (keep := [4, 6, 7, 8, 14, 15, 16]) (ext := pkX) (im := [0, 1, 2, 3, 4, 5, 6, 7]) (orc := [.bool true, .int .i64 i, .bool true, .nilFunc, .nilFunc]) (an lt <| an ix <| an h0 <| an j1 trivial) (by kernel_rfl) hL
set_option maxRecDepth 100000 in
theorem so_high_n (lt : decide (j < l.length) = true) (ix : IxP ((l.map (Value.int .i64 ·)).toArray) j (.int .i64 i)) (h0 : decide (i < 0) = false) (h1 : decide ((s.th.length : Int) ≤ i) = true) (j1 : In64 (j + 1)) (hL : LoopP Tryz.prog (loopOf Tryz.prog 13 0) ⟨smT l o (j + 1), (hN s true)⟩ x S) : LoopP Tryz.prog (loopOf Tryz.prog 13 0) ⟨smT l o j, hN s true⟩ x S :=
  loop_more mixed (fuel := 9) (n := 6) (keep := [4, 6, 7, 8, 14, 15, 16]) (ext := pkX) (im := [0, 1, 2, 3, 4, 5, 6, 7]) (orc := [.bool true, .int .i64 i, .bool false, .bool true, .nilFunc, .nilFunc]) (an lt <| an ix <| an h0 <| an h1 <| an j1 trivial) (by kernel_rfl) hL
set_option maxRecDepth 100000 in
theorem so_runs_n (lt : decide (j < l.length) = true) (ix : IxP ((l.map (Value.int .i64 ·)).toArray) j (.int .i64 n)) (hn : n < s.th.length) (rs : (thRuns (gth s.th n).st == 0) = false) (j1 : In64 (j + 1)) (hL : LoopP Tryz.prog (loopOf Tryz.prog 13 0) ⟨smT l o (j + 1), hN s true⟩ x S) : LoopP Tryz.prog (loopOf Tryz.prog 13 0) ⟨smT l o j, hN s true⟩ x S :=
  loop_more mixed (fuel := 9) (n := 6) (keep := [4, 6, 7, 8, 14, 15, 16]) (ext := pkX) (im := [0, 1, 2, 3, 4, 5, 6, 7]) (orc := [.bool true, .int .i64 n, .bool false, .bool false, thT (gth s.th n), .int .i64 (thRuns (gth s.th n).st), .bool false, .bool false]) (an lt <| an ix <| an (show decide ((n : Int) < 0) = false by simp) <| an (show decide ((s.th.length : Int) ≤ n) = false by have := hn; simp; omega) <| an (ixT hn) <| an (ac_pruns (t := gth s.th n) rfl) <| an rs <| an rs <| an j1 trivial) (by kernel_rfl) hL
set_option maxRecDepth 100000 in
theorem ro_runs_n (lt : decide ((n : Int) < N) = true) (hn : n < s.th.length) (rs : (thRuns (gth s.th n).st == 0) = false) (j1 : In64 ((n : Int) + 1)) (hL : LoopP Tryz.prog (loopOf Tryz.prog 15 1) ⟨riT m o N ((n : Int) + 1), hN s true⟩ x S) : LoopP Tryz.prog (loopOf Tryz.prog 15 1) ⟨riT m o N n, hN s true⟩ x S :=
  loop_more mixed (fuel := 9) (n := 6) (keep := [1, 4, 6, 7, 8, 24, 25]) (ext := pkX) (im := [0, 1, 2, 3, 4, 5, 6, 7]) (orc := [.bool true, .bool false, .bool false, thT (gth s.th n), .int .i64 (thRuns (gth s.th n).st), .bool false]) (an lt <| an (show decide ((n : Int) < 0) = false by simp) <| an (show decide ((s.th.length : Int) ≤ n) = false by have := hn; simp; omega) <| an (ixT hn) <| an (ac_pruns (t := gth s.th n) rfl) <| an rs <| an j1 trivial) (by kernel_rfl) hL
set_option maxRecDepth 100000 in
theorem so_end_n (lt : decide (j < l.length) = false) : LoopP Tryz.prog (loopOf Tryz.prog 13 0) ⟨smT l o j, hN s b⟩ (.exit 0) ⟨smT l o j, hN s b⟩ :=
  loop_end mixed (fuel := 9) (n := 6) (keep := [4, 6, 7, 8, 14, 15, 16]) (ext := pkX) (im := [0, 1, 2, 3, 4, 5, 6, 7]) (orc := [.bool false]) (an lt trivial) (by intro e; cases e) (by kernel_rfl)
set_option maxRecDepth 100000 in
theorem ri_end_n (lt : decide (j < N) = false) : LoopP Tryz.prog (loopOf Tryz.prog 15 1) ⟨riT m o N j, hN s b⟩ (.exit 2) ⟨riT m o N j, hN s b⟩ :=
  loop_end mixed (fuel := 9) (n := 6) (keep := [1, 4, 6, 7, 8, 24, 25]) (ext := pkX) (im := [0, 1, 2, 3, 4, 5, 6, 7]) (orc := [.bool false]) (an lt trivial) (by intro e; cases e) (by kernel_rfl)
set_option maxRecDepth 100000 in
theorem so_ok1_o (lt : decide (j < l.length) = true) (ix : IxP ((l.map (Value.int .i64 ·)).toArray) j (.int .i64 n)) (hn : n < s.th.length) (rs : thRuns (gth s.th n).st = 0) (sd : opSide (gth s.th n).ki = 1) (st : AC Tryz.prog 70 [stT (s.toLg []), .int .i64 n] (stT a)) (hm : s.lg.length + a.lg.length ≤ 1000000) (o1 : In64 (o + 1)) (j1 : In64 (j + 1)) (hL : LoopP Tryz.prog (loopOf Tryz.prog 13 0) ⟨smT l (o + 1) (j + 1), (hO (a.toLg (s.lg ++ a.lg)) true)⟩ x S) : LoopP Tryz.prog (loopOf Tryz.prog 13 0) ⟨smT l o j, hO s true⟩ x S :=
  loop_more mixed (fuel := 9) (n := 6) (keep := [4, 6, 7, 8, 14, 15, 16]) (ext := pkX) (im := [0, 1, 2, 3, 4, 5, 6, 7, 10]) (orc := [.bool true, .int .i64 n, .bool false, .bool false, thT (gth s.th n), .int .i64 0, .nilFunc, thT (gth s.th n), .int .i64 1, stT a, rowE (s.lg ++ a.lg), .nilFunc]) (an lt <| an ix <| an (show decide ((n : Int) < 0) = false by simp) <| an (show decide ((s.th.length : Int) ≤ n) = false by have := hn; simp; omega) <| an (ixT hn) <| an (ac_pruns (t := gth s.th n) rs) <| an (ixT hn) <| an (sd ▸ ac_pside (gth s.th n).ki) <| an st <| an (allK_E a.lg) <| an (lenE s.lg) <| an (app_more (f := enT) s.lg a.lg hm) <| an o1 <| an j1 trivial) (by kernel_rfl) hL
set_option maxRecDepth 100000 in
theorem ri_ok1_o (lt : decide ((n : Int) < N) = true) (hn : n < s.th.length) (rs : thRuns (gth s.th n).st = 0) (sd : opSide (gth s.th n).ki = 1) (st : AC Tryz.prog 70 [stT (s.toLg []), .int .i64 n] (stT a)) (hm : s.lg.length + a.lg.length ≤ 1000000) (j1 : In64 ((n : Int) + 1)) (hL : LoopP Tryz.prog (loopOf Tryz.prog 15 1) ⟨riT m o N ((n : Int) + 1), (hO (a.toLg (s.lg ++ a.lg)) true)⟩ x S) : LoopP Tryz.prog (loopOf Tryz.prog 15 1) ⟨riT m o N n, hO s true⟩ x S :=
  loop_more mixed (fuel := 9) (n := 6) (keep := [1, 4, 6, 7, 8, 24, 25]) (ext := pkX) (im := [0, 1, 2, 3, 4, 5, 6, 7, 10]) (orc := [.bool true, .bool false, .bool false, thT (gth s.th n), .int .i64 0, .nilFunc, thT (gth s.th n), .int .i64 1, stT a, rowE (s.lg ++ a.lg)]) (an lt <| an (show decide ((n : Int) < 0) = false by simp) <| an (show decide ((s.th.length : Int) ≤ n) = false by have := hn; simp; omega) <| an (ixT hn) <| an (ac_pruns (t := gth s.th n) rs) <| an (ixT hn) <| an (sd ▸ ac_pside (gth s.th n).ki) <| an st <| an (allK_E a.lg) <| an (lenE s.lg) <| an (app_more (f := enT) s.lg a.lg hm) <| an j1 trivial) (by kernel_rfl) hL
set_option maxRecDepth 100000 in
theorem so_ok1_f (lt : decide (j < l.length) = true) (ix : IxP ((l.map (Value.int .i64 ·)).toArray) j (.int .i64 n)) (hn : n < s.th.length) (rs : thRuns (gth s.th n).st = 0) (sd : opSide (gth s.th n).ki = 1) (st : AC Tryz.prog 70 [stT (s.toLg []), .int .i64 n] (stT a)) (ha : a.lg ≠ []) (hm : a.lg.length ≤ 1000000) (o1 : In64 (o + 1)) (j1 : In64 (j + 1)) (hL : LoopP Tryz.prog (loopOf Tryz.prog 13 0) ⟨smT l (o + 1) (j + 1), (hO a true)⟩ x S) : LoopP Tryz.prog (loopOf Tryz.prog 13 0) ⟨smT l o j, hN s true⟩ x S :=
  loop_more mixed (fuel := 9) (n := 6) (keep := [4, 6, 7, 8, 14, 15, 16]) (ext := pkX) (im := [0, 1, 2, 3, 4, 5, 6, 7, 9]) (orc := [.bool true, .int .i64 n, .bool false, .bool false, thT (gth s.th n), .int .i64 0, .nilFunc, thT (gth s.th n), .int .i64 1, stT a, rowE a.lg, .nilFunc]) (an lt <| an ix <| an (show decide ((n : Int) < 0) = false by simp) <| an (show decide ((s.th.length : Int) ≤ n) = false by have := hn; simp; omega) <| an (ixT hn) <| an (ac_pruns (t := gth s.th n) rs) <| an (ixT hn) <| an (sd ▸ ac_pside (gth s.th n).ki) <| an st <| an (allK_E a.lg) <| an (app_nil (f := enT) ha hm) <| an o1 <| an j1 trivial) (by kernel_rfl) hL
set_option maxRecDepth 100000 in
theorem ri_ok1_f (lt : decide ((n : Int) < N) = true) (hn : n < s.th.length) (rs : thRuns (gth s.th n).st = 0) (sd : opSide (gth s.th n).ki = 1) (st : AC Tryz.prog 70 [stT (s.toLg []), .int .i64 n] (stT a)) (ha : a.lg ≠ []) (hm : a.lg.length ≤ 1000000) (j1 : In64 ((n : Int) + 1)) (hL : LoopP Tryz.prog (loopOf Tryz.prog 15 1) ⟨riT m o N ((n : Int) + 1), (hO a true)⟩ x S) : LoopP Tryz.prog (loopOf Tryz.prog 15 1) ⟨riT m o N n, hN s true⟩ x S :=
  loop_more mixed (fuel := 9) (n := 6) (keep := [1, 4, 6, 7, 8, 24, 25]) (ext := pkX) (im := [0, 1, 2, 3, 4, 5, 6, 7, 9]) (orc := [.bool true, .bool false, .bool false, thT (gth s.th n), .int .i64 0, .nilFunc, thT (gth s.th n), .int .i64 1, stT a, rowE a.lg]) (an lt <| an (show decide ((n : Int) < 0) = false by simp) <| an (show decide ((s.th.length : Int) ≤ n) = false by have := hn; simp; omega) <| an (ixT hn) <| an (ac_pruns (t := gth s.th n) rs) <| an (ixT hn) <| an (sd ▸ ac_pside (gth s.th n).ki) <| an st <| an (allK_E a.lg) <| an (app_nil (f := enT) ha hm) <| an j1 trivial) (by kernel_rfl) hL
set_option maxRecDepth 100000 in
theorem so_ok1_n (lt : decide (j < l.length) = true) (ix : IxP ((l.map (Value.int .i64 ·)).toArray) j (.int .i64 n)) (hn : n < s.th.length) (rs : thRuns (gth s.th n).st = 0) (sd : opSide (gth s.th n).ki = 1) (st : AC Tryz.prog 70 [stT (s.toLg []), .int .i64 n] (stT a)) (ha : a.lg.length = 0) (o1 : In64 (o + 1)) (j1 : In64 (j + 1)) (hL : LoopP Tryz.prog (loopOf Tryz.prog 13 0) ⟨smT l (o + 1) (j + 1), (hN a true)⟩ x S) : LoopP Tryz.prog (loopOf Tryz.prog 13 0) ⟨smT l o j, hN s true⟩ x S :=
  loop_more mixed (fuel := 9) (n := 6) (keep := [4, 6, 7, 8, 14, 15, 16]) (ext := pkX) (im := [0, 1, 2, 3, 4, 5, 6, 7]) (orc := [.bool true, .int .i64 n, .bool false, .bool false, thT (gth s.th n), .int .i64 0, .nilFunc, thT (gth s.th n), .int .i64 1, stT a, .slice none 0 0, .nilFunc]) (an lt <| an ix <| an (show decide ((n : Int) < 0) = false by simp) <| an (show decide ((s.th.length : Int) ≤ n) = false by have := hn; simp; omega) <| an (ixT hn) <| an (ac_pruns (t := gth s.th n) rs) <| an (ixT hn) <| an (sd ▸ ac_pside (gth s.th n).ki) <| an st <| an (allK_E a.lg) <| an ha <| an o1 <| an j1 trivial) (by kernel_rfl) hL
set_option maxRecDepth 100000 in
theorem ri_ok1_n (lt : decide ((n : Int) < N) = true) (hn : n < s.th.length) (rs : thRuns (gth s.th n).st = 0) (sd : opSide (gth s.th n).ki = 1) (st : AC Tryz.prog 70 [stT (s.toLg []), .int .i64 n] (stT a)) (ha : a.lg.length = 0) (j1 : In64 ((n : Int) + 1)) (hL : LoopP Tryz.prog (loopOf Tryz.prog 15 1) ⟨riT m o N ((n : Int) + 1), (hN a true)⟩ x S) : LoopP Tryz.prog (loopOf Tryz.prog 15 1) ⟨riT m o N n, hN s true⟩ x S :=
  loop_more mixed (fuel := 9) (n := 6) (keep := [1, 4, 6, 7, 8, 24, 25]) (ext := pkX) (im := [0, 1, 2, 3, 4, 5, 6, 7]) (orc := [.bool true, .bool false, .bool false, thT (gth s.th n), .int .i64 0, .nilFunc, thT (gth s.th n), .int .i64 1, stT a, .slice none 0 0]) (an lt <| an (show decide ((n : Int) < 0) = false by simp) <| an (show decide ((s.th.length : Int) ≤ n) = false by have := hn; simp; omega) <| an (ixT hn) <| an (ac_pruns (t := gth s.th n) rs) <| an (ixT hn) <| an (sd ▸ ac_pside (gth s.th n).ki) <| an st <| an (allK_E a.lg) <| an ha <| an j1 trivial) (by kernel_rfl) hL
set_option maxRecDepth 100000 in
theorem so_ok2_o (lt : decide (j < l.length) = true) (ix : IxP ((l.map (Value.int .i64 ·)).toArray) j (.int .i64 n)) (hn : n < s.th.length) (rs : thRuns (gth s.th n).st = 0) (sd : opSide (gth s.th n).ki = 2) (st : AC Tryz.prog 71 [stT (s.toLg []), .int .i64 n] (stT a)) (hm : s.lg.length + a.lg.length ≤ 1000000) (o1 : In64 (o + 1)) (j1 : In64 (j + 1)) (hL : LoopP Tryz.prog (loopOf Tryz.prog 13 0) ⟨smT l (o + 1) (j + 1), (hO (a.toLg (s.lg ++ a.lg)) true)⟩ x S) : LoopP Tryz.prog (loopOf Tryz.prog 13 0) ⟨smT l o j, hO s true⟩ x S :=
  loop_more mixed (fuel := 9) (n := 6) (keep := [4, 6, 7, 8, 14, 15, 16]) (ext := pkX) (im := [0, 1, 2, 3, 4, 5, 6, 7, 10]) (orc := [.bool true, .int .i64 n, .bool false, .bool false, thT (gth s.th n), .int .i64 0, .nilFunc, thT (gth s.th n), .int .i64 2, stT a, rowE (s.lg ++ a.lg), .nilFunc]) (an lt <| an ix <| an (show decide ((n : Int) < 0) = false by simp) <| an (show decide ((s.th.length : Int) ≤ n) = false by have := hn; simp; omega) <| an (ixT hn) <| an (ac_pruns (t := gth s.th n) rs) <| an (ixT hn) <| an (sd ▸ ac_pside (gth s.th n).ki) <| an st <| an (allK_E a.lg) <| an (lenE s.lg) <| an (app_more (f := enT) s.lg a.lg hm) <| an o1 <| an j1 trivial) (by kernel_rfl) hL
set_option maxRecDepth 100000 in
theorem ri_ok2_o (lt : decide ((n : Int) < N) = true) (hn : n < s.th.length) (rs : thRuns (gth s.th n).st = 0) (sd : opSide (gth s.th n).ki = 2) (st : AC Tryz.prog 71 [stT (s.toLg []), .int .i64 n] (stT a)) (hm : s.lg.length + a.lg.length ≤ 1000000) (j1 : In64 ((n : Int) + 1)) (hL : LoopP Tryz.prog (loopOf Tryz.prog 15 1) ⟨riT m o N ((n : Int) + 1), (hO (a.toLg (s.lg ++ a.lg)) true)⟩ x S) : LoopP Tryz.prog (loopOf Tryz.prog 15 1) ⟨riT m o N n, hO s true⟩ x S :=
  loop_more mixed (fuel := 9) (n := 6) (keep := [1, 4, 6, 7, 8, 24, 25]) (ext := pkX) (im := [0, 1, 2, 3, 4, 5, 6, 7, 10]) (orc := [.bool true, .bool false, .bool false, thT (gth s.th n), .int .i64 0, .nilFunc, thT (gth s.th n), .int .i64 2, stT a, rowE (s.lg ++ a.lg)]) (an lt <| an (show decide ((n : Int) < 0) = false by simp) <| an (show decide ((s.th.length : Int) ≤ n) = false by have := hn; simp; omega) <| an (ixT hn) <| an (ac_pruns (t := gth s.th n) rs) <| an (ixT hn) <| an (sd ▸ ac_pside (gth s.th n).ki) <| an st <| an (allK_E a.lg) <| an (lenE s.lg) <| an (app_more (f := enT) s.lg a.lg hm) <| an j1 trivial) (by kernel_rfl) hL
set_option maxRecDepth 100000 in
theorem so_ok2_f (lt : decide (j < l.length) = true) (ix : IxP ((l.map (Value.int .i64 ·)).toArray) j (.int .i64 n)) (hn : n < s.th.length) (rs : thRuns (gth s.th n).st = 0) (sd : opSide (gth s.th n).ki = 2) (st : AC Tryz.prog 71 [stT (s.toLg []), .int .i64 n] (stT a)) (ha : a.lg ≠ []) (hm : a.lg.length ≤ 1000000) (o1 : In64 (o + 1)) (j1 : In64 (j + 1)) (hL : LoopP Tryz.prog (loopOf Tryz.prog 13 0) ⟨smT l (o + 1) (j + 1), (hO a true)⟩ x S) : LoopP Tryz.prog (loopOf Tryz.prog 13 0) ⟨smT l o j, hN s true⟩ x S :=
  loop_more mixed (fuel := 9) (n := 6) (keep := [4, 6, 7, 8, 14, 15, 16]) (ext := pkX) (im := [0, 1, 2, 3, 4, 5, 6, 7, 9]) (orc := [.bool true, .int .i64 n, .bool false, .bool false, thT (gth s.th n), .int .i64 0, .nilFunc, thT (gth s.th n), .int .i64 2, stT a, rowE a.lg, .nilFunc]) (an lt <| an ix <| an (show decide ((n : Int) < 0) = false by simp) <| an (show decide ((s.th.length : Int) ≤ n) = false by have := hn; simp; omega) <| an (ixT hn) <| an (ac_pruns (t := gth s.th n) rs) <| an (ixT hn) <| an (sd ▸ ac_pside (gth s.th n).ki) <| an st <| an (allK_E a.lg) <| an (app_nil (f := enT) ha hm) <| an o1 <| an j1 trivial) (by kernel_rfl) hL
set_option maxRecDepth 100000 in
theorem ri_ok2_f (lt : decide ((n : Int) < N) = true) (hn : n < s.th.length) (rs : thRuns (gth s.th n).st = 0) (sd : opSide (gth s.th n).ki = 2) (st : AC Tryz.prog 71 [stT (s.toLg []), .int .i64 n] (stT a)) (ha : a.lg ≠ []) (hm : a.lg.length ≤ 1000000) (j1 : In64 ((n : Int) + 1)) (hL : LoopP Tryz.prog (loopOf Tryz.prog 15 1) ⟨riT m o N ((n : Int) + 1), (hO a true)⟩ x S) : LoopP Tryz.prog (loopOf Tryz.prog 15 1) ⟨riT m o N n, hN s true⟩ x S :=
  loop_more mixed (fuel := 9) (n := 6) (keep := [1, 4, 6, 7, 8, 24, 25]) (ext := pkX) (im := [0, 1, 2, 3, 4, 5, 6, 7, 9]) (orc := [.bool true, .bool false, .bool false, thT (gth s.th n), .int .i64 0, .nilFunc, thT (gth s.th n), .int .i64 2, stT a, rowE a.lg]) (an lt <| an (show decide ((n : Int) < 0) = false by simp) <| an (show decide ((s.th.length : Int) ≤ n) = false by have := hn; simp; omega) <| an (ixT hn) <| an (ac_pruns (t := gth s.th n) rs) <| an (ixT hn) <| an (sd ▸ ac_pside (gth s.th n).ki) <| an st <| an (allK_E a.lg) <| an (app_nil (f := enT) ha hm) <| an j1 trivial) (by kernel_rfl) hL
set_option maxRecDepth 100000 in
theorem so_ok2_n (lt : decide (j < l.length) = true) (ix : IxP ((l.map (Value.int .i64 ·)).toArray) j (.int .i64 n)) (hn : n < s.th.length) (rs : thRuns (gth s.th n).st = 0) (sd : opSide (gth s.th n).ki = 2) (st : AC Tryz.prog 71 [stT (s.toLg []), .int .i64 n] (stT a)) (ha : a.lg.length = 0) (o1 : In64 (o + 1)) (j1 : In64 (j + 1)) (hL : LoopP Tryz.prog (loopOf Tryz.prog 13 0) ⟨smT l (o + 1) (j + 1), (hN a true)⟩ x S) : LoopP Tryz.prog (loopOf Tryz.prog 13 0) ⟨smT l o j, hN s true⟩ x S :=
  loop_more mixed (fuel := 9) (n := 6) (keep := [4, 6, 7, 8, 14, 15, 16]) (ext := pkX) (im := [0, 1, 2, 3, 4, 5, 6, 7]) (orc := [.bool true, .int .i64 n, .bool false, .bool false, thT (gth s.th n), .int .i64 0, .nilFunc, thT (gth s.th n), .int .i64 2, stT a, .slice none 0 0, .nilFunc]) (an lt <| an ix <| an (show decide ((n : Int) < 0) = false by simp) <| an (show decide ((s.th.length : Int) ≤ n) = false by have := hn; simp; omega) <| an (ixT hn) <| an (ac_pruns (t := gth s.th n) rs) <| an (ixT hn) <| an (sd ▸ ac_pside (gth s.th n).ki) <| an st <| an (allK_E a.lg) <| an ha <| an o1 <| an j1 trivial) (by kernel_rfl) hL
set_option maxRecDepth 100000 in
theorem ri_ok2_n (lt : decide ((n : Int) < N) = true) (hn : n < s.th.length) (rs : thRuns (gth s.th n).st = 0) (sd : opSide (gth s.th n).ki = 2) (st : AC Tryz.prog 71 [stT (s.toLg []), .int .i64 n] (stT a)) (ha : a.lg.length = 0) (j1 : In64 ((n : Int) + 1)) (hL : LoopP Tryz.prog (loopOf Tryz.prog 15 1) ⟨riT m o N ((n : Int) + 1), (hN a true)⟩ x S) : LoopP Tryz.prog (loopOf Tryz.prog 15 1) ⟨riT m o N n, hN s true⟩ x S :=
  loop_more mixed (fuel := 9) (n := 6) (keep := [1, 4, 6, 7, 8, 24, 25]) (ext := pkX) (im := [0, 1, 2, 3, 4, 5, 6, 7]) (orc := [.bool true, .bool false, .bool false, thT (gth s.th n), .int .i64 0, .nilFunc, thT (gth s.th n), .int .i64 2, stT a, .slice none 0 0]) (an lt <| an (show decide ((n : Int) < 0) = false by simp) <| an (show decide ((s.th.length : Int) ≤ n) = false by have := hn; simp; omega) <| an (ixT hn) <| an (ac_pruns (t := gth s.th n) rs) <| an (ixT hn) <| an (sd ▸ ac_pside (gth s.th n).ki) <| an st <| an (allK_E a.lg) <| an ha <| an j1 trivial) (by kernel_rfl) hL
set_option maxRecDepth 100000 in
theorem so_ok3_o (lt : decide (j < l.length) = true) (ix : IxP ((l.map (Value.int .i64 ·)).toArray) j (.int .i64 n)) (hn : n < s.th.length) (rs : thRuns (gth s.th n).st = 0) (sd : opSide (gth s.th n).ki = 3) (st : AC Tryz.prog 72 [stT (s.toLg []), .int .i64 n] (stT a)) (hm : s.lg.length + a.lg.length ≤ 1000000) (o1 : In64 (o + 1)) (j1 : In64 (j + 1)) (hL : LoopP Tryz.prog (loopOf Tryz.prog 13 0) ⟨smT l (o + 1) (j + 1), (hO (a.toLg (s.lg ++ a.lg)) true)⟩ x S) : LoopP Tryz.prog (loopOf Tryz.prog 13 0) ⟨smT l o j, hO s true⟩ x S :=
  loop_more mixed (fuel := 9) (n := 6) (keep := [4, 6, 7, 8, 14, 15, 16]) (ext := pkX) (im := [0, 1, 2, 3, 4, 5, 6, 7, 10]) (orc := [.bool true, .int .i64 n, .bool false, .bool false, thT (gth s.th n), .int .i64 0, .nilFunc, thT (gth s.th n), .int .i64 3, stT a, rowE (s.lg ++ a.lg), .nilFunc]) (an lt <| an ix <| an (show decide ((n : Int) < 0) = false by simp) <| an (show decide ((s.th.length : Int) ≤ n) = false by have := hn; simp; omega) <| an (ixT hn) <| an (ac_pruns (t := gth s.th n) rs) <| an (ixT hn) <| an (sd ▸ ac_pside (gth s.th n).ki) <| an st <| an (allK_E a.lg) <| an (lenE s.lg) <| an (app_more (f := enT) s.lg a.lg hm) <| an o1 <| an j1 trivial) (by kernel_rfl) hL
set_option maxRecDepth 100000 in
theorem ri_ok3_o (lt : decide ((n : Int) < N) = true) (hn : n < s.th.length) (rs : thRuns (gth s.th n).st = 0) (sd : opSide (gth s.th n).ki = 3) (st : AC Tryz.prog 72 [stT (s.toLg []), .int .i64 n] (stT a)) (hm : s.lg.length + a.lg.length ≤ 1000000) (j1 : In64 ((n : Int) + 1)) (hL : LoopP Tryz.prog (loopOf Tryz.prog 15 1) ⟨riT m o N ((n : Int) + 1), (hO (a.toLg (s.lg ++ a.lg)) true)⟩ x S) : LoopP Tryz.prog (loopOf Tryz.prog 15 1) ⟨riT m o N n, hO s true⟩ x S :=
  loop_more mixed (fuel := 9) (n := 6) (keep := [1, 4, 6, 7, 8, 24, 25]) (ext := pkX) (im := [0, 1, 2, 3, 4, 5, 6, 7, 10]) (orc := [.bool true, .bool false, .bool false, thT (gth s.th n), .int .i64 0, .nilFunc, thT (gth s.th n), .int .i64 3, stT a, rowE (s.lg ++ a.lg)]) (an lt <| an (show decide ((n : Int) < 0) = false by simp) <| an (show decide ((s.th.length : Int) ≤ n) = false by have := hn; simp; omega) <| an (ixT hn) <| an (ac_pruns (t := gth s.th n) rs) <| an (ixT hn) <| an (sd ▸ ac_pside (gth s.th n).ki) <| an st <| an (allK_E a.lg) <| an (lenE s.lg) <| an (app_more (f := enT) s.lg a.lg hm) <| an j1 trivial) (by kernel_rfl) hL
set_option maxRecDepth 100000 in
theorem so_ok3_f (lt : decide (j < l.length) = true) (ix : IxP ((l.map (Value.int .i64 ·)).toArray) j (.int .i64 n)) (hn : n < s.th.length) (rs : thRuns (gth s.th n).st = 0) (sd : opSide (gth s.th n).ki = 3) (st : AC Tryz.prog 72 [stT (s.toLg []), .int .i64 n] (stT a)) (ha : a.lg ≠ []) (hm : a.lg.length ≤ 1000000) (o1 : In64 (o + 1)) (j1 : In64 (j + 1)) (hL : LoopP Tryz.prog (loopOf Tryz.prog 13 0) ⟨smT l (o + 1) (j + 1), (hO a true)⟩ x S) : LoopP Tryz.prog (loopOf Tryz.prog 13 0) ⟨smT l o j, hN s true⟩ x S :=
  loop_more mixed (fuel := 9) (n := 6) (keep := [4, 6, 7, 8, 14, 15, 16]) (ext := pkX) (im := [0, 1, 2, 3, 4, 5, 6, 7, 9]) (orc := [.bool true, .int .i64 n, .bool false, .bool false, thT (gth s.th n), .int .i64 0, .nilFunc, thT (gth s.th n), .int .i64 3, stT a, rowE a.lg, .nilFunc]) (an lt <| an ix <| an (show decide ((n : Int) < 0) = false by simp) <| an (show decide ((s.th.length : Int) ≤ n) = false by have := hn; simp; omega) <| an (ixT hn) <| an (ac_pruns (t := gth s.th n) rs) <| an (ixT hn) <| an (sd ▸ ac_pside (gth s.th n).ki) <| an st <| an (allK_E a.lg) <| an (app_nil (f := enT) ha hm) <| an o1 <| an j1 trivial) (by kernel_rfl) hL
set_option maxRecDepth 100000 in
theorem ri_ok3_f (lt : decide ((n : Int) < N) = true) (hn : n < s.th.length) (rs : thRuns (gth s.th n).st = 0) (sd : opSide (gth s.th n).ki = 3) (st : AC Tryz.prog 72 [stT (s.toLg []), .int .i64 n] (stT a)) (ha : a.lg ≠ []) (hm : a.lg.length ≤ 1000000) (j1 : In64 ((n : Int) + 1)) (hL : LoopP Tryz.prog (loopOf Tryz.prog 15 1) ⟨riT m o N ((n : Int) + 1), (hO a true)⟩ x S) : LoopP Tryz.prog (loopOf Tryz.prog 15 1) ⟨riT m o N n, hN s true⟩ x S :=
  loop_more mixed (fuel := 9) (n := 6) (keep := [1, 4, 6, 7, 8, 24, 25]) (ext := pkX) (im := [0, 1, 2, 3, 4, 5, 6, 7, 9]) (orc := [.bool true, .bool false, .bool false, thT (gth s.th n), .int .i64 0, .nilFunc, thT (gth s.th n), .int .i64 3, stT a, rowE a.lg]) (an lt <| an (show decide ((n : Int) < 0) = false by simp) <| an (show decide ((s.th.length : Int) ≤ n) = false by have := hn; simp; omega) <| an (ixT hn) <| an (ac_pruns (t := gth s.th n) rs) <| an (ixT hn) <| an (sd ▸ ac_pside (gth s.th n).ki) <| an st <| an (allK_E a.lg) <| an (app_nil (f := enT) ha hm) <| an j1 trivial) (by kernel_rfl) hL
set_option maxRecDepth 100000 in
theorem so_ok3_n (lt : decide (j < l.length) = true) (ix : IxP ((l.map (Value.int .i64 ·)).toArray) j (.int .i64 n)) (hn : n < s.th.length) (rs : thRuns (gth s.th n).st = 0) (sd : opSide (gth s.th n).ki = 3) (st : AC Tryz.prog 72 [stT (s.toLg []), .int .i64 n] (stT a)) (ha : a.lg.length = 0) (o1 : In64 (o + 1)) (j1 : In64 (j + 1)) (hL : LoopP Tryz.prog (loopOf Tryz.prog 13 0) ⟨smT l (o + 1) (j + 1), (hN a true)⟩ x S) : LoopP Tryz.prog (loopOf Tryz.prog 13 0) ⟨smT l o j, hN s true⟩ x S :=
  loop_more mixed (fuel := 9) (n := 6) (keep := [4, 6, 7, 8, 14, 15, 16]) (ext := pkX) (im := [0, 1, 2, 3, 4, 5, 6, 7]) (orc := [.bool true, .int .i64 n, .bool false, .bool false, thT (gth s.th n), .int .i64 0, .nilFunc, thT (gth s.th n), .int .i64 3, stT a, .slice none 0 0, .nilFunc]) (an lt <| an ix <| an (show decide ((n : Int) < 0) = false by simp) <| an (show decide ((s.th.length : Int) ≤ n) = false by have := hn; simp; omega) <| an (ixT hn) <| an (ac_pruns (t := gth s.th n) rs) <| an (ixT hn) <| an (sd ▸ ac_pside (gth s.th n).ki) <| an st <| an (allK_E a.lg) <| an ha <| an o1 <| an j1 trivial) (by kernel_rfl) hL
set_option maxRecDepth 100000 in
theorem ri_ok3_n (lt : decide ((n : Int) < N) = true) (hn : n < s.th.length) (rs : thRuns (gth s.th n).st = 0) (sd : opSide (gth s.th n).ki = 3) (st : AC Tryz.prog 72 [stT (s.toLg []), .int .i64 n] (stT a)) (ha : a.lg.length = 0) (j1 : In64 ((n : Int) + 1)) (hL : LoopP Tryz.prog (loopOf Tryz.prog 15 1) ⟨riT m o N ((n : Int) + 1), (hN a true)⟩ x S) : LoopP Tryz.prog (loopOf Tryz.prog 15 1) ⟨riT m o N n, hN s true⟩ x S :=
  loop_more mixed (fuel := 9) (n := 6) (keep := [1, 4, 6, 7, 8, 24, 25]) (ext := pkX) (im := [0, 1, 2, 3, 4, 5, 6, 7]) (orc := [.bool true, .bool false, .bool false, thT (gth s.th n), .int .i64 0, .nilFunc, thT (gth s.th n), .int .i64 3, stT a, .slice none 0 0]) (an lt <| an (show decide ((n : Int) < 0) = false by simp) <| an (show decide ((s.th.length : Int) ≤ n) = false by have := hn; simp; omega) <| an (ixT hn) <| an (ac_pruns (t := gth s.th n) rs) <| an (ixT hn) <| an (sd ▸ ac_pside (gth s.th n).ki) <| an st <| an (allK_E a.lg) <| an ha <| an j1 trivial) (by kernel_rfl) hL
end
end Go.Proofs.YtcakapmpifnfpaaGreat

/- Layer 17: Pick, path by path. (Written by tools/stepH.py.) -/
namespace Go.Proofs.YtcakapmpifnfpaaGreat
set_option linter.unusedVariables false
set_option linter.unusedSimpArgs false
open Go.RowKit
theorem ok_lg {s : St} (h : s.ok) : (s.toLg []).ok := { h with lg := by show (0 : Nat) ≤ maxLen; decide }
section
variable {s a : St} {n : Nat} {i : Int}
set_option maxRecDepth 100000 in
theorem pk_cfg_o (ho : s.ok) (hf : s.fit) (hl : s.lg ≠ []) (hB : stB s = false) : AC Tryz.prog 9 [stT s, .int .i64 i] (.tuple #[stT s, .int .i64 20]) :=
  ac_path mixed (ext := pkX) (fuel := 9) (n := 6) (orc := [.iface 1000004 (.func (.yield 19) #[.agg (stL s), .int .i64 5] #[]), vD false, .nilFunc]) (an (ao_keepL (neg_no s) ho hf hl) <| an (len_map (f := enT) s.lg) <| an (ac_pcheck hB ho) <| an (len_map (f := enT) s.lg) trivial) (by kernel_rfl)
set_option maxRecDepth 100000 in
theorem pk_low_o (ho : s.ok) (hf : s.fit) (hl : s.lg ≠ []) (hB : stB s = true) (h0 : decide (i < 0) = true) : AC Tryz.prog 9 [stT s, .int .i64 i] (.tuple #[stT s, .int .i64 123]) :=
  ac_path mixed (ext := pkX) (fuel := 9) (n := 6) (orc := [.iface 1000004 (.func (.yield 19) #[.agg (stL s), .int .i64 5] #[]), vD true, .bool true, .nilFunc]) (an (ao_keepL (neg_no s) ho hf hl) <| an (len_map (f := enT) s.lg) <| an (ac_pcheck hB ho) <| an h0 <| an (len_map (f := enT) s.lg) trivial) (by kernel_rfl)
set_option maxRecDepth 100000 in
theorem pk_high_o (ho : s.ok) (hf : s.fit) (hl : s.lg ≠ []) (hB : stB s = true) (h0 : decide (i < 0) = false) (h1 : decide ((s.th.length : Int) ≤ i) = true) : AC Tryz.prog 9 [stT s, .int .i64 i] (.tuple #[stT s, .int .i64 123]) :=
  ac_path mixed (ext := pkX) (fuel := 9) (n := 6) (orc := [.iface 1000004 (.func (.yield 19) #[.agg (stL s), .int .i64 5] #[]), vD true, .bool false, .bool true, .nilFunc]) (an (ao_keepL (neg_no s) ho hf hl) <| an (len_map (f := enT) s.lg) <| an (ac_pcheck hB ho) <| an h0 <| an h1 <| an (len_map (f := enT) s.lg) trivial) (by kernel_rfl)
set_option maxRecDepth 100000 in
theorem pk_runs_o (ho : s.ok) (hf : s.fit) (hl : s.lg ≠ []) (hB : stB s = true) (hn : n < s.th.length) (rs : (thRuns (gth s.th n).st == 0) = false) : AC Tryz.prog 9 [stT s, .int .i64 n] (.tuple #[stT s, .int .i64 (thRuns (gth s.th n).st)]) :=
  ac_path mixed (ext := pkX) (fuel := 9) (n := 6) (orc := [.iface 1000004 (.func (.yield 19) #[.agg (stL s), .int .i64 5] #[]), vD true, .bool false, .bool false, thT (gth s.th n), .int .i64 (thRuns (gth s.th n).st), .bool false]) (an (ao_keepL (neg_no s) ho hf hl) <| an (len_map (f := enT) s.lg) <| an (ac_pcheck hB ho) <| an (show decide ((n : Int) < 0) = false by simp) <| an (show decide ((s.th.length : Int) ≤ n) = false by have := hn; simp; omega) <| an (ixT hn) <| an (ac_pruns (t := gth s.th n) rfl) <| an rs <| an (len_map (f := enT) s.lg) trivial) (by kernel_rfl)
set_option maxRecDepth 100000 in
theorem pk_cfg_n (ho : s.ok) (hf : s.fit) (hl : s.lg = []) (hB : stB s = false) : AC Tryz.prog 9 [stT s, .int .i64 i] (.tuple #[stT (s.toLg []), .int .i64 20]) :=
  ac_path mixed (ext := pkX) (fuel := 9) (n := 6) (orc := [.agg (stN s), vD false, .nilFunc]) (an (ac_keepN (neg_no s) ho hf hl) <| an (ac_pcheck (s := s.toLg []) hB (ok_lg ho)) <| trivial) (by kernel_rfl)
set_option maxRecDepth 100000 in
theorem pk_low_n (ho : s.ok) (hf : s.fit) (hl : s.lg = []) (hB : stB s = true) (h0 : decide (i < 0) = true) : AC Tryz.prog 9 [stT s, .int .i64 i] (.tuple #[stT (s.toLg []), .int .i64 123]) :=
  ac_path mixed (ext := pkX) (fuel := 9) (n := 6) (orc := [.agg (stN s), vD true, .bool true, .nilFunc]) (an (ac_keepN (neg_no s) ho hf hl) <| an (ac_pcheck (s := s.toLg []) hB (ok_lg ho)) <| an h0 <| trivial) (by kernel_rfl)
set_option maxRecDepth 100000 in
theorem pk_high_n (ho : s.ok) (hf : s.fit) (hl : s.lg = []) (hB : stB s = true) (h0 : decide (i < 0) = false) (h1 : decide ((s.th.length : Int) ≤ i) = true) : AC Tryz.prog 9 [stT s, .int .i64 i] (.tuple #[stT (s.toLg []), .int .i64 123]) :=
  ac_path mixed (ext := pkX) (fuel := 9) (n := 6) (orc := [.agg (stN s), vD true, .bool false, .bool true, .nilFunc]) (an (ac_keepN (neg_no s) ho hf hl) <| an (ac_pcheck (s := s.toLg []) hB (ok_lg ho)) <| an h0 <| an h1 <| trivial) (by kernel_rfl)
set_option maxRecDepth 100000 in
theorem pk_runs_n (ho : s.ok) (hf : s.fit) (hl : s.lg = []) (hB : stB s = true) (hn : n < s.th.length) (rs : (thRuns (gth s.th n).st == 0) = false) : AC Tryz.prog 9 [stT s, .int .i64 n] (.tuple #[stT (s.toLg []), .int .i64 (thRuns (gth s.th n).st)]) :=
  ac_path mixed (ext := pkX) (fuel := 9) (n := 6) (orc := [.agg (stN s), vD true, .bool false, .bool false, thT (gth s.th n), .int .i64 (thRuns (gth s.th n).st), .bool false]) (an (ac_keepN (neg_no s) ho hf hl) <| an (ac_pcheck (s := s.toLg []) hB (ok_lg ho)) <| an (show decide ((n : Int) < 0) = false by simp) <| an (show decide ((s.th.length : Int) ≤ n) = false by have := hn; simp; omega) <| an (ixT hn) <| an (ac_pruns (t := gth s.th n) rfl) <| an rs <| trivial) (by kernel_rfl)
set_option maxRecDepth 100000 in
theorem pk_ok1_o (ho : s.ok) (hf : s.fit) (hl : s.lg ≠ []) (hB : stB s = true) (hn : n < s.th.length) (rs : thRuns (gth s.th n).st = 0) (sd : opSide (gth s.th n).ki = 1) (st : AC Tryz.prog 70 [stT (s.toLg []), .int .i64 n] (stT a)) (hm : s.lg.length + a.lg.length ≤ 1000000) : AC Tryz.prog 9 [stT s, .int .i64 n] (.tuple #[stT (a.toLg (s.lg ++ a.lg)), .int .i64 0]) :=
  ac_path mixed (ext := pkX) (fuel := 9) (n := 6) (orc := [.iface 1000004 (.func (.yield 19) #[.agg (stL s), .int .i64 5] #[]), vD true, .bool false, .bool false, thT (gth s.th n), .int .i64 0, .nilFunc, thT (gth s.th n), .int .i64 1, stT a, rowE (s.lg ++ a.lg)]) (an (ao_keepL (neg_no s) ho hf hl) <| an (len_map (f := enT) s.lg) <| an (ac_pcheck hB ho) <| an (show decide ((n : Int) < 0) = false by simp) <| an (show decide ((s.th.length : Int) ≤ n) = false by have := hn; simp; omega) <| an (ixT hn) <| an (ac_pruns (t := gth s.th n) rs) <| an (ixT hn) <| an (sd ▸ ac_pside (gth s.th n).ki) <| an st <| an (allK_E a.lg) <| an (lenE s.lg) <| an (app_more (f := enT) s.lg a.lg hm) <| an (len_map (f := enT) (s.lg ++ a.lg)) trivial) (by kernel_rfl)
set_option maxRecDepth 100000 in
theorem pk_ok1_f (ho : s.ok) (hf : s.fit) (hl : s.lg = []) (hB : stB s = true) (hn : n < s.th.length) (rs : thRuns (gth s.th n).st = 0) (sd : opSide (gth s.th n).ki = 1) (st : AC Tryz.prog 70 [stT (s.toLg []), .int .i64 n] (stT a)) (ha : a.lg ≠ []) (hm : a.lg.length ≤ 1000000) : AC Tryz.prog 9 [stT s, .int .i64 n] (.tuple #[stT a, .int .i64 0]) :=
  ac_path mixed (ext := pkX) (fuel := 9) (n := 6) (orc := [.agg (stN s), vD true, .bool false, .bool false, thT (gth s.th n), .int .i64 0, .nilFunc, thT (gth s.th n), .int .i64 1, stT a, rowE a.lg]) (an (ac_keepN (neg_no s) ho hf hl) <| an (ac_pcheck (s := s.toLg []) hB (ok_lg ho)) <| an (show decide ((n : Int) < 0) = false by simp) <| an (show decide ((s.th.length : Int) ≤ n) = false by have := hn; simp; omega) <| an (ixT hn) <| an (ac_pruns (t := gth s.th n) rs) <| an (ixT hn) <| an (sd ▸ ac_pside (gth s.th n).ki) <| an st <| an (allK_E a.lg) <| an (app_nil (f := enT) ha hm) <| an (len_map (f := enT) a.lg) trivial) (by kernel_rfl)
set_option maxRecDepth 100000 in
theorem pk_ok1_n (ho : s.ok) (hf : s.fit) (hl : s.lg = []) (hB : stB s = true) (hn : n < s.th.length) (rs : thRuns (gth s.th n).st = 0) (sd : opSide (gth s.th n).ki = 1) (st : AC Tryz.prog 70 [stT (s.toLg []), .int .i64 n] (stT a)) (ha : a.lg.length = 0) : AC Tryz.prog 9 [stT s, .int .i64 n] (.tuple #[stT (a.toLg []), .int .i64 0]) :=
  ac_path mixed (ext := pkX) (fuel := 9) (n := 6) (orc := [.agg (stN s), vD true, .bool false, .bool false, thT (gth s.th n), .int .i64 0, .nilFunc, thT (gth s.th n), .int .i64 1, stT a, .slice none 0 0]) (an (ac_keepN (neg_no s) ho hf hl) <| an (ac_pcheck (s := s.toLg []) hB (ok_lg ho)) <| an (show decide ((n : Int) < 0) = false by simp) <| an (show decide ((s.th.length : Int) ≤ n) = false by have := hn; simp; omega) <| an (ixT hn) <| an (ac_pruns (t := gth s.th n) rs) <| an (ixT hn) <| an (sd ▸ ac_pside (gth s.th n).ki) <| an st <| an (allK_E a.lg) <| an ha <| trivial) (by kernel_rfl)
set_option maxRecDepth 100000 in
theorem pk_ok2_o (ho : s.ok) (hf : s.fit) (hl : s.lg ≠ []) (hB : stB s = true) (hn : n < s.th.length) (rs : thRuns (gth s.th n).st = 0) (sd : opSide (gth s.th n).ki = 2) (st : AC Tryz.prog 71 [stT (s.toLg []), .int .i64 n] (stT a)) (hm : s.lg.length + a.lg.length ≤ 1000000) : AC Tryz.prog 9 [stT s, .int .i64 n] (.tuple #[stT (a.toLg (s.lg ++ a.lg)), .int .i64 0]) :=
  ac_path mixed (ext := pkX) (fuel := 9) (n := 6) (orc := [.iface 1000004 (.func (.yield 19) #[.agg (stL s), .int .i64 5] #[]), vD true, .bool false, .bool false, thT (gth s.th n), .int .i64 0, .nilFunc, thT (gth s.th n), .int .i64 2, stT a, rowE (s.lg ++ a.lg)]) (an (ao_keepL (neg_no s) ho hf hl) <| an (len_map (f := enT) s.lg) <| an (ac_pcheck hB ho) <| an (show decide ((n : Int) < 0) = false by simp) <| an (show decide ((s.th.length : Int) ≤ n) = false by have := hn; simp; omega) <| an (ixT hn) <| an (ac_pruns (t := gth s.th n) rs) <| an (ixT hn) <| an (sd ▸ ac_pside (gth s.th n).ki) <| an st <| an (allK_E a.lg) <| an (lenE s.lg) <| an (app_more (f := enT) s.lg a.lg hm) <| an (len_map (f := enT) (s.lg ++ a.lg)) trivial) (by kernel_rfl)
set_option maxRecDepth 100000 in
theorem pk_ok2_f (ho : s.ok) (hf : s.fit) (hl : s.lg = []) (hB : stB s = true) (hn : n < s.th.length) (rs : thRuns (gth s.th n).st = 0) (sd : opSide (gth s.th n).ki = 2) (st : AC Tryz.prog 71 [stT (s.toLg []), .int .i64 n] (stT a)) (ha : a.lg ≠ []) (hm : a.lg.length ≤ 1000000) : AC Tryz.prog 9 [stT s, .int .i64 n] (.tuple #[stT a, .int .i64 0]) :=
  ac_path mixed (ext := pkX) (fuel := 9) (n := 6) (orc := [.agg (stN s), vD true, .bool false, .bool false, thT (gth s.th n), .int .i64 0, .nilFunc, thT (gth s.th n), .int .i64 2, stT a, rowE a.lg]) (an (ac_keepN (neg_no s) ho hf hl) <| an (ac_pcheck (s := s.toLg []) hB (ok_lg ho)) <| an (show decide ((n : Int) < 0) = false by simp) <| an (show decide ((s.th.length : Int) ≤ n) = false by have := hn; simp; omega) <| an (ixT hn) <| an (ac_pruns (t := gth s.th n) rs) <| an (ixT hn) <| an (sd ▸ ac_pside (gth s.th n).ki) <| an st <| an (allK_E a.lg) <| an (app_nil (f := enT) ha hm) <| an (len_map (f := enT) a.lg) trivial) (by kernel_rfl)
set_option maxRecDepth 100000 in
theorem pk_ok2_n (ho : s.ok) (hf : s.fit) (hl : s.lg = []) (hB : stB s = true) (hn : n < s.th.length) (rs : thRuns (gth s.th n).st = 0) (sd : opSide (gth s.th n).ki = 2) (st : AC Tryz.prog 71 [stT (s.toLg []), .int .i64 n] (stT a)) (ha : a.lg.length = 0) : AC Tryz.prog 9 [stT s, .int .i64 n] (.tuple #[stT (a.toLg []), .int .i64 0]) :=
  ac_path mixed (ext := pkX) (fuel := 9) (n := 6) (orc := [.agg (stN s), vD true, .bool false, .bool false, thT (gth s.th n), .int .i64 0, .nilFunc, thT (gth s.th n), .int .i64 2, stT a, .slice none 0 0]) (an (ac_keepN (neg_no s) ho hf hl) <| an (ac_pcheck (s := s.toLg []) hB (ok_lg ho)) <| an (show decide ((n : Int) < 0) = false by simp) <| an (show decide ((s.th.length : Int) ≤ n) = false by have := hn; simp; omega) <| an (ixT hn) <| an (ac_pruns (t := gth s.th n) rs) <| an (ixT hn) <| an (sd ▸ ac_pside (gth s.th n).ki) <| an st <| an (allK_E a.lg) <| an ha <| trivial) (by kernel_rfl)
set_option maxRecDepth 100000 in
theorem pk_ok3_o (ho : s.ok) (hf : s.fit) (hl : s.lg ≠ []) (hB : stB s = true) (hn : n < s.th.length) (rs : thRuns (gth s.th n).st = 0) (sd : opSide (gth s.th n).ki = 3) (st : AC Tryz.prog 72 [stT (s.toLg []), .int .i64 n] (stT a)) (hm : s.lg.length + a.lg.length ≤ 1000000) : AC Tryz.prog 9 [stT s, .int .i64 n] (.tuple #[stT (a.toLg (s.lg ++ a.lg)), .int .i64 0]) :=
  ac_path mixed (ext := pkX) (fuel := 9) (n := 6) (orc := [.iface 1000004 (.func (.yield 19) #[.agg (stL s), .int .i64 5] #[]), vD true, .bool false, .bool false, thT (gth s.th n), .int .i64 0, .nilFunc, thT (gth s.th n), .int .i64 3, stT a, rowE (s.lg ++ a.lg)]) (an (ao_keepL (neg_no s) ho hf hl) <| an (len_map (f := enT) s.lg) <| an (ac_pcheck hB ho) <| an (show decide ((n : Int) < 0) = false by simp) <| an (show decide ((s.th.length : Int) ≤ n) = false by have := hn; simp; omega) <| an (ixT hn) <| an (ac_pruns (t := gth s.th n) rs) <| an (ixT hn) <| an (sd ▸ ac_pside (gth s.th n).ki) <| an st <| an (allK_E a.lg) <| an (lenE s.lg) <| an (app_more (f := enT) s.lg a.lg hm) <| an (len_map (f := enT) (s.lg ++ a.lg)) trivial) (by kernel_rfl)
set_option maxRecDepth 100000 in
theorem pk_ok3_f (ho : s.ok) (hf : s.fit) (hl : s.lg = []) (hB : stB s = true) (hn : n < s.th.length) (rs : thRuns (gth s.th n).st = 0) (sd : opSide (gth s.th n).ki = 3) (st : AC Tryz.prog 72 [stT (s.toLg []), .int .i64 n] (stT a)) (ha : a.lg ≠ []) (hm : a.lg.length ≤ 1000000) : AC Tryz.prog 9 [stT s, .int .i64 n] (.tuple #[stT a, .int .i64 0]) :=
  ac_path mixed (ext := pkX) (fuel := 9) (n := 6) (orc := [.agg (stN s), vD true, .bool false, .bool false, thT (gth s.th n), .int .i64 0, .nilFunc, thT (gth s.th n), .int .i64 3, stT a, rowE a.lg]) (an (ac_keepN (neg_no s) ho hf hl) <| an (ac_pcheck (s := s.toLg []) hB (ok_lg ho)) <| an (show decide ((n : Int) < 0) = false by simp) <| an (show decide ((s.th.length : Int) ≤ n) = false by have := hn; simp; omega) <| an (ixT hn) <| an (ac_pruns (t := gth s.th n) rs) <| an (ixT hn) <| an (sd ▸ ac_pside (gth s.th n).ki) <| an st <| an (allK_E a.lg) <| an (app_nil (f := enT) ha hm) <| an (len_map (f := enT) a.lg) trivial) (by kernel_rfl)
set_option maxRecDepth 100000 in
theorem pk_ok3_n (ho : s.ok) (hf : s.fit) (hl : s.lg = []) (hB : stB s = true) (hn : n < s.th.length) (rs : thRuns (gth s.th n).st = 0) (sd : opSide (gth s.th n).ki = 3) (st : AC Tryz.prog 72 [stT (s.toLg []), .int .i64 n] (stT a)) (ha : a.lg.length = 0) : AC Tryz.prog 9 [stT s, .int .i64 n] (.tuple #[stT (a.toLg []), .int .i64 0]) :=
  ac_path mixed (ext := pkX) (fuel := 9) (n := 6) (orc := [.agg (stN s), vD true, .bool false, .bool false, thT (gth s.th n), .int .i64 0, .nilFunc, thT (gth s.th n), .int .i64 3, stT a, .slice none 0 0]) (an (ac_keepN (neg_no s) ho hf hl) <| an (ac_pcheck (s := s.toLg []) hB (ok_lg ho)) <| an (show decide ((n : Int) < 0) = false by simp) <| an (show decide ((s.th.length : Int) ≤ n) = false by have := hn; simp; omega) <| an (ixT hn) <| an (ac_pruns (t := gth s.th n) rs) <| an (ixT hn) <| an (sd ▸ ac_pside (gth s.th n).ki) <| an st <| an (allK_E a.lg) <| an ha <| trivial) (by kernel_rfl)
end
end Go.Proofs.YtcakapmpifnfpaaGreat

/- What the program's step hands back, by contract: Pick, Some. -/
namespace Go.Proofs.YtcakapmpifnfpaaGreat
set_option linter.unusedVariables false
set_option linter.unusedSimpArgs false
open Go.RowKit
theorem lg_self {s : St} (h : s.lg = []) : s.toLg [] = s := by
  obtain ⟨cf, hd, tl, md, sl, sn, rc, fe, fl, ee, el, nw, th, lg⟩ := s
  cases h
  rfl
theorem fit_lg {s : St} (h : s.fit) : (s.toLg []).fit := { h with lg := Nat.zero_le _ }
theorem in_side {s : St} {n : Nat} (hB : stB s = true) (hn : n < s.th.length) (rs : thRuns (gth s.th n).st = 0) : opSide (gth s.th n).ki = 1 ∨ opSide (gth s.th n).ki = 2 ∨ opSide (gth s.th n).ki = 3 := by
  have h2 := runs_not rs
  have h3 := gth_ok hB hn
  have := side_is (gth s.th n).ki
  generalize gth s.th n = t at h2 h3 this
  obtain ⟨st, ki, va, un, pc, re, se, tr, la, rs, go⟩ := t
  rw [thB_iff] at h3
  simp only at h2 this ⊢
  omega
/-- Which step it is. -/
theorem step_at {s : St} {n : Nat} (hB : stB s = true) (ho : s.ok) (hf : s.fit) (hn : n < s.th.length) (rs : thRuns (gth s.th n).st = 0) :
    (opSide (gth s.th n).ki = 1 ∧ AC Tryz.prog 70 [stT (s.toLg []), .int .i64 n] (stT (stepD (s.toLg []) n))) ∨ (opSide (gth s.th n).ki = 2 ∧ AC Tryz.prog 71 [stT (s.toLg []), .int .i64 n] (stT (stepD (s.toLg []) n))) ∨ (opSide (gth s.th n).ki = 3 ∧ AC Tryz.prog 72 [stT (s.toLg []), .int .i64 n] (stT (stepD (s.toLg []) n))) := by
  have o' := ok_lg ho
  have f' := fit_lg hf
  have l' : (s.toLg []).lg.length ≤ 800000 := by show (0 : Nat) ≤ _; omega
  rcases in_side hB hn rs with h | h | h
  · refine .inl ⟨h, ?_⟩
    have e : stepD (s.toLg []) n = sendS (s.toLg []) n := by unfold stepD; exact if_pos h
    rw [e]; exact ac_pstep o' f' l'
  · refine .inr (.inl ⟨h, ?_⟩)
    have e : stepD (s.toLg []) n = recvS (s.toLg []) n := by
      unfold stepD
      rw [if_neg (show ¬ opSide (gth (s.toLg []).th ((n : Nat) : Int).toNat).ki = 1 from fun e => by have e' : opSide (gth s.th n).ki = 1 := e; omega)]
      exact if_pos h
    rw [e]; exact ac_vstep o' f' l'
  · refine .inr (.inr ⟨h, ?_⟩)
    have e : stepD (s.toLg []) n = closeS (s.toLg []) n := by
      unfold stepD
      rw [if_neg (show ¬ opSide (gth (s.toLg []).th ((n : Nat) : Int).toNat).ki = 1 from fun e => by have e' : opSide (gth s.th n).ki = 1 := e; omega)]
      exact if_neg fun e => by have e' : opSide (gth s.th n).ki = 2 := e; omega
    rw [e]; exact ac_cstep o' f' l'
/-- How much a step tells. -/
theorem step_tells {s : St} (hB : stB s = true) (ho : s.ok) (i : Int) : (stepD (s.toLg []) i).lg.length ≤ 1 := by
  have := (stepD_wk (wk_lg (N := s.lg.length) ⟨hB, .of ho, Nat.le_refl _⟩) (by omega) i).l
  omega
theorem stepS_own {s : St} {i : Int} : stepS s i = (stepD (s.toLg []) i).toLg (s.lg ++ (stepD (s.toLg []) i).lg) := rfl
theorem stepS_fst {s : St} {i : Int} (h : s.lg = []) : stepS s i = stepD (s.toLg []) i := by
  unfold stepS; rw [h]; rfl
theorem pickE_cfg {s : St} (h : stB s = false) (i : Int) : pickE s i = 20 := if_pos h
theorem pickE_out {s : St} (h : stB s = true) {i : Int} (hi : i < 0 ∨ (s.th.length : Int) ≤ i) : pickE s i = 123 := by
  unfold pickE; rw [if_neg (by simp [h]), if_pos hi]
theorem pickE_in {s : St} (h : stB s = true) {n : Nat} (hn : n < s.th.length) : pickE s n = thRuns (gth s.th n).st := by
  unfold pickE; rw [if_neg (by simp [h]), if_neg (by omega)]; rfl
theorem pickS_not {s : St} {i e : Int} (h : pickE s i = e) (he : e ≠ 0) : pickS s i = s := pick_no (by rw [h]; exact he)
theorem ac_pick {s : St} {i : Int} (ho : s.ok) (hf : s.fit) (hm : s.lg.length ≤ 900000) : AC Tryz.prog 9 [stT s, .int .i64 i] (.tuple #[stT (pickS s i), .int .i64 (pickE s i)]) := by
  cases hB : stB s
  · rw [pickS_not (pickE_cfg hB i) (by decide), pickE_cfg hB i]
    by_cases hl : s.lg = []
    · have := pk_cfg_n (i := i) ho hf hl hB
      rwa [lg_self hl] at this
    · exact pk_cfg_o ho hf hl hB
  · by_cases h0 : i < 0
    · rw [pickS_not (pickE_out hB (.inl h0)) (by decide), pickE_out hB (.inl h0)]
      by_cases hl : s.lg = []
      · have := pk_low_n (i := i) ho hf hl hB (by simp [h0])
        rwa [lg_self hl] at this
      · exact pk_low_o ho hf hl hB (by simp [h0])
    · by_cases h1 : (s.th.length : Int) ≤ i
      · rw [pickS_not (pickE_out hB (.inr h1)) (by decide), pickE_out hB (.inr h1)]
        by_cases hl : s.lg = []
        · have := pk_high_n (i := i) ho hf hl hB (by simp; omega) (by simp [h1])
          rwa [lg_self hl] at this
        · exact pk_high_o ho hf hl hB (by simp; omega) (by simp [h1])
      · obtain ⟨n, rfl⟩ : ∃ n : Nat, i = n := ⟨i.toNat, by omega⟩
        have hn : n < s.th.length := by omega
        have he := pickE_in hB hn
        by_cases rs : thRuns (gth s.th n).st = 0
        · have he0 : pickE s n = 0 := he.trans rs
          have ht := step_tells hB ho n
          rw [pick_yes he0, he0]
          by_cases hl : s.lg = []
          · rw [stepS_fst hl]
            by_cases ha : (stepD (s.toLg []) n).lg = []
            · have ha' : (stepD (s.toLg []) n).lg.length = 0 := by rw [ha]; rfl
              have e := lg_self ha
              rcases step_at hB ho hf hn rs with ⟨sd, st⟩ | ⟨sd, st⟩ | ⟨sd, st⟩
              · have := pk_ok1_n ho hf hl hB hn rs sd st ha'; rwa [e] at this
              · have := pk_ok2_n ho hf hl hB hn rs sd st ha'; rwa [e] at this
              · have := pk_ok3_n ho hf hl hB hn rs sd st ha'; rwa [e] at this
            · rcases step_at hB ho hf hn rs with ⟨sd, st⟩ | ⟨sd, st⟩ | ⟨sd, st⟩
              · exact pk_ok1_f ho hf hl hB hn rs sd st ha (by omega)
              · exact pk_ok2_f ho hf hl hB hn rs sd st ha (by omega)
              · exact pk_ok3_f ho hf hl hB hn rs sd st ha (by omega)
          · rw [stepS_own]
            rcases step_at hB ho hf hn rs with ⟨sd, st⟩ | ⟨sd, st⟩ | ⟨sd, st⟩
            · exact pk_ok1_o ho hf hl hB hn rs sd st (by omega)
            · exact pk_ok2_o ho hf hl hB hn rs sd st (by omega)
            · exact pk_ok3_o ho hf hl hB hn rs sd st (by omega)
        · rw [pickS_not he rs, he]
          by_cases hl : s.lg = []
          · have := pk_runs_n ho hf hl hB hn (bne_of rs)
            rwa [lg_self hl] at this
          · exact pk_runs_o ho hf hl hB hn (bne_of rs)
/-! ### A round of a loop -/
def hP (s : St) (b : Bool) : List (Option Blk) := match s.lg with
  | [] => hN s b
  | _ => hO s b
theorem hP_nil {s : St} {b : Bool} (h : s.lg = []) : hP s b = hN s b := by simp [hP, h]
theorem hP_own {s : St} {b : Bool} (h : s.lg ≠ []) : hP s b = hO s b := by
  unfold hP; split
  · next e => exact absurd e h
  · rfl
theorem app_ne {l k : List En} (h : l ≠ []) : l ++ k ≠ [] := fun e => h (List.append_eq_nil_iff.1 e).1
section
variable {s : St} {l : List Int} {o m N : Int} {x : Exit} {S : Sg}
theorem so_one {j : Nat} (hj : j < l.length) (hB : stB s = true) (ho : s.ok) (hf : s.fit) (hm : s.lg.length ≤ 900000) (o1 : In64 (o + 1)) (j1 : In64 ((j : Int) + 1)) (hL : LoopP Tryz.prog (loopOf Tryz.prog 13 0) ⟨smT l (o + okN (pickE s l[j])) (j + 1), hP (pickS s l[j]) true⟩ x S) : LoopP Tryz.prog (loopOf Tryz.prog 13 0) ⟨smT l o j, hP s true⟩ x S := by
  have lt : decide ((j : Int) < l.length) = true := by simp; omega
  have ix := ixIl hj
  generalize l[j] = i at ix hL
  have no : ∀ {e : Int}, pickE s i = e → e ≠ 0 → LoopP Tryz.prog (loopOf Tryz.prog 13 0) ⟨smT l o (j + 1), hP s true⟩ x S := fun {e} he hne => by
    have h0 : okN (pickE s i) = 0 := by unfold okN; exact if_neg (by rw [he]; exact hne)
    have e1 : o + ((0 : Nat) : Int) = o := by omega
    rw [pickS_not he hne, h0, e1] at hL
    exact hL
  by_cases h0 : i < 0
  · have hL := no (pickE_out hB (.inl h0)) (by decide)
    by_cases hl : s.lg = []
    · rw [hP_nil hl] at hL ⊢; exact so_low_n lt ix (by simp [h0]) j1 hL
    · rw [hP_own hl] at hL ⊢; exact so_low_o lt ix (by simp [h0]) j1 hL
  · by_cases h1 : (s.th.length : Int) ≤ i
    · have hL := no (pickE_out hB (.inr h1)) (by decide)
      by_cases hl : s.lg = []
      · rw [hP_nil hl] at hL ⊢; exact so_high_n lt ix (by simp; omega) (by simp [h1]) j1 hL
      · rw [hP_own hl] at hL ⊢; exact so_high_o lt ix (by simp; omega) (by simp [h1]) j1 hL
    · obtain ⟨n, rfl⟩ : ∃ n : Nat, i = n := ⟨i.toNat, by omega⟩
      have hn : n < s.th.length := by omega
      have he := pickE_in hB hn
      by_cases rs : thRuns (gth s.th n).st = 0
      · have he0 : pickE s n = 0 := he.trans rs
        have ht := step_tells hB ho n
        have hk : okN (pickE s n) = 1 := by unfold okN; exact if_pos he0
        have e1 : o + ((1 : Nat) : Int) = o + 1 := rfl
        rw [pick_yes he0, hk, e1] at hL
        by_cases hl : s.lg = []
        · rw [hP_nil hl]
          rw [stepS_fst hl] at hL
          by_cases ha : (stepD (s.toLg []) n).lg = []
          · have ha' : (stepD (s.toLg []) n).lg.length = 0 := by rw [ha]; rfl
            rw [hP_nil ha] at hL
            rcases step_at hB ho hf hn rs with ⟨sd, st⟩ | ⟨sd, st⟩ | ⟨sd, st⟩
            · exact so_ok1_n lt ix hn rs sd st ha' o1 j1 hL
            · exact so_ok2_n lt ix hn rs sd st ha' o1 j1 hL
            · exact so_ok3_n lt ix hn rs sd st ha' o1 j1 hL
          · rw [hP_own ha] at hL
            rcases step_at hB ho hf hn rs with ⟨sd, st⟩ | ⟨sd, st⟩ | ⟨sd, st⟩
            · exact so_ok1_f lt ix hn rs sd st ha (by omega) o1 j1 hL
            · exact so_ok2_f lt ix hn rs sd st ha (by omega) o1 j1 hL
            · exact so_ok3_f lt ix hn rs sd st ha (by omega) o1 j1 hL
        · rw [hP_own hl]
          rw [stepS_own, hP_own (show ((stepD (s.toLg []) n).toLg (s.lg ++ (stepD (s.toLg []) n).lg)).lg ≠ [] from app_ne hl)] at hL
          rcases step_at hB ho hf hn rs with ⟨sd, st⟩ | ⟨sd, st⟩ | ⟨sd, st⟩
          · exact so_ok1_o lt ix hn rs sd st (by omega) o1 j1 hL
          · exact so_ok2_o lt ix hn rs sd st (by omega) o1 j1 hL
          · exact so_ok3_o lt ix hn rs sd st (by omega) o1 j1 hL
      · have hL := no he rs
        by_cases hl : s.lg = []
        · rw [hP_nil hl] at hL ⊢; exact so_runs_n lt ix hn (bne_of rs) j1 hL
        · rw [hP_own hl] at hL ⊢; exact so_runs_o lt ix hn (bne_of rs) j1 hL
theorem ri_one {n : Nat} (hN : (n : Int) < N) (hn : n < s.th.length) (hB : stB s = true) (ho : s.ok) (hf : s.fit) (hm : s.lg.length ≤ 900000) (j1 : In64 ((n : Int) + 1)) (hL : LoopP Tryz.prog (loopOf Tryz.prog 15 1) ⟨riT m o N (n + 1), hP (pickS s n) true⟩ x S) : LoopP Tryz.prog (loopOf Tryz.prog 15 1) ⟨riT m o N n, hP s true⟩ x S := by
  have lt : decide ((n : Int) < N) = true := by simp [hN]
  have he := pickE_in hB hn
  by_cases rs : thRuns (gth s.th n).st = 0
  · have he0 : pickE s n = 0 := he.trans rs
    have ht := step_tells hB ho n
    rw [pick_yes he0] at hL
    by_cases hl : s.lg = []
    · rw [hP_nil hl]
      rw [stepS_fst hl] at hL
      by_cases ha : (stepD (s.toLg []) n).lg = []
      · have ha' : (stepD (s.toLg []) n).lg.length = 0 := by rw [ha]; rfl
        rw [hP_nil ha] at hL
        rcases step_at hB ho hf hn rs with ⟨sd, st⟩ | ⟨sd, st⟩ | ⟨sd, st⟩
        · exact ri_ok1_n lt hn rs sd st ha' j1 hL
        · exact ri_ok2_n lt hn rs sd st ha' j1 hL
        · exact ri_ok3_n lt hn rs sd st ha' j1 hL
      · rw [hP_own ha] at hL
        rcases step_at hB ho hf hn rs with ⟨sd, st⟩ | ⟨sd, st⟩ | ⟨sd, st⟩
        · exact ri_ok1_f lt hn rs sd st ha (by omega) j1 hL
        · exact ri_ok2_f lt hn rs sd st ha (by omega) j1 hL
        · exact ri_ok3_f lt hn rs sd st ha (by omega) j1 hL
    · rw [hP_own hl]
      rw [stepS_own, hP_own (show ((stepD (s.toLg []) n).toLg (s.lg ++ (stepD (s.toLg []) n).lg)).lg ≠ [] from app_ne hl)] at hL
      rcases step_at hB ho hf hn rs with ⟨sd, st⟩ | ⟨sd, st⟩ | ⟨sd, st⟩
      · exact ri_ok1_o lt hn rs sd st (by omega) j1 hL
      · exact ri_ok2_o lt hn rs sd st (by omega) j1 hL
      · exact ri_ok3_o lt hn rs sd st (by omega) j1 hL
  · rw [pickS_not he rs] at hL
    by_cases hl : s.lg = []
    · rw [hP_nil hl] at hL ⊢; exact ro_runs_n lt hn (bne_of rs) j1 hL
    · rw [hP_own hl] at hL ⊢; exact ro_runs_o lt hn (bne_of rs) j1 hL
end
end Go.Proofs.YtcakapmpifnfpaaGreat

/- What the program's step hands back, by contract: Some; who is active; Quiet. -/
namespace Go.Proofs.YtcakapmpifnfpaaGreat
set_option linter.unusedVariables false
set_option linter.unusedSimpArgs false
open Go.RowKit
/-! ### Some -/
section
variable {s u : St} {l : List Int} {o j : Int} {b : Bool} (ho : s.ok) (hf : s.fit) (hB : stB s = b)
include ho hf hB
set_option maxRecDepth 100000 in
theorem so_run_o (hl : s.lg ≠ []) (hL : LoopP Tryz.prog (loopOf Tryz.prog 13 0) ⟨smT l 0 0, (hO s b)⟩ (.exit 0) ⟨smT l o j, (hO u b)⟩) : AC Tryz.prog 13 [stT s, rowI l] (.tuple #[stT u, .int .i64 o]) :=
  ac_path mixed (ext := pkX) (fuel := 9) (n := 6) (orc := [.iface 1000004 (.func (.yield 19) #[.agg (stL s), .int .i64 5] #[]), vD b, oL [5, 1, 6, 7, 8, 9, 10, 11, 4] [4, 6, 7, 8, 14, 15, 16] 0 (smTl l o j) (hO u b)])
    (an (ao_keepL (neg_no s) ho hf hl) <| an (len_map (f := enT) s.lg) <| an (ac_pcheck hB ho) <| an hL <| an (len_map (f := enT) u.lg) trivial) (by kernel_rfl)
set_option maxRecDepth 100000 in
theorem so_run_n (hl : s.lg = []) (hL : LoopP Tryz.prog (loopOf Tryz.prog 13 0) ⟨smT l 0 0, (hN s b)⟩ (.exit 0) ⟨smT l o j, (hN u b)⟩) : AC Tryz.prog 13 [stT s, rowI l] (.tuple #[stT (u.toLg []), .int .i64 o]) :=
  ac_path mixed (ext := pkX) (fuel := 9) (n := 6) (orc := [.agg (stN s), vD b, oL [4, 1, 5, 6, 7, 8, 9, 10] [4, 6, 7, 8, 14, 15, 16] 0 (smTl l o j) (hN u b)])
    (an (ac_keepN (neg_no s) ho hf hl) <| an (ac_pcheck (s := s.toLg []) hB (ok_lg ho)) <| an hL trivial) (by kernel_rfl)
set_option maxRecDepth 100000 in
theorem so_run_f (hl : s.lg = []) (hL : LoopP Tryz.prog (loopOf Tryz.prog 13 0) ⟨smT l 0 0, (hN s b)⟩ (.exit 0) ⟨smT l o j, (hO u b)⟩) : AC Tryz.prog 13 [stT s, rowI l] (.tuple #[stT u, .int .i64 o]) :=
  ac_path mixed (ext := pkX) (fuel := 9) (n := 6) (orc := [.agg (stN s), vD b, oL [4, 1, 5, 6, 7, 8, 9, 10] [4, 6, 7, 8, 14, 15, 16] 0 (smTl l o j) (hO u b)])
    (an (ac_keepN (neg_no s) ho hf hl) <| an (ac_pcheck (s := s.toLg []) hB (ok_lg ho)) <| an hL <| an (len_map (f := enT) u.lg) trivial) (by kernel_rfl)
theorem so_run (hg : s.lg ≠ [] → u.lg ≠ []) (hL : LoopP Tryz.prog (loopOf Tryz.prog 13 0) ⟨smT l 0 0, (hP s b)⟩ (.exit 0) ⟨smT l o j, (hP u b)⟩) : AC Tryz.prog 13 [stT s, rowI l] (.tuple #[stT u, .int .i64 o]) := by
  by_cases hl : s.lg = []
  · rw [hP_nil hl] at hL
    by_cases hu : u.lg = []
    · rw [hP_nil hu] at hL
      have := so_run_n ho hf hB hl hL
      rwa [lg_self hu] at this
    · rw [hP_own hu] at hL; exact so_run_f ho hf hB hl hL
  · rw [hP_own hl, hP_own (hg hl)] at hL
    exact so_run_o ho hf hB hl hL
end
theorem pick_lg {s : St} (h : s.lg ≠ []) (i : Int) : (pickS s i).lg ≠ [] := by
  unfold pickS; split
  · exact app_ne h
  · exact h
theorem some_lg : ∀ (l : List Int) {s : St}, s.lg ≠ [] → (someS s l).1.lg ≠ []
  | [], _, h => h
  | i :: l, _, h => some_lg l (pick_lg h i)
theorem so_lp {l : List Int} (hm : l.length ≤ 100000) : ∀ (k j : Nat) {s : St} {o : Int}, l.length - j = k → j ≤ l.length → Wk s (200000 - k) → 0 ≤ o → o ≤ j → LoopP Tryz.prog (loopOf Tryz.prog 13 0) ⟨smT l o j, hP s true⟩ (.exit 0) ⟨smT l (o + (someS s (l.drop j)).2) l.length, hP (someS s (l.drop j)).1 true⟩
  | 0, j, s, o, hk, hj, w, _, _ => by
    have : j = l.length := by omega
    subst this
    rw [List.drop_length]
    show LoopP Tryz.prog (loopOf Tryz.prog 13 0) ⟨smT l o l.length, hP s true⟩ (.exit 0) ⟨smT l (o + ((0 : Nat) : Int)) l.length, hP s true⟩
    rw [show o + ((0 : Nat) : Int) = o by omega]
    have lt : decide ((l.length : Int) < l.length) = false := by simp
    by_cases hl : s.lg = []
    · rw [hP_nil hl]; exact so_end_n lt
    · rw [hP_own hl]; exact so_end_o lt
  | k + 1, j, s, o, hk, hj, w, h0, h1 => by
    have hj' : j < l.length := by omega
    have hw := w.l
    have w' := pick_wk w l[j]
    have hn : okN (pickE s l[j]) ≤ 1 := by unfold okN; split <;> omega
    have ih := so_lp hm k (j + 1) (s := pickS s l[j]) (o := o + okN (pickE s l[j])) (by omega) (by omega) ⟨w'.b, w'.v, by have := w'.l; omega⟩ (by omega) (by omega)
    rw [List.drop_eq_getElem_cons hj']
    have e : o + ((someS s (l[j] :: l.drop (j + 1))).2 : Int) = o + (okN (pickE s l[j]) : Int) + ((someS (pickS s l[j]) (l.drop (j + 1))).2 : Int) := by
      have : (someS s (l[j] :: l.drop (j + 1))).2 = (someS (pickS s l[j]) (l.drop (j + 1))).2 + okN (pickE s l[j]) := rfl
      rw [this]; omega
    rw [e]
    exact so_one hj' w.b (w.ok (by omega)) (w.fit (by omega)) (by omega) (by constructor <;> omega) (by constructor <;> omega) ih
theorem so_cfg {l : List Int} {s : St} (hm : l.length ≤ 100000) : ∀ (k j : Nat), l.length - j = k → j ≤ l.length → LoopP Tryz.prog (loopOf Tryz.prog 13 0) ⟨smT l 0 j, hP s false⟩ (.exit 0) ⟨smT l 0 l.length, hP s false⟩
  | 0, j, hk, hj => by
    have : j = l.length := by omega
    subst this
    have lt : decide ((l.length : Int) < l.length) = false := by simp
    by_cases hl : s.lg = []
    · rw [hP_nil hl]; exact so_end_n lt
    · rw [hP_own hl]; exact so_end_o lt
  | k + 1, j, hk, hj => by
    have hj' : j < l.length := by omega
    have ih := so_cfg (s := s) hm k (j + 1) (by omega) (by omega)
    have lt : decide ((j : Int) < l.length) = true := by simp; omega
    have j1 : In64 ((j : Int) + 1) := by constructor <;> omega
    by_cases hl : s.lg = []
    · rw [hP_nil hl] at ih ⊢; exact so_cfg_n lt (ixIl hj') j1 ih
    · rw [hP_own hl] at ih ⊢; exact so_cfg_o lt (ixIl hj') j1 ih
theorem ac_some {s : St} {l : List Int} (ho : s.ok) (hf : s.fit) (hl : s.lg.length ≤ 90000) (hm : l.length ≤ 100000) : AC Tryz.prog 13 [stT s, rowI l] (.tuple #[stT (someS s l).1, .int .i64 (someS s l).2]) := by
  cases hB : stB s
  · rw [some_no fun i _ => by rw [pickE_cfg hB i]; decide]
    exact so_run ho hf hB (fun h => h) (so_cfg hm l.length 0 rfl (by omega))
  · have := so_lp hm l.length 0 (s := s) (o := 0) rfl (by omega) ⟨hB, .of ho, by omega⟩ (by omega) (by omega)
    rw [List.drop_zero, Int.zero_add] at this
    exact so_run ho hf hB (some_lg l) this
/-! ### Who is active -/
def actX : List FuncId := [11, 56]
def actT (v : Value) (N k : Int) : List (Nat × Value) := [(3, .func (.func 55) #[] #[pt 2, pt 1]), (4, v), (9, .int .i64 N), (10, .int .i64 k)]
def actH (s : St) (b : Bool) : List (Option Blk) := [bSt s (rowE s.lg), b1P (pt 0), b1P (vD b)]
def bIn (l : List Int) : Option Blk := some ⟨true, true, 1, l.length, l.map (.int .i64 ·)⟩
def actVO (l : List Int) : Value := .slice (some ⟨3, 0, some 0⟩) l.length 0
def aN (s : St) (b : Bool) (N k : Int) : Sg := ⟨mkT 23 (actT lgN N k), actH s b⟩
def aO (s : St) (b : Bool) (l : List Int) (N k : Int) : Sg := ⟨mkT 23 (actT (actVO l) N k), actH s b ++ [bIn l]⟩
theorem allK_1i (n : Int) : AllK 1 [.int .i64 n] := allK_I [n]
section
variable {s : St} {b : Bool} {N : Int} {n : Nat} {l : List Int} {S : Sg} {x : Exit}
section
variable (lt : decide ((n : Int) < N) = true) (j1 : In64 ((n : Int) + 1))
include lt j1
set_option maxRecDepth 100000 in
theorem aa_cfg_n (hL : LoopP Tryz.prog (loopOf Tryz.prog 14 0) (aN s false N (n + 1)) x S) : LoopP Tryz.prog (loopOf Tryz.prog 14 0) (aN s false N n) x S := loop_more mixed (fuel := 9) (n := 6) (keep := [3, 4, 9, 10]) (ext := actX) (im := [0, 1, 2]) (orc := [.bool true, .nilFunc]) (an lt <| an j1 trivial) (by kernel_rfl) hL
set_option maxRecDepth 100000 in
theorem aa_runs_n (hn : n < s.th.length) (rs : (thRuns (gth s.th n).st == 0) = false) (hL : LoopP Tryz.prog (loopOf Tryz.prog 14 0) (aN s true N (n + 1)) x S) : LoopP Tryz.prog (loopOf Tryz.prog 14 0) (aN s true N n) x S := loop_more mixed (fuel := 9) (n := 6) (keep := [3, 4, 9, 10]) (ext := actX) (im := [0, 1, 2]) (orc := [.bool true, .bool false, .bool false, thT (gth s.th n), .int .i64 (thRuns (gth s.th n).st), .bool false]) (an lt <| an (show decide ((n : Int) < 0) = false by simp) <| an (show decide ((s.th.length : Int) ≤ n) = false by have := hn; simp; omega) <| an (ixT hn) <| an (ac_pruns (t := gth s.th n) rfl) <| an rs <| an j1 trivial) (by kernel_rfl) hL
set_option maxRecDepth 100000 in
theorem aa_runs_o (hn : n < s.th.length) (rs : (thRuns (gth s.th n).st == 0) = false) (hL : LoopP Tryz.prog (loopOf Tryz.prog 14 0) (aO s true l N (n + 1)) x S) : LoopP Tryz.prog (loopOf Tryz.prog 14 0) (aO s true l N n) x S := loop_more mixed (fuel := 9) (n := 6) (keep := [3, 4, 9, 10]) (ext := actX) (im := [0, 1, 2, 3]) (orc := [.bool true, .bool false, .bool false, thT (gth s.th n), .int .i64 (thRuns (gth s.th n).st), .bool false]) (an lt <| an (show decide ((n : Int) < 0) = false by simp) <| an (show decide ((s.th.length : Int) ≤ n) = false by have := hn; simp; omega) <| an (ixT hn) <| an (ac_pruns (t := gth s.th n) rfl) <| an rs <| an j1 trivial) (by kernel_rfl) hL
set_option maxRecDepth 100000 in
theorem aa_ok_n (hn : n < s.th.length) (rs : thRuns (gth s.th n).st = 0) (hL : LoopP Tryz.prog (loopOf Tryz.prog 14 0) (aO s true ([] ++ [(n : Int)]) N (n + 1)) x S) : LoopP Tryz.prog (loopOf Tryz.prog 14 0) (aN s true N n) x S := loop_more mixed (fuel := 9) (n := 6) (keep := [3, 4, 9, 10]) (ext := actX) (im := [0, 1, 2, 4]) (orc := [.bool true, .bool false, .bool false, thT (gth s.th n), .int .i64 0, .nilFunc, rowI ([] ++ [(n : Int)])]) (an lt <| an (show decide ((n : Int) < 0) = false by simp) <| an (show decide ((s.th.length : Int) ≤ n) = false by have := hn; simp; omega) <| an (ixT hn) <| an (ac_pruns (t := gth s.th n) rs) <| an (rfl : (1 : Nat) = 1) <| an (allK_1i n) <| an (app_fst (f := (Value.int .i64 ·)) (n : Int)) <| an j1 trivial) (by kernel_rfl) hL
set_option maxRecDepth 100000 in
theorem aa_ok_o (hn : n < s.th.length) (hm : l.length ≤ 1000000) (rs : thRuns (gth s.th n).st = 0) (hL : LoopP Tryz.prog (loopOf Tryz.prog 14 0) (aO s true (l ++ [(n : Int)]) N (n + 1)) x S) : LoopP Tryz.prog (loopOf Tryz.prog 14 0) (aO s true l N n) x S := loop_more mixed (fuel := 9) (n := 6) (keep := [3, 4, 9, 10]) (ext := actX) (im := [0, 1, 2, 5]) (orc := [.bool true, .bool false, .bool false, thT (gth s.th n), .int .i64 0, .nilFunc, rowI (l ++ [(n : Int)])]) (an lt <| an (show decide ((n : Int) < 0) = false by simp) <| an (show decide ((s.th.length : Int) ≤ n) = false by have := hn; simp; omega) <| an (ixT hn) <| an (ac_pruns (t := gth s.th n) rs) <| an (rfl : (1 : Nat) = 1) <| an (allK_1i n) <| an (show l.length = (l.map (Value.int .i64 ·)).length by simp) <| an (app_one (f := (Value.int .i64 ·)) l (n : Int) hm) <| an j1 trivial) (by kernel_rfl) hL
end
set_option maxRecDepth 100000 in
theorem aa_end_n (lt : decide ((n : Int) < N) = false) : LoopP Tryz.prog (loopOf Tryz.prog 14 0) (aN s b N n) (.exit 0) (aN s b N n) := loop_end mixed (fuel := 9) (n := 6) (keep := [3, 4, 9, 10]) (ext := actX) (im := [0, 1, 2]) (orc := [.bool false]) (an lt trivial) (by intro e; cases e) (by kernel_rfl)
set_option maxRecDepth 100000 in
theorem aa_end_o (lt : decide ((n : Int) < N) = false) : LoopP Tryz.prog (loopOf Tryz.prog 14 0) (aO s b l N n) (.exit 0) (aO s b l N n) := loop_end mixed (fuel := 9) (n := 6) (keep := [3, 4, 9, 10]) (ext := actX) (im := [0, 1, 2, 3]) (orc := [.bool false]) (an lt trivial) (by intro e; cases e) (by kernel_rfl)
set_option maxRecDepth 100000 in
theorem aa_run_n (ho : s.ok) (hB : stB s = b) (hL : LoopP Tryz.prog (loopOf Tryz.prog 14 0) (aN s b s.th.length 0) (.exit 0) (aN s b s.th.length s.th.length)) : AC Tryz.prog 14 [stT s] (rowI []) := ac_path mixed (ext := actX) (fuel := 9) (n := 6) (orc := [vD b, oL [0, 1, 2] [3, 4, 9, 10] 0 (actT lgN s.th.length s.th.length) (actH s b)]) (an (ac_pcheck hB ho) <| an hL trivial) (by kernel_rfl)
set_option maxRecDepth 100000 in
theorem aa_run_o (ho : s.ok) (hB : stB s = b) (hL : LoopP Tryz.prog (loopOf Tryz.prog 14 0) (aN s b s.th.length 0) (.exit 0) (aO s b l s.th.length s.th.length)) : AC Tryz.prog 14 [stT s] (rowI l) := ac_path mixed (ext := actX) (fuel := 9) (n := 6) (orc := [vD b, oL [0, 1, 2] [3, 4, 9, 10] 0 (actT (actVO l) s.th.length s.th.length) (actH s b ++ [bIn l])]) (an (ac_pcheck hB ho) <| an hL <| an (len_map (f := (Value.int .i64 ·)) l) trivial) (by kernel_rfl)
end
/-- Who is active among the first n. -/
def actP (s : St) (n : Nat) : List Int := ((List.range n).filter (actB s)).map fun (k : Nat) => (k : Int)
theorem actP_succ (s : St) (n : Nat) : actP s (n + 1) = if actB s n = true then actP s n ++ [(n : Int)] else actP s n := by
  unfold actP
  rw [List.range_succ, List.filter_append, List.map_append]
  split
  · next h => simp [h]
  · next h => simp [h]
theorem actP_le (s : St) (n : Nat) : (actP s n).length ≤ n := by
  unfold actP
  rw [List.length_map]
  exact Nat.le_trans (List.length_filter_le _ _) (by simp)
/-- The head, whatever the list. -/
def aP (s : St) (l : List Int) (N k : Int) : Sg := match l with
  | [] => aN s true N k
  | _ => aO s true l N k
theorem aP_own {s : St} {l : List Int} (h : l ≠ []) (N k : Int) : aP s l N k = aO s true l N k := by
  unfold aP; split
  · exact absurd rfl h
  · rfl
theorem act_is {s : St} (hB : stB s = true) {n : Nat} (hn : n < s.th.length) : actB s n = true ↔ thRuns (gth s.th n).st = 0 := by
  have := st_of hB hn
  unfold actB thRuns
  constructor
  · intro h; simp at h; simp [h]
  · intro h
    have : (gth s.th n).st = 1 := by
      rcases this with e | e | e <;> simp [e] at h ⊢
    simp [this]
theorem aa_lp {s : St} (hB : stB s = true) : ∀ (k n : Nat), s.th.length - n = k → n ≤ s.th.length → LoopP Tryz.prog (loopOf Tryz.prog 14 0) (aP s (actP s n) s.th.length n) (.exit 0) (aP s (actP s s.th.length) s.th.length s.th.length)
  | 0, n, hk, hn => by
    have : n = s.th.length := by omega
    rw [← this]
    have lt : decide ((n : Int) < n) = false := by simp
    generalize actP s n = l
    cases l with
    | nil => exact aa_end_n lt
    | cons a l => exact aa_end_o lt
  | k + 1, n, hk, hn => by
    have hn' : n < s.th.length := by omega
    have ih := aa_lp hB k (n + 1) (by omega) (by omega)
    have hth := (th_len hB).2.2
    have lt : decide ((n : Int) < s.th.length) = true := by simp; omega
    have j1 : In64 ((n : Int) + 1) := by constructor <;> omega
    have hle := actP_le s n
    rw [actP_succ] at ih
    generalize actP s n = l at ih hle ⊢
    by_cases ha : actB s n = true
    · rw [if_pos ha, aP_own (by simp)] at ih
      have rs := (act_is hB hn').1 ha
      cases l with
      | nil => exact aa_ok_n lt j1 hn' rs ih
      | cons a l => exact aa_ok_o lt j1 hn' (by omega) rs ih
    · rw [if_neg ha] at ih
      have rs : thRuns (gth s.th n).st ≠ 0 := fun e => ha ((act_is hB hn').2 e)
      cases l with
      | nil => exact aa_runs_n lt j1 hn' (bne_of rs) ih
      | cons a l => exact aa_runs_o lt j1 hn' (bne_of rs) ih
theorem aa_cfg {s : St} {N : Nat} (hN : N ≤ maxLen) : ∀ (k n : Nat), N - n = k → n ≤ N → LoopP Tryz.prog (loopOf Tryz.prog 14 0) (aN s false N n) (.exit 0) (aN s false N N)
  | 0, n, hk, hn => by
    have : n = N := by omega
    rw [← this]
    exact aa_end_n (by simp)
  | k + 1, n, hk, hn => by
    have ih := aa_cfg (s := s) hN k (n + 1) (by omega) (by omega)
    exact aa_cfg_n (by simp; omega) (by have : N ≤ 9223372036854775807 := hN; constructor <;> omega) ih
theorem ac_active {s : St} (ho : s.ok) : AC Tryz.prog 14 [stT s] (rowI (actL s)) := by
  cases hB : stB s
  · have e : actL s = [] := by unfold actL; rw [if_neg (by simp [hB])]
    rw [e]
    exact aa_run_n ho hB (aa_cfg ho.th.2 s.th.length 0 (by omega) (by omega))
  · have e : actL s = actP s s.th.length := by unfold actL; rw [if_pos hB]; rfl
    rw [e]
    have := aa_lp hB s.th.length 0 (by omega) (by omega)
    have e0 : actP s 0 = [] := rfl
    rw [e0] at this
    generalize actP s s.th.length = l at this
    cases l with
    | nil => exact aa_run_n ho hB this
    | cons a l => exact aa_run_o ho hB this
theorem quiet_is (s : St) : (((actL s).length : Int) == 0) = quietB s := by
  unfold quietB
  cases actL s with
  | nil => rfl
  | cons a l => simp; omega
set_option maxRecDepth 100000 in
theorem ac_quiet {s : St} (ho : s.ok) : AC Tryz.prog 19 [stT s] (.bool (quietB s)) := by
  rw [← quiet_is]
  exact ac_path mixed (ext := [14]) (fuel := 9) (n := 6) (orc := [rowI (actL s)]) (an (ac_active ho) trivial) (by kernel_rfl)
end Go.Proofs.YtcakapmpifnfpaaGreat

/- What the program's step hands back, by contract: Rounds. -/
namespace Go.Proofs.YtcakapmpifnfpaaGreat
set_option linter.unusedVariables false
set_option linter.unusedSimpArgs false
open Go.RowKit
def roX : List FuncId := [40, 11, 19]
section
variable {s u : St} {b : Bool} {m o : Int} {S : Sg} {x : Exit}
set_option maxRecDepth 100000 in
theorem ro_endm_o (lt : decide (o < min m 200) = false) : LoopP Tryz.prog (loopOf Tryz.prog 15 0) ⟨roT m o, hO s b⟩ (.exit 0) ⟨roT m o, hO s b⟩ := loop_end mixed (fuel := 9) (n := 6) (keep := [1, 4, 6, 7, 8]) (ext := roX) (im := [0, 1, 2, 3, 4, 5, 6, 7, 8]) (orc := [.bool false]) (an lt trivial) (by intro e; cases e) (by kernel_rfl)
set_option maxRecDepth 100000 in
theorem ro_endm_n (lt : decide (o < min m 200) = false) : LoopP Tryz.prog (loopOf Tryz.prog 15 0) ⟨roT m o, hN s b⟩ (.exit 0) ⟨roT m o, hN s b⟩ := loop_end mixed (fuel := 9) (n := 6) (keep := [1, 4, 6, 7, 8]) (ext := roX) (im := [0, 1, 2, 3, 4, 5, 6, 7]) (orc := [.bool false]) (an lt trivial) (by intro e; cases e) (by kernel_rfl)
set_option maxRecDepth 100000 in
theorem ro_endq_o (lt : decide (o < min m 200) = true) (hq : AC Tryz.prog 19 [stT s] (.bool true)) : LoopP Tryz.prog (loopOf Tryz.prog 15 0) ⟨roT m o, hO s b⟩ (.exit 0) ⟨roT m o, hO s b⟩ := loop_end mixed (fuel := 9) (n := 6) (keep := [1, 4, 6, 7, 8]) (ext := roX) (im := [0, 1, 2, 3, 4, 5, 6, 7, 8]) (orc := [.bool true, vD true]) (an lt <| an (len_map (f := enT) s.lg) <| an hq trivial) (by intro e; cases e) (by kernel_rfl)
set_option maxRecDepth 100000 in
theorem ro_endq_n (lt : decide (o < min m 200) = true) (hq : AC Tryz.prog 19 [stT (s.toLg [])] (.bool true)) : LoopP Tryz.prog (loopOf Tryz.prog 15 0) ⟨roT m o, hN s b⟩ (.exit 0) ⟨roT m o, hN s b⟩ := loop_end mixed (fuel := 9) (n := 6) (keep := [1, 4, 6, 7, 8]) (ext := roX) (im := [0, 1, 2, 3, 4, 5, 6, 7]) (orc := [.bool true, vD true]) (an lt <| an hq trivial) (by intro e; cases e) (by kernel_rfl)
variable (lt : decide (o < min m 200) = true) (o1 : In64 (o + 1))
include lt o1
set_option maxRecDepth 100000 in
theorem ro_more_o (hq : AC Tryz.prog 19 [stT s] (.bool false)) (hI : LoopP Tryz.prog (loopOf Tryz.prog 15 1) ⟨riT m o s.th.length 0, (hO s b)⟩ (.exit 2) ⟨riT m o s.th.length s.th.length, (hO u b)⟩) (hL : LoopP Tryz.prog (loopOf Tryz.prog 15 0) ⟨roT m (o + 1), hO u b⟩ x S) : LoopP Tryz.prog (loopOf Tryz.prog 15 0) ⟨roT m o, hO s b⟩ x S :=
  loop_more mixed (fuel := 9) (n := 6) (keep := [1, 4, 6, 7, 8]) (ext := roX) (im := [9, 10, 11, 12, 13, 14, 15, 16, 17]) (orc := [.bool true, vD false, oL [0, 1, 2, 3, 4, 5, 6, 7, 8] [1, 4, 6, 7, 8, 24, 25] 2 (riTl m o s.th.length s.th.length) (hO u b)]) (an lt <| an (len_map (f := enT) s.lg) <| an hq <| an hI <| an o1 trivial) (by kernel_rfl) hL
set_option maxRecDepth 100000 in
theorem ro_more_f (hq : AC Tryz.prog 19 [stT (s.toLg [])] (.bool false)) (hI : LoopP Tryz.prog (loopOf Tryz.prog 15 1) ⟨riT m o s.th.length 0, (hN s b)⟩ (.exit 2) ⟨riT m o s.th.length s.th.length, (hO u b)⟩) (hL : LoopP Tryz.prog (loopOf Tryz.prog 15 0) ⟨roT m (o + 1), hO u b⟩ x S) : LoopP Tryz.prog (loopOf Tryz.prog 15 0) ⟨roT m o, hN s b⟩ x S :=
  loop_more mixed (fuel := 9) (n := 6) (keep := [1, 4, 6, 7, 8]) (ext := roX) (im := [8, 9, 10, 11, 12, 13, 14, 15, 16]) (orc := [.bool true, vD false, oL [0, 1, 2, 3, 4, 5, 6, 7] [1, 4, 6, 7, 8, 24, 25] 2 (riTl m o s.th.length s.th.length) (hO u b)]) (an lt <| an hq <| an hI <| an o1 trivial) (by kernel_rfl) hL
set_option maxRecDepth 100000 in
theorem ro_more_n (hq : AC Tryz.prog 19 [stT (s.toLg [])] (.bool false)) (hI : LoopP Tryz.prog (loopOf Tryz.prog 15 1) ⟨riT m o s.th.length 0, (hN s b)⟩ (.exit 2) ⟨riT m o s.th.length s.th.length, (hN u b)⟩) (hL : LoopP Tryz.prog (loopOf Tryz.prog 15 0) ⟨roT m (o + 1), hN u b⟩ x S) : LoopP Tryz.prog (loopOf Tryz.prog 15 0) ⟨roT m o, hN s b⟩ x S :=
  loop_more mixed (fuel := 9) (n := 6) (keep := [1, 4, 6, 7, 8]) (ext := roX) (im := [8, 9, 10, 11, 12, 13, 14, 15]) (orc := [.bool true, vD false, oL [0, 1, 2, 3, 4, 5, 6, 7] [1, 4, 6, 7, 8, 24, 25] 2 (riTl m o s.th.length s.th.length) (hN u b)]) (an lt <| an hq <| an hI <| an o1 trivial) (by kernel_rfl) hL
end
section
variable {s u : St} {b : Bool} {m o : Int}
theorem ro_end (ho : s.ok) (h : o < min m 200 → quietB s = true) : LoopP Tryz.prog (loopOf Tryz.prog 15 0) ⟨roT m o, hP s b⟩ (.exit 0) ⟨roT m o, hP s b⟩ := by
  by_cases hm : o < min m 200
  · have lt : decide (o < min m 200) = true := by simp only [hm, decide_true]
    have hq := ac_quiet ho
    rw [h hm] at hq
    by_cases hl : s.lg = []
    · rw [hP_nil hl]
      refine ro_endq_n lt ?_
      rw [lg_self hl]; exact hq
    · rw [hP_own hl]; exact ro_endq_o lt hq
  · have lt : decide (o < min m 200) = false := by simp only [hm, decide_false]
    by_cases hl : s.lg = []
    · rw [hP_nil hl]; exact ro_endm_n lt
    · rw [hP_own hl]; exact ro_endm_o lt
theorem ro_more {S : Sg} {x : Exit} (ho : s.ok) (hm : o < min m 200) (h : quietB s = false) (o1 : In64 (o + 1)) (hg : s.lg ≠ [] → u.lg ≠ []) (hI : LoopP Tryz.prog (loopOf Tryz.prog 15 1) ⟨riT m o s.th.length 0, (hP s b)⟩ (.exit 2) ⟨riT m o s.th.length s.th.length, (hP u b)⟩) (hL : LoopP Tryz.prog (loopOf Tryz.prog 15 0) ⟨roT m (o + 1), hP u b⟩ x S) : LoopP Tryz.prog (loopOf Tryz.prog 15 0) ⟨roT m o, hP s b⟩ x S := by
  have lt : decide (o < min m 200) = true := by simp only [hm, decide_true]
  have hq := ac_quiet ho
  rw [h] at hq
  by_cases hl : s.lg = []
  · rw [hP_nil hl] at hI ⊢
    rw [← lg_self hl] at hq
    by_cases hu : u.lg = []
    · rw [hP_nil hu] at hI hL; exact ro_more_n lt o1 hq hI hL
    · rw [hP_own hu] at hI hL; exact ro_more_f lt o1 hq hI hL
  · rw [hP_own hl] at hI ⊢
    rw [hP_own (hg hl)] at hI hL
    exact ro_more_o lt o1 hq hI hL
end
/-! ### A round of all threads -/
def idx (n k : Nat) : List Int := (List.range' n k).map fun (i : Nat) => (i : Int)
theorem allI_is (n : Nat) : allI n = idx 0 n := by unfold allI idx; rw [List.range_eq_range']
theorem ri_lp {N : Nat} {m o : Int} : ∀ (k n : Nat) {s : St}, n + k = N → s.th.length = N → Wk s (800000 - k) → LoopP Tryz.prog (loopOf Tryz.prog 15 1) ⟨riT m o N n, hP s true⟩ (.exit 2) ⟨riT m o N N, hP (someS s (idx n k)).1 true⟩
  | 0, n, s, hk, hn, w => by
    have : n = N := by omega
    subst this
    have lt : decide ((n : Int) < n) = false := by simp
    show LoopP Tryz.prog (loopOf Tryz.prog 15 1) ⟨riT m o n n, hP s true⟩ (.exit 2) ⟨riT m o n n, hP s true⟩
    by_cases hl : s.lg = []
    · rw [hP_nil hl]; exact ri_end_n lt
    · rw [hP_own hl]; exact ri_end_o lt
  | k + 1, n, s, hk, hn, w => by
    have hth := (th_len w.b).2.2
    have hw := w.l
    have w' := pick_wk w n
    have ih := ri_lp (m := m) (o := o) k (n + 1) (s := pickS s n) (by omega) ((pick_len s n).trans hn) ⟨w'.b, w'.v, by have := w'.l; omega⟩
    have e : idx n (k + 1) = (n : Int) :: idx (n + 1) k := rfl
    rw [e]
    exact ri_one (by omega) (by omega) w.b (w.ok (by omega)) (w.fit (by omega)) (by omega) (by constructor <;> omega) ih
theorem round_wk {s : St} {N : Nat} (w : Wk s N) : Wk (roundS s) (N + 16) := by
  have h := some_wk (allI s.th.length) w
  have hth := (th_len w.b).2.2
  have hl : (allI s.th.length).length = s.th.length := by simp [allI]
  exact ⟨h.b, h.v, by have := h.l; show (someS s (allI s.th.length)).1.lg.length ≤ _; omega⟩
theorem quiet_no {s : St} (h : stB s = false) : quietB s = true := by
  unfold quietB actL; rw [if_neg (by simp [h])]; rfl
theorem rounds_quiet {s : St} (h : quietB s = true) : ∀ k, roundsS s k = (s, 0)
  | 0 => rfl
  | k + 1 => by simp [roundsS, h]
theorem rounds_lg : ∀ (k : Nat) {s : St}, s.lg ≠ [] → (roundsS s k).1.lg ≠ []
  | 0, _, h => h
  | k + 1, s, h => by
    unfold roundsS; split
    · exact h
    · exact rounds_lg k (some_lg _ h)
theorem ro_lp {m : Int} : ∀ (k : Nat) {s : St} {o : Int}, (min m 200 - o).toNat = k → 0 ≤ o → o ≤ 200 → Wk s (100000 - 16 * k) → k ≤ 200 → LoopP Tryz.prog (loopOf Tryz.prog 15 0) ⟨roT m o, hP s true⟩ (.exit 0) ⟨roT m (o + (roundsS s k).2), hP (roundsS s k).1 true⟩
  | 0, s, o, hk, h0, h1, w, _ => by
    show LoopP Tryz.prog (loopOf Tryz.prog 15 0) ⟨roT m o, hP s true⟩ (.exit 0) ⟨roT m (o + ((0 : Nat) : Int)), hP s true⟩
    rw [show o + ((0 : Nat) : Int) = o by omega]
    exact ro_end (w.ok (by omega)) (fun h => by omega)
  | k + 1, s, o, hk, h0, h1, w, h2 => by
    cases hq : quietB s
    · have wr := round_wk w
      have hw := w.l
      have hth := (th_len w.b).2.2
      have ih := ro_lp (m := m) k (s := roundS s) (o := o + 1) (by omega) (by omega) (by omega) ⟨wr.b, wr.v, by have := wr.l; omega⟩ (by omega)
      have e : roundsS s (k + 1) = ((roundsS (roundS s) k).1, (roundsS (roundS s) k).2 + 1) := by
        show (if quietB s = true then (s, 0) else _) = _
        rw [if_neg (by simp [hq])]
      rw [e]
      show LoopP Tryz.prog (loopOf Tryz.prog 15 0) ⟨roT m o, hP s true⟩ (.exit 0) ⟨roT m (o + (((roundsS (roundS s) k).2 + 1 : Nat) : Int)), hP (roundsS (roundS s) k).1 true⟩
      rw [show o + (((roundsS (roundS s) k).2 + 1 : Nat) : Int) = o + 1 + ((roundsS (roundS s) k).2 : Int) by omega]
      have hI := ri_lp (m := m) (o := o) s.th.length 0 (s := s) (by omega) rfl ⟨w.b, w.v, by omega⟩
      rw [← allI_is] at hI
      exact ro_more (w.ok (by omega)) (by omega) hq (by constructor <;> omega) (some_lg _) hI ih
    · rw [rounds_quiet hq]
      show LoopP Tryz.prog (loopOf Tryz.prog 15 0) ⟨roT m o, hP s true⟩ (.exit 0) ⟨roT m (o + ((0 : Nat) : Int)), hP s true⟩
      rw [show o + ((0 : Nat) : Int) = o by omega]
      exact ro_end (w.ok (by omega)) (fun _ => hq)
theorem rounds_wk {N : Nat} : ∀ (k : Nat) {s : St}, Wk s N → Wk (roundsS s k).1 (N + 16 * k)
  | 0, _, w => w
  | k + 1, s, w => by
    unfold roundsS; split
    · exact ⟨w.b, w.v, by have := w.l; show s.lg.length ≤ _; omega⟩
    · have wr := round_wk w
      have h := rounds_wk (N := N + 16) k wr
      exact ⟨h.b, h.v, by have := h.l; show (roundsS (roundS s) k).1.lg.length ≤ _; omega⟩
/-! ### The whole -/
section
variable {s u : St} {m o : Int} {b : Bool} (ho : s.ok) (hf : s.fit) (hB : stB s = b)
include ho hf hB
set_option maxRecDepth 100000 in
theorem ro_run_o (hl : s.lg ≠ []) (hL : LoopP Tryz.prog (loopOf Tryz.prog 15 0) ⟨roT m 0, (hO s b)⟩ (.exit 0) ⟨roT m o, (hO u b)⟩) : AC Tryz.prog 15 [stT s, .int .i64 m] (.tuple #[stT u, .int .i64 o]) :=
  ac_path mixed (ext := pkX) (fuel := 9) (n := 6) (orc := [.iface 1000004 (.func (.yield 19) #[.agg (stL s), .int .i64 5] #[]), vD b, oL [5, 1, 6, 7, 8, 9, 10, 11, 4] [1, 4, 6, 7, 8] 0 (roTl m o) (hO u b)])
    (an (ao_keepL (neg_no s) ho hf hl) <| an (len_map (f := enT) s.lg) <| an (ac_pcheck hB ho) <| an hL <| an (len_map (f := enT) u.lg) trivial) (by kernel_rfl)
set_option maxRecDepth 100000 in
theorem ro_run_n (hl : s.lg = []) (hL : LoopP Tryz.prog (loopOf Tryz.prog 15 0) ⟨roT m 0, (hN s b)⟩ (.exit 0) ⟨roT m o, (hN u b)⟩) : AC Tryz.prog 15 [stT s, .int .i64 m] (.tuple #[stT (u.toLg []), .int .i64 o]) :=
  ac_path mixed (ext := pkX) (fuel := 9) (n := 6) (orc := [.agg (stN s), vD b, oL [4, 1, 5, 6, 7, 8, 9, 10] [1, 4, 6, 7, 8] 0 (roTl m o) (hN u b)])
    (an (ac_keepN (neg_no s) ho hf hl) <| an (ac_pcheck (s := s.toLg []) hB (ok_lg ho)) <| an hL trivial) (by kernel_rfl)
set_option maxRecDepth 100000 in
theorem ro_run_f (hl : s.lg = []) (hL : LoopP Tryz.prog (loopOf Tryz.prog 15 0) ⟨roT m 0, (hN s b)⟩ (.exit 0) ⟨roT m o, (hO u b)⟩) : AC Tryz.prog 15 [stT s, .int .i64 m] (.tuple #[stT u, .int .i64 o]) :=
  ac_path mixed (ext := pkX) (fuel := 9) (n := 6) (orc := [.agg (stN s), vD b, oL [4, 1, 5, 6, 7, 8, 9, 10] [1, 4, 6, 7, 8] 0 (roTl m o) (hO u b)])
    (an (ac_keepN (neg_no s) ho hf hl) <| an (ac_pcheck (s := s.toLg []) hB (ok_lg ho)) <| an hL <| an (len_map (f := enT) u.lg) trivial) (by kernel_rfl)
theorem ro_run (hg : s.lg ≠ [] → u.lg ≠ []) (hL : LoopP Tryz.prog (loopOf Tryz.prog 15 0) ⟨roT m 0, (hP s b)⟩ (.exit 0) ⟨roT m o, (hP u b)⟩) : AC Tryz.prog 15 [stT s, .int .i64 m] (.tuple #[stT u, .int .i64 o]) := by
  by_cases hl : s.lg = []
  · rw [hP_nil hl] at hL
    by_cases hu : u.lg = []
    · rw [hP_nil hu] at hL
      have := ro_run_n ho hf hB hl hL
      rwa [lg_self hu] at this
    · rw [hP_own hu] at hL; exact ro_run_f ho hf hB hl hL
  · rw [hP_own hl, hP_own (hg hl)] at hL
    exact ro_run_o ho hf hB hl hL
end
theorem ac_rounds {s : St} {m : Int} (ho : s.ok) (hf : s.fit) (hl : s.lg.length ≤ 90000) : AC Tryz.prog 15 [stT s, .int .i64 m] (.tuple #[stT (roundsS s (min m 200).toNat).1, .int .i64 (roundsS s (min m 200).toNat).2]) := by
  cases hB : stB s
  · rw [rounds_quiet (quiet_no hB)]
    exact ro_run ho hf hB (fun h => h) (ro_end ho fun _ => quiet_no hB)
  · have := ro_lp (m := m) (min m 200).toNat (s := s) (o := 0) (by omega) (by omega) (by omega) ⟨hB, .of ho, by omega⟩ (by omega)
    rw [Int.zero_add] at this
    exact ro_run ho hf hB (rounds_lg _) this
end Go.Proofs.YtcakapmpifnfpaaGreat

/- The head of the laws of layer 17 (awake), by contracts told by abstract values. -/
namespace Go.Proofs.YtcakapmpifnfpaaGreat
set_option linter.unusedVariables false
set_option linter.unusedSimpArgs false
open Go.RowKit
def cS : Cf := ⟨1, 3, 0, 0, 0, 0, false⟩
def t0S : Th := ⟨1, 1, 7, 0, 0, 0, 0, 0, false, 0, 0⟩
def t2S : Th := ⟨1, 4, 0, 0, 0, 0, 0, 0, false, 0, 0⟩
def s0S : St := newSt cS
def s1S : St := s0S.setTh 0 t0S
def s2S : St := s1S.setTh 2 t2S
def aSS : St := pickS s2S 2
def bSS : St := (someS s2S [0, 1, 0, 9, 2]).1
def cSS : St := (roundsS s2S 100).1
theorem cS_b : cfB cS = true := by decide
theorem s0S_b : stB s0S = true := new_stB cS_b
theorem s1S_b : stB s1S = true := by decide
theorem s2S_b : stB s2S = true := by decide
theorem cS_in : cS.ok := by simp [cS, Cf.ok, In64]
theorem in_smallS {s : St} (hB : stB s = true) (hc : s.cf = cS) (hs : ∀ x ∈ s.sl, 0 ≤ x.vl ∧ x.vl ≤ 100) (ht : ∀ t ∈ s.th, (0 ≤ t.va ∧ t.va ≤ 100) ∧ 0 ≤ t.go ∧ t.go ≤ 100) (hl : s.lg.length ≤ 1000000) : s.ok :=
  ok_of hB ⟨hc ▸ cS_in, fun x hx => by have := hs x hx; constructor <;> omega, fun t h => by have := ht t h; exact ⟨⟨by omega, by omega⟩, ⟨by omega, by omega⟩⟩⟩ hl
theorem s0S_in : s0S.ok := in_smallS s0S_b rfl (by decide) (by decide) (by decide)
theorem s1S_in : s1S.ok := in_smallS s1S_b rfl (by decide) (by decide) (by decide)
theorem s2S_in : s2S.ok := in_smallS s2S_b rfl (by decide) (by decide) (by decide)
theorem e_0 : pickE s0S 0 = 121 := by kernel_rfl
theorem e_3 : pickE s0S 3 = 123 := by kernel_rfl
theorem e_z : pickE st0 0 = 20 := by kernel_rfl
theorem e_2 : pickE s2S 2 = 0 := by kernel_rfl
theorem n_b : (someS s2S [0, 1, 0, 9, 2]).2 = 3 := by kernel_rfl
theorem a_pc : (gth aSS.th 2).pc = 1 := by kernel_rfl
theorem b_pc0 : (gth bSS.th 0).pc = 2 := by kernel_rfl
theorem b_pc2 : (gth bSS.th 2).pc = 1 := by kernel_rfl
theorem c_go : (gth cSS.th 2).go = 7 := by kernel_rfl
theorem c_rs : (gth cSS.th 2).rs = 1 := by kernel_rfl
theorem c_m : decide (6 < (roundsS s2S 100).2) && decide ((roundsS s2S 100).2 < 20) = true := by kernel_rfl
theorem q_s : quietB s2S = false := by kernel_rfl
theorem q_c : quietB cSS = true := by kernel_rfl
theorem act_s : actL s2S = [0, 2] := by kernel_rfl
theorem act_c : actL cSS = [] := by kernel_rfl
theorem l_a : aSS.th.length = 3 := by kernel_rfl
theorem l_b : bSS.th.length = 3 := by kernel_rfl
theorem l_c : cSS.th.length = 3 := by kernel_rfl
def awX : List FuncId := [16, 17, 9, 13, 15, 14, 19, 18]
set_option maxRecDepth 100000 in
theorem aw_path {s0 s1 s2 a b c : St} {n k : Nat} (h0 : AC Tryz.prog 16 [cfT ⟨1, 3, 0, 0, 0, 0, false⟩] (.tuple #[stT s0, .int .i64 0])) (h1 : AC Tryz.prog 9 [stT s0, .int .i64 0] (.tuple #[stT s0, .int .i64 121])) (h2 : AC Tryz.prog 9 [stT s0, .int .i64 3] (.tuple #[stT s0, .int .i64 123])) (h3 : AC Tryz.prog 9 [stT st0, .int .i64 0] (.tuple #[stT st0, .int .i64 20])) (h4 : AC Tryz.prog 17 [stT s0, .int .i64 0, .int .i64 1, .int .i64 7, .int .i64 0] (.tuple #[stT s1, .int .i64 0])) (h5 : AC Tryz.prog 17 [stT s1, .int .i64 2, .int .i64 4, .int .i64 0, .int .i64 0] (.tuple #[stT s2, .int .i64 0])) (h6 : AC Tryz.prog 9 [stT s2, .int .i64 2] (.tuple #[stT a, .int .i64 0]))
    (h7 : AC Tryz.prog 13 [stT s2, rowI [0, 1, 0, 9, 2]] (.tuple #[stT b, .int .i64 n])) (h8 : AC Tryz.prog 15 [stT s2, .int .i64 100] (.tuple #[stT c, .int .i64 k])) (la : a.th.length = 3) (lb : b.th.length = 3) (lc : c.th.length = 3) (a2 : (gth a.th 2).pc = 1) (hn : n = 3) (b0 : (gth b.th 0).pc = 2) (b2 : (gth b.th 2).pc = 1) (c2 : (gth c.th 2).go = 7) (c3 : (gth c.th 2).rs = 1) (k1 : 6 < k) (k2 : k < 20)
    (h9 : AC Tryz.prog 14 [stT s2] (rowI [0, 2])) (h10 : AC Tryz.prog 19 [stT s2] (.bool false)) (h11 : AC Tryz.prog 19 [stT c] (.bool true)) (h12 : AC Tryz.prog 14 [stT c] (rowI [])) : AC Tryz.prog 7 [] (.bool true) :=
  ac_path mixed (ext := awX) (fuel := 9) (n := 6) (orc := [.tuple #[stT s0, .int .i64 0], .tuple #[stT s0, .int .i64 121], .tuple #[stT s0, .int .i64 123], .tuple #[stT st0, .int .i64 20], .tuple #[stT s1, .int .i64 0], .tuple #[stT s2, .int .i64 0], .tuple #[stT a, .int .i64 0], .tuple #[stT b, .int .i64 n], .tuple #[stT c, .int .i64 k], .bool false, .bool false, .bool false, .nilFunc, .nilFunc, .nilFunc, .nilFunc, thT (gth a.th 2), .bool true, .bool true, thT (gth b.th 0), .bool true, thT (gth b.th 2), .bool true, thT (gth c.th 2), .bool true, thT (gth c.th 2), .bool true, .bool true, .bool true, rowI [0, 2], vD true, vD false, vD true, rowI []])
    (an h0 <| an h1 <| an h2 <| an h3 <| an h4 <| an h5 <| an h6 <| an (⟨rfl, rfl⟩ : LenP 5 5 [.int .i64 0, .int .i64 1, .int .i64 0, .int .i64 9, .int .i64 2]) <| an h7 <| an h8 <| an (show ((a.th.length : Int) != 3) = false by rw [la]; rfl) <| an (show ((b.th.length : Int) != 3) = false by rw [lb]; rfl) <| an (show ((c.th.length : Int) != 3) = false by rw [lc]; rfl) <|
      an (ixT (l := a.th) (n := 2) (by omega)) <| an (show ((gth a.th 2).pc == 1) = true by rw [a2]; rfl) <| an (show (((n : Nat) : Int) == 3) = true by rw [hn]; rfl) <| an (ixT (l := b.th) (n := 0) (by omega)) <| an (show ((gth b.th 0).pc == 2) = true by rw [b0]; rfl) <| an (ixT (l := b.th) (n := 2) (by omega)) <| an (show ((gth b.th 2).pc == 1) = true by rw [b2]; rfl) <|
      an (ixT (l := c.th) (n := 2) (by omega)) <| an (show ((gth c.th 2).go == 7) = true by rw [c2]; rfl) <| an (ixT (l := c.th) (n := 2) (by omega)) <| an (show ((gth c.th 2).rs == 1) = true by rw [c3]; rfl) <| an (show decide ((6 : Int) < (k : Nat)) = true by simp; omega) <| an (show decide (((k : Nat) : Int) < 20) = true by simp; omega) <|
      an h9 <| an (⟨rfl, rfl⟩ : LenP 2 2 [.int .i64 0, .int .i64 2]) <| an (ac_rints [0, 2] (by decide)) <| an h10 <| an h11 <| an h12 trivial) (by kernel_rfl)
theorem z_in : st0.ok := by
  constructor <;> simp [st0, Cf.ok, In64, cf0, maxLen]
theorem z_fit : st0.fit := by constructor <;> simp [st0]
theorem fit_s {s : St} (h : stB s = true) (hl : s.lg.length ≤ 10) : s.fit := fit_of h (by omega)
theorem v_1S : stBeg s0S 0 1 7 0 0 s1S := .inr (.inr ⟨s0S_b, by decide, 0, t0S, rfl, by decide, beg_ok_u (t := gth s0S.th 0) (v := 7) (u := 0) (by decide) (by decide) (by decide), rfl⟩)
theorem v_2S : stBeg s1S 2 4 0 0 0 s2S := .inr (.inr ⟨s1S_b, by decide, 2, t2S, rfl, by decide, beg_ok_u (t := gth s1S.th 2) (v := 0) (u := 0) (by decide) (by decide) (by decide), rfl⟩)
theorem ac_awakeS : AC Tryz.prog 7 [] (.bool true) := by
  have f0 : s0S.fit := fit_s s0S_b (by decide)
  have f1 : s1S.fit := fit_s s1S_b (by decide)
  have f2 : s2S.fit := fit_s s2S_b (by decide)
  have p0 := ac_pick (i := 0) s0S_in f0 (by decide)
  rw [pickS_not e_0 (by decide), e_0] at p0
  have p3 := ac_pick (i := 3) s0S_in f0 (by decide)
  rw [pickS_not e_3 (by decide), e_3] at p3
  have pz := ac_pick (i := 0) z_in z_fit (by decide)
  rw [pickS_not e_z (by decide), e_z] at pz
  have p2 := ac_pick (i := 2) s2S_in f2 (by decide)
  rw [e_2] at p2
  have c_ok : cSS.ok := (rounds_wk 100 ⟨s2S_b, .of s2S_in, (by decide : s2S.lg.length ≤ 0)⟩).ok (by decide)
  have qs := ac_quiet s2S_in
  rw [q_s] at qs
  have qc := ac_quiet c_ok
  rw [q_c] at qc
  have xs := ac_active s2S_in
  rw [act_s] at xs
  have xc := ac_active c_ok
  rw [act_c] at xc
  have hm := c_m
  simp only [Bool.and_eq_true, decide_eq_true_eq] at hm
  exact aw_path (ac_pnew cS_b) p0 p3 pz (ac_pinvoke v_1S s0S_in f0) (ac_pinvoke v_2S s1S_in f1) p2 (ac_some s2S_in f2 (by decide) (by decide)) (ac_rounds (m := 100) s2S_in f2 (by decide)) l_a l_b l_c a_pc n_b b_pc0 b_pc2 c_go c_rs hm.1 hm.2 xs qs qc xc
end Go.Proofs.YtcakapmpifnfpaaGreat

/- '==' on slots, field by field. -/
namespace Go.Proofs.YtcakapmpifnfpaaGreat
set_option linter.unusedVariables false
set_option linter.unusedSimpArgs false
open Go.ChangeShapes Go.WideShapes Go.ChangeAt Go.RowKit
set_option maxHeartbeats 1000000 in
theorem sl_equal (a b : Slo) (w : World) : (Op.equal 64 (.agg #[.int .i64 a.st, .int .i64 a.vl]) (.agg #[.int .i64 b.st, .int .i64 b.vl])).run Tryz.prog w = .ok (decide (a = b)) w := by
  have hu := Tryz.underlying64
  have h3 := Tryz.underlying3
  have h4 := Tryz.underlying4
  have hp : Tryz.prog.stoodInHeld 64 = false := by kernel_rfl
  have hc : Tryz.prog.info? 3 = _ := rfl
  have hd : Tryz.prog.info? 4 = _ := rfl
  have e : decide (a = b) = (a.st == b.st && (a.vl == b.vl)) := by
    rw [Bool.eq_iff_iff]; cases a; cases b; simp [and_assoc]
  rw [e]
  unfold Op.equal Op.maxDepth
  rw [run_equalIn_struct w 9999 _ _ _ (by unfold Program.fieldsOf; rw [hu]) hp]
  unfold Program.fieldsOf
  rw [hu]
  cases c0 : (a.st == b.st)
  · simp [Op.eqFields, part, isAgg, run_underlying h3, run_underlying h4, run_equalIn_int _ _ _ _ _ _ _ h3, run_equalIn_bool _ _ _ _ _ h4, c0]
  cases c1 : (a.vl == b.vl)
  · simp [Op.eqFields, part, isAgg, run_underlying h3, run_underlying h4, run_equalIn_int _ _ _ _ _ _ _ h3, run_equalIn_bool _ _ _ _ _ h4, c0, c1]
  simp [Op.eqFields, part, isAgg, run_underlying h3, run_underlying h4, run_equalIn_int _ _ _ _ _ _ _ h3, run_equalIn_bool _ _ _ _ _ h4, c0, c1]
theorem sl_neq (a b : Slo) (w : World) : (binOp .neq 64 (.agg #[.int .i64 a.st, .int .i64 a.vl]) (.agg #[.int .i64 b.st, .int .i64 b.vl])).run Tryz.prog w = .ok (.bool (!decide (a = b))) w := by
  have h := sl_equal a b w
  have hu := Tryz.underlying64
  simp [binOp, h, run_underlying hu, Result.andThen]
end Go.Proofs.YtcakapmpifnfpaaGreat
