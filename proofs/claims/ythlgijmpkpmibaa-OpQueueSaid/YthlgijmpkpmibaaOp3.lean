/- Layer 11: OpQueue holds for every input. -/
import Derived.Test.YthlgijmpkpmibaaOpM
import Derived.Test.YthlgijmpkpmibaaFifoD
import Derived.Test.YthlgijmpkpmibaaFifoX
namespace Go.Proofs.Ythlgijmpkpmibaa
set_option linter.unusedVariables false
set_option linter.unusedSimpArgs false
open Go.ChangeShapes Go.WideShapes Go.ChangeAt Go.RowKit
theorem tell_ends {q : Qu} {e : En} (h9 : e.ki ≠ 9) (h : (q.tell e).2 = true) : opEnds e.ki e.re = true ∧ opB e.ki = true := by
  have hs := side_is e.ki
  unfold Qu.tell at h
  split at h
  · rename_i hk
    simp only [sendsB, Bool.and_eq_true, decide_eq_true_eq] at hk
    have hsd : opSide e.ki = 1 := by omega
    refine ⟨?_, opB_iff.2 (by omega)⟩
    unfold Qu.send at h
    unfold opEnds
    (repeat' split at h) <;> simp_all [opB, opTimed] <;> omega
  · rename_i hn
    split at h
    · rename_i hk
      simp only [recvsB, Bool.and_eq_true, decide_eq_true_eq] at hk
      have hsd : opSide e.ki = 2 := by omega
      refine ⟨?_, opB_iff.2 (by omega)⟩
      unfold Qu.recv at h
      unfold opEnds
      (repeat' split at h) <;> simp_all [opB, opTimed] <;> omega
    · split at h
      · simp at h
      · rename_i hr
        have hr1 : e.re = 1 := by omega
        rw [hr1]
        have : opEnds e.ki 1 = opB e.ki := rfl
        rw [this]
        have h78 : e.ki = 7 ∨ e.ki = 8 := by
          (repeat' split at h) <;> first | omega | (simp at h)
        have : opB e.ki = true := opB_iff.2 (by omega)
        exact ⟨this, this⟩
theorem pdo_val {a : Qu} {e : En} {r : Qu × Bool} (hr : a.tell e = r) (p : Option Addr) (k : Nat) (w : World) (hl : Sl w 1 intC a.vals (.slice p a.vals.length k)) (hm : a.vals.length ≤ 1000) :
    Calls Try.prog 23 #[.agg #[.slice p a.vals.length k, .int .i64 a.cap, .int .i64 a.pol, .int .i64 a.mode], .agg #[.int .i64 e.th, .int .i64 e.ki, .int .i64 e.va, .int .i64 e.re, .int .i64 e.go]] w (RetQ w a.vals p r) := hr ▸ pdo_any a e p k w hl hm
set_option maxHeartbeats 4000000 in
set_option maxRecDepth 100000 in
theorem opQueue_walk (q : Qu) (qp : Option Addr) (qk : Nat) (hq : q.ok) (hqm : q.vals.length ≤ maxLen) (e : En) (he : e.ok) (w : World) (hqs : Sl w 1 intC q.vals (.slice qp q.vals.length qk)) :
    Calls Try.prog 5 #[.agg #[.slice qp q.vals.length qk, .int .i64 q.cap, .int .i64 q.pol, .int .i64 q.mode], .agg e.cells.toArray] w fun e w' => e = .returned (.bool true) ∧ Kept w w' := by
  obtain ⟨th, ki, va, re, go⟩ := e
  simp only [En.cells]
  clear he
  by_cases a1 : (100 : Int) < (q.vals.length : Int)
  · go_enter Try.func5, Try.ntmps5; go_wp2_with fail; refine (opawake_any _).mono ?_; rintro e w1 ⟨rfl, hg1⟩; have hcs : CellsAt w1 [(w.heap.size, 0, .slice qp q.vals.length qk), (w.heap.size, 1, .int .i64 q.cap), (w.heap.size, 2, .int .i64 q.pol), (w.heap.size, 3, .int .i64 q.mode), (w.heap.size + 1, 0, .int .i64 th), (w.heap.size + 1, 1, .int .i64 ki), (w.heap.size + 1, 2, .int .i64 va), (w.heap.size + 1, 3, .int .i64 re), (w.heap.size + 1, 4, .int .i64 go)] := cells_keep hg1 (by (simp only [CellsAt]; (repeat' (first | exact trivial | (refine And.intro ?_ ?_))); all_goals (first | (focus ((try simp only [World.size_setCell, World.size_alloc]); omega)) | (repeat (first | rfl | assumption | (refine (World.cell?_alloc_past _ _ _ ?_).trans ?_; focus ((try simp only [World.size_setCell, World.size_alloc]); omega)) | (refine (World.cell?_alloc_at _ _ _ _ ?_).trans ?_; focus ((try simp only [World.size_setCell, World.size_alloc]); done)) | (refine (World.cell?_setCell_other _ _ _ _ ?_).trans ?_; focus (simp; done)) | (refine (World.cell?_setCell_other _ _ _ _ ?_).trans ?_; focus (simp; omega)) | (refine World.cell?_setCell_same' _ _ _ ?_; focus (first | (simp; done) | (simp [*]; done)))))))); have hB1 : Below w.heap.size w w1 := kept_trans (by repeat' (first | (with_reducible exact Below.refl _ _) | (with_reducible assumption) | (with_reducible refine kept_alloc ?_ _) | (with_reducible refine kept_drewN ?_ _) | (with_reducible refine Below.drew ?_) | (with_reducible refine Below.setCell ?_ (by first | omega | (simp; omega) | (simp; done)) _) | (refine kept_trans ?_ (by with_reducible assumption)))) hg1; clear hg1; have hq0 := hcs.1.2; have hq1 := hcs.2.1.2; have hq2 := hcs.2.2.1.2; have hq3 := hcs.2.2.2.1.2; have hq4 := hcs.2.2.2.2.1.2; have hq5 := hcs.2.2.2.2.2.1.2; have hq6 := hcs.2.2.2.2.2.2.1.2; have hq7 := hcs.2.2.2.2.2.2.2.1.2; have hq8 := hcs.2.2.2.2.2.2.2.2.1.2; have hz0 := hcs.1.1; have hz1 := hcs.2.2.2.2.1.1
    go_wp2
    all_goals (go_ret; exact ⟨rfl, by repeat' (first | (with_reducible exact Below.refl _ _) | (with_reducible assumption) | (with_reducible refine kept_alloc ?_ _) | (with_reducible refine kept_drewN ?_ _) | (with_reducible refine Below.drew ?_) | (with_reducible refine Below.setCell ?_ (by first | omega | (simp; omega) | (simp; done)) _) | (refine kept_trans ?_ (by with_reducible assumption)))⟩)
  have hlen : q.vals.length ≤ 1000 := by omega
  by_cases a2 : ki = 9
  · have b2 : (ki == 9) = true := by simpa using a2
    clear a2
    go_enter Try.func5, Try.ntmps5; go_wp2_with fail; refine (opawake_any _).mono ?_; rintro e w1 ⟨rfl, hg1⟩; have hcs : CellsAt w1 [(w.heap.size, 0, .slice qp q.vals.length qk), (w.heap.size, 1, .int .i64 q.cap), (w.heap.size, 2, .int .i64 q.pol), (w.heap.size, 3, .int .i64 q.mode), (w.heap.size + 1, 0, .int .i64 th), (w.heap.size + 1, 1, .int .i64 ki), (w.heap.size + 1, 2, .int .i64 va), (w.heap.size + 1, 3, .int .i64 re), (w.heap.size + 1, 4, .int .i64 go)] := cells_keep hg1 (by (simp only [CellsAt]; (repeat' (first | exact trivial | (refine And.intro ?_ ?_))); all_goals (first | (focus ((try simp only [World.size_setCell, World.size_alloc]); omega)) | (repeat (first | rfl | assumption | (refine (World.cell?_alloc_past _ _ _ ?_).trans ?_; focus ((try simp only [World.size_setCell, World.size_alloc]); omega)) | (refine (World.cell?_alloc_at _ _ _ _ ?_).trans ?_; focus ((try simp only [World.size_setCell, World.size_alloc]); done)) | (refine (World.cell?_setCell_other _ _ _ _ ?_).trans ?_; focus (simp; done)) | (refine (World.cell?_setCell_other _ _ _ _ ?_).trans ?_; focus (simp; omega)) | (refine World.cell?_setCell_same' _ _ _ ?_; focus (first | (simp; done) | (simp [*]; done)))))))); have hB1 : Below w.heap.size w w1 := kept_trans (by repeat' (first | (with_reducible exact Below.refl _ _) | (with_reducible assumption) | (with_reducible refine kept_alloc ?_ _) | (with_reducible refine kept_drewN ?_ _) | (with_reducible refine Below.drew ?_) | (with_reducible refine Below.setCell ?_ (by first | omega | (simp; omega) | (simp; done)) _) | (refine kept_trans ?_ (by with_reducible assumption)))) hg1; clear hg1; have hq0 := hcs.1.2; have hq1 := hcs.2.1.2; have hq2 := hcs.2.2.1.2; have hq3 := hcs.2.2.2.1.2; have hq4 := hcs.2.2.2.2.1.2; have hq5 := hcs.2.2.2.2.2.1.2; have hq6 := hcs.2.2.2.2.2.2.1.2; have hq7 := hcs.2.2.2.2.2.2.2.1.2; have hq8 := hcs.2.2.2.2.2.2.2.2.1.2; have hz0 := hcs.1.1; have hz1 := hcs.2.2.2.2.1.1
    go_wp2
    trace_state
    all_goals (go_ret; exact ⟨rfl, by repeat' (first | (with_reducible exact Below.refl _ _) | (with_reducible assumption) | (with_reducible refine kept_alloc ?_ _) | (with_reducible refine kept_drewN ?_ _) | (with_reducible refine Below.drew ?_) | (with_reducible refine Below.setCell ?_ (by first | omega | (simp; omega) | (simp; done)) _) | (refine kept_trans ?_ (by with_reducible assumption)))⟩)
  have b2 : (ki == 9) = false := by simpa using a2
  have htl := tell_ends (q := q) (e := ⟨th, ki, va, re, go⟩) a2
  obtain ⟨⟨rq, rm⟩, hr⟩ : ∃ r, q.tell ⟨th, ki, va, re, go⟩ = r := ⟨_, rfl⟩
  rw [hr] at htl
  simp only at htl
  have hrh := Lib.hid hr
  clear hr a2
  go_enter Try.func5, Try.ntmps5; go_wp2_with fail; refine (opawake_any _).mono ?_; rintro e w1 ⟨rfl, hg1⟩; have hcs : CellsAt w1 [(w.heap.size, 0, .slice qp q.vals.length qk), (w.heap.size, 1, .int .i64 q.cap), (w.heap.size, 2, .int .i64 q.pol), (w.heap.size, 3, .int .i64 q.mode), (w.heap.size + 1, 0, .int .i64 th), (w.heap.size + 1, 1, .int .i64 ki), (w.heap.size + 1, 2, .int .i64 va), (w.heap.size + 1, 3, .int .i64 re), (w.heap.size + 1, 4, .int .i64 go)] := cells_keep hg1 (by (simp only [CellsAt]; (repeat' (first | exact trivial | (refine And.intro ?_ ?_))); all_goals (first | (focus ((try simp only [World.size_setCell, World.size_alloc]); omega)) | (repeat (first | rfl | assumption | (refine (World.cell?_alloc_past _ _ _ ?_).trans ?_; focus ((try simp only [World.size_setCell, World.size_alloc]); omega)) | (refine (World.cell?_alloc_at _ _ _ _ ?_).trans ?_; focus ((try simp only [World.size_setCell, World.size_alloc]); done)) | (refine (World.cell?_setCell_other _ _ _ _ ?_).trans ?_; focus (simp; done)) | (refine (World.cell?_setCell_other _ _ _ _ ?_).trans ?_; focus (simp; omega)) | (refine World.cell?_setCell_same' _ _ _ ?_; focus (first | (simp; done) | (simp [*]; done)))))))); have hB1 : Below w.heap.size w w1 := kept_trans (by repeat' (first | (with_reducible exact Below.refl _ _) | (with_reducible assumption) | (with_reducible refine kept_alloc ?_ _) | (with_reducible refine kept_drewN ?_ _) | (with_reducible refine Below.drew ?_) | (with_reducible refine Below.setCell ?_ (by first | omega | (simp; omega) | (simp; done)) _) | (refine kept_trans ?_ (by with_reducible assumption)))) hg1; clear hg1; have hq0 := hcs.1.2; have hq1 := hcs.2.1.2; have hq2 := hcs.2.2.1.2; have hq3 := hcs.2.2.2.1.2; have hq4 := hcs.2.2.2.2.1.2; have hq5 := hcs.2.2.2.2.2.1.2; have hq6 := hcs.2.2.2.2.2.2.1.2; have hq7 := hcs.2.2.2.2.2.2.2.1.2; have hq8 := hcs.2.2.2.2.2.2.2.2.1.2; have hz0 := hcs.1.1; have hz1 := hcs.2.2.2.2.1.1
  go_wp2_with fail
  refine (pdo_val hrh.out qp qk _ (hqs.kept (by repeat' (first | (with_reducible exact Below.refl _ _) | (with_reducible assumption) | (with_reducible refine kept_alloc ?_ _) | (with_reducible refine kept_drewN ?_ _) | (with_reducible refine Below.drew ?_) | (with_reducible refine Below.setCell ?_ (by first | omega | (simp; omega) | (simp; done)) _) | (refine kept_trans ?_ (by with_reducible assumption))))) hlen).mono ?_
  rintro e w2 ⟨p', k', rfl, -, hg2, -⟩
  have hcs : CellsAt w2 [(w.heap.size, 0, .slice qp q.vals.length qk), (w.heap.size, 1, .int .i64 q.cap), (w.heap.size, 2, .int .i64 q.pol), (w.heap.size, 3, .int .i64 q.mode), (w.heap.size + 1, 0, .int .i64 th), (w.heap.size + 1, 1, .int .i64 ki), (w.heap.size + 1, 2, .int .i64 va), (w.heap.size + 1, 3, .int .i64 re), (w.heap.size + 1, 4, .int .i64 go)] := cells_keep hg2 hcs
  have hB2 : Below w.heap.size w w2 := kept_trans hB1 hg2
  clear hg2 hB1
  clear hq0 hq1 hq2 hq3 hq4 hq5 hq6 hq7 hq8 hz0 hz1
  have hq0 := hcs.1.2; have hq1 := hcs.2.1.2; have hq2 := hcs.2.2.1.2; have hq3 := hcs.2.2.2.1.2; have hq4 := hcs.2.2.2.2.1.2; have hq5 := hcs.2.2.2.2.2.1.2; have hq6 := hcs.2.2.2.2.2.2.1.2; have hq7 := hcs.2.2.2.2.2.2.2.1.2; have hq8 := hcs.2.2.2.2.2.2.2.2.1.2; have hz0 := hcs.1.1; have hz1 := hcs.2.2.2.2.1.1
  cases rm
  · go_wp2
    all_goals (go_ret; exact ⟨rfl, by repeat' (first | (with_reducible exact Below.refl _ _) | (with_reducible assumption) | (with_reducible refine kept_alloc ?_ _) | (with_reducible refine kept_drewN ?_ _) | (with_reducible refine Below.drew ?_) | (with_reducible refine Below.setCell ?_ (by first | omega | (simp; omega) | (simp; done)) _) | (refine kept_trans ?_ (by with_reducible assumption)))⟩)
  · obtain ⟨e1, e2⟩ := htl rfl
    go_wp2_with fail
    refine (oends_any _ _ _).mono ?_
    rintro e w3 ⟨rfl, hg3⟩
    have hcs : CellsAt w3 [(w.heap.size, 0, .slice qp q.vals.length qk), (w.heap.size, 1, .int .i64 q.cap), (w.heap.size, 2, .int .i64 q.pol), (w.heap.size, 3, .int .i64 q.mode), (w.heap.size + 1, 0, .int .i64 th), (w.heap.size + 1, 1, .int .i64 ki), (w.heap.size + 1, 2, .int .i64 va), (w.heap.size + 1, 3, .int .i64 re), (w.heap.size + 1, 4, .int .i64 go)] := cells_keep hg3 (by (simp only [CellsAt]; (repeat' (first | exact trivial | (refine And.intro ?_ ?_))); all_goals (first | (focus ((try simp only [World.size_setCell, World.size_alloc]); omega)) | (repeat (first | rfl | assumption | (refine (World.cell?_alloc_past _ _ _ ?_).trans ?_; focus ((try simp only [World.size_setCell, World.size_alloc]); omega)) | (refine (World.cell?_alloc_at _ _ _ _ ?_).trans ?_; focus ((try simp only [World.size_setCell, World.size_alloc]); done)) | (refine (World.cell?_setCell_other _ _ _ _ ?_).trans ?_; focus (simp; done)) | (refine (World.cell?_setCell_other _ _ _ _ ?_).trans ?_; focus (simp; omega)) | (refine World.cell?_setCell_same' _ _ _ ?_; focus (first | (simp; done) | (simp [*]; done))))))))
    have hB3 : Below w.heap.size w w3 := kept_trans (by repeat' (first | (with_reducible exact Below.refl _ _) | (with_reducible assumption) | (with_reducible refine kept_alloc ?_ _) | (with_reducible refine kept_drewN ?_ _) | (with_reducible refine Below.drew ?_) | (with_reducible refine Below.setCell ?_ (by first | omega | (simp; omega) | (simp; done)) _) | (refine kept_trans ?_ (by with_reducible assumption)))) hg3
    clear hg3 hB2
    clear hq0 hq1 hq2 hq3 hq4 hq5 hq6 hq7 hq8 hz0 hz1
    have hq0 := hcs.1.2; have hq1 := hcs.2.1.2; have hq2 := hcs.2.2.1.2; have hq3 := hcs.2.2.2.1.2; have hq4 := hcs.2.2.2.2.1.2; have hq5 := hcs.2.2.2.2.2.1.2; have hq6 := hcs.2.2.2.2.2.2.1.2; have hq7 := hcs.2.2.2.2.2.2.2.1.2; have hq8 := hcs.2.2.2.2.2.2.2.2.1.2; have hz0 := hcs.1.1; have hz1 := hcs.2.2.2.2.1.1
    go_wp2_with (first | (go_at_call 9; refine (ocheck_any _ _).mono ?_; rintro e wx ⟨rfl, hgx⟩))
    all_goals (go_ret; exact ⟨rfl, by repeat' (first | (with_reducible exact Below.refl _ _) | (with_reducible assumption) | (with_reducible refine kept_alloc ?_ _) | (with_reducible refine kept_drewN ?_ _) | (with_reducible refine Below.drew ?_) | (with_reducible refine Below.setCell ?_ (by first | omega | (simp; omega) | (simp; done)) _) | (refine kept_trans ?_ (by with_reducible assumption)))⟩)
set_option maxRecDepth 100000 in
theorem opQueue_lifted (os : Os) (started : os.Started) (H : Type) (enc : TypeId × Value → H) :
    ReturnsInHanded {} Try.checked os 5 .any (Rows.opQueueSpec.pre6 enc Try.prog Try.f5 Rows.opQueueRow.domain false) (Rows.opQueueSpec.post enc Try.prog Try.f5 false true false false) := by
  refine returnsInHanded_of_change (C := Try.checked) own started (by kernel_rfl) Try.func5
    (ChangeSpec.witness6 (enc := enc) (C := Try.checked) false ⟨#[], #[.agg #[.slice none 0 0, .int .i64 0, .int .i64 0, .int .i64 0], .agg En.zero.toArray], []⟩ 8 (by kernel_rfl) (by kernel_rfl) (by kernel_rfl) (by kernel_rfl)) ?_
  intro W base args ds gs before hval0 hW hcnd _
  have hval : ∀ (j : Nat) t v, Try.f5.params[j]? = some t → args[j]? = some v → Value.okWide Try.prog W .any base t v := hval0
  have hW' := hW
  obtain ⟨p, q, hA0, hV, rfl, hfz, hnd⟩ := hW
  have hA : DataW.TrodAll enc Try.prog W 0 (fun _ => true) true Try.f5.params.toList args.toList ds p := hA0
  rw [Try.params5] at hA hval
  obtain ⟨v0, vs0, d0, ds0, p0, q0, hargs, rfl, rfl, h0, r0⟩ := trodAll_cons hA
  obtain ⟨v1, vs1, d1, ds1, p1, q1, rfl, rfl, rfl, h1, r1⟩ := trodAll_cons r0
  obtain ⟨rfl, rfl, rfl⟩ := trodAll_nil r1
  obtain rfl : args = #[v0, v1] := by cases args; simp_all
  obtain ⟨rfl, rfl⟩ := trodVars_none hV
  obtain ⟨qcs, rfl, qrd⟩ := open_struct (g := 9) (l := Qu.shape) Try.underlying33 (by kernel_rfl) (hval 0 33 v0 rfl rfl) h0
  obtain ⟨q, qp, qk, hcs0, qsl, qok, qml⟩ := Qu.of_read qrd
  subst hcs0
  obtain ⟨ecs, rfl, erd⟩ := open_struct (g := 9) (l := En.shape) Try.underlying35 (by kernel_rfl) (hval 1 35 v1 rfl rfl) h1
  obtain ⟨e, rfl, eok⟩ := En.of_read erd
  clear hA0 hval0
  refine (opQueue_walk q qp qk qok qml e eok W qsl).mono fun e W' ⟨he, hg⟩ => ?_
  subst he
  exact ⟨_, rfl, law_post laid hW' rfl (by kernel_rfl) rfl Try.underlying4 rfl hg⟩

/-- The statement, whole. -/
theorem opQueue_holds : Rows.OpQueueSaid :=
  OpenClaim.holds_of_wide 5 Try.f5 rfl rfl rfl rfl rfl rfl rfl ⟨rfl, rfl, rfl, rfl, rfl⟩ rfl rfl rfl rfl rfl (by kernel_rfl) Try.func5 (by kernel_rfl)
    (of_decide_eq_true (by kernel_rfl)) (by unfold Func.isWrapper; rw [if_neg (of_decide_eq_false (by kernel_rfl))]; exact ⟨rfl, rfl⟩)
    (fun os started H enc _ => opQueue_lifted os started H enc)
end Go.Proofs.Ythlgijmpkpmibaa
