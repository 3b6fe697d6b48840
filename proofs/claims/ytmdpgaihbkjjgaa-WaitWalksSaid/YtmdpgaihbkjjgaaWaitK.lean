/- Layer 7: Walk and Until of any configuration; Spent. -/
import Derived.Test.YtmdpgaihbkjjgaaWaitJ
namespace Go.Proofs.Ytmdpgaihbkjjgaa
set_option linter.unusedVariables false
set_option linter.unusedSimpArgs false
open Go.ChangeShapes Go.WideShapes Go.ChangeAt Go.RowKit

theorem wwalk_any (lg th po wt sp yi : Int) (si : Bool) (many : Int) (w : World) : Calls Try.prog 15 #[.agg #[.int .i64 lg, .int .i64 th, .int .i64 po, .int .i64 wt, .int .i64 sp, .int .i64 yi, .bool si], .int .i64 many] w (RetI (walkL lg th po wt sp yi (manyN many)) w) := by
  cases hm : mayB lg th po wt sp yi
  · exact walk_core lg th po wt sp yi si 0 0 0 0 0 0 false many (fun i => nxI lg th po wt sp yi i) 29 w (fun W => wayof_no lg th po wt sp yi si W hm) (by simp [waysL, wfn]) (fun i W _ => by rw [nx_no hm]; exact wbusy_any 0 0 0 0 0 0 _ false W)
  · have hp := may_iff.1 hm
    obtain rfl | rfl | rfl | rfl := way_cell hp.2.2.2.2.2.2.1 hp.2.2.2.2.2.2.2.1
    · exact walk_core lg th po 0 sp yi si lg th po 0 sp yi si many (fun i => nxI lg th po 0 sp yi i) 29 w (fun W => wayof_yes lg th po 0 sp yi si W hm) (by simp [waysL, wfn]) (fun i W _ => by rw [nx_yes hm]; exact wbusy_any lg th po 0 sp yi _ si W)
    · exact walk_core lg th po 1 sp yi si lg th po 1 sp yi si many (fun i => nxI lg th po 1 sp yi i) 30 w (fun W => wayof_yes lg th po 1 sp yi si W hm) (by simp [waysL, wfn]) (fun i W _ => by rw [nx_yes hm]; exact wyielding_any lg th po 1 sp yi _ si W)
    · exact walk_core lg th po 2 sp yi si lg th po 2 sp yi si many (fun i => nxI lg th po 2 sp yi i) 31 w (fun W => wayof_yes lg th po 2 sp yi si W hm) (by simp [waysL, wfn]) (fun i W _ => by rw [nx_yes hm]; exact wphased_any lg th po 2 sp yi _ si W (by omega) (by omega))
    · exact walk_core lg th po 3 sp yi si lg th po 3 sp yi si many (fun i => nxI lg th po 3 sp yi i) 32 w (fun W => wayof_yes lg th po 3 sp yi si W hm) (by simp [waysL, wfn]) (fun i W _ => by rw [nx_yes hm]; exact wparking_any lg th po 3 sp yi _ si W)

theorem wuntil_any (lg th po wt sp yi : Int) (si : Bool) (w : World) : Calls Try.prog 9 #[.agg #[.int .i64 lg, .int .i64 th, .int .i64 po, .int .i64 wt, .int .i64 sp, .int .i64 yi, .bool si]] w fun e w' => e = .returned (.tuple #[.int .i64 (tryI lg th po wt sp yi), .bool (parksB lg th po wt sp yi)]) ∧ Kept w w' := by
  go_enter Try.func9, Try.ntmps9
  go_wp2
  (refine wp_region_kept (w := w) [(w.heap.size, 0, .int .i64 lg), (w.heap.size, 1, .int .i64 th), (w.heap.size, 2, .int .i64 po), (w.heap.size, 3, .int .i64 wt), (w.heap.size, 4, .int .i64 sp), (w.heap.size, 5, .int .i64 yi), (w.heap.size, 6, .bool si)] (by kernel_rfl) (by kernel_rfl) (by repeat' (first | (with_reducible exact Below.refl _ _) | (with_reducible assumption) | (with_reducible refine kept_alloc ?_ _) | (with_reducible refine kept_drewN ?_ _) | (with_reducible refine Below.drew ?_) | (with_reducible refine Below.setCell ?_ (by first | omega | (simp; omega) | (simp; done)) _) | (refine kept_trans ?_ (by with_reducible assumption)))) (by first | exact hcs | (simp only [CellsAt]; (repeat' (first | exact trivial | (refine And.intro ?_ ?_))); all_goals (first | (focus ((try simp only [World.size_setCell, World.size_alloc]); omega)) | (repeat (first | rfl | assumption | (refine (World.cell?_alloc_past _ _ _ ?_).trans ?_; focus ((try simp only [World.size_setCell, World.size_alloc]); omega)) | (refine (World.cell?_alloc_at _ _ _ _ ?_).trans ?_; focus ((try simp only [World.size_setCell, World.size_alloc]); done)) | (refine (World.cell?_setCell_other _ _ _ _ ?_).trans ?_; focus (simp; done)) | (refine (World.cell?_setCell_other _ _ _ _ ?_).trans ?_; focus (simp; omega)) | (refine World.cell?_setCell_same' _ _ _ ?_; focus (simp; done))))))) (fun hne => ?_); (have hq0 : ∀ xwd : Wd w [(w.heap.size, 0, .int .i64 lg), (w.heap.size, 1, .int .i64 th), (w.heap.size, 2, .int .i64 po), (w.heap.size, 3, .int .i64 wt), (w.heap.size, 4, .int .i64 sp), (w.heap.size, 5, .int .i64 yi), (w.heap.size, 6, .bool si)], xwd.at.cell? ⟨w.heap.size, 0, none⟩ = some (.int .i64 lg) := fun xwd => xwd.cells.1.2; have hq1 : ∀ xwd : Wd w [(w.heap.size, 0, .int .i64 lg), (w.heap.size, 1, .int .i64 th), (w.heap.size, 2, .int .i64 po), (w.heap.size, 3, .int .i64 wt), (w.heap.size, 4, .int .i64 sp), (w.heap.size, 5, .int .i64 yi), (w.heap.size, 6, .bool si)], xwd.at.cell? ⟨w.heap.size, 1, none⟩ = some (.int .i64 th) := fun xwd => xwd.cells.2.1.2; have hq2 : ∀ xwd : Wd w [(w.heap.size, 0, .int .i64 lg), (w.heap.size, 1, .int .i64 th), (w.heap.size, 2, .int .i64 po), (w.heap.size, 3, .int .i64 wt), (w.heap.size, 4, .int .i64 sp), (w.heap.size, 5, .int .i64 yi), (w.heap.size, 6, .bool si)], xwd.at.cell? ⟨w.heap.size, 2, none⟩ = some (.int .i64 po) := fun xwd => xwd.cells.2.2.1.2; have hq3 : ∀ xwd : Wd w [(w.heap.size, 0, .int .i64 lg), (w.heap.size, 1, .int .i64 th), (w.heap.size, 2, .int .i64 po), (w.heap.size, 3, .int .i64 wt), (w.heap.size, 4, .int .i64 sp), (w.heap.size, 5, .int .i64 yi), (w.heap.size, 6, .bool si)], xwd.at.cell? ⟨w.heap.size, 3, none⟩ = some (.int .i64 wt) := fun xwd => xwd.cells.2.2.2.1.2; have hq4 : ∀ xwd : Wd w [(w.heap.size, 0, .int .i64 lg), (w.heap.size, 1, .int .i64 th), (w.heap.size, 2, .int .i64 po), (w.heap.size, 3, .int .i64 wt), (w.heap.size, 4, .int .i64 sp), (w.heap.size, 5, .int .i64 yi), (w.heap.size, 6, .bool si)], xwd.at.cell? ⟨w.heap.size, 4, none⟩ = some (.int .i64 sp) := fun xwd => xwd.cells.2.2.2.2.1.2; have hq5 : ∀ xwd : Wd w [(w.heap.size, 0, .int .i64 lg), (w.heap.size, 1, .int .i64 th), (w.heap.size, 2, .int .i64 po), (w.heap.size, 3, .int .i64 wt), (w.heap.size, 4, .int .i64 sp), (w.heap.size, 5, .int .i64 yi), (w.heap.size, 6, .bool si)], xwd.at.cell? ⟨w.heap.size, 5, none⟩ = some (.int .i64 yi) := fun xwd => xwd.cells.2.2.2.2.2.1.2; have hq6 : ∀ xwd : Wd w [(w.heap.size, 0, .int .i64 lg), (w.heap.size, 1, .int .i64 th), (w.heap.size, 2, .int .i64 po), (w.heap.size, 3, .int .i64 wt), (w.heap.size, 4, .int .i64 sp), (w.heap.size, 5, .int .i64 yi), (w.heap.size, 6, .bool si)], xwd.at.cell? ⟨w.heap.size, 6, none⟩ = some (.bool si) := fun xwd => xwd.cells.2.2.2.2.2.2.1.2); (repeat (go_big_quiet_step ((first | (go_at_call 19; exact quiet_call (ctries_any _ _ _ _ _ _ _ _)) | (go_at_call 18; exact quiet_call (cparks_any _ _ _ _ _ _ _ _)))))); (refine wpQuiet_nil ?_); intro wq hwq; obtain ⟨xwd, hxwd⟩ := hwq; have hgx : Below w.heap.size w wq := (by rw [hxwd]; exact xwd.kept); have hcs := (show CellsAt wq [(w.heap.size, 0, .int .i64 lg), (w.heap.size, 1, .int .i64 th), (w.heap.size, 2, .int .i64 po), (w.heap.size, 3, .int .i64 wt), (w.heap.size, 4, .int .i64 sp), (w.heap.size, 5, .int .i64 yi), (w.heap.size, 6, .bool si)] by rw [hxwd]; exact xwd.cells); clear hxwd xwd hne)
  go_wp2
  go_ret2
  exact ⟨rfl, by repeat' (first | (with_reducible exact Below.refl _ _) | (with_reducible assumption) | (with_reducible refine kept_alloc ?_ _) | (with_reducible refine kept_drewN ?_ _) | (with_reducible refine Below.drew ?_) | (with_reducible refine Below.setCell ?_ (by first | omega | (simp; omega) | (simp; done)) _) | (refine kept_trans ?_ (by with_reducible assumption)))⟩

/-! ### Spent -/
theorem arr3_at {w : World} {b : Nat} {v0 v1 v2 : Value} {t : TypeId} (h : w.heap[b]? = some (.cells #[v0, v1, v2] t (0, 0))) :
    w.cell? ⟨b, 0, none⟩ = some v0 ∧ w.cell? ⟨b, 1, none⟩ = some v1 ∧ w.cell? ⟨b, 2, none⟩ = some v2 ∧ w.frozen? ⟨b, 0, none⟩ = false ∧ w.frozen? ⟨b, 1, none⟩ = false ∧ w.frozen? ⟨b, 2, none⟩ = false ∧ b < w.heap.size := by
  refine ⟨?_, ?_, ?_, ?_, ?_, ?_, (Array.getElem?_eq_some_iff.1 h).1⟩ <;> simp [World.cell?, World.frozen?, h]
theorem arr3_set {w : World} {b : Nat} {v0 v1 v2 u : Value} {t : TypeId} (h : w.heap[b]? = some (.cells #[v0, v1, v2] t (0, 0))) :
    (w.setCell ⟨b, 0, none⟩ u).heap[b]? = some (.cells #[u, v1, v2] t (0, 0)) ∧ (w.setCell ⟨b, 1, none⟩ u).heap[b]? = some (.cells #[v0, u, v2] t (0, 0)) ∧ (w.setCell ⟨b, 2, none⟩ u).heap[b]? = some (.cells #[v0, v1, u] t (0, 0)) := by
  refine ⟨?_, ?_, ?_⟩ <;> simp [World.setCell, Array.getElem?_modify, h]
/-- What is not left is told. -/
def Told3 (l : List Int) (left : List MapEntry) (a : Int) (i : Int) : Prop := (∀ e ∈ left, e.key ≠ .int .i64 i) → a = cntO l i
theorem IMapAt.born_eq {w : World} {mb : Nat} {l : List (Int × Value)} {es : Array MapEntry} {ck : Nat} (h : IMapAt w mb l es ck) {e x : MapEntry} (he : e ∈ es.toList) (hx : x ∈ es.toList) (hb : x.born = e.born) : x = e := by
  have h1 := find_born e es.toList h.nodup he
  have h2 := find_born x es.toList h.nodup hx
  rw [hb, h1] at h2
  exact (Option.some.inj h2).symm
theorem told_on {w : World} {mb : Nat} {L : List (Int × Value)} {es : Array MapEntry} {ck : Nat} (h : IMapAt w mb L es ck) {seen : Array Nat} {e : MapEntry} (he : e ∈ (leftOf es seen).toList) {l : List Int} {a i j : Int} (hk : e.key = .int .i64 i) (hij : i ≠ j)
    (ht : Told3 l (leftOf es seen).toList a j) : Told3 l (leftOf es (seen.push e.born)).toList a j := by
  intro h1
  refine ht fun x hx hxk => ?_
  by_cases hb : x.born = e.born
  · have := h.born_eq (mem_left he).1 (mem_left hx).1 hb
    subst this
    rw [hk] at hxk
    cases hxk
    exact hij rfl
  · exact h1 x (left_push.2 ⟨hx, hb⟩) hxk
theorem told_new {l : List Int} {left : List MapEntry} {i : Int} : Told3 l left (cntO l i) i := fun _ => rfl
theorem told_start {w : World} {mb : Nat} {es : Array MapEntry} {ck : Nat} (h : IMapAt w mb cntL es ck) {l : List Int} {a i : Int} (hi : i = 0 ∨ i = 1 ∨ i = 2) : Told3 l (leftOf es #[]).toList a i := by
  intro h1
  rw [left_all] at h1
  have hm : (Value.int .i64 i, Value.int .i64 i) ∈ es.toList.map (fun e => (e.key, e.val)) := by
    rw [h.ents]
    rcases hi with rfl | rfl | rfl <;> simp [cntL]
  obtain ⟨e, he, hk⟩ := List.mem_map.1 hm
  simp only [Prod.mk.injEq] at hk
  exact absurd hk.1 (h1 e he)
theorem cnt_entry {w : World} {mb : Nat} {es : Array MapEntry} {ck : Nat} (h : IMapAt w mb cntL es ck) {e : MapEntry} (he : e ∈ es.toList) :
    (e.key = .int .i64 0 ∧ e.val = .int .i64 0) ∨ (e.key = .int .i64 1 ∧ e.val = .int .i64 1) ∨ (e.key = .int .i64 2 ∧ e.val = .int .i64 2) := by
  obtain ⟨d, hd, h1, h2⟩ := h.mem he
  simp only [cntL, List.mem_cons, List.not_mem_nil, or_false] at hd
  rcases hd with rfl | rfl | rfl
  · exact .inl ⟨h1, h2⟩
  · exact .inr (.inl ⟨h1, h2⟩)
  · exact .inr (.inr ⟨h1, h2⟩)

theorem wcount_n {l : List Int} {N : Nat} (hN : l.length = N) (one : Int) (p : Option Addr) (k : Nat) (w : World) (hl : Sl w 1 intC l (.slice p l.length k)) :
    Calls Try.prog 22 #[.slice p N k, .int .i64 one] w fun e w' => e = .returned (.int .i64 (cntO l one)) ∧ Kept w w' := by
  subst hN
  exact wcount_any l one p k w hl
set_option maxHeartbeats 4000000 in
theorem wspent_any (l : List Int) (p : Option Addr) (k : Nat) (w : World) (hl : Sl w 1 intC l (.slice p l.length k)) :
    Calls Try.prog 11 #[.slice p l.length k] w fun e w' => e = .returned (.tuple #[.int .i64 (cntO l 0), .int .i64 (cntO l 1), .int .i64 (cntO l 2)]) ∧ Kept w w' := by
  have H := Lib.hid hl
  clear hl
  obtain ⟨N, hN⟩ : ∃ N, l.length = N := ⟨_, rfl⟩
  rw [hN]
  have HN := Lib.hid hN
  clear hN
  go_enter Try.func11, Try.ntmps11
  go_wp2_with fail
  refine (wcounted_any _).mono ?_
  rintro e w1 ⟨mb, rfl, ⟨es, ck, hA⟩, hmb, hg1⟩
  have hob : w1.heap[w.heap.size]? = some (.cells #[.int .i64 0, .int .i64 0, .int .i64 0] 43 (0, 0)) := (hg1.block _ (by simp)).trans (heap_alloc_new w _)
  have hB1 : Below w.heap.size w w1 := by repeat' (first | (with_reducible exact Below.refl _ _) | (with_reducible assumption) | (with_reducible refine kept_alloc ?_ _) | (with_reducible refine kept_drewN ?_ _) | (with_reducible refine Below.drew ?_) | (with_reducible refine Below.setCell ?_ (by first | omega | (simp; omega) | (simp; done)) _) | (refine kept_trans ?_ (by with_reducible assumption)))
  have hrg := run_range_map (P := Try.prog) w1 44 3 3 mb es ck Try.underlying44 hA.obj
  simp only [World.size_alloc] at hmb
  have hml := (Array.getElem?_eq_some_iff.1 hA.obj).1
  have hol := (arr3_at hob).2.2.2.2.2.2
  have HA := Lib.hid hA
  have HO := Lib.hid hob
  clear hA hg1 hob
  go_wp2
  clear hrg
  have hI0 : (w1.alloc (.mapIter (some mb) ck #[] ck)).heap[w1.heap.size]? = some (.mapIter (some mb) ck #[] ck) := heap_alloc_new w1 _
  have HI := Lib.hid hI0
  clear hI0
  go_loopw [6, 7] (fun _ _ wr => ∃ (a0 a1 a2 : Int) (seen : Array Nat) (c0 : Nat), wr.heap[w.heap.size]? = some (.cells #[.int .i64 a0, .int .i64 a1, .int .i64 a2] 43 (0, 0)) ∧ wr.heap[w1.heap.size]? = some (.mapIter (some mb) ck seen c0) ∧ ck ≤ c0 ∧ wr.heap[mb]? = some (.map es ck) ∧
      (Told3 l (leftOf es seen).toList a0 0 ∧ Told3 l (leftOf es seen).toList a1 1 ∧ Told3 l (leftOf es seen).toList a2 2) ∧ Below w.heap.size w wr) (fun _ _ wr => iterLeft es w1.heap.size wr)
  case atStart => exact ⟨0, 0, 0, _, _, (heap_alloc_old _ _ hol).trans HO.out, HI.out, Nat.le_refl _, (heap_alloc_old _ _ hml).trans HA.out.obj, ⟨told_start HA.out (.inl rfl), told_start HA.out (.inr (.inl rfl)), told_start HA.out (.inr (.inr rfl))⟩, by repeat' (first | (with_reducible exact Below.refl _ _) | (with_reducible assumption) | (with_reducible refine kept_alloc ?_ _) | (with_reducible refine kept_drewN ?_ _) | (with_reducible refine Below.drew ?_) | (with_reducible refine Below.setCell ?_ (by first | omega | (simp; omega) | (simp; done)) _) | (refine kept_trans ?_ (by with_reducible assumption)))⟩
  case round =>
    obtain ⟨a0, a1, a2, seen, c0, hob, hI, hc0, hM, hT, hB⟩ := hrel
    clear HI HO
    have hms := iterLeft_eq (es := es) hI
    rcases run_next_at (P := Try.prog) wr 0 w1.heap.size mb ck c0 seen es ck hI hM HA.out.born hc0 with ⟨h0, hrun⟩ | ⟨e, he, w2, hal, hrun⟩
    · obtain ⟨c0', c1, c2, -, -, -, hz⟩ := arr3_at hob
      have hl0 := left_zero h0
      rw [hl0] at hT
      have e0 := hT.1 (by simp)
      have e1 := hT.2.1 (by simp)
      have e2 := hT.2.2 (by simp)
      subst e0 e1 e2
      clear hT hl0 h0 hms hM hI hob
      have hcs : CellsAt wr [(w.heap.size, 0, .int .i64 (cntO l 0)), (w.heap.size, 1, .int .i64 (cntO l 1)), (w.heap.size, 2, .int .i64 (cntO l 2))] := ⟨⟨hz, c0'⟩, ⟨hz, c1⟩, ⟨hz, c2⟩, trivial⟩
      go_wp2
      (refine wp_region_kept (w := w) [(w.heap.size, 0, .int .i64 (cntO l 0)), (w.heap.size, 1, .int .i64 (cntO l 1)), (w.heap.size, 2, .int .i64 (cntO l 2))] (by kernel_rfl) (by kernel_rfl) (by repeat' (first | (with_reducible exact Below.refl _ _) | (with_reducible assumption) | (with_reducible refine kept_alloc ?_ _) | (with_reducible refine kept_drewN ?_ _) | (with_reducible refine Below.drew ?_) | (with_reducible refine Below.setCell ?_ (by first | omega | (simp; omega) | (simp; done)) _) | (refine kept_trans ?_ (by with_reducible assumption)))) (by first | exact hcs | (simp only [CellsAt]; (repeat' (first | exact trivial | (refine And.intro ?_ ?_))); all_goals (first | (focus ((try simp only [World.size_setCell, World.size_alloc]); omega)) | (repeat (first | rfl | assumption | (refine (World.cell?_alloc_past _ _ _ ?_).trans ?_; focus ((try simp only [World.size_setCell, World.size_alloc]); omega)) | (refine (World.cell?_alloc_at _ _ _ _ ?_).trans ?_; focus ((try simp only [World.size_setCell, World.size_alloc]); done)) | (refine (World.cell?_setCell_other _ _ _ _ ?_).trans ?_; focus (simp; done)) | (refine (World.cell?_setCell_other _ _ _ _ ?_).trans ?_; focus (simp; omega)) | (refine World.cell?_setCell_same' _ _ _ ?_; focus (simp; done))))))) (fun hne => ?_); (have hq0 : ∀ xwd : Wd w [(w.heap.size, 0, .int .i64 (cntO l 0)), (w.heap.size, 1, .int .i64 (cntO l 1)), (w.heap.size, 2, .int .i64 (cntO l 2))], xwd.at.cell? ⟨w.heap.size, 0, none⟩ = some (.int .i64 (cntO l 0)) := fun xwd => xwd.cells.1.2; have hq1 : ∀ xwd : Wd w [(w.heap.size, 0, .int .i64 (cntO l 0)), (w.heap.size, 1, .int .i64 (cntO l 1)), (w.heap.size, 2, .int .i64 (cntO l 2))], xwd.at.cell? ⟨w.heap.size, 1, none⟩ = some (.int .i64 (cntO l 1)) := fun xwd => xwd.cells.2.1.2; have hq2 : ∀ xwd : Wd w [(w.heap.size, 0, .int .i64 (cntO l 0)), (w.heap.size, 1, .int .i64 (cntO l 1)), (w.heap.size, 2, .int .i64 (cntO l 2))], xwd.at.cell? ⟨w.heap.size, 2, none⟩ = some (.int .i64 (cntO l 2)) := fun xwd => xwd.cells.2.2.1.2); (repeat (go_big_quiet_step ((first | fail)))); (refine wpQuiet_nil ?_); intro wq hwq; obtain ⟨xwd, hxwd⟩ := hwq; have hgx : Below w.heap.size w wq := (by rw [hxwd]; exact xwd.kept); have hcs := (show CellsAt wq [(w.heap.size, 0, .int .i64 (cntO l 0)), (w.heap.size, 1, .int .i64 (cntO l 1)), (w.heap.size, 2, .int .i64 (cntO l 2))] by rw [hxwd]; exact xwd.cells); clear hxwd xwd hne)
      go_wp2
      go_ret3
      exact ⟨rfl, by repeat' (first | (with_reducible exact Below.refl _ _) | (with_reducible assumption) | (with_reducible refine kept_alloc ?_ _) | (with_reducible refine kept_drewN ?_ _) | (with_reducible refine Below.drew ?_) | (with_reducible refine Below.setCell ?_ (by first | omega | (simp; omega) | (simp; done)) _) | (refine kept_trans ?_ (by with_reducible assumption)))⟩
    · have hr1 : w2.heap[w1.heap.size]? = some (.mapIter (some mb) ck seen c0) := by rcases hal with rfl | rfl <;> exact hI
      have hset := MapKept.heap_set (o' := .mapIter (some mb) ck (seen.push e.born) ck) hr1
      have hlt1 : w1.heap.size < wr.heap.size := (Array.getElem?_eq_some_iff.1 hI).1
      obtain ⟨W2, hW2⟩ : ∃ W2, Go.ChangeMaps.setBlock w2 w1.heap.size (.mapIter (some mb) ck (seen.push e.born) ck) = W2 := ⟨_, rfl⟩
      have hblk : ∀ j, j ≠ w1.heap.size → W2.heap[j]? = wr.heap[j]? := by
        intro j hj
        rw [← hW2]
        refine (hset.2 j hj).trans ?_
        rcases hal with rfl | rfl <;> rfl
      have hB2 : Below w.heap.size w W2 := by
        refine hB.trans ?_
        have hsz : wr.heap.size ≤ W2.heap.size := by
          rw [← hW2]; rcases hal with rfl | rfl <;> exact Nat.le_of_eq (by simp [Go.ChangeMaps.setBlock])
        refine ⟨?_, ?_, ?_, hsz, fun j hj => hblk j (by omega)⟩ <;> (rw [← hW2]; rcases hal with rfl | rfl <;> rfl)
      have hI2 : W2.heap[w1.heap.size]? = some (.mapIter (some mb) ck (seen.push e.born) ck) := by rw [← hW2]; exact hset.1
      have hM2 : W2.heap[mb]? = some (.map es ck) := (hblk mb (by omega)).trans hM
      have hob2 := (hblk w.heap.size (by omega)).trans hob
      have hen := run_entry_at (P := Try.prog) W2 w1.heap.size mb ck seen es ck e hI2 hM2 (mem_left he).1 HA.out.nodup
      rw [hW2] at hrun
      have hls := left_shrinks es seen e he
      have hz2 : w.heap.size < W2.heap.size := (Array.getElem?_eq_some_iff.1 hob2).1
      have hz3 : w1.heap.size < W2.heap.size := (Array.getElem?_eq_some_iff.1 hI2).1
      have hz4 : mb < W2.heap.size := (Array.getElem?_eq_some_iff.1 hM2).1
      have hne1 : w1.heap.size ≠ w.heap.size := by omega
      have hne2 : mb ≠ w.heap.size := by omega
      have HE := Lib.hid (And.intro hI2 (And.intro hM2 (And.intro hls hms)))
      have HT := Lib.hid hT
      have hent := cnt_entry HA.out (mem_left he).1
      clear hW2 hset hr1 hblk hI hM hob hal hB hI2 hM2 hls hms hT
      rcases hent with ⟨hek, hev⟩ | ⟨hek, hev⟩ | ⟨hek, hev⟩
      · have hk2 := hev
        have hk1 := hek
        have hK1 := Lib.hid hek
        clear hev hek
        rw [hk1, hk2] at hrun hen
        clear hk1 hk2
        go_wp2_with (go_at_call 22; refine (wcount_n HN.out 0 p k _ (H.out.kept hB2)).mono ?_; rintro e4 w3 ⟨rfl, hg3⟩; have hob3 := (hg3.block _ hz2).trans hob2; have hcc := (arr3_at hob3).1; have hff := (arr3_at hob3).2.2.2.1)
        refine ⟨⟨_, _, _, _, _, (arr3_set hob3).1, (Below.heap_setCell _ _ _ _ hne1).trans ((hg3.block _ hz3).trans HE.out.1), Nat.le_refl _, (Below.heap_setCell _ _ _ _ hne2).trans ((hg3.block _ hz4).trans HE.out.2.1), ⟨told_new, told_on HA.out he hK1.out (by decide) HT.out.2.1, told_on HA.out he hK1.out (by decide) HT.out.2.2⟩, (kept_trans hB2 hg3).setCell (p := ⟨_, _, none⟩) (Nat.le_refl _) _⟩, ?_⟩
        rw [iterLeft_eq ((Below.heap_setCell _ _ _ _ hne1).trans ((hg3.block _ hz3).trans HE.out.1)), HE.out.2.2.2]
        exact HE.out.2.2.1
      · have hk2 := hev
        have hk1 := hek
        have hK1 := Lib.hid hek
        clear hev hek
        rw [hk1, hk2] at hrun hen
        clear hk1 hk2
        go_wp2_with (go_at_call 22; refine (wcount_n HN.out 1 p k _ (H.out.kept hB2)).mono ?_; rintro e4 w3 ⟨rfl, hg3⟩; have hob3 := (hg3.block _ hz2).trans hob2; have hcc := (arr3_at hob3).2.1; have hff := (arr3_at hob3).2.2.2.2.1)
        refine ⟨⟨_, _, _, _, _, (arr3_set hob3).2.1, (Below.heap_setCell _ _ _ _ hne1).trans ((hg3.block _ hz3).trans HE.out.1), Nat.le_refl _, (Below.heap_setCell _ _ _ _ hne2).trans ((hg3.block _ hz4).trans HE.out.2.1), ⟨told_on HA.out he hK1.out (by decide) HT.out.1, told_new, told_on HA.out he hK1.out (by decide) HT.out.2.2⟩, (kept_trans hB2 hg3).setCell (p := ⟨_, _, none⟩) (Nat.le_refl _) _⟩, ?_⟩
        rw [iterLeft_eq ((Below.heap_setCell _ _ _ _ hne1).trans ((hg3.block _ hz3).trans HE.out.1)), HE.out.2.2.2]
        exact HE.out.2.2.1
      · have hk2 := hev
        have hk1 := hek
        have hK1 := Lib.hid hek
        clear hev hek
        rw [hk1, hk2] at hrun hen
        clear hk1 hk2
        go_wp2_with (go_at_call 22; refine (wcount_n HN.out 2 p k _ (H.out.kept hB2)).mono ?_; rintro e4 w3 ⟨rfl, hg3⟩; have hob3 := (hg3.block _ hz2).trans hob2; have hcc := (arr3_at hob3).2.2.1; have hff := (arr3_at hob3).2.2.2.2.2.1)
        refine ⟨⟨_, _, _, _, _, (arr3_set hob3).2.2, (Below.heap_setCell _ _ _ _ hne1).trans ((hg3.block _ hz3).trans HE.out.1), Nat.le_refl _, (Below.heap_setCell _ _ _ _ hne2).trans ((hg3.block _ hz4).trans HE.out.2.1), ⟨told_on HA.out he hK1.out (by decide) HT.out.1, told_on HA.out he hK1.out (by decide) HT.out.2.1, told_new⟩, (kept_trans hB2 hg3).setCell (p := ⟨_, _, none⟩) (Nat.le_refl _) _⟩, ?_⟩
        rw [iterLeft_eq ((Below.heap_setCell _ _ _ _ hne1).trans ((hg3.block _ hz3).trans HE.out.1)), HE.out.2.2.2]
        exact HE.out.2.2.1
end Go.Proofs.Ytmdpgaihbkjjgaa
