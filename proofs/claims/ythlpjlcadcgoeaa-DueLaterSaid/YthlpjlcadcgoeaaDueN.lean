/- Layer 4: what the library's heap puts on the pile, and takes off it. -/
import Derived.Test.YthlpjlcadcgoeaaDueK
namespace Go.Proofs.Ythlpjlcadcgoeaa
set_option linter.unusedVariables false
set_option linter.unusedSimpArgs false
open Go.ChangeShapes Go.WideShapes Go.ChangeAt Go.RowKit

def PushPost (pb g : Nat) (l : List Du) (d : Du) (w : World) (e : Ending) (w' : World) : Prop :=
  e = .returned (.tuple #[]) ∧ ∃ (g' cap' : Nat) (l' : List Du), Pile w' pb g' cap' l' ∧ l'.Perm (l ++ [d]) ∧ Heap l' ∧ Out [pb, g] w w' ∧ (g' = g ∨ w.heap.size ≤ g')
def PopPost (pb g cap : Nat) (l : List Du) (v : Value) (w : World) (e : Ending) (w' : World) : Prop :=
  e = .returned v ∧ ∃ (l' : List Du), Pile w' pb g cap l' ∧ l.Perm (gt l 0 :: l') ∧ Heap l' ∧ Out [pb, g] w w'

set_option maxHeartbeats 1000000 in
theorem hpush_any (w : World) (pb g cap : Nat) (l : List Du) (d : Du) (h : Pile w pb g cap l) (hh : Heap l) (hm : l.length ≤ 900) :
    Calls Try.prog 24 #[.iface 55 (.pointer (some ⟨pb, 0, none⟩)), .iface 24 (.agg #[.int .i64 d.tm, .int .i64 d.id])] w (PushPost pb g l d w) := by
  have H := Lib.hid h
  have HH := Lib.hid hh
  clear h hh
  go_enter Try.func24, Try.ntmps24
  go_wp2_with fail
  refine (ppush_any w pb g cap l d H.out (by omega)).mono ?_
  rintro e w1 ⟨rfl, g1, k1, hP, hO, hg⟩
  have hP' := Lib.hid hP
  have hE := Lib.hid (And.intro hO hg)
  clear hP hO hg
  go_wp2_with fail
  refine (plen_any w1 pb g1 k1 _ hP'.out).mono ?_
  rintro e w2 ⟨rfl, hg2⟩
  rw [List.length_append, List.length_singleton]
  have b1 : (0 : Int) ≤ (l.length : Int) := by omega
  have b2 : (l.length : Int) ≤ 900 := by omega
  go_wp2_with fail
  refine (hup_any w2 pb g1 k1 l.length (l.length + 1) (l ++ [d]) (hP'.out.kept hg2) (by simp) (by omega) (by omega) (push_inv HH.out)).mono ?_
  rintro e w3 ⟨rfl, l3, hP3, hp3, hh3, hO3⟩
  have hP3' := Lib.hid hP3
  have hE3 := Lib.hid (And.intro hp3 (And.intro hh3 hO3))
  clear hP3 hp3 hh3 hO3
  go_wp2
  go_end0
  refine ⟨rfl, g1, k1, l3, hP3'.out, hE3.out.1, heap_of_len hE3.out.2.1 (by have := hE3.out.1.length_eq; simpa using this), ?_, hE.out.2⟩
  refine (hE.out.1.then hg2).trans hE3.out.2.2 (fun j hj => ?_)
  rw [List.mem_singleton] at hj; subst hj
  rcases hE.out.2 with rfl | h
  · exact .inl (by simp)
  · exact .inr h

set_option maxHeartbeats 1000000 in
theorem hpop_any (w : World) (pb g cap n : Nat) (l : List Du) (h : Pile w pb g cap l) (hh : Heap l) (hn : l.length = n + 1) (hm : n ≤ 900) :
    Calls Try.prog 25 #[.iface 55 (.pointer (some ⟨pb, 0, none⟩))] w (PopPost pb g cap l (.iface 24 (.agg #[.int .i64 (gt l 0).tm, .int .i64 (gt l 0).id])) w) := by
  have H := Lib.hid h
  have HH := Lib.hid hh
  have HN := Lib.hid hn
  clear h hh hn
  have b1 : (0 : Int) ≤ (n : Int) := by omega
  have b2 : (n : Int) ≤ 900 := by omega
  go_enter Try.func25, Try.ntmps25
  go_wp2_with fail
  refine (plen_any w pb g cap _ H.out).mono ?_
  rintro e w1 ⟨rfl, hg1⟩
  rw [HN.out]
  have hP1 := Lib.hid (H.out.kept hg1)
  go_wp2_with fail
  refine (pswap_any w1 pb g cap l 0 n hP1.out (by rw [HN.out]; omega) (by rw [HN.out]; omega)).mono ?_
  rintro e w2 ⟨rfl, hP2, hO2⟩
  have hP2' := Lib.hid hP2
  have hO2' := Lib.hid hO2
  clear hP2 hO2
  go_wp2_with fail
  refine (hdown_any w2 pb g cap n (n + 1) (sw l 0 n) hP2'.out (by rw [sw_len, HN.out]) (by omega) (by omega) (pop_inv HH.out HN.out)).mono ?_
  rintro e w3 ⟨b, l3, rfl, hP3, hp3, hh3, hg3, hO3⟩
  have hl3 : l3.length = n + 1 := by rw [hp3.length_eq, sw_len, HN.out]
  have hl3' := Lib.hid hl3
  have hlast : gt l3 n = gt l 0 := by
    rw [hg3 n (Nat.le_refl _), sw_j (by rw [HN.out]; omega) (by rw [HN.out]; omega)]
  have hE3 := Lib.hid (And.intro (And.intro hp3 (And.intro hh3 hO3)) hlast)
  have hP3' := Lib.hid hP3
  clear hP3 hp3 hh3 hO3 hg3 hlast hl3
  go_wp2_with fail
  refine (ppop_any w3 pb g cap n l3 hP3'.out hl3'.out (by omega)).mono ?_
  rw [hE3.out.2]
  rintro e w4 ⟨rfl, hP4, hO4⟩
  have hE4 := Lib.hid (And.intro hP4 hO4)
  clear hP4 hO4
  go_wp2
  go_ret
  refine ⟨rfl, l3.take n, hE4.out.1, ?_, heap_take hE3.out.1.2.1 hl3'.out, ?_⟩
  · exact perm_last (hE3.out.1.1.trans (sw_perm (by rw [HN.out]; omega) (by rw [HN.out]; omega))) hl3'.out hE3.out.2
  · refine ((((Out.of_kept hg1).trans hO2'.out ?_).trans hE3.out.1.2.2 ?_).trans hE4.out.2 ?_) <;> (intro j hj; rw [List.mem_singleton] at hj; subst hj; exact .inl (by simp))

set_option maxHeartbeats 1000000 in
theorem dnext_any (w : World) (pb g cap n : Nat) (l : List Du) (h : Pile w pb g cap l) (hh : Heap l) (hn : l.length = n + 1) (hm : n ≤ 900) :
    Calls Try.prog 22 #[.iface 55 (.pointer (some ⟨pb, 0, none⟩))] w (PopPost pb g cap l (.agg #[.int .i64 (gt l 0).tm, .int .i64 (gt l 0).id]) w) := by
  have H := Lib.hid h
  have HE := Lib.hid (And.intro hh hn)
  have ht := due_assert (gt l 0).tm (gt l 0).id
  clear h hh hn
  go_enter Try.func22, Try.ntmps22
  go_wp2_with fail
  refine (hpop_any _ pb g cap n l (H.out.kept (by repeat' (first | (with_reducible exact Below.refl _ _) | (with_reducible assumption) | (with_reducible refine kept_alloc ?_ _) | (with_reducible refine kept_drewN ?_ _) | (with_reducible refine Below.drew ?_) | (with_reducible refine Below.setCell ?_ (by first | omega | (simp; omega) | (simp; done)) _) | (refine kept_trans ?_ (by with_reducible assumption))))) HE.out.1 HE.out.2 hm).mono ?_
  rintro e w1 ⟨rfl, l1, hP, hp, hh1, hO⟩
  have hz : w.heap.size < w1.heap.size := by have := hO.size; simp at this; omega
  have hr : w.heap.size ≠ pb ∧ w.heap.size ≠ g := by have := H.out.lt; omega
  have hb : w1.heap[w.heap.size]? = _ := (hO.block w.heap.size (by simp) (by simp [hr])).trans (heap_alloc_new w _)
  have q1 : w1.cell? ⟨w.heap.size, 0, none⟩ = some (.int .i64 0) := by simp [World.cell?, hb]
  have q2 : w1.cell? ⟨w.heap.size, 1, none⟩ = some (.int .i64 0) := by simp [World.cell?, hb]
  have f1 : ∀ j, w1.frozen? ⟨w.heap.size, j, none⟩ = false := fun j => by simp [World.frozen?, hb]
  have hE := Lib.hid (And.intro hP (And.intro hp (And.intro hh1 hO)))
  have hz1 := Lib.hid hr
  clear hP hp hh1 hO hb hr
  go_wp2
  have hO2 : Out [w.heap.size] w1 (((w1.setCell ⟨w.heap.size, 0, none⟩ (.int .i64 (gt l 0).tm)).setCell ⟨w.heap.size, 1, none⟩ (.int .i64 (gt l 0).id)).alloc (.cells #[.int .i64 (gt l 0).tm, .int .i64 (gt l 0).id] 24)) :=
    (((Out.refl _ w1).set (x := ⟨w.heap.size, _, none⟩) (.inl (by simp)) _).set (x := ⟨w.heap.size, _, none⟩) (.inl (by simp)) _).alloc _
  refine bodyPost_ret (v := .agg #[.int .i64 (gt l 0).tm, .int .i64 (gt l 0).id]) (by simp [results, Try.results22, go_sem, hz, q1, q2]) rfl ⟨rfl, l1, hE.out.1.out hO2 (by have := hz1.out; simp; omega) (by have := hz1.out; simp; omega), hE.out.2.1, hE.out.2.2.1, ?_⟩
  refine (Out.after ((Below.refl _ _).alloc (Nat.le_refl _) _) hE.out.2.2.2).trans hO2 (fun j hj => ?_)
  rw [List.mem_singleton] at hj; subst hj; exact .inr (Nat.le_refl _)
end Go.Proofs.Ythlpjlcadcgoeaa
