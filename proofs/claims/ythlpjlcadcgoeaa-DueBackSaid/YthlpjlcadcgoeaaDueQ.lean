/- Layer 4: all that stand are piled, in whatever order the map hands them out. -/
import Derived.Test.YthlpjlcadcgoeaaDueP
namespace Go.Proofs.Ythlpjlcadcgoeaa
set_option linter.unusedVariables false
set_option linter.unusedSimpArgs false
open Go.ChangeShapes Go.WideShapes Go.ChangeAt Go.RowKit

def duOf (e : MapEntry) : Du :=
  match e.val with
  | .agg cs => ⟨intOf (cs.getD 0 undef), intOf (cs.getD 1 undef)⟩
  | _ => ⟨0, 0⟩
theorem MapAt.du {w : World} {mb : Nat} {l : List Du} {es : Array MapEntry} {ck : Nat} (h : MapAt w mb l es ck) : es.toList.map duOf = l := by
  have h1 := congrArg (List.map (fun p : Value × Value => duOf { key := p.1, val := p.2, born := 0 })) h.ents
  rw [List.map_map, List.map_map] at h1
  have h2 : ((fun p : Value × Value => duOf { key := p.1, val := p.2, born := 0 }) ∘ fun e : MapEntry => (e.key, e.val)) = duOf := by funext e; rfl
  have h3 : ((fun p : Value × Value => duOf { key := p.1, val := p.2, born := 0 }) ∘ fun d : Du => (Value.int .i64 d.id, .agg #[.int .i64 d.tm, .int .i64 d.id])) = id := by funext d; rfl
  rw [h2, h3, List.map_id] at h1
  exact h1
theorem MapAt.val {w : World} {mb : Nat} {l : List Du} {es : Array MapEntry} {ck : Nat} (h : MapAt w mb l es ck) {e : MapEntry} (he : e ∈ es.toList) : e.key = .int .i64 (duOf e).id ∧ e.val = .agg #[.int .i64 (duOf e).tm, .int .i64 (duOf e).id] := by
  obtain ⟨d, _, h1, h2⟩ := h.mem he
  have : duOf e = d := by unfold duOf; rw [h2]; rfl
  rw [this]; exact ⟨h1, h2⟩
theorem perm_filter_out {e : MapEntry} : ∀ {M : List MapEntry}, (M.map (·.born)).Nodup → e ∈ M → M.Perm (e :: M.filter (fun x => !(x.born == e.born)))
  | [], _, h => by simp at h
  | x :: M, hn, h => by
    rw [List.map_cons, List.nodup_cons] at hn
    rcases List.mem_cons.1 h with rfl | h
    · rw [List.filter_cons_of_neg (by simp), List.filter_eq_self.2 (fun y hy => by
        have : y.born ≠ e.born := fun hh => hn.1 (hh ▸ List.mem_map.2 ⟨y, hy, rfl⟩)
        simpa using this)]
    · have hne : x.born ≠ e.born := fun hh => hn.1 (hh ▸ List.mem_map.2 ⟨e, h, rfl⟩)
      rw [List.filter_cons_of_pos (by simpa using hne)]
      exact ((perm_filter_out hn.2 h).cons x).trans (List.Perm.swap e x _)
theorem left_perm {es : Array MapEntry} {seen : Array Nat} {e : MapEntry} (hn : (es.toList.map (·.born)).Nodup) (he : e ∈ (leftOf es seen).toList) : (leftOf es seen).toList.Perm (e :: (leftOf es (seen.push e.born)).toList) := by
  have h1 : (leftOf es (seen.push e.born)).toList = (leftOf es seen).toList.filter (fun x => !(x.born == e.born)) := by
    unfold leftOf
    rw [Array.toList_filter, Array.toList_filter, List.filter_filter]
    congr 1
    funext x
    rw [contains_push]
    cases seen.contains x.born <;> cases (x.born == e.born) <;> rfl
  rw [h1]
  refine perm_filter_out ?_ he
  unfold leftOf
  rw [Array.toList_filter]
  exact (List.filter_sublist.map _).nodup hn
theorem left_zero {es : Array MapEntry} {seen : Array Nat} (h : (leftOf es seen).size = 0) : (leftOf es seen).toList = [] := by
  have : leftOf es seen = #[] := Array.eq_empty_of_size_eq_zero h
  rw [this]
theorem left_all (es : Array MapEntry) : leftOf es #[] = es := by
  unfold leftOf
  exact Array.filter_eq_self.2 (fun a _ => by simp)
def iterLeft (es : Array MapEntry) (r : Nat) (w : World) : Nat := (leftOf es (w.iterSeen r)).size
theorem iterLeft_eq {es : Array MapEntry} {r : Nat} {w : World} {m : Option Nat} {a c : Nat} {seen : Array Nat} (h : w.heap[r]? = some (.mapIter m a seen c)) : iterLeft es r w = (leftOf es seen).size := by
  unfold iterLeft World.iterSeen; rw [h]

/-- What 'piled' leaves. -/
def PiledPost (w : World) (l : List Du) (e : Ending) (w' : World) : Prop :=
  ∃ (pb g cap : Nat) (t : List Du), e = .returned (.iface 55 (.pointer (some ⟨pb, 0, none⟩))) ∧ Pile w' pb g cap t ∧ t.Perm l ∧ Heap t ∧ Kept w w' ∧ w.heap.size ≤ pb ∧ w.heap.size ≤ g

set_option maxHeartbeats 4000000 in
theorem piled_any (l : List Du) (mb : Nat) (w : World) (h : MapD w mb l) (hm : l.length ≤ 800) : Calls Try.prog 21 #[.map (some mb)] w (PiledPost w l) := by
  obtain ⟨es, ck, hA⟩ := h
  have hu := Try.underlying43
  have hlt := (show MapD w mb l from ⟨es, ck, hA⟩).lt
  have HA := Lib.hid hA
  have hrg := run_range_map (P := Try.prog) ((w.alloc (.cells #[] 24)).alloc (.cells #[.slice (some ⟨w.heap.size, 0, none⟩) 0 0] 56)) 43 3 24 mb es ck hu (by rw [heap_alloc_old _ _ (by simp; omega), heap_alloc_old _ _ hlt]; exact hA.obj)
  have hA0 : MapAt w mb l es ck := hA
  clear hA
  go_enter Try.func21, Try.ntmps21
  go_wp2
  clear hrg hu
  have hP0 : Pile (((w.alloc (.cells #[] 24)).alloc (.cells #[.slice (some ⟨w.heap.size, 0, none⟩) 0 0] 56)).alloc (.mapIter (some mb) ck #[] ck)) (w.heap.size + 1) w.heap.size 0 [] := by
    refine Pile.kept (w := (w.alloc (.cells #[] 24)).alloc (.cells #[.slice (some ⟨w.heap.size, 0, none⟩) 0 0] 56)) ⟨by omega, ?_, ?_⟩ ((Below.refl _ _).alloc (Nat.le_refl _) _)
    · have := heap_alloc_new (w.alloc (.cells #[] 24)) (.cells #[.slice (some ⟨w.heap.size, 0, none⟩) 0 0] 56)
      simpa using this
    · exact Ow.kept (Ow.made (base := 0) Du.enc [] #[] rfl (Nat.zero_le _) (by decide) rfl rfl) ((Below.refl _ _).alloc (Nat.le_refl _) _)
  have hI0 : (((w.alloc (.cells #[] 24)).alloc (.cells #[.slice (some ⟨w.heap.size, 0, none⟩) 0 0] 56)).alloc (.mapIter (some mb) ck #[] ck)).heap[w.heap.size + 1 + 1]? = some (.mapIter (some mb) ck #[] ck) := by
    have := heap_alloc_new ((w.alloc (.cells #[] 24)).alloc (.cells #[.slice (some ⟨w.heap.size, 0, none⟩) 0 0] 56)) (.mapIter (some mb) ck #[] ck)
    simpa using this
  have hp0 : ([] ++ (leftOf es #[]).toList.map duOf : List Du).Perm l := by rw [left_all, List.nil_append, hA0.du]
  have HP := Lib.hid (And.intro hP0 (And.intro hI0 hp0))
  clear hP0 hI0 hp0 hA0
  go_loopw [10] (fun _ wr => ∃ (g cap : Nat) (t : List Du) (seen : Array Nat) (c0 : Nat), Pile wr (w.heap.size + 1) g cap t ∧ Heap t ∧ wr.heap[w.heap.size + 1 + 1]? = some (.mapIter (some mb) ck seen c0) ∧ ck ≤ c0 ∧ (t ++ (leftOf es seen).toList.map duOf).Perm l ∧ Kept w wr ∧ w.heap.size ≤ g) (fun _ wr => iterLeft es (w.heap.size + 1 + 1) wr)
  case atStart => exact ⟨_, _, _, _, _, HP.out.1, heap_nil, HP.out.2.1, Nat.le_refl _, HP.out.2.2, by repeat' (first | (with_reducible exact Below.refl _ _) | (with_reducible assumption) | (with_reducible refine kept_alloc ?_ _) | (with_reducible refine kept_drewN ?_ _) | (with_reducible refine Below.drew ?_) | (with_reducible refine Below.setCell ?_ (by first | omega | (simp; omega) | (simp; done)) _) | (refine kept_trans ?_ (by with_reducible assumption))), Nat.le_refl _⟩
  case round =>
    obtain ⟨g, cap, t, seen, c0, hP, hh, hI, hc0, hp, hB, hg⟩ := hrel
    clear HP
    have hAr : wr.heap[mb]? = some (.map es ck) := (hB.block _ hlt).trans HA.out.obj
    have hms := iterLeft_eq (es := es) hI
    rcases run_next_at (P := Try.prog) wr 0 (w.heap.size + 1 + 1) mb ck c0 seen es ck hI hAr HA.out.born hc0 with ⟨h0, hrun⟩ | ⟨e, he, w1, hal, hrun⟩
    · have hE := Lib.hid (And.intro hP (And.intro hh (And.intro hp (And.intro hB (And.intro hg h0)))))
      clear hP hh hI hp hB hg h0 hms hAr
      go_wp2
      go_ret
      have hp := hE.out.2.2.1
      rw [left_zero hE.out.2.2.2.2.2, List.map_nil, List.append_nil] at hp
      exact ⟨_, g, cap, t, rfl, hE.out.1, hp, hE.out.2.1, hE.out.2.2.2.1, by omega, hE.out.2.2.2.2.1⟩
    · obtain ⟨hv1, hv2⟩ := HA.out.val (mem_left he).1
      have hlp := left_perm HA.out.nodup he
      have hls := left_shrinks es seen e he
      have hr1 : w1.heap[w.heap.size + 1 + 1]? = some (.mapIter (some mb) ck seen c0) := by rcases hal with rfl | rfl <;> exact hI
      have hset := MapKept.heap_set (o' := .mapIter (some mb) ck (seen.push e.born) ck) hr1
      obtain ⟨W2, hW2⟩ : ∃ W2, Go.ChangeMaps.setBlock w1 (w.heap.size + 1 + 1) (.mapIter (some mb) ck (seen.push e.born) ck) = W2 := ⟨_, rfl⟩
      have hO2 : Out [w.heap.size + 1 + 1] wr W2 := by
        rw [← hW2]
        refine ⟨?_, ?_, ?_, ?_, fun j _ hn => (hset.2 j (by simpa using hn)).trans ?_⟩ <;> rcases hal with rfl | rfl <;> first | rfl | exact Nat.le_of_eq (by simp [Go.ChangeMaps.setBlock])
      have hI2 : W2.heap[w.heap.size + 1 + 1]? = some (.mapIter (some mb) ck (seen.push e.born) ck) := by rw [← hW2]; exact hset.1
      have hM2 : W2.heap[mb]? = some (.map es ck) := (hO2.block mb (Array.getElem?_eq_some_iff.1 hAr).1 (by simp; omega)).trans hAr
      have hen := run_entry_at (P := Try.prog) W2 (w.heap.size + 1 + 1) mb ck seen es ck e hI2 hM2 (mem_left he).1 HA.out.nodup
      rw [hW2] at hrun
      rw [hv1, hv2] at hrun hen
      have hgr : g ≠ w.heap.size + 1 + 1 := by
        rintro rfl
        obtain ⟨_, ⟨h1, _⟩ | ⟨_, _, _, h1, _, h2, _⟩⟩ := hP.own
        · cases h1
        · cases h1; rw [h2] at hI; cases hI
      have hP2 := hP.out hO2 (by simp) (by simpa using hgr)
      have htl : t.length ≤ 800 := by have := hp.length_eq; simp at this; omega
      generalize hd : duOf e = d at *
      have hlp2 := hlp.map duOf
      rw [List.map_cons, hd] at hlp2
      have hE := Lib.hid (And.intro hP2 (And.intro hh (And.intro hp (And.intro hB (And.intro hg (And.intro hlp2 (And.intro hls (And.intro hO2 (And.intro hI2 (And.intro hgr hms))))))))))
      clear hP hh hI hp hB hg hms hAr hv1 hv2 hlp hls hr1 hset hW2 hO2 hI2 hM2 hgr hP2 hd hlp2 he hal
      go_wp2_with fail
      refine (hpush_any _ _ g cap t d (hE.out.1.kept ((Below.refl _ _).alloc (Nat.le_refl _) _)) hE.out.2.1 (by omega)).mono ?_
      rintro e1 w3 ⟨rfl, g3, k3, t3, hP3, hp3, hh3, hO3, hg3⟩
      have hE3 := Lib.hid (And.intro hP3 (And.intro hp3 (And.intro hh3 (And.intro hO3 hg3))))
      clear hP3 hp3 hh3 hO3 hg3
      go_wp2
      go_roundw
      case rel =>
        obtain ⟨-, -, f3, f4, f5, f6, f7, f8, f9, f10, -⟩ := hE.out
        obtain ⟨g1, g2, g3', g4, g5⟩ := hE3.out
        have hs8 := f8.size
        have hs4 := f4.size
        have hlt2 := (Array.getElem?_eq_some_iff.1 f9).1
        have hI3 : w3.heap[w.heap.size + 1 + 1]? = some (.mapIter (some mb) ck (seen.push e.born) ck) := by
          refine (g4.block _ (by simp; omega) (by simp; omega)).trans ?_
          rw [heap_alloc_old _ _ hlt2]; exact f9
        have hp4 : (t3 ++ (leftOf es (seen.push e.born)).toList.map duOf).Perm l := by
          refine ((g2.append_right _).trans ?_).trans f3
          rw [List.append_assoc]
          exact (f6.symm).append_left t
        have hB2 : Below w.heap.size w (W2.alloc (.cells #[.int .i64 d.tm, .int .i64 d.id] 24)) := (Out.below f4 f8 (by simp; omega) f4.size).alloc (by omega) _
        have hB3 : Below w.heap.size w w3 := Out.below hB2 g4 (by simp; omega) hB2.size
        exact ⟨g3, k3, t3, _, ck, g1, g3', hI3, Nat.le_refl _, hp4, hB3, by rcases g5 with rfl | h; exact f5; simp at h; omega⟩
      case measure =>
        obtain ⟨-, -, f3, f4, f5, f6, f7, f8, f9, f10, f11⟩ := hE.out
        obtain ⟨g1, g2, g3', g4, g5⟩ := hE3.out
        have hlt2 := (Array.getElem?_eq_some_iff.1 f9).1
        have hI3 : w3.heap[w.heap.size + 1 + 1]? = some (.mapIter (some mb) ck (seen.push e.born) ck) := by
          refine (g4.block _ (by simp; omega) (by simp; omega)).trans ?_
          rw [heap_alloc_old _ _ hlt2]; exact f9
        rw [iterLeft_eq hI3, f11]
        exact f7
end Go.Proofs.Ythlpjlcadcgoeaa
