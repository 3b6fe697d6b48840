/- Layer 4: all that stand, in order. -/
import Derived.Test.YthlpjlcadcgoeaaDueQ
import Derived.Laws.MakeOwn
namespace Go.Proofs.Ythlpjlcadcgoeaa
set_option linter.unusedVariables false
set_option linter.unusedSimpArgs false
open Go.ChangeShapes Go.WideShapes Go.ChangeAt Go.RowKit

/-- A literal of one. -/
theorem hS1 (w : World) (d : Du) {g : Nat} (hg : w.heap.size = g) : Sl (w.alloc (.cells #[.int .i64 d.tm, .int .i64 d.id] 24)) 2 Du.cells [d] (.slice (some ⟨g, 0, none⟩) 1 1) :=
  Ow.sl Du.enc (Ow.made (base := 0) (e := 24) (W := w) Du.enc [d] #[.int .i64 d.tm, .int .i64 d.id] rfl (Nat.zero_le _) (by show 1 ≤ maxLen; decide) hg rfl)
theorem below_of_grown {w w' : World} (h : w.grownBy w' none) : Below w.heap.size w w' := ⟨h.os, h.tape, h.output, h.size, fun j hj => h.block j hj (by simp)⟩
theorem out_of_grown {w w' : World} {row : Option Nat} (h : w.grownBy w' row) : Out row.toList w w' := ⟨h.os, h.tape, h.output, h.size, fun j hj hn => h.block j hj (fun e => hn (by simp [e]))⟩

set_option maxHeartbeats 4000000 in
theorem ordered_any (l : List Du) (mb : Nat) (w : World) (h : MapD w mb l) (ha : Apart l) (hm : l.length ≤ 800) : Calls Try.prog 20 #[.map (some mb)] w (RetD w (srt l)) := by
  obtain ⟨es, ck, hA⟩ := h
  have hob := hA.obj
  have hsz := hA.size
  obtain ⟨i, hi, hz0, hz1, hz2⟩ := info_parts due_info
  obtain ⟨w0, hmk, how0, hgr0⟩ := run_make_own w w.heap.size 22 24 i _ 2 Try.underlying22 hi hz0 hz1 .i64 .i64 l.length (by rw [hz2]; omega) (by unfold maxLen; omega) (Nat.le_refl _)
  have hM : MapD w mb l := ⟨es, ck, hA⟩
  have HA := Lib.hid hA
  have HM := Lib.hid hM
  clear hA hi hz0 hz1 hz2 hM
  have hlen : ((es.size : Nat) : Int) = ((l.length : Nat) : Int) := by rw [hsz]
  have hln : (Builtin.len_ #[43] 3 #[.map (some mb)]).run Try.prog w = .ok (.int .i64 l.length) w := by
    have hg := MapKept.run_getObj_map (P := Try.prog) hob
    rw [← hlen]
    simp [Builtin.len_, hg, goInt, Result.andThen]
  clear hsz
  have hB0 := below_of_grown hgr0
  have HO := Lib.hid (show Ow w0 w.heap.size 24 2 Du.cells [] (.slice (some ⟨w.heap.size, 0, none⟩) 0 l.length) from how0)
  clear how0 hgr0 hlen
  go_enter Try.func20, Try.ntmps20
  go_wp2_with fail
  refine (piled_any l mb w0 (HM.out.kept hB0) hm).mono ?_
  rintro e w1 ⟨pb, g, cap, t, rfl, hP, hp, hh, hB1, hpb, hg⟩
  have hs0 := hB0.size
  have hO1 := Ow.kept HO.out hB1
  have hB01 : Below w.heap.size w w1 := kept_trans hB0 hB1
  have hlt0 := (Ow.lt HO.out _ rfl).2
  have HE := Lib.hid (And.intro hP (And.intro hp (And.intro hh (And.intro hO1 (And.intro hB01 (And.intro hlt0 (And.intro hpb hg)))))))
  have hpg : w.heap.size ≤ pb ∧ w.heap.size ≤ g := by omega
  clear hP hp hh hO1 hB1 hB0 hB01 hlt0 hpb hg hs0 hln hmk hob
  go_wp2
  go_loopw [3] (fun s3 wr => ∃ (p3 : Option Addr) (k3 : Nat) (done todo t : List Du), s3 = .slice p3 done.length k3 ∧ srt l = done ++ todo ∧ Ow wr w.heap.size 24 2 Du.cells done (.slice p3 done.length k3) ∧ Pile wr pb g cap t ∧ Heap t ∧ t.Perm todo ∧ Kept w wr ∧ ∀ x, p3 = some x → x.block ≠ pb ∧ x.block ≠ g) (fun s3 _ => match s3 with | .slice _ n _ => l.length - n | _ => 0)
  case atStart => exact ⟨_, _, [], srt l, t, rfl, rfl, HE.out.2.2.2.1, HE.out.1, HE.out.2.2.1, HE.out.2.1.trans (srt_perm l).symm, HE.out.2.2.2.2.1, fun x hx => by cases hx; have := HE.out.2.2.2.2.2; show w.heap.size ≠ pb ∧ w.heap.size ≠ g; omega⟩
  case round =>
    clear HE
    obtain ⟨p3, k3, done, todo, t', rfl, hsl, hO, hP, hh, hp, hB, hne⟩ := hrel
    have hlen : done.length + todo.length = l.length := by have := congrArg List.length hsl; rw [srt_len, List.length_append] at this; omega
    cases todo with
    | nil =>
      have ht : t' = [] := List.perm_nil.1 hp
      subst ht
      have HE := Lib.hid (And.intro hsl (And.intro hO (And.intro hP hB)))
      clear hsl hO hh hp hB hne hlen hP
      go_wp2_with fail
      refine (plen_any wr pb g cap _ HE.out.2.2.1).mono ?_
      rintro e w2 ⟨rfl, hg2⟩
      rw [List.length_nil]
      go_wp2
      go_ret
      have e1 := HE.out.1
      rw [List.append_nil] at e1
      rw [e1]
      exact ⟨p3, k3, rfl, (Ow.sl Du.enc HE.out.2.1).kept hg2, kept_trans HE.out.2.2.2 hg2⟩
    | cons d0 todo =>
      obtain ⟨n, hn⟩ : ∃ n, t'.length = n + 1 := ⟨todo.length, by rw [hp.length_eq]; simp⟩
      have hsd : Sorted (d0 :: todo) := by
        have := srt_sorted ha
        rw [hsl, Sorted, List.pairwise_append] at this
        exact this.2.1
      have hnb : n ≤ 800 := by have := hp.length_eq; simp at this hlen; omega
      have hdl : done.length ≤ 800 := by omega
      have HE := Lib.hid (And.intro hsl (And.intro hO (And.intro hP (And.intro hh (And.intro hp (And.intro hB (And.intro hne (And.intro hlen (And.intro hn hsd)))))))))
      clear hsl hO hP hh hp hB hne hlen hn hsd
      go_wp2_with fail
      refine (plen_any wr pb g cap _ HE.out.2.2.1).mono ?_
      rintro e w2 ⟨rfl, hg2⟩
      rw [HE.out.2.2.2.2.2.2.2.2.1]
      have b1 : (0 : Int) < (n : Int) + 1 := by omega
      go_wp2_with fail
      refine (dnext_any w2 pb g cap n t' (HE.out.2.2.1.kept hg2) HE.out.2.2.2.1 HE.out.2.2.2.2.2.2.2.2.1 (by omega)).mono ?_
      rintro e w3 ⟨rfl, t3, hP3, hp3, hh3, hO3⟩
      obtain ⟨hd, hp4⟩ := heap_first HE.out.2.2.2.2.1 HE.out.2.2.2.2.2.2.2.2.2 hp3 (fun e he => by
        obtain ⟨k, hk, rfl⟩ := gt_mem he
        exact heap_least HE.out.2.2.2.1 k hk)
      rw [hd]
      have HE3 := Lib.hid (And.intro hP3 (And.intro hh3 (And.intro hO3 hp4)))
      clear hP3 hh3 hO3 hp4 hp3 hd
      have hO3 : Ow w3 w.heap.size 24 2 Du.cells done (.slice p3 done.length k3) := by
        refine (Ow.kept HE.out.2.1 hg2).of_block (fun x hx => HE3.out.2.2.1.block x (Ow.lt (Ow.kept HE.out.2.1 hg2) x hx).2 ?_)
        cases p3 with
        | none => cases hx
        | some y => cases hx; have := HE.out.2.2.2.2.2.2.1 y rfl; simp; omega
      have hB3 : Below w.heap.size w w3 := Out.below (kept_trans HE.out.2.2.2.2.2.1 hg2) HE3.out.2.2.1 (by simp; omega) (by have := HE.out.2.2.2.2.2.1.size; have := hg2.size; omega)
      have HQ := Lib.hid (And.intro hO3 hB3)
      clear hO3 hB3 hpg
      go_wp2_with ((at_builtin; refine wpList_appb (wb := w) rfl _ _ 22 rfl (.agg #[.int .i64 0, .int .i64 0]) 16 Try.underlying22 due_info rfl (by decide) Du.enc rfl rfl (xs := done) (ys := [d0]) (HQ.out.1.kept ((Below.refl _ _).alloc (Nat.le_refl _) _)) (hS1 _ d0 rfl) (HQ.out.2.alloc (by have := HQ.out.2.size; omega) _) (by simp only [List.length_append, List.length_nil, List.length_cons]; unfold maxLen; omega) (by simp only [List.length_append, List.length_nil, List.length_cons]; omega) ?_); intro v1 w4 ho1 hb1 hgr1 hbk1; obtain ⟨g1, k4, rfl⟩ := ow_some ho1 (by simp); rw [List.length_append, List.length_singleton] at ho1 hbk1)
      have HX := Lib.hid (And.intro ho1 (And.intro hb1 (And.intro hgr1 hbk1)))
      clear ho1 hb1 hgr1 hbk1
      go_wp2
      go_roundw
      case rel =>
        obtain ⟨x1, x2, x3, x4⟩ := HX.out
        obtain ⟨y1, y2, y3, y4, y5, y6, y7, y8, y9, y10⟩ := HE.out
        obtain ⟨z1, z2, z3, z4⟩ := HE3.out
        have hrow : pb ∉ ((Value.slice p3 done.length k3).ownBlock).toList ∧ g ∉ ((Value.slice p3 done.length k3).ownBlock).toList := by
          cases p3 with
          | none => simp [Value.ownBlock]
          | some y => have := y7 y rfl; simp [Value.ownBlock]; omega
        have hP4 : Pile w4 pb g cap t3 := (z1.kept ((Below.refl _ _).alloc (Nat.le_refl _) _)).out (out_of_grown x3) hrow.1 hrow.2
        have hlt := z1.lt
        refine ⟨some ⟨g1, 0, none⟩, k4, done ++ [d0], todo, t3, by simp, by rw [y1]; simp, by rw [List.length_append, List.length_singleton]; exact x1, hP4, z2, z4, x2, fun x hx => ?_⟩
        cases hx
        show g1 ≠ pb ∧ g1 ≠ g
        rcases x4 g1 rfl with h | h
        · cases p3 with
          | none => cases h
          | some y => have := y7 y rfl; cases h; exact this
        · simp at h; omega
      case measure =>
        have := HE.out.2.2.2.2.2.2.2.1
        simp at this ⊢
        omega
end Go.Proofs.Ythlpjlcadcgoeaa
