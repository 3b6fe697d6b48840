/- Layer 4: the contract of Late. -/
import Derived.Test.YthlpjlcadcgoeaaDueS
import Derived.Test.YthlpjlcadcgoeaaInt
namespace Go.Proofs.Ythlpjlcadcgoeaa
set_option linter.unusedVariables false
set_option linter.unusedSimpArgs false
open Go.ChangeShapes Go.WideShapes Go.ChangeAt Go.RowKit

theorem late_split {now : Int} : ∀ {done todo : List Du}, (∀ d ∈ done, lateB now d = true) → (∀ d, todo.head? = some d → lateB now d = false) → (done ++ todo).takeWhile (lateB now) = done ∧ (done ++ todo).dropWhile (lateB now) = todo
  | [], todo, _, h2 => by
    cases todo with
    | nil => simp
    | cons d r => have := h2 d rfl; simp [List.takeWhile_cons, List.dropWhile_cons, this]
  | e :: done, todo, h1, h2 => by
    have he := h1 e (by simp)
    obtain ⟨a, b⟩ := late_split (done := done) (fun d hd => h1 d (by simp [hd])) h2
    simp [List.takeWhile_cons, List.dropWhile_cons, he, a, b]
/-- What 'Late' leaves. -/
def RetL (w : World) (r : List Int) (s : List Du) (e : Ending) (w' : World) : Prop :=
  ∃ (p q : Option Addr) (k j : Nat), e = .returned (.tuple #[.slice p r.length k, .slice q s.length j]) ∧ Sl w' 1 intC r (.slice p r.length k) ∧ Sl w' 2 Du.cells s (.slice q s.length j) ∧ Kept w w'
theorem hI1 (w : World) (x : Int) {g : Nat} (hg : w.heap.size = g) : Sl (w.alloc (.cells #[.int .i64 x] 3)) 1 intC [x] (.slice (some ⟨g, 0, none⟩) 1 1) :=
  Ow.sl intEnc (Ow.made (base := 0) (e := 3) (W := w) intEnc [x] #[.int .i64 x] rfl (Nat.zero_le _) (by show 1 ≤ maxLen; decide) hg rfl)
theorem sli_nil (w : World) : Sl w 1 intC [] (.slice none 0 0) := ⟨none, 0, rfl, by simp, by simp, fun _ => rfl, fun h => absurd rfl h⟩

/-- The loop of 'Late' under way. -/
structure LateAt (w0 wr : World) (l done todo t : List Du) (now : Int) (p3 : Option Addr) (k3 mb pb g cap : Nat) : Prop where
  all : l = done ++ todo
  late : ∀ d ∈ done, lateB now d = true
  own : Ow wr w0.heap.size 3 1 intC (done.map Du.id) (.slice p3 done.length k3)
  map : MapD wr mb todo
  pile : Pile wr pb g cap t
  heap : Heap t
  perm : t.Perm todo
  kept : Kept w0 wr
  ne : ∀ x, p3 = some x → x.block ≠ pb ∧ x.block ≠ g
  ge : w0.heap.size ≤ mb ∧ w0.heap.size ≤ pb ∧ w0.heap.size ≤ g
theorem map_ne_pile {w : World} {mb pb g cap : Nat} {l t : List Du} (h : MapD w mb l) (k : Pile w pb g cap t) : mb ≠ pb ∧ mb ≠ g := by
  obtain ⟨es, ck, h1, _⟩ := h
  refine ⟨fun e => ?_, fun e => ?_⟩
  · subst e; rw [k.obj] at h1; cases h1
  · subst e
    obtain ⟨_, ⟨h2, _⟩ | ⟨_, _, _, h2, _, h3, _⟩⟩ := k.own
    · cases h2
    · cases h2; rw [h3] at h1; cases h1
theorem map_ne_own {w : World} {mb base n k c : Nat} {α : Type} {e : TypeId} {enc : α → List Value} {xs : List α} {l : List Du} {p : Option Addr} (h : MapD w mb l) (ho : Ow w base e k enc xs (.slice p n c)) : ∀ x, p = some x → x.block ≠ mb := by
  obtain ⟨es, ck, h1, _⟩ := h
  intro x hx e'
  obtain ⟨_, ⟨h2, _⟩ | ⟨_, _, _, h2, _, h3, _⟩⟩ := ho
  · cases h2; cases hx
  · cases h2; cases hx; have e2 : _ = mb := e'; simp only at e2; rw [e2] at h3; rw [h3] at h1; cases h1

theorem late_next {w4 X w5 : World} {mb : Nat} {d0 : Du} {todo : List Du} {v : Value} (hM : MapD w4 mb (d0 :: todo)) (hW : Below w4.heap.size w4 X) (hb : X.heap[w4.heap.size]? = some (.cells #[.int .i64 d0.tm, .int .i64 d0.id] 24 (0, 0))) (hgr : X.grownBy w5 v.ownBlock)
    (hrow : ∀ x, v.ownBlock = some x → x ≠ mb ∧ x ≠ w4.heap.size) (ha : Apart (d0 :: todo)) :
    ∃ w6, w5.cell? ⟨w4.heap.size, 1, none⟩ = some (.int .i64 d0.id) ∧ (Builtin.delete_ #[43, 3] 0 #[.map (some mb), .int .i64 d0.id]).run Try.prog w5 = .ok (.tuple #[]) w6 ∧ MapD w6 mb todo ∧ Out [mb] w5 w6 ∧ MapD w5 mb (d0 :: todo) := by
  have hM5 : MapD w5 mb (d0 :: todo) := hM.of_block ((hgr.block mb (Nat.lt_of_lt_of_le hM.lt hW.size) (fun e => (hrow mb e.symm).1 rfl)).trans (hW.block mb hM.lt))
  have hb5 : w5.heap[w4.heap.size]? = _ := (hgr.block w4.heap.size (Array.getElem?_eq_some_iff.1 hb).1 (fun e => (hrow _ e.symm).2 rfl)).trans hb
  obtain ⟨w6, hu, hM6, hO6, hs6⟩ := map_drop hM5 d0.id ha 0
  have hw : without (d0 :: todo) d0.id = todo := by
    have hp := (List.pairwise_cons.1 ha).1
    unfold without
    rw [List.filter_cons_of_neg (by simp), List.filter_eq_self.2 (fun x hx => by simpa using Ne.symm (hp x hx))]
  rw [hw] at hM6
  exact ⟨w6, by simp [World.cell?, hb5], hu, hM6, hO6, hM5⟩

set_option maxHeartbeats 4000000 in
theorem dlate_any (l : List Du) (now : Int) (p : Option Addr) (k : Nat) (w : World) (hl : Sl w 2 Du.cells l (.slice p l.length k)) (hm : l.length ≤ 700) :
    Calls Try.prog 13 #[.slice p l.length k, .int .i64 now] w (RetL w (lateI l now) (restL l now)) := by
  have H := Lib.hid hl
  cases hok : okB l
  · have e1 : lateI l now = [] := by simp [lateI, hok]
    have e2 : restL l now = l := by simp [restL, hok]
    rw [e1, e2]
    have HO := Lib.hid hok
    clear hl hok e1 e2
    go_enter Try.func13, Try.ntmps13
    go_wp2_with fail
    refine (stand_no l p k _ (H.out.kept (by repeat' (first | (with_reducible exact Below.refl _ _) | (with_reducible assumption) | (with_reducible refine kept_alloc ?_ _) | (with_reducible refine kept_drewN ?_ _) | (with_reducible refine Below.drew ?_) | (with_reducible refine Below.setCell ?_ (by first | omega | (simp; omega) | (simp; done)) _) | (refine kept_trans ?_ (by with_reducible assumption))))) (by omega) HO.out).mono ?_
    rintro e w1 ⟨rfl, hB1⟩
    go_wp2_with fail
    refine (kept_any l p k _ (H.out.kept (by repeat' (first | (with_reducible exact Below.refl _ _) | (with_reducible assumption) | (with_reducible refine kept_alloc ?_ _) | (with_reducible refine kept_drewN ?_ _) | (with_reducible refine Below.drew ?_) | (with_reducible refine Below.setCell ?_ (by first | omega | (simp; omega) | (simp; done)) _) | (refine kept_trans ?_ (by with_reducible assumption))))) (by omega)).mono ?_
    rintro e wz ⟨p2, k2, rfl, hS2, hB2⟩
    go_wp2
    go_ret2
    exact ⟨none, p2, 0, k2, rfl, sli_nil _, hS2, by repeat' (first | (with_reducible exact Below.refl _ _) | (with_reducible assumption) | (with_reducible refine kept_alloc ?_ _) | (with_reducible refine kept_drewN ?_ _) | (with_reducible refine Below.drew ?_) | (with_reducible refine Below.setCell ?_ (by first | omega | (simp; omega) | (simp; done)) _) | (refine kept_trans ?_ (by with_reducible assumption)))⟩
  · obtain ⟨e1, e2⟩ := late_ok (now := now) hok
    rw [e1, e2]
    have HO := Lib.hid hok
    have hso := (ok_iff.1 hok).2
    have HSO := Lib.hid hso
    clear hl hok e1 e2 hso
    go_enter Try.func13, Try.ntmps13
    go_wp2_with fail
    refine (stand_yes l p k _ (H.out.kept (by repeat' (first | (with_reducible exact Below.refl _ _) | (with_reducible assumption) | (with_reducible refine kept_alloc ?_ _) | (with_reducible refine kept_drewN ?_ _) | (with_reducible refine Below.drew ?_) | (with_reducible refine Below.setCell ?_ (by first | omega | (simp; omega) | (simp; done)) _) | (refine kept_trans ?_ (by with_reducible assumption))))) (by omega) HO.out).mono ?_
    rintro e w1 ⟨mb, rfl, hM, hmb, hB1⟩
    go_wp2_with fail
    refine (piled_any l mb _ (hM.kept (by repeat' (first | (with_reducible exact Below.refl _ _) | (with_reducible assumption) | (with_reducible refine kept_alloc ?_ _) | (with_reducible refine kept_drewN ?_ _) | (with_reducible refine Below.drew ?_) | (with_reducible refine Below.setCell ?_ (by first | omega | (simp; omega) | (simp; done)) _) | (refine kept_trans ?_ (by with_reducible assumption))))) (by omega)).mono ?_
    rintro e w2 ⟨pb, g, cap, t, rfl, hP, hp, hh, hB2, hpb, hg⟩
    have hs1 := hB1.size
    have hs2 := hB2.size
    have hL0 : LateAt w w2 l [] l t now (some ⟨w1.heap.size, 0, none⟩) 0 mb pb g cap := by
      refine ⟨rfl, by simp, ?_, hM.kept (kept_trans (by repeat' (first | (with_reducible exact Below.refl _ _) | (with_reducible assumption) | (with_reducible refine kept_alloc ?_ _) | (with_reducible refine kept_drewN ?_ _) | (with_reducible refine Below.drew ?_) | (with_reducible refine Below.setCell ?_ (by first | omega | (simp; omega) | (simp; done)) _) | (refine kept_trans ?_ (by with_reducible assumption)))) hB2), hP, hh, hp, by repeat' (first | (with_reducible exact Below.refl _ _) | (with_reducible assumption) | (with_reducible refine kept_alloc ?_ _) | (with_reducible refine kept_drewN ?_ _) | (with_reducible refine Below.drew ?_) | (with_reducible refine Below.setCell ?_ (by first | omega | (simp; omega) | (simp; done)) _) | (refine kept_trans ?_ (by with_reducible assumption))), fun x hx => ?_, ?_⟩
      · exact Ow.kept (Ow.made (W := w1) intEnc [] #[] rfl hs1 (by decide) rfl rfl) hB2
      · cases hx; simp at hpb hg; show w1.heap.size ≠ pb ∧ w1.heap.size ≠ g; omega
      · simp at hpb hg hmb; omega
    clear hM hmb hB1 hP hp hh hB2 hpb hg hs1 hs2
    have HL := Lib.hid hL0
    clear hL0
    go_wp2
    go_loopw [8] (fun s8 wr => ∃ (p3 : Option Addr) (k3 : Nat) (done todo t : List Du), s8 = .slice p3 done.length k3 ∧ LateAt w wr l done todo t now p3 k3 mb pb g cap) (fun s8 _ => match s8 with | .slice _ n _ => l.length - n | _ => 0)
    case atStart => exact ⟨_, _, [], l, t, rfl, HL.out⟩
    case round =>
      clear HL
      obtain ⟨p3, k3, done, todo, t', rfl, hL⟩ := hrel
      have HL := Lib.hid hL
      cases todo with
      | nil =>
        have ht : t' = [] := List.perm_nil.1 hL.perm
        subst ht
        clear hL
        go_wp2_with fail
        refine (plen_any wr pb g cap _ HL.out.pile).mono ?_
        rintro e w3 ⟨rfl, hg3⟩
        rw [List.length_nil]
        go_wp2_with fail
        refine (ordered_any [] mb w3 (HL.out.map.kept hg3) (by simp) (by simp)).mono ?_
        rintro e w4 ⟨p5, k5, rfl, hS5, hB5⟩
        go_wp2
        go_ret2
        have hsp := late_split (now := now) HL.out.late (todo := []) (by simp)
        rw [← HL.out.all] at hsp
        rw [hsp.1, hsp.2]
        exact ⟨p3, p5, k3, k5, (by rw [List.length_map]; rfl), (by rw [List.length_map]; exact ((Ow.sl intEnc HL.out.own).kept hg3).kept hB5), hS5, kept_trans (kept_trans HL.out.kept hg3) hB5⟩
      | cons d0 todo =>
        obtain ⟨n, hn⟩ : ∃ n, t'.length = n + 1 := ⟨todo.length, by rw [hL.perm.length_eq]; simp⟩
        have hsd : Sorted (d0 :: todo) := by
          have := HSO.out.1
          rw [hL.all, Sorted, List.pairwise_append] at this
          exact this.2.1
        have had : Apart (d0 :: todo) := by
          have := HSO.out.2
          rw [hL.all, Apart, List.pairwise_append] at this
          exact this.2.1
        have hlen : done.length + (todo.length + 1) = l.length := by have := congrArg List.length hL.all; simpa using this.symm
        have hnb : n ≤ 700 := by have := hL.perm.length_eq; simp at this; omega
        have HS := Lib.hid (And.intro hsd (And.intro had (And.intro hlen hn)))
        have hdl : done.length ≤ 700 := by omega
        clear hL hsd had hlen hn
        go_wp2_with fail
        refine (plen_any wr pb g cap _ HL.out.pile).mono ?_
        rintro e w3 ⟨rfl, hg3⟩
        rw [HS.out.2.2.2]
        have b1 : (0 : Int) < (n : Int) + 1 := by omega
        go_wp2_with fail
        refine (dnext_any w3 pb g cap n t' (HL.out.pile.kept hg3) HL.out.heap HS.out.2.2.2 (by omega)).mono ?_
        rintro e w4 ⟨rfl, t4, hP4, hp4, hh4, hO4⟩
        obtain ⟨hd, hp5⟩ := heap_first HL.out.perm HS.out.1 hp4 (fun e he => by
          obtain ⟨k, hk, rfl⟩ := gt_mem he
          exact heap_least HL.out.heap k hk)
        rw [hd]
        have hM4 : MapD w4 mb (d0 :: todo) := by
          have h1 := HL.out.map.kept hg3
          have h2 := map_ne_pile h1 (HL.out.pile.kept hg3)
          exact h1.out hO4 (by simp [h2])
        have hO5 : Ow w4 w.heap.size 3 1 intC (done.map Du.id) (.slice p3 done.length k3) := by
          refine (Ow.kept HL.out.own hg3).of_block (fun x hx => hO4.block x (Ow.lt (Ow.kept HL.out.own hg3) x hx).2 ?_)
          cases p3 with
          | none => cases hx
          | some y => cases hx; have := HL.out.ne y rfl; simp; omega
        have hB4 : Below w.heap.size w w4 := Out.below (kept_trans HL.out.kept hg3) hO4 (by have := HL.out.ge; simp; omega) (by have := HL.out.kept.size; have := hg3.size; omega)
        have HE := Lib.hid (And.intro hP4 (And.intro hh4 (And.intro hp5 (And.intro hM4 (And.intro hO5 hB4)))))
        clear hP4 hp4 hh4 hO4 hp5 hd hM4 hO5 hB4
        by_cases hnow : now < d0.tm
        · go_wp2_with fail
          refine (ordered_any (d0 :: todo) mb _ (HE.out.2.2.2.1.kept (by repeat' (first | (with_reducible exact Below.refl _ _) | (with_reducible assumption) | (with_reducible refine kept_alloc ?_ _) | (with_reducible refine kept_drewN ?_ _) | (with_reducible refine Below.drew ?_) | (with_reducible refine Below.setCell ?_ (by first | omega | (simp; omega) | (simp; done)) _) | (refine kept_trans ?_ (by with_reducible assumption))))) HS.out.2.1 (by have := HS.out.2.2.1; simp; omega)).mono ?_
          rintro e w5 ⟨p5, k5, rfl, hS5, hB5⟩
          go_wp2
          go_ret2
          have hsp := late_split (now := now) HL.out.late (todo := d0 :: todo) (fun d hd => by cases hd; simp [lateB]; omega)
          rw [← HL.out.all] at hsp
          rw [hsp.1, hsp.2]
          rw [srt_id HS.out.1 HS.out.2.1] at hS5 ⊢
          exact ⟨p3, p5, k3, k5, (by rw [List.length_map]; rfl), (by rw [List.length_map]; exact (Ow.sl intEnc HE.out.2.2.2.2.1).kept (((Below.refl _ _).alloc (Nat.le_refl _) _).trans (hB5.mono (by simp)))), hS5, kept_trans (HE.out.2.2.2.2.2.alloc (by have := HE.out.2.2.2.2.2.size; omega) _) hB5⟩
        · have hnow' : d0.tm ≤ now := by omega
          have hW : Below w4.heap.size w4 ((w4.alloc (.cells #[.int .i64 d0.tm, .int .i64 d0.id] 24)).alloc (.cells #[.int .i64 d0.id] 3)) := by repeat' (first | (with_reducible exact Below.refl _ _) | (with_reducible assumption) | (with_reducible refine kept_alloc ?_ _) | (with_reducible refine kept_drewN ?_ _) | (with_reducible refine Below.drew ?_) | (with_reducible refine Below.setCell ?_ (by first | omega | (simp; omega) | (simp; done)) _) | (refine kept_trans ?_ (by with_reducible assumption)))
          have hbox : ((w4.alloc (.cells #[.int .i64 d0.tm, .int .i64 d0.id] 24)).alloc (.cells #[.int .i64 d0.id] 3)).heap[w4.heap.size]? = some (.cells #[.int .i64 d0.tm, .int .i64 d0.id] 24 (0, 0)) := by
            rw [heap_alloc_old _ _ (by simp)]; exact heap_alloc_new _ _
          have HW := Lib.hid (And.intro hW hbox)
          have hown := HE.out.2.2.2.2.1.kept hW
          have hsl := hI1 (w4.alloc (.cells #[.int .i64 d0.tm, .int .i64 d0.id] 24)) d0.id rfl
          simp only [World.size_alloc] at hsl
          have hbe := HE.out.2.2.2.2.2.trans (hW.mono HE.out.2.2.2.2.2.size)
          have HZ := Lib.hid (And.intro hown (And.intro hsl hbe))
          clear hW hbox hown hsl hbe
          have hrow : ∀ x, (Value.slice p3 done.length k3).ownBlock = some x → x ≠ mb ∧ x ≠ w4.heap.size := fun x hx => by
            cases p3 with
            | none => cases hx
            | some y => cases hx; exact ⟨map_ne_own HE.out.2.2.2.1 HE.out.2.2.2.2.1 y rfl, Nat.ne_of_lt (Ow.lt HE.out.2.2.2.2.1 _ rfl).2⟩
          have HR := Lib.hid hrow
          clear hrow
          go_wp2_with ((at_builtin; refine wpList_appb (wb := w) rfl _ _ 33 rfl (.int .i64 0) 8 Try.underlying33 int_info rfl (by decide) intEnc rfl rfl (xs := (done.map Du.id)) (ys := [d0.id]) HZ.out.1 HZ.out.2.1 HZ.out.2.2 (by simp only [List.length_append, List.length_nil, List.length_cons, List.length_map]; unfold maxLen; omega) (by simp only [List.length_append, List.length_nil, List.length_cons, List.length_map]; omega) ?_); intro v1 w5 ho1 hb1 hgr1 hbk1; obtain ⟨g1, k4, rfl⟩ := ow_some ho1 (by simp); rw [List.length_append, List.length_map, List.length_singleton] at ho1 hbk1; obtain ⟨w6, hq5, hu, hX⟩ := late_next HE.out.2.2.2.1 HW.out.1 HW.out.2 hgr1 HR.out HS.out.2.1; have HX := Lib.hid (And.intro ho1 (And.intro hb1 (And.intro hgr1 (And.intro hbk1 hX)))); clear ho1 hb1 hgr1 hbk1 hX)
          go_roundw
          case rel =>
            obtain ⟨x1, x2, x3, x4, x5, x6, x7⟩ := HX.out
            have x3' : ((w4.alloc (.cells #[.int .i64 d0.tm, .int .i64 d0.id] 24)).alloc (.cells #[.int .i64 d0.id] 3)).grownBy w5 (Value.slice p3 done.length k3).ownBlock := x3
            have x4' : (some g1 : Option Nat) = (Value.slice p3 done.length k3).ownBlock ∨ g1 = w4.heap.size + 1 + 1 := by
              rcases x4 g1 rfl with h | h
              · exact .inl h.symm
              · exact .inr (by simpa using h)
            obtain ⟨y1, y2, y3, y4, y5, y6⟩ := HE.out
            have hrow : pb ∉ ((Value.slice p3 done.length k3).ownBlock).toList ∧ g ∉ ((Value.slice p3 done.length k3).ownBlock).toList := by
              cases p3 with
              | none => simp [Value.ownBlock]
              | some y => have := HL.out.ne y rfl; simp [Value.ownBlock]; omega
            have hP5 : Pile w5 pb g cap t4 := (y1.kept HW.out.1).out (out_of_grown x3') hrow.1 hrow.2
            have hmp := map_ne_pile x7 hP5
            have hmo := map_ne_own x7 x1 ⟨g1, 0, none⟩ rfl
            have hP6 := hP5.out x6 (by simpa using hmp.1.symm) (by simpa using hmp.2.symm)
            have hO6 := x1.of_block (fun x hx => by cases hx; exact x6.block _ (Ow.lt x1 _ rfl).2 (by simpa using hmo))
            refine ⟨some ⟨g1, 0, none⟩, k4, done ++ [d0], todo, t4, by simp, ⟨by rw [HL.out.all]; simp, fun d hd => ?_, ?_, x5, hP6, y2, y3, Out.below x2 x6 (by have := HL.out.ge; simp; omega) x2.size, fun x hx => ?_, HL.out.ge⟩⟩
            · rcases List.mem_append.1 hd with h | h
              · exact HL.out.late d h
              · rw [List.mem_singleton] at h; subst h; exact late_iff.2 hnow'
            · rw [List.map_append, List.length_append, List.length_singleton]; exact hO6
            · cases hx
              show g1 ≠ pb ∧ g1 ≠ g
              have hlt := y1.lt
              rcases x4' with h | h
              · cases p3 with
                | none => cases h
                | some y => cases h; exact HL.out.ne y rfl
              · omega
          case measure =>
            have := HS.out.2.2.1
            simp
            omega
end Go.Proofs.Ythlpjlcadcgoeaa
