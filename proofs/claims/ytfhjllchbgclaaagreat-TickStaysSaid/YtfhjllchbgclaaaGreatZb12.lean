/- Texts merged: DueXQ, TkJQ, TkWQ, TkLQ, IterOQ, LdsQ, TkIQ, TkUQ, TkTQ, TkCQ, StepGQ, CcDQ, AcTQ, ThEQ. -/
import Derived.Test.YtfhjllchbgclaaaGreatZb11
import Derived.Test.YtfhjllchbgclaaaGreatZb10
import Derived.Test.YtfhjllchbgclaaaGreatZb8
import Derived.Test.YtfhjllchbgclaaaGreatZb5
import Derived.Test.YtfhjllchbgclaaaGreatZb4
import Derived.Test.YtfhjllchbgclaaaGreatZb6
import Derived.Test.YtfhjllchbgclaaaGreatZb7
/- Layer 4: who is late, in memory of its own: the contract of Late once more, of dues that may be, telling that what it hands back is new. -/
namespace Go.Proofs.YtfhjllchbgclaaaGreat
set_option linter.unusedVariables false
set_option linter.unusedSimpArgs false
open Go.ChangeShapes Go.WideShapes Go.ChangeAt Go.RowKit
set_option maxRecDepth 100000
def RetLN (w : World) (r : List Int) (s : List Du) (e : Ending) (w' : World) : Prop :=
  ∃ (p q : Option Addr) (k j : Nat), e = .returned (.tuple #[.slice p r.length k, .slice q s.length j]) ∧ Sl w' 1 intC r (.slice p r.length k) ∧ Sl w' 2 Du.cells s (.slice q s.length j) ∧ ((∀ a, p = some a → w.heap.size ≤ a.block) ∧ (∀ a, q = some a → w.heap.size ≤ a.block)) ∧ Kept w w'
set_option maxHeartbeats 4000000 in
theorem dlate_okN (l : List Du) (now : Int) (p : Option Addr) (k : Nat) (w : World) (hl : Sl w 2 Du.cells l (.slice p l.length k)) (hm : l.length ≤ 700) (hok : okB l = true) :
    Calls Tryz.prog 56 #[.slice p l.length k, .int .i64 now] w (RetLN w (lateI l now) (restL l now)) := by
  have H := Lib.hid hl
  obtain ⟨e1, e2⟩ := late_ok (now := now) hok
  rw [e1, e2]
  have HO := Lib.hid hok
  have hso := (dok_iff.1 hok).2
  have HSO := Lib.hid hso
  clear hl hok e1 e2 hso
  go_enter Tryz.func56, Tryz.ntmps56
  go_wp2_with fail
  refine (stand_yes l p k _ (H.out.kept (by repeat' (first | (with_reducible exact Below.refl _ _) | (with_reducible assumption) | (with_reducible refine kept_alloc ?_ _) | (with_reducible refine kept_drewN ?_ _) | (with_reducible refine Below.drew ?_) | (with_reducible refine Below.setCell ?_ (by first | omega | (simp; omega) | (simp; done)) _) | (refine kept_trans ?_ (by with_reducible assumption))))) (by omega) HO.out).mono ?_
  rintro e w1 ⟨mb, rfl, hM, hmb, hB1⟩
  go_wp2_with fail
  refine (piled_any l mb _ (hM.kept (by repeat' (first | (with_reducible exact Below.refl _ _) | (with_reducible assumption) | (with_reducible refine kept_alloc ?_ _) | (with_reducible refine kept_drewN ?_ _) | (with_reducible refine Below.drew ?_) | (with_reducible refine Below.setCell ?_ (by first | omega | (simp; omega) | (simp; done)) _) | (refine kept_trans ?_ (by with_reducible assumption))))) (by omega)).mono ?_
  rintro e w2 ⟨pb, g, cap, t, rfl, hP, hp, hh, hB2, hpb, hg⟩
  have hs1 := hB1.size
  have hs2 := hB2.size
  have hL0 : LateAt w w2 l [] l t now (some ⟨w1.heap.size, 0, none⟩) 0 mb pb g cap := by
    refine ⟨rfl, by simp, ?_, hM.kept (kept_trans (by repeat' (first | (with_reducible exact Below.refl _ _) | (with_reducible assumption) | (with_reducible refine kept_alloc ?_ _) | (with_reducible refine kept_drewN ?_ _) | (with_reducible refine Below.drew ?_) | (with_reducible refine Below.setCell ?_ (by first | omega | (simp; omega) | (simp; done)) _) | (refine kept_trans ?_ (by with_reducible assumption)))) hB2), hP, hh, hp, by repeat' (first | (with_reducible exact Below.refl _ _) | (with_reducible assumption) | (with_reducible refine kept_alloc ?_ _) | (with_reducible refine kept_drewN ?_ _) | (with_reducible refine Below.drew ?_) | (with_reducible refine Below.setCell ?_ (by first | omega | (simp; omega) | (simp; done)) _) | (refine kept_trans ?_ (by with_reducible assumption))), fun x hx => ?_, ?_⟩
    · exact Ow.kept (Ow.made (W := w1) intEnc [] #[] rfl hs1 (by decide) rfl rfl) hB2
    · cases hx; simp at hpb hg; show w1.heap.size ≠ pb ∧ w1.heap.size ≠ g; omega
    · simp at hpb hg hmb; omega
  clear hM hmb hB1 hP hp hh hB2 hpb hg hs1 hs2
  have HL := Lib.hid hL0
  clear hL0
  go_wp2
  go_loopw [8] (fun s8 wr => ∃ (p3 : Option Addr) (k3 : Nat) (done todo t : List Du), s8 = .slice p3 done.length k3 ∧ LateAt w wr l done todo t now p3 k3 mb pb g cap) (fun s8 _ => match s8 with | .slice _ n _ => l.length - n | _ => 0)
  case atStart => exact ⟨_, _, [], l, t, rfl, HL.out⟩
  case round =>
    clear HL
    obtain ⟨p3, k3, done, todo, t', rfl, hL⟩ := hrel
    have HL := Lib.hid hL
    cases todo with
    | nil =>
      have ht : t' = [] := List.perm_nil.1 hL.perm
      subst ht
      clear hL
      go_wp2_with fail
      refine (plen_any wr pb g cap _ HL.out.pile).mono ?_
      rintro e w3 ⟨rfl, hg3⟩
      rw [List.length_nil]
      go_wp2_with fail
      refine (ordered_anyN (base := w.heap.size) [] mb w3 (HL.out.map.kept hg3) (by simp) (by simp) (Nat.le_trans HL.out.kept.size hg3.size)).mono ?_
      rintro e w4 ⟨p5, k5, rfl, ⟨hS5, hN5⟩, hB5⟩
      go_wp2
      go_ret2
      have hsp := late_split (now := now) HL.out.late (todo := []) (by simp)
      rw [← HL.out.all] at hsp
      rw [hsp.1, hsp.2]
      exact ⟨p3, p5, k3, k5, (by rw [List.length_map]; rfl), (by rw [List.length_map]; exact ((Ow.sl intEnc HL.out.own).kept hg3).kept hB5), hS5, ⟨fun a ha => by subst ha; exact (Ow.lt HL.out.own a.block rfl).1, hN5⟩, kept_trans (kept_trans HL.out.kept hg3) hB5⟩
    | cons d0 todo =>
      obtain ⟨n, hn⟩ : ∃ n, t'.length = n + 1 := ⟨todo.length, by rw [hL.perm.length_eq]; simp⟩
      have hsd : Sorted (d0 :: todo) := by
        have := HSO.out.1
        rw [hL.all, Sorted, List.pairwise_append] at this
        exact this.2.1
      have had : Apart (d0 :: todo) := by
        have := HSO.out.2
        rw [hL.all, Apart, List.pairwise_append] at this
        exact this.2.1
      have hlen : done.length + (todo.length + 1) = l.length := by have := congrArg List.length hL.all; simpa using this.symm
      have hnb : n ≤ 700 := by have := hL.perm.length_eq; simp at this; omega
      have HS := Lib.hid (And.intro hsd (And.intro had (And.intro hlen hn)))
      have hdl : done.length ≤ 700 := by omega
      clear hL hsd had hlen hn
      go_wp2_with fail
      refine (plen_any wr pb g cap _ HL.out.pile).mono ?_
      rintro e w3 ⟨rfl, hg3⟩
      rw [HS.out.2.2.2]
      have b1 : (0 : Int) < (n : Int) + 1 := by omega
      go_wp2_with fail
      refine (dnext_any w3 pb g cap n t' (HL.out.pile.kept hg3) HL.out.heap HS.out.2.2.2 (by omega)).mono ?_
      rintro e w4 ⟨rfl, t4, hP4, hp4, hh4, hO4⟩
      obtain ⟨hd, hp5⟩ := heap_first HL.out.perm HS.out.1 hp4 (fun e he => by
        obtain ⟨k, hk, rfl⟩ := gt_mem he
        exact heap_least HL.out.heap k hk)
      rw [hd]
      have hM4 : MapD w4 mb (d0 :: todo) := by
        have h1 := HL.out.map.kept hg3
        have h2 := map_ne_pile h1 (HL.out.pile.kept hg3)
        exact h1.out hO4 (by simp [h2])
      have hO5 : Ow w4 w.heap.size 3 1 intC (done.map Du.id) (.slice p3 done.length k3) := by
        refine (Ow.kept HL.out.own hg3).of_block (fun x hx => hO4.block x (Ow.lt (Ow.kept HL.out.own hg3) x hx).2 ?_)
        cases p3 with
        | none => cases hx
        | some y => cases hx; have := HL.out.ne y rfl; simp; omega
      have hB4 : Below w.heap.size w w4 := Out.below (kept_trans HL.out.kept hg3) hO4 (by have := HL.out.ge; simp; omega) (by have := HL.out.kept.size; have := hg3.size; omega)
      have HE := Lib.hid (And.intro hP4 (And.intro hh4 (And.intro hp5 (And.intro hM4 (And.intro hO5 hB4)))))
      clear hP4 hp4 hh4 hO4 hp5 hd hM4 hO5 hB4
      by_cases hnow : now < d0.tm
      · go_wp2_with fail
        refine (ordered_anyN (base := w.heap.size) (d0 :: todo) mb _ (HE.out.2.2.2.1.kept (by repeat' (first | (with_reducible exact Below.refl _ _) | (with_reducible assumption) | (with_reducible refine kept_alloc ?_ _) | (with_reducible refine kept_drewN ?_ _) | (with_reducible refine Below.drew ?_) | (with_reducible refine Below.setCell ?_ (by first | omega | (simp; omega) | (simp; done)) _) | (refine kept_trans ?_ (by with_reducible assumption))))) HS.out.2.1 (by have := HS.out.2.2.1; simp; omega) (Nat.le_trans HE.out.2.2.2.2.2.size (by simp))).mono ?_
        rintro e w5 ⟨p5, k5, rfl, ⟨hS5, hN5⟩, hB5⟩
        go_wp2
        go_ret2
        have hsp := late_split (now := now) HL.out.late (todo := d0 :: todo) (fun d hd => by cases hd; simp [lateB]; omega)
        rw [← HL.out.all] at hsp
        rw [hsp.1, hsp.2]
        rw [srt_id HS.out.1 HS.out.2.1] at hS5 ⊢
        exact ⟨p3, p5, k3, k5, (by rw [List.length_map]; rfl), (by rw [List.length_map]; exact (Ow.sl intEnc HE.out.2.2.2.2.1).kept (((Below.refl _ _).alloc (Nat.le_refl _) _).trans (hB5.mono (by simp)))), hS5, ⟨fun a ha => by subst ha; exact (Ow.lt HE.out.2.2.2.2.1 a.block rfl).1, hN5⟩, kept_trans (HE.out.2.2.2.2.2.alloc (by have := HE.out.2.2.2.2.2.size; omega) _) hB5⟩
      · have hnow' : d0.tm ≤ now := by omega
        have hW : Below w4.heap.size w4 ((w4.alloc (.cells #[.int .i64 d0.tm, .int .i64 d0.id] 55)).alloc (.cells #[.int .i64 d0.id] 3)) := by repeat' (first | (with_reducible exact Below.refl _ _) | (with_reducible assumption) | (with_reducible refine kept_alloc ?_ _) | (with_reducible refine kept_drewN ?_ _) | (with_reducible refine Below.drew ?_) | (with_reducible refine Below.setCell ?_ (by first | omega | (simp; omega) | (simp; done)) _) | (refine kept_trans ?_ (by with_reducible assumption)))
        have hbox : ((w4.alloc (.cells #[.int .i64 d0.tm, .int .i64 d0.id] 55)).alloc (.cells #[.int .i64 d0.id] 3)).heap[w4.heap.size]? = some (.cells #[.int .i64 d0.tm, .int .i64 d0.id] 55 (0, 0)) := by
          rw [heap_alloc_old _ _ (by simp)]; exact heap_alloc_new _ _
        have HW := Lib.hid (And.intro hW hbox)
        have hown := HE.out.2.2.2.2.1.kept hW
        have hsl := hI1 (w4.alloc (.cells #[.int .i64 d0.tm, .int .i64 d0.id] 55)) d0.id rfl
        simp only [World.size_alloc] at hsl
        have hbe := HE.out.2.2.2.2.2.trans (hW.mono HE.out.2.2.2.2.2.size)
        have HZ := Lib.hid (And.intro hown (And.intro hsl hbe))
        clear hW hbox hown hsl hbe
        have hrow : ∀ x, (Value.slice p3 done.length k3).ownBlock = some x → x ≠ mb ∧ x ≠ w4.heap.size := fun x hx => by
          cases p3 with
          | none => cases hx
          | some y => cases hx; exact ⟨map_ne_own HE.out.2.2.2.1 HE.out.2.2.2.2.1 y rfl, Nat.ne_of_lt (Ow.lt HE.out.2.2.2.2.1 _ rfl).2⟩
        have HR := Lib.hid hrow
        clear hrow
        go_wp2_with ((at_builtin; refine wpList_appb (wb := w) rfl _ _ 27 rfl (.int .i64 0) 8 Tryz.underlying27 int_info rfl (by decide) intEnc rfl rfl (xs := (done.map Du.id)) (ys := [d0.id]) HZ.out.1 HZ.out.2.1 HZ.out.2.2 (by simp only [List.length_append, List.length_nil, List.length_cons, List.length_map]; unfold maxLen; omega) (by simp only [List.length_append, List.length_nil, List.length_cons, List.length_map]; omega) ?_); intro v1 w5 ho1 hb1 hgr1 hbk1; obtain ⟨g1, k4, rfl⟩ := ow_some ho1 (by simp); rw [List.length_append, List.length_map, List.length_singleton] at ho1 hbk1; obtain ⟨w6, hq5, hu, hX⟩ := late_next HE.out.2.2.2.1 HW.out.1 HW.out.2 hgr1 HR.out HS.out.2.1; have HX := Lib.hid (And.intro ho1 (And.intro hb1 (And.intro hgr1 (And.intro hbk1 hX)))); clear ho1 hb1 hgr1 hbk1 hX)
        go_roundw
        case rel =>
          obtain ⟨x1, x2, x3, x4, x5, x6, x7⟩ := HX.out
          have x3' : ((w4.alloc (.cells #[.int .i64 d0.tm, .int .i64 d0.id] 55)).alloc (.cells #[.int .i64 d0.id] 3)).grownBy w5 (Value.slice p3 done.length k3).ownBlock := x3
          have x4' : (some g1 : Option Nat) = (Value.slice p3 done.length k3).ownBlock ∨ g1 = w4.heap.size + 1 + 1 := by
            rcases x4 g1 rfl with h | h
            · exact .inl h.symm
            · exact .inr (by simpa using h)
          obtain ⟨y1, y2, y3, y4, y5, y6⟩ := HE.out
          have hrow : pb ∉ ((Value.slice p3 done.length k3).ownBlock).toList ∧ g ∉ ((Value.slice p3 done.length k3).ownBlock).toList := by
            cases p3 with
            | none => simp [Value.ownBlock]
            | some y => have := HL.out.ne y rfl; simp [Value.ownBlock]; omega
          have hP5 : Pile w5 pb g cap t4 := (y1.kept HW.out.1).out (out_of_grown x3') hrow.1 hrow.2
          have hmp := map_ne_pile x7 hP5
          have hmo := map_ne_own x7 x1 ⟨g1, 0, none⟩ rfl
          have hP6 := hP5.out x6 (by simpa using hmp.1.symm) (by simpa using hmp.2.symm)
          have hO6 := x1.of_block (fun x hx => by cases hx; exact x6.block _ (Ow.lt x1 _ rfl).2 (by simpa using hmo))
          refine ⟨some ⟨g1, 0, none⟩, k4, done ++ [d0], todo, t4, by simp, ⟨by rw [HL.out.all]; simp, fun d hd => ?_, ?_, x5, hP6, y2, y3, Out.below x2 x6 (by have := HL.out.ge; simp; omega) x2.size, fun x hx => ?_, HL.out.ge⟩⟩
          · rcases List.mem_append.1 hd with h | h
            · exact HL.out.late d h
            · rw [List.mem_singleton] at h; subst h; exact late_iff.2 hnow'
          · rw [List.map_append, List.length_append, List.length_singleton]; exact hO6
          · cases hx
            show g1 ≠ pb ∧ g1 ≠ g
            have hlt := y1.lt
            rcases x4' with h | h
            · cases p3 with
              | none => cases h
              | some y => cases h; exact HL.out.ne y rfl
            · omega
        case measure =>
          have := HS.out.2.2.1
          simp
          omega
end Go.Proofs.YtfhjllchbgclaaaGreat

/- Layer 18, the program's small calls, told by abstract values: dues put, late, first; an event without one who waits. -/
namespace Go.Proofs.YtfhjllchbgclaaaGreat
set_option linter.unusedVariables false
set_option linter.unusedSimpArgs false
open Go.RowKit
theorem rp_rowD {O : Nat → Prop} {W : World} {l : List Du} {c : Value} : Rp nowhere O W (rowD l) c ↔ ∃ p cap, c = .slice p l.length cap ∧ SlP (fun g => ¬ O g) W 2 Du.cells l p l.length cap :=
  rp_rowG (f := duT) (enc := Du.cells) (fun _ => rfl) (fun _ => rfl) (fun _ => rfl)
theorem not_low {O : Nat → Prop} {W : World} (hl : Low O W) {g : Nat} (h : W.heap.size ≤ g) : ¬ O g := fun hO => by have := hl g hO; omega
theorem th_some {s : St} (h : stB s = true) : s.th ≠ [] := by
  rintro e
  have := (th_len h).2.1
  rw [e] at this; simp at this
theorem ac_pdlate {l : List Du} {n : Int} (h : okB l = true) (hm : l.length ≤ 700) : AC Tryz.prog 56 [rowD l, .int .i64 n] (.tuple #[rowI (lateI l n), rowD (restL l n)]) := by
  intro O W vs hl hat ; obtain ⟨ys, rfl, _, _, rfl, h0, _, _, rfl, h1, rfl⟩ := args_of hat
  obtain ⟨p, k, rfl, hs⟩ := rp_rowD.1 h0
  rw [rp_int] at h1
  subst h1
  refine (dlate_okN l n p k W hs.s hm h).mono ?_
  rintro e W' ⟨p1, p2, k1, k2, rfl, s1, s2, ⟨b1, b2⟩, hk⟩
  exact ⟨_, rfl, (rp_tupL (xs := [rowI (lateI l n), rowD (restL l n)])).2 ⟨_, rfl, _, _, rfl, rp_rowI.2 ⟨p1, k1, rfl, s1, fun _ a ha => not_low hl (b1 a ha)⟩, _, _, rfl, rp_rowD.2 ⟨p2, k2, rfl, s2, fun _ a ha => not_low hl (b2 a ha)⟩, rfl⟩, hk⟩
theorem ac_pdfirst (l : List Du) (hm : l.length ≤ 800) : AC Tryz.prog 30 [rowD l] (.tuple #[duT (fstD l), .bool (fstB l)]) := by
  intro O W vs hl hat ; obtain ⟨ys, rfl, _, _, rfl, h0, rfl⟩ := args_of hat
  obtain ⟨p, k, rfl, hs⟩ := rp_rowD.1 h0
  refine (dfirst_any l p k W hs.s hm).mono ?_
  rintro e W' ⟨rfl, hk⟩
  exact ⟨_, rfl, (rp_tupL (xs := [duT (fstD l), .bool (fstB l)])).2 ⟨_, rfl, _, _, rfl, (rp_atm (isAtm_all rfl)).2 rfl, _, _, rfl, rp_bool.2 rfl, rfl⟩, hk⟩
set_option maxRecDepth 100000 in
theorem ac_pcancel {ep : Int} {l : List Int} (i : Int) (h : okE ep l = true) : AC Tryz.prog 105 [evT ep l, .int .i64 i] (.tuple #[evT ep (cnL ep l i), .bool (cnB ep l i)]) := by
  have hl := ok_len (okE_ln h)
  rw [show cnL ep l i = lvL l i by simp [cnL, h], show cnB ep l i = (lvE l i == 0) by simp [cnB, h]]
  exact ac_path mixed (ext := [42, 130]) (fuel := 9) (n := 5) (orc := [vD true, .tuple #[rowI (lvL l i), .int .i64 (lvE l i)]]) (an (ac_pecheck h) <| an (ac_pleave l i (by omega)) trivial) (by kernel_rfl)
set_option maxRecDepth 100000 in
theorem ac_pwaits (t : Th) : AC Tryz.prog 67 [thT t] (.bool (tdB t)) := by
  by_cases h0 : t.st = 0
  · rw [show tdB t = false by simp [tdB, h0]]
    exact ac_path mixed (ext := [95]) (fuel := 9) (n := 5) (orc := [.bool false]) (an (show (t.st != 0) = false by simpa using h0) trivial) (by kernel_rfl)
  · cases h1 : opTimed t.ki
    · rw [show tdB t = false by simp [tdB, h1]]
      exact ac_path mixed (ext := [95]) (fuel := 9) (n := 5) (orc := [.bool true, vD false]) (an (show (t.st != 0) = true by simpa using h0) <| an (ac_otimed h1) trivial) (by kernel_rfl)
    · rw [show tdB t = !t.la by simp [tdB, h1, h0]]
      exact ac_path mixed (ext := [95]) (fuel := 9) (n := 5) (orc := [.bool true, vD true]) (an (show (t.st != 0) = true by simpa using h0) <| an (ac_otimed h1) trivial) (by kernel_rfl)
end Go.Proofs.YtfhjllchbgclaaaGreat

/- A loop's head may be told otherwise: an array of the call's own whose elements are told by values that say as much. -/
namespace Go.Proofs.YtfhjllchbgclaaaGreat
set_option linter.unusedVariables false
set_option linter.unusedSimpArgs false
open Go.RowKit
/-- Whatever the first one tells of, the other one tells of. -/
def Wkr (a b : Value) : Prop := ∀ (ρ : PMap) (O : Nat → Prop) (W : World) (c : Value), Rp ρ O W a c → Rp ρ O W b c
theorem Wkr.refl (a : Value) : Wkr a a := fun _ _ _ _ h => h
theorem wkr_D (b : Bool) : Wkr (vD b) (.bool b) := fun _ _ _ _ h => rp_bool.2 (rp_d.1 h)
def ElW (a b : Value) : Prop := a.cells.size = b.cells.size ∧ ∀ (j : Nat) (y : Value), b.cells[j]? = some y → ∃ x, a.cells[j]? = some x ∧ Wkr x y
theorem ElW.refl (a : Value) : ElW a a := ⟨rfl, fun _ y hy => ⟨y, hy, Wkr.refl y⟩⟩
def ElsW (l m : List Value) : Prop := l.length = m.length ∧ ∀ (i : Nat) (b : Value), m[i]? = some b → ∃ a, l[i]? = some a ∧ ElW a b
theorem elsW_set {l : List Value} {i : Nat} {a b : Value} (h : ElW a b) : ElsW (l.set i a) (l.set i b) := by
  refine ⟨by simp, fun j y hy => ?_⟩
  by_cases e : i = j
  · subst e
    by_cases hi : i < l.length
    · simp [hi] at hy
      subst hy
      exact ⟨a, by simp [hi], h⟩
    · simp [hi] at hy
  · rw [List.getElem?_set, if_neg e] at hy
    exact ⟨y, by rw [List.getElem?_set, if_neg e]; exact hy, ElW.refl y⟩
theorem blk_weak {ρ : PMap} {O : Nat → Prop} {W : World} {g k n n' : Nat} {w arr : Bool} {l m : List Value} (hk : k ≠ 0) (h : ElsW l m) (hB : BlkAt ρ O W g ⟨w, arr, k, n, l⟩) : BlkAt ρ O W g ⟨w, arr, k, n', m⟩ := by
  obtain ⟨ar, ty, h1, h2, h3⟩ := (blk_cells (k_noMap hk)).1 hB
  refine (blk_cells (k_noMap hk)).2 ⟨ar, ty, h1, ?_, fun q el hq => ?_⟩
  · have e : l.length = m.length := h.1
    show m.length * k ≤ ar.size
    rw [← e]; exact h2
  · obtain ⟨a, ha, h4, h5⟩ := h.2 q el hq
    obtain ⟨h6, h7⟩ := h3 q a ha
    refine ⟨h4.symm.trans h6, fun j x hx => ?_⟩
    obtain ⟨y, hy, hw⟩ := h5 j x hx
    obtain ⟨u, hu, hr⟩ := h7 j y hy
    exact ⟨u, hu, hw _ _ _ _ hr⟩
theorem look_three {b0 b1 b1' b2 : Option Blk} (h : ∀ b', b1' = some b' → ∃ b, b1 = some b ∧ b.w = b'.w) {i : Nat} {b' : Blk} (hb : look [b1', b0, b2] i = some b') : ∃ b, look [b1, b0, b2] i = some b ∧ b.w = b'.w := by
  match i, hb with
  | 0, hb => exact h b' hb
  | 1, hb => exact ⟨b', hb, rfl⟩
  | 2, hb => exact ⟨b', hb, rfl⟩
  | i + 3, hb => simp [look] at hb
theorem loopK_weak {P : Program} {K k n n' : Nat} {c : Code} {T : List Value} {w arr : Bool} {b0 b2 : Option Blk} {l m : List Value} {x : Exit} {S : Sg} (hk : k ≠ 0) (h : ElsW l m) (hL : LoopK P K c ⟨T, [some ⟨w, arr, k, n', m⟩, b0, b2]⟩ x S) : LoopK P K c ⟨T, [some ⟨w, arr, k, n, l⟩, b0, b2]⟩ x S := by
  obtain ⟨N, hN⟩ := hL
  have up : ∀ {i : Nat} {b' : Blk}, look [some ⟨w, arr, k, n', m⟩, b0, b2] i = some b' → ∃ b, look [some ⟨w, arr, k, n, l⟩, b0, b2] i = some b ∧ b.w = b'.w := fun hb => look_three (fun b' e => by cases e; exact ⟨_, rfl, rfl⟩) hb
  have dn : ∀ {i : Nat} {b' : Blk}, look [some ⟨w, arr, k, n, l⟩, b0, b2] i = some b' → ∃ b, look [some ⟨w, arr, k, n', m⟩, b0, b2] i = some b ∧ b.w = b'.w := fun hb => look_three (fun b' e => by cases e; exact ⟨_, rfl, rfl⟩) hb
  refine ⟨N, fun ρ O a W Q hH hT hK => hN ρ O a W Q ⟨hH.low, hH.fr, fun i => ?_, fun i j b b' g k k' h1 h2 => ?_⟩ hT fun ρ' O' a' W' h1 h2 h3 h4 => hK ρ' O' a' W' h1 h2 ⟨fun g hg i b k hi hp => ?_, h3.still, fun g hg hn => h3.keepO g hg fun i b hb => ?_, h3.str, fun g hg hn => h3.blk g hg fun i b hb hw => ?_⟩ h4⟩
  · have := hH.hp i
    match i, this with
    | 0, this => obtain ⟨g, h1, h2, h3⟩ := this; exact ⟨g, h1, h2, blk_weak hk h h3⟩
    | 1, this => exact this
    | 2, this => exact this
    | i + 3, this => exact this
  · obtain ⟨c, hc, -⟩ := up h1
    obtain ⟨c', hc', -⟩ := up h2
    exact hH.inj i j c c' g k k' hc hc'
  · obtain ⟨i0, b0', k0, h5, h6, h7⟩ := h3.old g hg i b k hi hp
    obtain ⟨c, hc, e⟩ := up h5
    exact ⟨i0, c, k0, hc, fun hw => e.trans (h6 hw), h7⟩
  · obtain ⟨c, hc, -⟩ := up hb
    exact hn i c hc
  · obtain ⟨c, hc, e⟩ := up hb
    exact hn i c hc (e.trans hw)
end Go.Proofs.YtfhjllchbgclaaaGreat

/- Layer 18, the program's ticks: those whose time is over become late, one by one. -/
namespace Go.Proofs.YtfhjllchbgclaaaGreat
set_option linter.unusedVariables false
set_option linter.unusedSimpArgs false
open Go.RowKit
def tlaT (t : Th) : Th := ⟨t.st, t.ki, t.va, t.un, t.pc, t.re, t.se, t.tr, true, t.rs, t.go⟩
theorem tlaT_no {t : Th} (h : t.st ≠ 2) : tlaT t = lateT t := by unfold lateT; rw [if_neg h]; rfl
theorem tlaT_two {t : Th} (h : t.st = 2) : wakeT (tlaT t) = lateT t := by
  unfold lateT wakeT; rw [if_pos h, if_pos (show (tlaT t).st = 2 from h)]; rfl
/-- The same, its mark told as decided. -/
def thDT (t : Th) : Value := .agg #[.int .i64 t.st, .int .i64 t.ki, .int .i64 t.va, .int .i64 t.un, .int .i64 t.pc, .int .i64 t.re, .int .i64 t.se, .int .i64 t.tr, vD true, .int .i64 t.rs, .int .i64 t.go]
theorem elw_th (t : Th) : ElW (thDT t) (thT (tlaT t)) := by
  refine ⟨rfl, fun j y hy => ?_⟩
  match j, hy with
  | 0, hy => exact ⟨y, hy, Wkr.refl y⟩
  | 1, hy => exact ⟨y, hy, Wkr.refl y⟩
  | 2, hy => exact ⟨y, hy, Wkr.refl y⟩
  | 3, hy => exact ⟨y, hy, Wkr.refl y⟩
  | 4, hy => exact ⟨y, hy, Wkr.refl y⟩
  | 5, hy => exact ⟨y, hy, Wkr.refl y⟩
  | 6, hy => exact ⟨y, hy, Wkr.refl y⟩
  | 7, hy => exact ⟨y, hy, Wkr.refl y⟩
  | 8, hy => cases hy; exact ⟨_, rfl, wkr_D true⟩
  | 9, hy => exact ⟨y, hy, Wkr.refl y⟩
  | 10, hy => exact ⟨y, hy, Wkr.refl y⟩
  | j + 11, hy => simp [thT, Value.cells] at hy
def elsD (l : List Th) (n : Nat) : List Value := (l.map thT).set (0 + (n : Int).toNat) (thDT (gth l n))
theorem elsD_w (l : List Th) (n : Nat) : ElsW (elsD l n) ((l.set n (tlaT (gth l n))).map thT) := by
  rw [setT]; exact elsW_set (elw_th _)
theorem elD {l : List Th} {n : Nat} (h : n < l.length) : ElP (elsD l n) (0 + (n : Int).toNat) (thDT (gth l n)) := by simp [ElP, elsD, h]
theorem setD2 (l : List Th) (n : Nat) (t : Th) : (l.set n t).map thT = (elsD l n).set (0 + (n : Int).toNat) (thT t) := by simp [elsD, List.map_set]
/-- Those of a list may become late. -/
structure LaK (v : St) (l : List Int) : Prop where
  b : stB v = true
  l : ∀ i ∈ l, ∃ n : Nat, i = n ∧ n < v.th.length ∧ opTimed (gth v.th n).ki = true ∧ (gth v.th n).st ≠ 0
theorem LaK.next {v : St} {i : Int} {l : List Int} (h : LaK v (i :: l)) : ∃ n : Nat, i = n ∧ n < v.th.length ∧ LaK (lateS v n) l := by
  obtain ⟨n, rfl, hn, h1, h2⟩ := h.l i List.mem_cons_self
  refine ⟨n, rfl, hn, late_stB h.b hn h1 h2, fun x hx => ?_⟩
  obtain ⟨m, rfl, hm, h3, h4⟩ := h.l x (List.mem_cons_of_mem _ hx)
  refine ⟨m, rfl, by rw [late_len]; exact hm, ?_, ?_⟩
  · rw [gth_late hn]; split
    · exact h3
    · exact h3
  · rw [gth_late hn]; split
    · unfold lateT; simp only; split <;> omega
    · exact h4
def bTk (s : St) (N : Nat) : Option Blk := some ⟨true, false, 20, 1, [.agg (stO s 0 N).toArray]⟩
def bWk : Option Blk := some ⟨true, false, 1, 1, [.func (.func 104) #[] #[vFz [pt 1]]]⟩
def hdKT (l : List Int) (i : Int) : List (Nat × Value) := [(4, pt 2), (8, rowI l), (45, rowI l), (46, .int .i64 l.length), (47, .int .i64 i)]
def hdK (v : St) (l : List Int) (i : Int) (N M : Nat) : Sg := ⟨mkT 56 (hdKT l i), [bT v.th M, bTk v N, bWk]⟩
set_option maxRecDepth 100000 in
theorem kl_more {v : St} {l : List Int} {N i n : Nat} {x : Exit} {S : Sg} (hB : stB v = true) (hN : v.th.length = N) (hi : i < l.length) (he : l[i] = n) (hn : n < v.th.length) (hm : l.length ≤ 1000000) (ih : LoopK Tryz.prog 3 (loopOf Tryz.prog 55 0) (hdK (lateS v n) l ((i : Int) + 1) N (lateS v n).th.length) x S) : LoopK Tryz.prog 3 (loopOf Tryz.prog 55 0) (hdK v l i N v.th.length) x S := by
  obtain ⟨a, b, -⟩ := full_lines hB
  have hx : IxP ((l.map (Value.int .i64 ·)).toArray) (i : Int) (.int .i64 n) := he ▸ ixIl hi
  have hid : 0 ≤ (n : Int) ∧ (n : Int).toNat < N := by subst hN; exact idT hn
  have h1 : decide ((i : Int) < l.length) = true := by simp; omega
  have h2 : In64 ((i : Int) + 1) := by constructor <;> omega
  by_cases hs : (gth v.th n).st = 2
  · obtain ⟨-, -, -, -, hf, hg⟩ := full_lines hB
    rw [show lateS v n = ((v.toFull v.fe (cnL v.fe v.fl n)).toEmpty v.ee (cnL v.ee v.el n)).setTh n (lateT (gth v.th n)) by unfold lateS; rw [if_pos hs]] at ih
    exact loopK_more mixed (fuel := 9) (n := 9) (im := [0, 1, 2]) (keep := [4, 8, 45, 46, 47]) (ext := [105, 103]) (orc := [.bool true, .int .i64 n, thT (gth v.th n), vRow v.th.length (elsD v.th n), thDT (gth v.th n), .bool false, .tuple #[evT v.fe (cnL v.fe v.fl n), .bool (cnB v.fe v.fl n)], .tuple #[evT v.ee (cnL v.ee v.el n), .bool (cnB v.ee v.el n)], thDT (gth v.th n), thT (lateT (gth v.th n)), thDT (gth v.th n), rowT (v.th.set n (lateT (gth v.th n)))])
      (an h1 <| an hx <| an hid <| an (elT hn) <| an (show elsD v.th n = (v.th.map thT).set (0 + (n : Int).toNat) (thDT (gth v.th n)) from rfl) <| an (elD hn) <| an (show ((gth v.th n).st != 2) = false by rw [hs]; rfl) <| an (ac_pcancel n hf) <| an (ac_pcancel n hg) <| an (elD hn) <|
        an (show AC Tryz.prog 103 [thT (tlaT (gth v.th n))] (thT (lateT (gth v.th n))) from tlaT_two hs ▸ ac_twake (tlaT (gth v.th n))) <| an (elD hn) <| an (setD2 v.th n (lateT (gth v.th n))) <| an h2 trivial) (by kernel_rfl) (by rfl) ih
  · rw [show lateS v n = v.setTh n (tlaT (gth v.th n)) by unfold lateS; rw [if_neg hs, tlaT_no hs]] at ih
    exact loopK_more mixed (fuel := 9) (n := 9) (im := [0, 1, 2]) (keep := [4, 8, 45, 46, 47]) (ext := [105, 103]) (orc := [.bool true, .int .i64 n, thT (gth v.th n), vRow v.th.length (elsD v.th n), thDT (gth v.th n), .bool true])
      (an h1 <| an hx <| an hid <| an (elT hn) <| an (show elsD v.th n = (v.th.map thT).set (0 + (n : Int).toNat) (thDT (gth v.th n)) from rfl) <| an (elD hn) <| an (show ((gth v.th n).st != 2) = true by simpa using hs) <| an h2 trivial) (by kernel_rfl) (by rfl) (loopK_weak (n := v.th.length) (by decide) (elsD_w v.th n) ih)
set_option maxRecDepth 100000 in
theorem kl_lp {l : List Int} {N : Nat} (hm : l.length ≤ 1000000) : ∀ (k i : Nat) {v : St}, l.length - i = k → i ≤ l.length → LaK v (l.drop i) → v.th.length = N → LoopK Tryz.prog 3 (loopOf Tryz.prog 55 0) (hdK v l i N v.th.length) (.exit 1) (hdK (lateK (l.drop i) v) l l.length N (lateK (l.drop i) v).th.length)
  | 0, i, v, hk, hi, h, hN => by
    have : i = l.length := by omega
    subst this
    rw [List.drop_length]
    exact loopK_end mixed (fuel := 9) (n := 9) (im := [0, 1, 2]) (keep := [4, 8, 45, 46, 47]) (ext := [105, 103]) (orc := [.bool false]) (an (d_nlt l.length) trivial) (by intro e; cases e) (by kernel_rfl) (by rfl)
  | k + 1, i, v, hk, hi', h, hN => by
    have hi : i < l.length := by omega
    rw [List.drop_eq_getElem_cons hi] at h ⊢
    obtain ⟨n, he, hn, h'⟩ := h.next
    rw [he]
    exact kl_more h.b hN hi he hn hm (kl_lp hm k (i + 1) (v := lateS v n) (by omega) (by omega) h' (by rw [late_len]; exact hN))
end Go.Proofs.YtfhjllchbgclaaaGreat

/- A RANGE OVER A FUNCTION whose rounds never break off, and write but one block that was there: as in XIter, the iterator's own variables may lie behind that block. -/
namespace Go.Proofs.YtfhjllchbgclaaaGreat
set_option linter.unusedVariables false
set_option linter.unusedSimpArgs false
open Go.RowKit
/-- An iterator's value gives xs, one by one; a round writes, of what was there, but block b and the loop's own one. -/
def IterO {α : Type} (P : Program) (gf : Nat) (bd lb : Array Value) (enc : α → Value) (b : Nat) (xs : List α) (w : World) : Prop :=
  ∀ (l : Nat) (J : List α → World → Prop) (W : World), w.heap.size ≤ l → Below w.heap.size w W →
    (∀ s A C, J s A → Below A.heap.size A C → J s C) →
    (∀ (m : Nat) pre x suf A, 9 ≤ m → xs = pre ++ x :: suf → J pre A → YieldAt Fence.wide m P l #[enc x] A fun e C => e = .returned (.bool true) ∧ J (pre ++ [x]) C ∧ Out [b, l] A C) →
    J [] W → Calls P gf (bd ++ #[.func (.yield l) #[] #[]] ++ lb) W fun e C => (∃ v, e = .returned v) ∧ J xs C
def rndO {α : Type} (b : Nat) (I : List α → World → Prop) (xs : List α) (A : World) : Exit → Act → World → Prop
  | .normal, _, C => Out [b] A C ∧ I xs C
  | _, _, _ => False
theorem wpIn_overO {α : Type} {P : Program} {n : Nat} {g : Operand} {ps : Array Tmp} {assign body : Code} {Q : Exit → Act → World → Prop} {a : Act} {w : World}
    {gf : Nat} {bd lb : Array Value} (hg : a.eval g = .func (.func gf) bd lb) (eg : ∀ args w, (callFunc gf args).run P w = .ok (.enter gf args) w)
    {enc : α → Value} {b : Nat} {xs : List α} (hseq : IterO P gf bd lb enc b xs w) (hb : b < w.heap.size) (hps : ps.size = 1)
    (I : List α → World → Prop) (hI : ∀ s A C, I s A → Turn w.heap.size A C → I s C) (h0 : I [] w)
    (hround : ∀ (m l : Nat) (pre suf : List α) (x : α) (A : World), 9 ≤ m → xs = pre ++ x :: suf → w.heap.size + 2 ≤ A.heap.size → I pre A →
      assign.wpIn (Fence.wide.inRound l) m P (Exit.then (fun a₁ A₁ => Below A.heap.size A A₁ ∧ ∀ C, Turn w.heap.size A₁ C → C.heap.size = A₁.heap.size →
          body.wpIn (Fence.wide.inRound l) m P (rndO b I (pre ++ [x]) C) a₁ C) (fun _ _ _ => False))
        { tmps := (ps.zip #[enc x]).foldl (fun t (p, v) => t.setIfInBounds p v) a.tmps, defers := [] } A)
    (hdone : ∀ (D : Nat) (W : World), w.heap.size ≤ D → I xs W → W.heap[D]? = some (.deferred (some [])) → Q .normal { a with defers := { target := .collected D, args := #[] } :: a.defers } W) :
    (Code.rangeFunc g ps assign body).wpIn Fence.wide n P Q a w := by
  refine wpIn_rangeFunc fun fn hfn => ?_
  obtain ⟨rec, hrec⟩ : ∃ rec : LoopState → Option Code → Loop, rec = fun st pe => { state := st, pending := pe, fn, tmps := a.tmps, params := ps, assign, body, defers := w.heap.size } := ⟨_, rfl⟩
  obtain ⟨V, hV⟩ : ∃ V, (w.alloc (.deferred (some []))).alloc (.loop (rec .ready none)) = V := ⟨_, rfl⟩
  have hwV : Below w.heap.size w V := by rw [← hV]; exact ((Below.refl _ w).alloc (Nat.le_refl _) _).alloc (by simp) _
  have hsV : V.heap.size = w.heap.size + 2 := by rw [← hV]; simp
  have hlV : V.heap[w.heap.size + 1]? = some (.loop (rec .ready none)) := by
    rw [← hV]; have := World.alloc_heap_new (w.alloc (.deferred (some []))) (.loop (rec .ready none)); rwa [World.size_alloc] at this
  have hdV : V.heap[w.heap.size]? = some (.deferred (some [])) := by
    rw [← hV]; exact (Below.heap_alloc _ _ _ (by simp)).trans (World.alloc_heap_new w _)
  refine ⟨w.heap.size + 1, [{ target := .collected w.heap.size, args := #[] }], V, { target := .fn (.func gf) lb, args := bd ++ #[.func (.yield (w.heap.size + 1)) #[] #[]] }, V, gf,
    bd ++ #[.func (.yield (w.heap.size + 1)) #[] #[]] ++ lb, V, ?_, ?_, fun _ _ => trivial, ?_, fun h => by simp [Fence.wide] at h, ?_⟩
  · rw [← hV, hrec]; exact run_enterLoop_outer _ _ _ _ _
  · simp only [resolve, hg]
    simp [go_sem, Deferred.ofValue]
  · simp [invoke, go_sem, eg]
  refine (callsIn_wide.2 (hseq (w.heap.size + 1)
    (fun pre W => I pre W ∧ W.heap[w.heap.size + 1]? = some (.loop (rec .ready none)) ∧ W.heap[w.heap.size]? = some (.deferred (some [])) ∧ w.heap.size + 2 ≤ W.heap.size)
    V (by omega) hwV
    (fun s A C hs hk => ⟨hI s A C hs.1 (Turn.of_kept hk), (hk.block _ (lt_of_some hs.2.1)).trans hs.2.1, (hk.block _ (lt_of_some hs.2.2.1)).trans hs.2.2.1, Nat.le_trans hs.2.2.2 hk.size⟩)
    ?_ ⟨hI _ _ _ h0 (Turn.of_kept hwV), hlV, hdV, by omega⟩)).mono ?_
  · rintro m pre x suf A hm hxs ⟨hi, hl, hd, hsz⟩
    have hy := run_yield (P := P) (args := #[enc x]) hl (by rw [hrec]; exact hps.symm)
    rw [hrec] at hy
    refine ⟨fn, _, assign, body, hy, roundIn_of_wpIn trivial (wpIn_mono (hround m (w.heap.size + 1) pre suf x A hm hxs hsz hi) ?_)⟩
    clear hy
    rintro e a₁ A₁ hq
    cases e with
    | normal =>
      obtain ⟨hk, hbody⟩ := hq
      have hl1 := (hk.block _ (lt_of_some hl)).trans hl
      have hd1 := (hk.block _ (lt_of_some hd)).trans hd
      refine ⟨_, run_beginRound hl1 (by rw [hrec]), wpIn_mono (hbody _ (Turn.putObj hl1 rfl (by omega) _) (by simp)) ?_⟩
      obtain ⟨A₂, hA₂⟩ : ∃ A₂, A₁.putObj (w.heap.size + 1) (.loop { rec .ready none with state := .busy }) = A₂ := ⟨_, rfl⟩
      rw [hA₂]
      have hl2 : A₂.heap[w.heap.size + 1]? = some (.loop (rec .busy none)) := by rw [← hA₂]; exact (World.putObj_heap_same (lt_of_some hl1)).trans (by rw [hrec])
      have hd2 : A₂.heap[w.heap.size]? = some (.deferred (some [])) := by rw [← hA₂]; exact (World.putObj_heap_other (by omega)).trans hd1
      have ho2 : ∀ k, k ≠ w.heap.size + 1 → A₂.heap[k]? = A₁.heap[k]? := fun k hk => by rw [← hA₂]; exact World.putObj_heap_other hk
      have hs2 : A₂.heap.size = A₁.heap.size := by rw [← hA₂]; simp
      have hos : A₂.os = A₁.os ∧ A₂.tape = A₁.tape ∧ A₂.output = A₁.output := by rw [← hA₂]; exact ⟨rfl, rfl, rfl⟩
      rintro e a₃ C hp
      cases e with
      | normal =>
        obtain ⟨hC, hi3⟩ := hp
        have hsk := hk.size
        have hl3 := (hC.block (w.heap.size + 1) (by omega) (by simp; omega)).trans hl2
        have hd3 := (hC.block w.heap.size (by omega) (by simp; omega)).trans hd2
        have hr : (Instr.endRound (w.heap.size + 1) none).run P C = .ok (.bool true) (C.putObj (w.heap.size + 1) (.loop (rec .ready none))) := (run_endRound (P := P) none hl3).trans (by rw [hrec]; rfl)
        refine ⟨_, _, hr, ⟨rfl, ⟨hI _ _ _ hi3 (Turn.putObj hl3 rfl (by omega) _), World.putObj_heap_same (lt_of_some hl3), (World.putObj_heap_other (by omega)).trans hd3, ?_⟩, ?_⟩⟩
        · have := hC.size; simp; omega
        · refine ⟨?_, ?_, ?_, ?_, fun k hk' hn => ?_⟩
          · exact hC.os.trans (hos.1.trans hk.os)
          · exact hC.tape.trans (hos.2.1.trans hk.tape)
          · exact hC.output.trans (hos.2.2.trans hk.output)
          · have := hC.size; simp; omega
          · simp only [List.mem_cons, List.not_mem_nil, or_false, not_or] at hn
            rw [World.putObj_heap_other hn.2, hC.block k (by omega) (by simpa using hn.1), ho2 k hn.2, hk.block k (by omega)]
      | ret => exact hp.elim
      | exit id => exact hp.elim
      | goto t => exact hp.elim
      | panic ch => exact hp.elim
      | outgrown => exact hp.elim
    | ret => exact hq
    | exit id => exact hq
    | goto t => exact hq
    | panic ch => exact hq
    | outgrown => exact hq
  · rintro e C ⟨⟨v, rfl⟩, hi, hl, hd, -⟩
    have he := run_endLoop (P := P) hl (by rw [hrec]; simp)
    rw [hrec] at he
    exact ⟨none, _, he, hdone _ _ (Nat.le_refl _) (hI _ _ _ hi (Turn.putObj hl rfl (by omega) _)) ((World.putObj_heap_other (by omega)).trans hd)⟩
end Go.Proofs.YtfhjllchbgclaaaGreat

/- Loads, stores and new variables of the api's types, at boxes known by whole rows: a law for each type. Written by tools/lds.py. -/
namespace Go.Proofs.YtfhjllchbgclaaaGreat
set_option linter.unusedVariables false
set_option linter.unusedSimpArgs false
open Go.ChangeShapes Go.WideShapes Go.ChangeAt Go.RowKit
theorem Bk.off {W W' : World} {b c : Nat} {cs : List Value} (h : Bk W b cs) (ho : Out [c] W W') (hne : b < c ∨ c < b) : Bk W' b cs := h.out ho (not_one hne)
section
variable {ops : Array Oper} {rest : List Oper} {o : Oper} {a : Act} {w : World} {Q : Exit → Act → World → Prop} {b off : Nat} {cs : List Value}
theorem ldoS (hgd : Region.wanted o (yielded ops a.tmps) = true) {x : Operand} (ho : o.op = .load 33 x) (hx : a.eval x = .pointer (some ⟨b, off, none⟩)) (hb : Bk w b cs) {u0 u1 u2 u3 u4 u5 u6 u7 u8 u9 u10 u11 u12 u13 u14 u15 u16 u17 u18 u19 : Value} (hp : cs[off + 0]? = some u0 ∧ cs[off + 1]? = some u1 ∧ cs[off + 2]? = some u2 ∧ cs[off + 3]? = some u3 ∧ cs[off + 4]? = some u4 ∧ cs[off + 5]? = some u5 ∧ cs[off + 6]? = some u6 ∧ cs[off + 7]? = some u7 ∧ cs[off + 8]? = some u8 ∧ cs[off + 9]? = some u9 ∧ cs[off + 10]? = some u10 ∧ cs[off + 11]? = some u11 ∧ cs[off + 12]? = some u12 ∧ cs[off + 13]? = some u13 ∧ cs[off + 14]? = some u14 ∧ cs[off + 15]? = some u15 ∧ cs[off + 16]? = some u16 ∧ cs[off + 17]? = some u17 ∧ cs[off + 18]? = some u18 ∧ cs[off + 19]? = some u19) (h : wpList Tryz.prog ops Q rest (a.put o.dst (.agg #[u0, u1, u2, u3, u4, u5, u6, u7, u8, u9, u10, u11, u12, u13, u14, u15, u16, u17, u18, u19])) w) : wpList Tryz.prog ops Q (o :: rest) a w := by
  obtain ⟨h0, h1, h2, h3, h4, h5, h6, h7, h8, h9, h10, h11, h12, h13, h14, h15, h16, h17, h18, h19⟩ := hp
  exact wpList_loadL hgd 33 x ho hx hb Tryz.underlying33 rfl [u0, u1, u2, u3, u4, u5, u6, u7, u8, u9, u10, u11, u12, u13, u14, u15, u16, u17, u18, u19] (by kernel_rfl) (fun j v hv => by
    have hj : j < 20 := (List.getElem?_eq_some_iff.1 hv).1
    match j, hj with
    | 0, _ => exact h0.trans hv
    | 1, _ => exact h1.trans hv
    | 2, _ => exact h2.trans hv
    | 3, _ => exact h3.trans hv
    | 4, _ => exact h4.trans hv
    | 5, _ => exact h5.trans hv
    | 6, _ => exact h6.trans hv
    | 7, _ => exact h7.trans hv
    | 8, _ => exact h8.trans hv
    | 9, _ => exact h9.trans hv
    | 10, _ => exact h10.trans hv
    | 11, _ => exact h11.trans hv
    | 12, _ => exact h12.trans hv
    | 13, _ => exact h13.trans hv
    | 14, _ => exact h14.trans hv
    | 15, _ => exact h15.trans hv
    | 16, _ => exact h16.trans hv
    | 17, _ => exact h17.trans hv
    | 18, _ => exact h18.trans hv
    | 19, _ => exact h19.trans hv) h
theorem ldot (hgd : Region.wanted o (yielded ops a.tmps) = true) {x : Operand} (ho : o.op = .load 30 x) (hx : a.eval x = .pointer (some ⟨b, off, none⟩)) (hb : Bk w b cs) {u : Value} (hp : cs[off]? = some u) (h : wpList Tryz.prog ops Q rest (a.put o.dst u) w) : wpList Tryz.prog ops Q (o :: rest) a w :=
  wpList_load1 30 Tryz.underlying30 rfl hgd _ ho hx hb hp h
end
end Go.Proofs.YtfhjllchbgclaaaGreat

/- Layer 18: who is to be late, one by one: the program's iterator. -/
namespace Go.Proofs.YtfhjllchbgclaaaGreat
set_option linter.unusedVariables false
set_option linter.unusedSimpArgs false
open Go.ChangeShapes Go.WideShapes Go.ChangeAt Go.RowKit Go.Shelf
attribute [local go_sem] Oper.semAt_some
/-- Those of the first k threads that are to be late, as the threads stand. -/
def wtL (s : St) : Nat → List Du
  | 0 => []
  | k + 1 => if tdB (gth s.th k) = true then wtL s k ++ [tdDu s k] else wtL s k
def wtS (s : St) : List Du := if stB s = true then wtL s s.th.length else []
theorem wt_put (s : St) : ∀ k, (wtL s k).foldl putL [] = tdS s k
  | 0 => rfl
  | k + 1 => by
    by_cases h : tdB (gth s.th k) = true
    · simp only [wtL, tdS, h, if_true, List.foldl_append, wt_put s k, List.foldl_cons, List.foldl_nil]
    · rw [show wtL s (k + 1) = wtL s k from if_neg h, show tdS s (k + 1) = tdS s k from if_neg h]; exact wt_put s k
theorem wts_put (s : St) : (wtS s).foldl putL [] = duesS s := by
  unfold wtS duesS; split
  · exact wt_put s _
  · rfl
theorem wt_at {s : St} : ∀ {n : Nat} {pre suf : List Du} {x : Du}, wtL s n = pre ++ x :: suf → ∃ k, k < n ∧ tdB (gth s.th k) = true ∧ pre = wtL s k ∧ x = tdDu s k
  | 0, pre, suf, x, h => by simp [wtL] at h
  | n + 1, pre, suf, x, h => by
    by_cases ht : tdB (gth s.th n) = true
    · simp only [wtL, ht, if_true] at h
      rcases List.eq_nil_or_concat suf with rfl | ⟨q, y, rfl⟩
      · obtain ⟨h1, h2⟩ := List.append_inj' h rfl
        cases h2
        exact ⟨n, by omega, ht, h1.symm, rfl⟩
      · rw [List.concat_eq_append, ← List.cons_append, ← List.append_assoc] at h
        obtain ⟨h1, -⟩ := List.append_inj' h rfl
        obtain ⟨k, hk, a, b, c⟩ := wt_at h1
        exact ⟨k, by omega, a, b, c⟩
    · simp only [wtL, ht] at h
      obtain ⟨k, hk, a, b, c⟩ := wt_at h
      exact ⟨k, by omega, a, b, c⟩
theorem wt_to {s : St} {k : Nat} (ht : tdB (gth s.th k) = true) : ∀ {n : Nat}, k < n → ∃ suf, wtL s n = wtL s k ++ tdDu s k :: suf
  | 0, h => absurd h (by omega)
  | n + 1, h => by
    by_cases e : k = n
    · subst e; exact ⟨[], by simp [wtL, ht]⟩
    · obtain ⟨q, hq⟩ := wt_to ht (n := n) (by omega)
      by_cases h1 : tdB (gth s.th n) = true
      · exact ⟨q ++ [tdDu s n], by simp [wtL, h1, hq]⟩
      · exact ⟨q, by simp only [wtL, h1]; exact hq⟩
theorem at_one {g : FuncId} {a v : Value} {b : Bool} {W : World} (h : AC Tryz.prog g [a] (.bool b)) (hr : Rp nowhere (fun _ => False) W a v) : Calls Tryz.prog g #[v] W fun e W' => e = .returned (.bool b) ∧ Kept W W' := by
  have hA : AtAll (Rp nowhere (fun _ => False) W) [a].toArray [v].toArray := cells_at.2 ⟨_, _, rfl, hr, rfl⟩
  refine (h (fun _ => False) W _ (fun _ h => h.elim) hA).mono ?_
  rintro e W' ⟨c, rfl, hr, hk⟩
  exact ⟨by rw [rp_bool.1 hr], hk⟩
set_option maxRecDepth 100000 in
theorem pcheck_at {s : St} {b : Bool} (hb : stB s = b) {z : Pz} {W : World} (hz : StAt W s z) (ho : s.ok) : Calls Tryz.prog 22 #[.agg #[.int .i64 s.cf.lg, .int .i64 s.cf.th, .int .i64 s.cf.po, .int .i64 s.cf.wt, .int .i64 s.cf.sp, .int .i64 s.cf.yi, .bool s.cf.si, .int .i64 s.hd, .int .i64 s.tl, .int .i64 s.md, .slice z.p1 s.sl.length z.k1, .slice z.p2 s.sn.length z.k2, .slice z.p3 s.rc.length z.k3, .int .i64 s.fe, .slice z.p4 s.fl.length z.k4, .int .i64 s.ee, .slice z.p5 s.el.length z.k5, .int .i64 s.nw, .slice z.p6 s.th.length z.k6, .slice z.p7 s.lg.length z.k7]] W fun e W' => e = .returned (.bool b) ∧ Kept W W' := by
  have hr : Rp nowhere (fun _ => False) W (stT s) (.agg #[.int .i64 s.cf.lg, .int .i64 s.cf.th, .int .i64 s.cf.po, .int .i64 s.cf.wt, .int .i64 s.cf.sp, .int .i64 s.cf.yi, .bool s.cf.si, .int .i64 s.hd, .int .i64 s.tl, .int .i64 s.md, .slice z.p1 s.sl.length z.k1, .slice z.p2 s.sn.length z.k2, .slice z.p3 s.rc.length z.k3, .int .i64 s.fe, .slice z.p4 s.fl.length z.k4, .int .i64 s.ee, .slice z.p5 s.el.length z.k5, .int .i64 s.nw, .slice z.p6 s.th.length z.k6, .slice z.p7 s.lg.length z.k7]) := rp_stT.2 ⟨z, rfl, hz.loc.mono fun _ _ h => h⟩
  exact at_one (ac_pcheck hb ho) hr
set_option maxRecDepth 100000 in
theorem pwaits_at {t : Th} {b : Bool} (hb : tdB t = b) (W : World) : Calls Tryz.prog 67 #[.agg #[.int .i64 t.st, .int .i64 t.ki, .int .i64 t.va, .int .i64 t.un, .int .i64 t.pc, .int .i64 t.re, .int .i64 t.se, .int .i64 t.tr, .bool t.la, .int .i64 t.rs, .int .i64 t.go]] W fun e W' => e = .returned (.bool b) ∧ Kept W W' := by
  subst hb
  exact at_one (ac_pwaits t) (rp_thT.2 rfl)
theorem Sl.outs {α : Type} {W W' : World} {k n c : Nat} {S : List Nat} {enc : α → List Value} {xs : List α} {p : Option Addr} (h : Sl W k enc xs (.slice p n c)) (ho : Out S W W') (hne : xs ≠ [] → ∀ a, p = some a → a.block ∉ S) : Sl W' k enc xs (.slice p n c) := by
  obtain ⟨q, cap, hv, h1, h2, h3, h4⟩ := h.is
  cases hv
  refine ⟨p, c, rfl, h1, h2, h3, fun hx => ?_⟩
  obtain ⟨g, o, rfl, hg, hc⟩ := h4 hx
  refine ⟨g, o, rfl, Nat.lt_of_lt_of_le hg ho.size, fun i x hi l hl => ?_⟩
  have hb := ho.block g hg (hne hx _ rfl)
  rw [← hc i x hi l hl]
  simp [World.cell?, hb]
def duV (d : Du) : Value := .agg #[.int .i64 d.tm, .int .i64 d.id]
set_option maxRecDepth 100000 in
set_option maxHeartbeats 4000000 in
theorem late_iter {s : St} (ho : s.ok) {b b' : Nat} {z : Pz} {w : World} (hb : Bk w b [.int .i64 s.cf.lg, .int .i64 s.cf.th, .int .i64 s.cf.po, .int .i64 s.cf.wt, .int .i64 s.cf.sp, .int .i64 s.cf.yi, .bool s.cf.si, .int .i64 s.hd, .int .i64 s.tl, .int .i64 s.md, .slice z.p1 s.sl.length z.k1, .slice z.p2 s.sn.length z.k2, .slice z.p3 s.rc.length z.k3, .int .i64 s.fe, .slice z.p4 s.fl.length z.k4, .int .i64 s.ee, .slice z.p5 s.el.length z.k5, .int .i64 s.nw, .slice z.p6 s.th.length z.k6, .slice z.p7 s.lg.length z.k7]) (hbb : b ≠ b') (hz : StAt w s z) (hp : s.th ≠ [] → ∀ a, z.p6 = some a → a.block ≠ b') :
    IterO Tryz.prog 66 #[] #[.pointer (some ⟨b, 0, none⟩)] duV b' (wtS s) w := by
  intro l J W hl hB hJ hY h0
  have hbw : b < w.heap.size := hb.lt
  have hk0 := hb.kept hB
  have hzW := hz.kept hB
  show Calls Tryz.prog 66 #[.func (.yield l) #[] #[], .pointer (some ⟨b, 0, none⟩)] W _
  cases hst : stB s
  · have hx : wtS s = [] := by simp [wtS, hst]
    rw [hx]
    clear hx
    go_enter Tryz.func66, Tryz.ntmps66
    go_wp2_with (first | (refine ldoS (by rfl) rfl rfl (by first | assumption | exact Bk.past (by assumption)) (by repeat' (first | rfl | (refine ⟨?_, ?_⟩))) ?_) | (refine ldot (by rfl) rfl rfl (by first | assumption | exact Bk.past (by assumption)) rfl ?_))
    refine (pcheck_at hst hzW ho).mono ?_
    rintro e w1 ⟨rfl, hgx⟩
    go_wp2
    refine bodyPost_ret (results_none rfl _ _ _) rfl ?_
    exact ⟨⟨_, rfl⟩, hJ _ _ _ h0 hgx⟩
  · have hx : wtS s = wtL s s.th.length := by simp [wtS, hst]
    rw [hx] at hY ⊢
    clear hx
    go_enter Tryz.func66, Tryz.ntmps66
    go_wp2_with (first | (refine ldoS (by rfl) rfl rfl (by first | assumption | exact Bk.past (by assumption)) (by repeat' (first | rfl | (refine ⟨?_, ?_⟩))) ?_) | (refine ldot (by rfl) rfl rfl (by first | assumption | exact Bk.past (by assumption)) rfl ?_))
    refine (pcheck_at hst hzW ho).mono ?_
    rintro e w1 ⟨rfl, hgx⟩
    replace hk0 := hk0.kept hgx
    go_wp2_with (first | (refine ldoS (by rfl) rfl rfl (by first | assumption | exact Bk.past (by assumption)) (by repeat' (first | rfl | (refine ⟨?_, ?_⟩))) ?_) | (refine ldot (by rfl) rfl rfl (by first | assumption | exact Bk.past (by assumption)) rfl ?_))
    obtain ⟨p6, hp6⟩ : ∃ p6, z.p6 = p6 := ⟨_, rfl⟩
    have hth := hz.th
    rw [hp6] at hth hp ⊢
    have hne : s.th ≠ [] := th_some hst
    obtain ⟨g, o, rfl⟩ : ∃ g o, p6 = some ⟨g, o, none⟩ := by
      obtain ⟨q, c, e, -, -, -, h4⟩ := hth.is
      cases e
      obtain ⟨g, o, e, -⟩ := h4 hne
      exact ⟨g, o, e⟩
    have hgb : g ≠ b' := hp hne _ rfl
    have hgl : g < w.heap.size := by
      obtain ⟨q, c, e, -, -, -, h4⟩ := hth.is
      cases e
      obtain ⟨g', o', e, h5, -⟩ := h4 hne
      cases e; exact h5
    obtain ⟨N, hN⟩ : ∃ N, s.th.length = N := ⟨_, rfl⟩
    rw [hN]
    have hNm : N ≤ 1000000 := by have := (th_len hst).2.2; omega
    have hOw : Out [b', l] w w1 := Out.of_kept (hB.trans (hgx.mono hB.size))
    have hJ1 := hJ _ _ _ h0 hgx
    have HK := Lib.hid (And.intro hJ1 (And.intro hOw (And.intro hth (And.intro hN hY))))
    clear hJ1 hOw hth hN hY hk0 hzW hgx hB hb hz hp hne
    refine (wpIn_wide (n := 10)).1 ?_
    gi_loopw [11] (fun i wr => ∃ k : Nat, k ≤ N ∧ i = .int .i64 k ∧ J (wtL s k) wr ∧ Out [b', l] w wr) (fun i _ => N - (intOf i).toNat)
    case atStart => exact ⟨0, by omega, rfl, HK.out.1, HK.out.2.1⟩
    case round =>
      obtain ⟨k, hk, rfl, hj, hO⟩ := hrel
      rcases Nat.lt_or_ge k N with hkN | hkN
      · have hw := Sl.outs HK.out.2.2.1 hO (fun _ a ha => by cases ha; simp; omega)
        obtain ⟨t, ht⟩ : ∃ t, gth s.th k = t := ⟨_, rfl⟩
        obtain ⟨c0, c1, c2, c3, c4, c5, c6, c7, c8, c9, c10⟩ := sth_at hw (j := k) (by rw [HK.out.2.2.2.1]; exact hkN)
        rw [ht] at c0 c1 c2 c3 c4 c5 c6 c7 c8 c9 c10
        obtain ⟨st, ki, va, un, pc, re, se, tr, la, rs, go⟩ := t
        simp only at c0 c1 c2 c3 c4 c5 c6 c7 c8 c9 c10
        have HT := Lib.hid ht
        have HO := Lib.hid hO
        clear ht hw hO
        cases htd : tdB ⟨st, ki, va, un, pc, re, se, tr, la, rs, go⟩
        · have e1 : Hid (wtL s (k + 1) = wtL s k) := Lib.hid (if_neg (by rw [HT.out, htd]; decide))
          gi_wp2_with (refine ⟨trivial, ?_⟩; gi_at_call 67; refine (callsIn_wide.2 (pwaits_at htd _)).mono ?_; rintro e w2 ⟨rfl, hk2⟩)
          refine ⟨fun f hf => (by cases hf), ?_⟩
          gi_wp2
          go_roundw
          case rel => exact ⟨k + 1, by omega, rfl, by rw [e1.out]; exact hJ _ _ _ hj (by repeat' (first | (with_reducible exact Below.refl _ _) | (with_reducible assumption) | (with_reducible refine kept_alloc ?_ _) | (with_reducible refine kept_drewN ?_ _) | (with_reducible refine Below.drew ?_) | (with_reducible refine Below.setCell ?_ (by first | omega | (simp; omega) | (simp; done)) _) | (refine kept_trans ?_ (by with_reducible assumption)))), HO.out.then (by repeat' (first | (with_reducible exact Below.refl _ _) | (with_reducible assumption) | (with_reducible refine kept_alloc ?_ _) | (with_reducible refine kept_drewN ?_ _) | (with_reducible refine Below.drew ?_) | (with_reducible refine Below.setCell ?_ (by first | omega | (simp; omega) | (simp; done)) _) | (refine kept_trans ?_ (by with_reducible assumption))))⟩
          case measure => simp [intOf]; omega
        · have e1 : Hid (wtL s (k + 1) = wtL s k ++ [tdDu s k]) := Lib.hid (if_pos (by rw [HT.out]; exact htd))
          gi_wp2_with fail
          refine ⟨trivial, ?_⟩
          refine (callsIn_wide.2 (pwaits_at htd _)).mono ?_
          rintro e w2 ⟨rfl, hk2⟩
          have hx : Below wr.heap.size wr w2 := by repeat' (first | (with_reducible exact Below.refl _ _) | (with_reducible assumption) | (with_reducible refine kept_alloc ?_ _) | (with_reducible refine kept_drewN ?_ _) | (with_reducible refine Below.drew ?_) | (with_reducible refine Below.setCell ?_ (by first | omega | (simp; omega) | (simp; done)) _) | (refine kept_trans ?_ (by with_reducible assumption)))
          have c30 : w2.cell? ⟨wr.heap.size, 3, none⟩ = some (.int .i64 un) := (hk2.cell (p := ⟨wr.heap.size, 3, none⟩) (by simp)).trans (by simp)
          obtain ⟨suf, hs⟩ := wt_to (k := k) (by rw [HT.out]; exact htd) hkN
          obtain ⟨fn, tmps, assign, body, hy, hR⟩ := HK.out.2.2.2.2 (10 - 1) (wtL s k) (tdDu s k) suf w2 (by omega) (by rw [HK.out.2.2.2.1]; exact hs) (hJ _ _ _ hj hx)
          simp only [duV, tdDu, HT.out] at hy
          have HX := Lib.hid (And.intro hx hs)
          clear hx hs
          gi_wp2
          refine hR.mono ?_
          rintro e C ⟨rfl, hj', hO'⟩
          gi_wp2
          go_roundw
          case rel => exact ⟨k + 1, by omega, rfl, by rw [e1.out]; exact hj', (HO.out.then HX.out.1).trans hO' (fun j hj => .inl hj)⟩
          case measure => simp [intOf]; omega
      · obtain rfl : k = N := by omega
        gi_wp2
        go_end0
        exact ⟨⟨_, rfl⟩, by rw [HK.out.2.2.2.1]; exact hj⟩
end Go.Proofs.YtfhjllchbgclaaaGreat

/- Layer 18: who is to be late, in order: the program's Dues, a range over a function. -/
namespace Go.Proofs.YtfhjllchbgclaaaGreat
set_option linter.unusedVariables false
set_option linter.unusedSimpArgs false
open Go.ChangeShapes Go.WideShapes Go.ChangeAt Go.RowKit Go.Shelf
attribute [local go_sem] Oper.semAt_some
set_option maxRecDepth 100000 in
set_option maxHeartbeats 2000000 in
theorem tolate_at {s : St} {z : Pz} {w : World} : Calls Tryz.prog 35 #[.agg #[.int .i64 s.cf.lg, .int .i64 s.cf.th, .int .i64 s.cf.po, .int .i64 s.cf.wt, .int .i64 s.cf.sp, .int .i64 s.cf.yi, .bool s.cf.si, .int .i64 s.hd, .int .i64 s.tl, .int .i64 s.md, .slice z.p1 s.sl.length z.k1, .slice z.p2 s.sn.length z.k2, .slice z.p3 s.rc.length z.k3, .int .i64 s.fe, .slice z.p4 s.fl.length z.k4, .int .i64 s.ee, .slice z.p5 s.el.length z.k5, .int .i64 s.nw, .slice z.p6 s.th.length z.k6, .slice z.p7 s.lg.length z.k7]] w fun e w' => ∃ b, e = .returned (.func (.func 66) #[] #[.pointer (some ⟨b, 0, none⟩)]) ∧ w.heap.size ≤ b ∧ Bk w' b [.int .i64 s.cf.lg, .int .i64 s.cf.th, .int .i64 s.cf.po, .int .i64 s.cf.wt, .int .i64 s.cf.sp, .int .i64 s.cf.yi, .bool s.cf.si, .int .i64 s.hd, .int .i64 s.tl, .int .i64 s.md, .slice z.p1 s.sl.length z.k1, .slice z.p2 s.sn.length z.k2, .slice z.p3 s.rc.length z.k3, .int .i64 s.fe, .slice z.p4 s.fl.length z.k4, .int .i64 s.ee, .slice z.p5 s.el.length z.k5, .int .i64 s.nw, .slice z.p6 s.th.length z.k6, .slice z.p7 s.lg.length z.k7] ∧ Kept w w' := by
  go_enter Tryz.func35, Tryz.ntmps35; go_upto_region 1 with fail; refine wp_abs (fun W => Below w.heap.size w W ∧ Bk W (w.heap.size) [.int .i64 s.cf.lg , .int .i64 s.cf.th , .int .i64 s.cf.po , .int .i64 s.cf.wt , .int .i64 s.cf.sp , .int .i64 s.cf.yi , .bool s.cf.si , .int .i64 s.hd , .int .i64 s.tl , .int .i64 s.md , .slice z.p1 s.sl.length z.k1 , .slice z.p2 s.sn.length z.k2 , .slice z.p3 s.rc.length z.k3 , .int .i64 s.fe , .slice z.p4 s.fl.length z.k4 , .int .i64 s.ee , .slice z.p5 s.el.length z.k5 , .int .i64 s.nw , .slice z.p6 s.th.length z.k6 , .slice z.p7 s.lg.length z.k7]) ⟨by repeat' (first | (with_reducible exact Below.refl _ _) | (with_reducible assumption) | (with_reducible refine kept_alloc ?_ _) | (with_reducible refine kept_drewN ?_ _) | (with_reducible refine Below.drew ?_) | (with_reducible refine Below.setCell ?_ (by first | omega | (simp; omega) | (simp; done)) _) | (refine kept_trans ?_ (by with_reducible assumption))), (by repeat (first | (exact Bk.new (by first | rfl | (simp; done) | (simp; omega))) | (refine Bk.past ?_)))⟩ ?_; rintro V ⟨hB, hk0⟩
  go_wp2
  go_ret
  exact ⟨_, rfl, Nat.le_refl _, hk0, hB⟩
theorem Sl.turn {α : Type} {W W' : World} {B k : Nat} {enc : α → List Value} {xs : List α} {v : Value} (he : ∀ x, (enc x).length = k) (hk : 0 < k) (h : Sl W k enc xs v) (ht : Turn B W W') : Sl W' k enc xs v := by
  obtain ⟨p, cap, hv, h1, h2, h3, h4⟩ := h.is
  refine ⟨p, cap, hv, h1, h2, h3, fun hne => ?_⟩
  obtain ⟨b, o, hp, hb, hc⟩ := h4 hne
  have cell : ∀ i x, xs[i]? = some x → ∀ j, j < k → W'.cell? ⟨b, o + i * k + j, none⟩ = (enc x)[j]? := fun i x hx j hj => by
    have h5 := hc i x hx j hj
    have hj' : j < (enc x).length := by rw [he]; exact hj
    rw [List.getElem?_eq_getElem hj'] at h5 ⊢
    exact ht.cell h5
  refine ⟨b, o, hp, ?_, cell⟩
  obtain ⟨x, r, rfl⟩ := List.exists_cons_of_ne_nil hne
  have h5 := cell 0 x rfl 0 hk
  have hj' : 0 < (enc x).length := by rw [he]; exact hk
  rw [List.getElem?_eq_getElem hj'] at h5
  obtain ⟨ob, h6, -⟩ := cells_of_cell h5
  exact lt_of_some h6
/-- What Dues knows of its own list. -/
structure DuAt (w A : World) (b : Nat) (L : List Du) : Prop where
  is : ∃ (p : Option Addr) (k : Nat), A.cell? ⟨b, 0, none⟩ = some (.slice p L.length k) ∧ A.frozen? ⟨b, 0, none⟩ = false ∧ Sl A 2 Du.cells L (.slice p L.length k) ∧ ∀ a, p = some a → w.heap.size ≤ a.block ∧ a.block ≠ b
  kept : Below w.heap.size w A
theorem DuAt.turn {w A C : World} {b B : Nat} {L : List Du} (h : DuAt w A b L) (ht : Turn B A C) (hB : w.heap.size ≤ B) : DuAt w C b L := by
  obtain ⟨⟨p, k, h1, h2, h3, h4⟩, h5⟩ := h
  exact ⟨⟨p, k, ht.cell h1, (ht.frozen h1).trans h2, h3.turn (fun _ => rfl) (by decide) ht, h4⟩, ht.below hB h5⟩
theorem wts_at {s : St} {pre suf : List Du} {x : Du} (h : wtS s = pre ++ x :: suf) : codeI (pre.foldl putL []) x = 0 ∧ (pre.foldl putL []).length ≤ 700 ∧ In64 x.tm := by
  cases hB : stB s
  · simp [wtS, hB] at h
  · rw [show wtS s = wtL s s.th.length by simp [wtS, hB]] at h
    obtain ⟨k, hk, ht, rfl, rfl⟩ := wt_at h
    rw [wt_put]
    have := td_len s k
    have := (th_len hB).2.2
    have hu := td_time (gth_ok hB hk) ht
    exact ⟨td_code hB hk ht, by omega, ⟨by show -9223372036854775808 ≤ (gth s.th k).un; omega, by show (gth s.th k).un ≤ 9223372036854775807; omega⟩⟩
def RetDu (r : List Du) (w : World) (e : Ending) (w' : World) : Prop := ∃ (p : Option Addr) (k : Nat), e = .returned (.slice p r.length k) ∧ (Sl w' 2 Du.cells r (.slice p r.length k) ∧ ∀ a, p = some a → w.heap.size ≤ a.block) ∧ Kept w w'
set_option maxRecDepth 100000 in
set_option maxHeartbeats 4000000 in
theorem pdues_at {s : St} (ho : s.ok) {z : Pz} {w : World} (hz : StAt w s z) : Calls Tryz.prog 20 #[.agg #[.int .i64 s.cf.lg, .int .i64 s.cf.th, .int .i64 s.cf.po, .int .i64 s.cf.wt, .int .i64 s.cf.sp, .int .i64 s.cf.yi, .bool s.cf.si, .int .i64 s.hd, .int .i64 s.tl, .int .i64 s.md, .slice z.p1 s.sl.length z.k1, .slice z.p2 s.sn.length z.k2, .slice z.p3 s.rc.length z.k3, .int .i64 s.fe, .slice z.p4 s.fl.length z.k4, .int .i64 s.ee, .slice z.p5 s.el.length z.k5, .int .i64 s.nw, .slice z.p6 s.th.length z.k6, .slice z.p7 s.lg.length z.k7]] w (RetDu (duesS s) w) := by
  refine (callsIn_wide (n := 20)).1 ?_
  refine callsIn_of_wp_marks Tryz.func20 rfl trivial ?_
  simp only [Tryz.ntmps20, List.size_toArray, List.length_cons, List.length_nil, Nat.reduceAdd, Nat.reduceSub, Array.replicate_succ, Array.replicate_zero, List.push_toArray, List.append_toArray, List.nil_append, List.cons_append]
  refine wpIn_wide.2 ?_
  go_upto_region 2 with fail
  refine wp_abs (fun W => Below w.heap.size w W ∧ Bk W w.heap.size [.int .i64 s.cf.lg, .int .i64 s.cf.th, .int .i64 s.cf.po, .int .i64 s.cf.wt, .int .i64 s.cf.sp, .int .i64 s.cf.yi, .bool s.cf.si, .int .i64 s.hd, .int .i64 s.tl, .int .i64 s.md, .slice z.p1 s.sl.length z.k1, .slice z.p2 s.sn.length z.k2, .slice z.p3 s.rc.length z.k3, .int .i64 s.fe, .slice z.p4 s.fl.length z.k4, .int .i64 s.ee, .slice z.p5 s.el.length z.k5, .int .i64 s.nw, .slice z.p6 s.th.length z.k6, .slice z.p7 s.lg.length z.k7] ∧ Bk W (w.heap.size + 1) [.slice none 0 0]) ⟨by repeat' (first | (with_reducible exact Below.refl _ _) | (with_reducible assumption) | (with_reducible refine kept_alloc ?_ _) | (with_reducible refine kept_drewN ?_ _) | (with_reducible refine Below.drew ?_) | (with_reducible refine Below.setCell ?_ (by first | omega | (simp; omega) | (simp; done)) _) | (refine kept_trans ?_ (by with_reducible assumption))), (by repeat (first | (exact Bk.new (by first | rfl | (simp; done) | (simp; omega))) | (refine Bk.past ?_))), (by repeat (first | (exact Bk.new (by first | rfl | (simp; done) | (simp; omega))) | (refine Bk.past ?_)))⟩ ?_
  rintro V ⟨hB, hk0, hk1⟩
  have hVl := hk1.lt
  go_wp2_with (first | (refine ldoS (by rfl) rfl rfl (by first | assumption | exact Bk.past (by assumption)) (by repeat' (first | rfl | (refine ⟨?_, ?_⟩))) ?_))
  refine tolate_at.mono ?_
  rintro e w2 ⟨b, rfl, hbl, hbk, hgx⟩
  have hk2 := hk1.kept hgx
  have hB2 : Below w.heap.size w w2 := hB.trans (hgx.mono hB.size)
  have hs2 : V.heap.size ≤ w2.heap.size := hgx.size
  have hz2 := hz.kept hB2
  have hp : s.th ≠ [] → ∀ a, z.p6 = some a → a.block ≠ w.heap.size + 1 := fun hne a ha => by have := hz.loc.th.i hne a ha; omega
  clear hB hk0 hk1 hgx
  go_wp2_with fail
  refine (wpIn_wide (n := 20)).1 ?_
  refine wpIn_overO (gf := 66) (bd := #[]) (lb := #[.pointer (some ⟨b, 0, none⟩)]) (b := w.heap.size + 1) rfl (enters_of Tryz.func66 (by kernel_rfl) rfl) (late_iter ho hbk (by omega) hz2 hp) (by omega) rfl
    (fun pre A => DuAt w A (w.heap.size + 1) (pre.foldl putL [])) (fun _ _ _ h ht => h.turn ht (by omega)) ?h0 ?round ?done
  case h0 => exact ⟨⟨none, 0, hk2.cell 0, hk2.frozen 0, ⟨none, 0, rfl, by simp, by simp, fun _ => rfl, fun h => absurd rfl h⟩, fun a ha => by cases ha⟩, hB2⟩
  case round =>
    rintro m l pre suf x A hm hxs hsz hI
    obtain ⟨hc0, hl7, -⟩ := wts_at hxs
    simp only [duV]
    have hlt : w.heap.size + 1 < A.heap.size := by omega
    gi_wp2
    refine ⟨(Below.refl _ _).alloc (Nat.le_refl _) _, fun C ht hsC => ?_⟩
    have h1m : 1 ≤ m := by omega
    have hn0 : C.cell? ⟨A.heap.size, 0, none⟩ = some (.int .i64 x.tm) := ht.cell (by simp)
    have hn1 : C.cell? ⟨A.heap.size, 1, none⟩ = some (.int .i64 x.id) := ht.cell (by simp)
    have hA1 : Turn w2.heap.size A (A.alloc (.cells #[.int .i64 x.tm, .int .i64 x.id] 55)) := Turn.of_kept ((Below.refl _ _).alloc (Nat.le_refl _) _)
    have hI2 := (hI.turn hA1 (by omega)).turn ht (by omega)
    clear hI hA1 ht
    obtain ⟨⟨p, k, hc, hf, hS, hN⟩, hBC⟩ := hI2
    have hCl : w.heap.size + 1 < C.heap.size := by rw [hsC]; simp; omega
    have e1 : Hid ((pre ++ [x]).foldl putL [] = putL (pre.foldl putL []) x) := Lib.hid (by simp)
    generalize pre.foldl putL [] = L at *
    have HS := Lib.hid (And.intro hS (And.intro hN (And.intro hc0 (And.intro hl7 hBC))))
    clear hS hN hc0 hl7 hBC
    gi_wp2_with (refine ⟨trivial, ?_⟩; gi_at_call 36; refine (CallsIn.inRound l (callsIn_wide.2 (dput_okN L x p k C HS.out.1 HS.out.2.2.2.1 HS.out.2.2.1))).mono ?_; rintro e D ⟨p2, k2, rfl, ⟨hS2, hN2⟩, hD⟩; have hcD := (hD.cell (p := ⟨w.heap.size + 1, 0, none⟩) hCl).trans hc; have hfD := (hD.frozen (p := ⟨w.heap.size + 1, 0, none⟩) hCl).trans hf; have HD := Lib.hid (And.intro hS2 (And.intro hN2 hD)); clear hS2 hN2 hD)
    have hDC := HD.out.2.2.size
    have ho := Out.set (Out.refl [w.heap.size + 1] D) (x := ⟨w.heap.size + 1, 0, none⟩) (.inl (by simp)) (.slice p2 (putL L x).length k2)
    show Out [w.heap.size + 1] C _ ∧ DuAt w _ (w.heap.size + 1) ((pre ++ [x]).foldl putL [])
    rw [e1.out]
    refine ⟨(Out.of_kept HD.out.2.2).set (.inl (by simp)) _, ⟨p2, k2, World.cell?_setCell_same' _ _ _ (by rw [hcD]; rfl), by rw [World.frozen?_setCell]; exact hfD, HD.out.1.outs ho (fun _ a ha => by have := HD.out.2.1 a ha; simp; omega), fun a ha => by have := HD.out.2.1 a ha; omega⟩, ?_⟩
    exact (HS.out.2.2.2.2.trans (HD.out.2.2.mono HS.out.2.2.2.2.size)).setCell (by simp) _
  case done =>
    rintro D W hD ⟨⟨p, k, hc, hf, hS, hN⟩, hBW⟩ hK
    rw [wts_put] at hc hS
    have HS := Lib.hid (And.intro hS (And.intro hN hBW))
    clear hS hN hBW
    go_wp2
    have hT : Turn (w.heap.size + 2) W (W.putObj D (.deferred none)) := Turn.putObj hK rfl (by omega) _
    have hSW := Sl.turn (k := 2) (enc := Du.cells) (fun _ => rfl) (by decide) HS.out.1 hT
    have hBW := hT.below (by omega) HS.out.2.2
    have hN := HS.out.2.1
    refine ⟨by simp, .inl ⟨_, _, rfl, run_takeDeferred hK, ?_⟩⟩
    revert hSW hBW
    generalize (W.putObj D (.deferred none)) = X
    intro hSW hBW
    exact ⟨.slice p (duesS s).length k, by simp [results, Tryz.results20, go_sem], p, k, rfl, ⟨hSW, fun a ha => (hN a ha).1⟩, hBW⟩
theorem an_pdues {s : St} (ho : s.ok) : AN Tryz.prog 20 [stT s] (rowD (duesS s)) := by
  intro O W vs hl hat ; obtain ⟨ys, rfl, _, _, rfl, h0, rfl⟩ := args_of hat
  obtain ⟨z, rfl, hz⟩ := rp_stT.1 h0
  refine (pdues_at ho hz.at).mono ?_
  rintro e W' ⟨p, k, rfl, ⟨hS, hN⟩, hk⟩
  exact ⟨_, rfl, rp_rowD.2 ⟨p, k, rfl, hS, fun _ a ha h => by have := hN a ha; rcases h with h | h; have := hl _ h; omega; omega⟩, hk⟩
theorem AN.ac {P : Program} {g : FuncId} {args : List Value} {r : Value} (h : AN P g args r) : AC P g args r := fun O W vs hl hat => (h O W vs hl hat).mono fun e W' ⟨c, e', hr, hk⟩ => ⟨c, e', hr.mono ⟨Nat.le_refl _, fun g _ hn => ⟨fun hO => hn (.inl hO), rfl⟩, Shp.of_same fun _ _ => rfl⟩ (Sub.refl _), hk⟩
end Go.Proofs.YtfhjllchbgclaaaGreat

/- Layer 18, the program's Tick, from who is to be late on. -/
namespace Go.Proofs.YtfhjllchbgclaaaGreat
set_option linter.unusedVariables false
set_option linter.unusedSimpArgs false
open Go.RowKit
theorem TkK.fit {s : St} (h : TkK s) : s.fit := by
  obtain ⟨a, b, c, d, e, f, g⟩ := h.few
  exact ⟨by omega, by omega, by omega, by omega, by omega, by omega, by omega⟩
theorem no_one (s : St) : hasB s (-1) = false := by
  cases h : hasB s (-1)
  · rfl
  · have := (has_iff.1 h).2.1; omega
abbrev DuK (s : St) : Prop := AN Tryz.prog 20 [stT s] (rowD (duesS s))
theorem dues_few {s : St} (h : stB s = true) : (duesS s).length ≤ 16 := by
  have := td_len s s.th.length
  have := (th_len h).2.2
  simp only [duesS, h, if_true]; omega
theorem tick_ids {s : St} {n : Int} (h : tickE s n = 0) : lateI (duesS s) (s.nw + n) = tickI s n := by
  rw [(tick_yes h).2, late_is (dues_ok s)]
theorem tick_la {s : St} {n : Int} (h : tickE s n = 0) : LaK (s.toNow (s.nw + n)) (tickI s n) := by
  obtain ⟨hB, h0, h1⟩ := tickE_ok h
  have hb := nw_bd hB
  refine ⟨now_stB hB (by omega), fun i hi => ?_⟩
  obtain ⟨m, rfl, hm, h2, -⟩ := (mem_tick h).1 hi
  obtain ⟨h3, h4, -⟩ := td_is.1 h2
  exact ⟨m, rfl, hm, h3, h4⟩
def tcE : List FuncId := [53, 22, 20, 56]
def aoW (s : St) : Value := .iface 1000004 (.func (.yield 18) #[.agg (stL s), .int .i64 11] #[])
set_option maxRecDepth 100000 in
theorem pt_one {s v : St} {n : Int} {L : List Int} {R : List Du} (h : TkK s) (hB : stB s = true) (hD : DuK s) (h0 : 0 ≤ n) (h1 : s.nw + n ≤ 1099511627776) (hn : 0 ≤ s.nw) (hL : AC Tryz.prog 56 [rowD (duesS s), .int .i64 (s.nw + n)] (.tuple #[rowI L, rowD R]))
    (hK : LoopK Tryz.prog 3 (loopOf Tryz.prog 55 0) (hdK (s.toNow (s.nw + n)) L (0 : Nat) s.th.length s.th.length) (.exit 1) (hdK v L L.length s.th.length v.th.length)) (hl : v.th.length = s.th.length) : AC Tryz.prog 11 [stT s, .int .i64 n] (.tuple #[stT v, rowI L, .int .i64 0]) :=
  ac_path mixed (ext := tcE) (fuel := 9) (n := 9) (orc := [aoW s, vD true, .iface 1000012 (rowD (duesS s)), .bool false, .bool false, .tuple #[rowI L, rowD R], oK 3 [4, 5, 9] [4, 8, 45, 46, 47] 1 (hdKT L L.length) [bT v.th v.th.length, bTk v s.th.length, bWk]])
    (an (ao_keep (no_one s) h.ok h.fit (th_some hB)) <| an (len_map (f := thT) s.th) <| an (ac_pcheck hB h.ok) <| an (len_map (f := thT) s.th) <| an hD <| an (show decide (n < 0) = false by simp; omega) <| an (show In64 (1099511627776 - s.nw) by constructor <;> omega) <| an (show decide (1099511627776 - s.nw < n) = false by simp; omega) <| an (show In64 (s.nw + n) by constructor <;> omega) <| an hL <| an hK <|
      an (show LenP s.th.length v.th.length (v.th.map thT) from ⟨by simp [hl], by simp⟩) trivial) (by kernel_rfl)
set_option maxRecDepth 100000 in
theorem ac_ptick {s : St} {n : Int} (h : TkK s) (hn : In64 n) : AC Tryz.prog 11 [stT s, .int .i64 n] (.tuple #[stT (tickS s n), rowI (tickI s n), .int .i64 (tickE s n)]) := by
  have hD : DuK s := an_pdues h.ok
  cases hB : stB s
  · have e : tickE s n = 20 := (tickE_cfg s n).2 hB
    have e1 := tick_no (s := s) (n := n) (by rw [e]; decide)
    rw [e, e1.1, e1.2]
    have hd : duesS s = [] := by simp [duesS, hB]
    unfold DuK at hD
    rw [hd] at hD
    exact ac_path mixed (ext := tcE) (fuel := 9) (n := 9) (orc := [stT s, vD false, .iface 1000012 (rowD [])]) (an (ac_keep (no_one s) h.ok h.fit) <| an (ac_pcheck hB h.ok) <| an hD trivial) (by kernel_rfl)
  · have hb := nw_bd hB
    by_cases h0 : n < 0
    · have e : tickE s n = 50 := by unfold tickE; rw [if_neg (by simp [hB]), if_pos (.inl h0)]
      have e1 := tick_no (s := s) (n := n) (by rw [e]; decide)
      rw [e, e1.1, e1.2]
      exact ac_path mixed (ext := tcE) (fuel := 9) (n := 9) (orc := [aoW s, vD true, .iface 1000012 (rowD (duesS s)), .bool true])
        (an (ao_keep (no_one s) h.ok h.fit (th_some hB)) <| an (len_map (f := thT) s.th) <| an (ac_pcheck hB h.ok) <| an (len_map (f := thT) s.th) <| an hD <| an (show decide (n < 0) = true by simpa using h0) <| an (len_map (f := thT) s.th) trivial) (by kernel_rfl)
    · by_cases h1 : 1099511627776 - s.nw < n
      · have e : tickE s n = 50 := by unfold tickE; rw [if_neg (by simp [hB]), if_pos (.inr h1)]
        have e1 := tick_no (s := s) (n := n) (by rw [e]; decide)
        rw [e, e1.1, e1.2]
        exact ac_path mixed (ext := tcE) (fuel := 9) (n := 9) (orc := [aoW s, vD true, .iface 1000012 (rowD (duesS s)), .bool false, .bool true])
          (an (ao_keep (no_one s) h.ok h.fit (th_some hB)) <| an (len_map (f := thT) s.th) <| an (ac_pcheck hB h.ok) <| an (len_map (f := thT) s.th) <| an hD <| an (show decide (n < 0) = false by simpa using h0) <| an (show In64 (1099511627776 - s.nw) by constructor <;> omega) <| an (show decide (1099511627776 - s.nw < n) = true by simpa using h1) <| an (len_map (f := thT) s.th) trivial) (by kernel_rfl)
      · have e := tickE_mk (s := s) (n := n) hB (by omega) (by omega)
        have hL := ac_pdlate (l := duesS s) (n := s.nw + n) (dues_ok s) (by have := dues_few hB; omega)
        have hm := tickI_len h n
        have hK := kl_lp (l := tickI s n) (N := s.th.length) (by omega) (tickI s n).length 0 (v := s.toNow (s.nw + n)) rfl (by omega) (tick_la e) rfl
        rw [List.drop_zero, ← (tick_yes e).1] at hK
        rw [tick_ids e] at hL
        rw [e]
        exact pt_one h hB hD (by omega) (by omega) hb.1 hL hK (tick_len s n)
end Go.Proofs.YtfhjllchbgclaaaGreat

/- Layer 18: the program's Tick, Dues, Next, Ticks, told by plain states. -/
namespace Go.Proofs.YtfhjllchbgclaaaGreat
set_option linter.unusedVariables false
set_option linter.unusedSimpArgs false
open Go.RowKit
theorem ac_pdues {s : St} (h : TkK s) : AC Tryz.prog 20 [stT s] (rowD (duesS s)) := (an_pdues h.ok).ac
set_option maxRecDepth 100000 in
theorem ac_ptnext {s : St} (h : TkK s) : AC Tryz.prog 15 [stT s] (.tuple #[.int .i64 (nextT s), .bool (nextB s)]) := by
  have hl : (duesS s).length ≤ 800 := by
    cases hB : stB s
    · simp [duesS, hB]
    · have := dues_few hB; omega
  have hF := ac_pdfirst (duesS s) hl
  have e1 : (fstD (duesS s)).tm = nextT s := by
    unfold nextT fstD
    have ho := dues_ok s
    cases hd : duesS s with
    | nil => rw [if_neg (by simp [fstB])]
    | cons d r => rw [hd] at ho; rw [if_pos (by simp [fstB, ho])]; rfl
  have e2 : fstB (duesS s) = nextB s := by simp [fstB, nextB, dues_ok s]
  rw [← e1, ← e2]
  exact ac_path mixed (ext := [20, 30]) (fuel := 9) (n := 3) (orc := [rowD (duesS s), .tuple #[duT (fstD (duesS s)), .bool (fstB (duesS s))]]) (an (ac_pdues h) <| an hF trivial) (by kernel_rfl)
/-! ### More than one -/
def bQs (k : Nat) : Option Blk := some ⟨true, false, 1, 1, [pt k]⟩
def bQm (b : Bool) : Option Blk := some ⟨true, false, 1, 1, [vD b]⟩
def bQd (R : List Du) : Option Blk := some ⟨true, false, 1, 1, [rowD R]⟩
def bQw (k : Nat) : Option Blk := some ⟨true, false, 1, 1, [.func (.func 104) #[] #[vFz [pt k]]]⟩
def clF (a b c d : Nat) : Value := .func (.func 55) #[] #[pt a, pt b, pt c, pt d]
def hdTqT (r t : Nat) (f : Value) (l : List Int) (i : Int) (c : Nat) : List (Nat × Value) := [(4, pt r), (6, pt t), (7, f), (8, .int .i64 c), (16, rowI l), (17, .int .i64 l.length), (18, .int .i64 i)]
def hdTq (v : St) (l : List Int) (i : Int) (c : Nat) (R : List Du) (N M : Nat) : Sg := ⟨mkT 35 (hdTqT 6 1 (clF 3 2 4 5) l i c), [bT v.th M, bTk v N, bQs 1, bQm true, bQd R, bWk, bZ]⟩
def hdTq0 (s : St) (l : List Int) (i : Int) (c : Nat) : Sg := ⟨mkT 35 (hdTqT 5 0 (clF 2 1 3 4) l i c), [bS s, bQs 0, bQm false, bQd [], bQw 0, bZ]⟩
theorem ticks_off {s : St} (h : stB s = false) : ∀ l, ticksS s l = (s, 0)
  | [] => rfl
  | n :: l => by
    have e := tick_no (s := s) (n := n) (by rw [(tickE_cfg s n).2 h]; decide)
    simp only [ticksS, e.1, e.2, ticks_off h l]; rfl
set_option maxRecDepth 100000 in
theorem q0_lp {s : St} {l : List Int} (hm : l.length ≤ 1000000) : ∀ (k i : Nat), l.length - i = k → i ≤ l.length → LoopP Tryz.prog (loopOf Tryz.prog 13 0) (hdTq0 s l i 0) (.exit 0) (hdTq0 s l l.length 0)
  | 0, i, hk, hi => by
    have : i = l.length := by omega
    subst this
    exact loop_end mixed (fuel := 9) (n := 9) (keep := [4, 6, 7, 8, 16, 17, 18]) (ext := [56]) (im := [0, 1, 2, 3, 4, 5]) (orc := [.bool false]) (an (d_nlt l.length) trivial) (by intro e; cases e) (by kernel_rfl)
  | k + 1, i, hk, hi' => by
    have hi : i < l.length := by omega
    exact loop_more mixed (fuel := 9) (n := 9) (keep := [4, 6, 7, 8, 16, 17, 18]) (ext := [56]) (im := [0, 1, 2, 3, 4, 5]) (orc := [.bool true, .int .i64 l[i]]) (an (d_lt hi) <| an (ixIl hi) <| an (show In64 (((0 : Nat) : Int) + ((0 : Nat) : Int)) by decide) <| an (d_in hi hm) trivial) (by kernel_rfl) (q0_lp hm k (i + 1) (by omega) (by omega))
section
variable {v u : St} {l : List Int} {N i c : Nat} {R : List Du} {x : Exit} {S : Sg}
set_option maxRecDepth 100000 in
theorem q_end : LoopP Tryz.prog (loopOf Tryz.prog 13 0) (hdTq v l l.length c R N v.th.length) (.exit 0) (hdTq v l l.length c R N v.th.length) :=
  loop_end mixed (fuel := 9) (n := 9) (keep := [4, 6, 7, 8, 16, 17, 18]) (ext := [56]) (im := [0, 1, 2, 3, 4, 5, 6]) (orc := [.bool false]) (an (d_nlt l.length) trivial) (by intro e; cases e) (by kernel_rfl)
set_option maxRecDepth 100000 in
theorem q_neg (hi : i < l.length) (hm : l.length ≤ 1000000) (hc : c ≤ 16 * i) (h0 : l[i] < 0) (ih : LoopP Tryz.prog (loopOf Tryz.prog 13 0) (hdTq v l (i + 1 : Nat) c R N v.th.length) x S) : LoopP Tryz.prog (loopOf Tryz.prog 13 0) (hdTq v l i c R N v.th.length) x S :=
  loop_more mixed (fuel := 9) (n := 9) (keep := [4, 6, 7, 8, 16, 17, 18]) (ext := [56]) (im := [0, 1, 2, 3, 4, 5, 6]) (orc := [.bool true, .int .i64 l[i], .bool true]) (an (d_lt hi) <| an (ixIl hi) <| an (show decide (l[i] < 0) = true by simpa using h0) <| an (show In64 ((c : Int) + ((0 : Nat) : Int)) by constructor <;> omega) <| an (d_in hi hm) trivial) (by kernel_rfl) ih
set_option maxRecDepth 100000 in
theorem q_far (hi : i < l.length) (hm : l.length ≤ 1000000) (hc : c ≤ 16 * i) (hw : 0 ≤ v.nw ∧ v.nw ≤ 1099511627776) (h0 : 0 ≤ l[i]) (h1 : 1099511627776 - v.nw < l[i]) (ih : LoopP Tryz.prog (loopOf Tryz.prog 13 0) (hdTq v l (i + 1 : Nat) c R N v.th.length) x S) : LoopP Tryz.prog (loopOf Tryz.prog 13 0) (hdTq v l i c R N v.th.length) x S :=
  loop_more mixed (fuel := 9) (n := 9) (keep := [4, 6, 7, 8, 16, 17, 18]) (ext := [56]) (im := [0, 1, 2, 3, 4, 5, 6]) (orc := [.bool true, .int .i64 l[i], .bool false, .bool true]) (an (d_lt hi) <| an (ixIl hi) <| an (show decide (l[i] < 0) = false by simpa using h0) <| an (show In64 (1099511627776 - v.nw) by constructor <;> omega) <| an (show decide (1099511627776 - v.nw < l[i]) = true by simpa using h1) <| an (show In64 ((c : Int) + ((0 : Nat) : Int)) by constructor <;> omega) <| an (d_in hi hm) trivial) (by kernel_rfl) ih
set_option maxRecDepth 100000 in
theorem q_yes {L : List Int} {R2 : List Du} (hi : i < l.length) (hm : l.length ≤ 1000000) (hc : c ≤ 16 * i) (hL16 : L.length ≤ 16) (hw : 0 ≤ v.nw) (h0 : 0 ≤ l[i]) (h1 : v.nw + l[i] ≤ 1099511627776) (hL : AC Tryz.prog 56 [rowD R, .int .i64 (v.nw + l[i])] (.tuple #[rowI L, rowD R2]))
    (hK : LoopK Tryz.prog 3 (loopOf Tryz.prog 55 0) (hdK (v.toNow (v.nw + l[i])) L (0 : Nat) N v.th.length) (.exit 1) (hdK u L L.length N u.th.length)) (ih : LoopP Tryz.prog (loopOf Tryz.prog 13 0) (hdTq u l (i + 1 : Nat) (c + L.length) R2 N u.th.length) x S) : LoopP Tryz.prog (loopOf Tryz.prog 13 0) (hdTq v l i c R N v.th.length) x S :=
  loop_more mixed (fuel := 9) (n := 9) (keep := [4, 6, 7, 8, 16, 17, 18]) (ext := [56]) (im := [0, 1, 2, 3, 4, 5, 6]) (orc := [.bool true, .int .i64 l[i], .bool false, .bool false, .tuple #[rowI L, rowD R2], oK 3 [0, 1, 5] [4, 8, 45, 46, 47] 1 (hdKT L L.length) [bT u.th u.th.length, bTk u N, bWk]])
    (an (d_lt hi) <| an (ixIl hi) <| an (show decide (l[i] < 0) = false by simpa using h0) <| an (show In64 (1099511627776 - v.nw) by constructor <;> omega) <| an (show decide (1099511627776 - v.nw < l[i]) = false by simp; omega) <| an (show In64 (v.nw + l[i]) by constructor <;> omega) <| an hL <| an hK <| an (show In64 ((c : Int) + L.length) by constructor <;> omega) <| an (d_in hi hm) trivial) (by kernel_rfl) ih
end
theorem q_lp {l : List Int} {N : Nat} (hm : l.length ≤ 1000000) : ∀ (k i : Nat) {v : St} {c : Nat}, l.length - i = k → i ≤ l.length → TkK v → stB v = true → v.th.length = N → c ≤ 16 * i →
    LoopP Tryz.prog (loopOf Tryz.prog 13 0) (hdTq v l i c (duesS v) N v.th.length) (.exit 0) (hdTq (ticksS v (l.drop i)).1 l l.length (c + (ticksS v (l.drop i)).2) (duesS (ticksS v (l.drop i)).1) N (ticksS v (l.drop i)).1.th.length)
  | 0, i, v, c, hk, hi, _, _, _, _ => by
    have : i = l.length := by omega
    subst this
    rw [List.drop_length]
    exact q_end
  | k + 1, i, v, c, hk, hi', h, hB, hN, hc => by
    have hi : i < l.length := by omega
    have hb := nw_bd hB
    have ht := tickI_len h l[i]
    rw [List.drop_eq_getElem_cons hi, show (ticksS v (l[i] :: l.drop (i + 1))).1 = (ticksS (tickS v l[i]) (l.drop (i + 1))).1 from rfl, show c + (ticksS v (l[i] :: l.drop (i + 1))).2 = c + (tickI v l[i]).length + (ticksS (tickS v l[i]) (l.drop (i + 1))).2 from (Nat.add_assoc _ _ _).symm]
    have ih := q_lp hm k (i + 1) (v := tickS v l[i]) (c := c + (tickI v l[i]).length) (by omega) (by omega) (h.tick l[i]) ((tick_stB v l[i]).trans hB) ((tick_len v l[i]).trans hN) (by omega)
    by_cases he : tickE v l[i] = 0
    · obtain ⟨-, h0, h1⟩ := tickE_ok he
      have hL := ac_pdlate (l := duesS v) (n := v.nw + l[i]) (dues_ok v) (by have := dues_few hB; omega)
      have hK := kl_lp (l := tickI v l[i]) (N := N) (by omega) (tickI v l[i]).length 0 (v := v.toNow (v.nw + l[i])) rfl (by omega) (tick_la he) hN
      rw [List.drop_zero, ← (tick_yes he).1] at hK
      rw [tick_ids he, ← dues_tick he] at hL
      exact q_yes hi hm hc ht hb.1 h0 h1 hL hK ih
    · have e := tick_no he
      rw [e.1, e.2] at ih ⊢
      by_cases h0 : l[i] < 0
      · exact q_neg hi hm hc h0 ih
      · by_cases h1 : 1099511627776 - v.nw < l[i]
        · exact q_far hi hm hc hb (by omega) h1 ih
        · exact absurd (tickE_mk hB (by omega) (by omega)) he
set_option maxRecDepth 100000 in
theorem ac_pticks {s : St} {l : List Int} (h : TkK s) (hl : ∀ x ∈ l, In64 x) (hm : l.length ≤ 1000000) : AC Tryz.prog 13 [stT s, rowI l] (.tuple #[stT (ticksS s l).1, .int .i64 (ticksS s l).2]) := by
  have hD : DuK s := an_pdues h.ok
  cases hB : stB s
  · rw [ticks_off hB]
    have hd : duesS s = [] := by simp [duesS, hB]
    unfold DuK at hD
    rw [hd] at hD
    exact ac_path mixed (ext := tcE) (fuel := 9) (n := 9) (orc := [stT s, vD false, .iface 1000012 (rowD []), oL [4, 5, 6, 7, 8, 1] [4, 6, 7, 8, 16, 17, 18] 0 (hdTqT 5 0 (clF 2 1 3 4) l l.length 0) [bS s, bQs 0, bQm false, bQd [], bQw 0, bZ]])
      (an (ac_keep (no_one s) h.ok h.fit) <| an (ac_pcheck hB h.ok) <| an hD <| an (q0_lp (s := s) hm l.length 0 rfl (by omega)) trivial) (by kernel_rfl)
  · have hQ := q_lp (l := l) (N := s.th.length) hm l.length 0 (c := 0) rfl (by omega) h hB rfl (by omega)
    rw [List.drop_zero, Nat.zero_add] at hQ
    have hN : ∀ (l : List Int) (s : St), (ticksS s l).1.th.length = s.th.length := fun l => by
      induction l with
      | nil => intro s; rfl
      | cons n l ih => intro s; exact (ih _).trans (tick_len s n)
    have hN := hN l s
    revert hQ hN
    generalize (ticksS s l).1 = v
    generalize (ticksS s l).2 = c
    intro hQ hN
    exact ac_path mixed (ext := tcE) (fuel := 9) (n := 9) (orc := [aoW s, vD true, .iface 1000012 (rowD (duesS s)), oL [4, 5, 6, 7, 8, 9, 1] [4, 6, 7, 8, 16, 17, 18] 0 (hdTqT 6 1 (clF 3 2 4 5) l l.length c) [bT v.th v.th.length, bTk v s.th.length, bQs 1, bQm true, bQd (duesS v), bWk, bZ]])
      (an (ao_keep (no_one s) h.ok h.fit (th_some hB)) <| an (len_map (f := thT) s.th) <| an (ac_pcheck hB h.ok) <| an (len_map (f := thT) s.th) <| an hD <| an hQ <| an (show LenP s.th.length v.th.length (v.th.map thT) from ⟨by simp [hN], by simp⟩) trivial) (by kernel_rfl)
end Go.Proofs.YtfhjllchbgclaaaGreat

/- Layer 17: a state handed back whose log is none, or is the caller's own. -/
namespace Go.Proofs.YtfhjllchbgclaaaGreat
set_option linter.unusedVariables false
set_option linter.unusedSimpArgs false
open Go.RowKit
/-- A call that hands back a struct whose slice at place pos is none. -/
def evRunN (P : Program) (ext : List FuncId) (fuel n : Nat) (g : FuncId) (args orc : List Value) (pos : Nat) : Option (List Value × Prop) :=
  match evFn P ext fuel n g args [] orc with
  | some (.agg xs, H, [], ob) => match xs.toList[pos]? with
    | some (.slice none 0 0) => match lendL (lendA (look H)) xs.toList with
      | some (al, is, ps) => if is.all (fun i => (look H i).isSome) then some (al.set pos (.slice none 0 0), conj (ob ++ ps)) else none
      | none => none
    | _ => none
  | _ => none
theorem ac_pathN {P : Program} (hm : P.follows .mixedOrders = true) {ext : List FuncId} {fuel n : Nat} {g : FuncId} {args orc : List Value} {pos : Nat} {cs : List Value} {A : Prop} (hA : A) (h : evRunN P ext fuel n g args orc pos = some (cs, A)) : AC P g args (.agg cs.toArray) := by
  unfold evRunN at h
  split at h
  · next xs H ob hev =>
    split at h
    · next hp =>
      split at h
      · next al is ps hl =>
        split at h
        · next his =>
          cases h
          obtain ⟨hb1, hb2⟩ := conj_append.1 hA
          intro O W vs hlow hat
          have hH : HConc nowhere O [] W := ⟨hlow, fun _ _ => rfl, fun i => by simp [look, HAt], fun i j b b' g k k' h1 => by simp [look] at h1⟩
          refine (evFn_ok hm n _ _ _ _ _ _ _ _ hev hb1 nowhere O W vs hH hat).mono ?_
          rintro e W' ⟨c, ρ', O', rfl, hr, hH', hE⟩
          obtain ⟨us, rfl, hau⟩ := rp_agg.1 hr
          have h5 := lendL_ok (H := look H) (fun v v' c is ob => lendA_ok) hl hb2 (ys := us.toList) (by simpa using hau) (fun j _ => hH'.hp j)
          have hlen : al.length = us.toList.length := by have := h5.1; simpa using this.symm
          have hat2 : AtAll (Rp nowhere (Unlent ρ' O' is) W') (al.set pos (.slice none 0 0)).toArray us := by
            refine ⟨by simpa using hlen.symm, fun j x hx => ?_⟩
            simp only [List.getElem?_toArray, List.getElem?_set] at hx
            split at hx
            · next e =>
              subst e
              obtain ⟨u, hu, hru⟩ := hau.2 pos _ (by simpa using hp)
              split at hx
              · cases hx
                exact ⟨_, hu, rp_nils.2 (rp_nils.1 hru)⟩
              · cases hx
            · obtain ⟨y, hy, hr'⟩ := h5.2 j x (by simpa using hx)
              exact ⟨y, by simpa using hy, hr'⟩
          refine ⟨_, rfl, (rp_agg.2 ⟨us, rfl, hat2⟩ : Rp nowhere (Unlent ρ' O' is) W' _ _).mono ⟨Nat.le_refl _, fun g _ hn => ⟨fun hO => hn ⟨hE.keepO g hO fun i b hb => by simp [look] at hb, fun i hi k hk => ?_⟩, rfl⟩, Shp.of_same fun _ _ => rfl⟩ (Sub.refl _), ⟨hE.str.2.1, hE.str.1, hE.str.2.2, hE.still.size, fun g hg => hE.blk g hg fun i b hb => by simp [look] at hb⟩⟩
          rcases hE.new i _ hk with h2 | ⟨-, h2⟩
          · cases h2
          · have := hlow g hO
            rcases h2 with h2 | ⟨j, b, k, h2, -⟩
            · simp at h2; omega
            · simp [look] at h2
        · cases h
      · cases h
    · cases h
  · cases h
/-- A state's parts, its log none. -/
def stN (s : St) : Array Value := #[.int .i64 s.cf.lg, .int .i64 s.cf.th, .int .i64 s.cf.po, .int .i64 s.cf.wt, .int .i64 s.cf.sp, .int .i64 s.cf.yi, .bool s.cf.si, .int .i64 s.hd, .int .i64 s.tl, .int .i64 s.md, rowS s.sl, rowI s.sn, rowI s.rc, .int .i64 s.fe, rowI s.fl, .int .i64 s.ee, rowI s.el, .int .i64 s.nw, rowT s.th, .slice none 0 0]
set_option maxRecDepth 100000 in
theorem ao_keepL {s : St} {i : Int} (hA : hasB s i = false) (ho : s.ok) (hf : s.fit) (hl : s.lg ≠ []) : AO Tryz.prog 53 [stT s, .int .i64 i] (stL s) 19 5 :=
  ao_path mixed (ext := [101, 89, 88, 90]) (fuel := 9) (n := 5) (pos := 19) (orc := [vD false, rowS s.sl, rowI s.sn, rowI s.rc, rowI s.fl, rowI s.el, rowT s.th, rowE s.lg])
    (an (ac_phas hA ho) <| an (ac_copS s.sl hf.sl) <| an (ac_copI s.sn hf.sn) <| an (ac_copI s.rc hf.rc) <| an (ac_copI s.fl hf.fl) <| an (ac_copI s.el hf.el) <| an (ac_copT s.th hf.th) <| an (allK_E s.lg) <| an (app_nil (f := enT) hl hf.lg) <| an (show s.lg.length = s.lg.length ∧ s.lg.length = (s.lg.map enT).length from ⟨rfl, by simp⟩) trivial) (by kernel_rfl)
set_option maxRecDepth 100000 in
theorem ac_keepN {s : St} {i : Int} (hA : hasB s i = false) (ho : s.ok) (hf : s.fit) (hl : s.lg = []) : AC Tryz.prog 53 [stT s, .int .i64 i] (.agg (stN s)) :=
  ac_pathN mixed (ext := [101, 89, 88, 90]) (fuel := 9) (n := 5) (pos := 19) (orc := [vD false, rowS s.sl, rowI s.sn, rowI s.rc, rowI s.fl, rowI s.el, rowT s.th, .slice none 0 0])
    (an (ac_phas hA ho) <| an (ac_copS s.sl hf.sl) <| an (ac_copI s.sn hf.sn) <| an (ac_copI s.rc hf.rc) <| an (ac_copI s.fl hf.fl) <| an (ac_copI s.el hf.el) <| an (ac_copT s.th hf.th) <| an (allK_E s.lg) <| an (show s.lg.length = 0 by rw [hl]; rfl) trivial) (by kernel_rfl)
end Go.Proofs.YtfhjllchbgclaaaGreat

/- The program's Steps of who closes: round by round, and the whole, told by plain states. -/
namespace Go.Proofs.YtfhjllchbgclaaaGreat
set_option linter.unusedVariables false
set_option linter.unusedSimpArgs false
open Go.RowKit
/-! ### Who are woken -/
theorem wake_on {u : St} {n : Nat} {f : Th → Th} (hB : stB u = true) (hB' : stB (u.onTh n f) = true) (hn : n < u.th.length) (h1 : (gth u.th n).st ≠ 2) (h2 : (f (gth u.th n)).st ≠ 2) (i : Int) : wakeS (u.onTh n f) i = (wakeS u i).onTh n f := by
  have hl : (u.onTh n f).th.length = u.th.length := by show (u.th.set n _).length = _; simp
  have hb : hasB (u.onTh n f) i = hasB u i := by unfold hasB; rw [hB, hB', hl]
  unfold wakeS
  rw [hb]
  split
  · next hh =>
    obtain ⟨-, h3, h4⟩ := has_iff.1 hh
    obtain ⟨k, rfl⟩ : ∃ k : Nat, i = k := ⟨i.toNat, by omega⟩
    have hk : k < u.th.length := by omega
    rw [Int.toNat_natCast]
    show St.mk _ _ _ _ _ _ _ _ _ _ _ _ ((u.th.set n (f (gth u.th n))).set k (wakeT (gth (u.th.set n (f (gth u.th n))) k))) _ = St.mk _ _ _ _ _ _ _ _ _ _ _ _ ((u.th.set k (wakeT (gth u.th k))).set n (f (gth (u.th.set k (wakeT (gth u.th k))) n))) _
    by_cases e : n = k
    · subst e
      rw [gth_set hn, if_pos rfl, gth_set hn, if_pos rfl, List.set_set, List.set_set, wkT_not h1, wkT_not h2]; rfl
    · rw [gth_set hn, if_neg e, gth_set hk, if_neg (fun x => e x.symm), List.set_comm _ _ e]; rfl
  · rfl
theorem wakes_on {n : Nat} {f : Th → Th} : ∀ (l : List Int) {u : St}, stB u = true → stB (u.onTh n f) = true → n < u.th.length → (gth u.th n).st ≠ 2 → (f (gth u.th n)).st ≠ 2 → wakesS l (u.onTh n f) = (wakesS l u).onTh n f
  | [], _, _, _, _, _, _ => rfl
  | i :: l, u, hB, hB', hn, h1, h2 => by
    have e := wake_on hB hB' hn h1 h2 i
    have hg : gth (wakeS u i).th n = gth u.th n := by
      rw [wake_th hB i hn]; split
      · exact wkT_not h1
      · rfl
    show wakesS l (wakeS (u.onTh n f) i) = (wakesS l (wakeS u i)).onTh n f
    rw [e]
    exact wakes_on l (wake_stB hB i) (e ▸ wake_stB hB' i) (by rw [(wake_rest u i).2.2.2]; exact hn) (by rw [hg]; exact h1) (by rw [hg]; exact h2)
theorem wakes_same {n : Nat} (l : List Int) {u : St} (hB : stB u = true) (hn : n < u.th.length) (h1 : (gth u.th n).st ≠ 2) : gth (wakesS l u).th n = gth u.th n := by
  rw [wakes_th l hB hn]; split
  · exact wkT_not h1
  · rfl
theorem ao_wakeS {s : St} {i : Int} (ho : s.ok) (hf : s.fit) (ht : s.th ≠ []) : AO Tryz.prog 53 [stT s, .int .i64 i] (stL (wakeS s i)) 18 11 := by
  cases hA : hasB s i
  · rw [show wakeS s i = s by simp [wakeS, hA]]; exact ao_keep hA ho hf ht
  · obtain ⟨-, h0, h1⟩ := has_iff.1 hA
    obtain ⟨n, rfl⟩ : ∃ n : Nat, i = n := ⟨i.toNat, by omega⟩
    rw [show wakeS s n = s.onTh n wakeT by simp [wakeS, hA]]
    exact ao_wake hA ho hf
def hdWT (l : List Int) (i : Int) : List (Nat × Value) := [(0, pt 0), (6, rowI l), (7, .int .i64 l.length), (8, .int .i64 i)]
def hdW (v : St) (n : Int) (l : List Int) (i : Int) (N : Nat) : Sg := ⟨mkT 22 (hdWT l i), [bX v n N, bT v.th N]⟩
theorem th_ne {s : St} {N : Nat} (h : Wk s N) : s.th ≠ [] := by
  rintro e
  have := (th_len h.b).2.1
  rw [e] at this; simp at this
theorem ixW {l : List Int} {i : Nat} (h : i < l.length) : IxP ((l.map (Value.int .i64 ·)).toArray) (i : Int) (.int .i64 l[i]) := ⟨by omega, by simp [h]⟩
set_option maxRecDepth 100000 in
theorem wkc_lp {l : List Int} (hm : l.length ≤ 1000000) (n : Int) : ∀ (k i : Nat) {v : St}, l.length - i = k → i ≤ l.length → Wk v 1000000 → LoopK Tryz.prog 1 (loopOf Tryz.prog 220 0) (hdW v n l i v.th.length) (.exit 0) (hdW (wakesS (l.drop i) v) n l l.length (wakesS (l.drop i) v).th.length)
  | 0, i, v, hk, hi, _ => by
    have : i = l.length := by omega
    subst this
    rw [List.drop_length]
    exact loopK_end mixed (fuel := 9) (n := 9) (keep := [0, 6, 7, 8]) (ext := [53]) (im := [0, 1]) (orc := [.bool false]) (an (show decide ((l.length : Int) < l.length) = false by simp) trivial) (by intro e; cases e) (by kernel_rfl) (by rfl)
  | k + 1, i, v, hk, hi, h => by
    have h1 : i < l.length := by omega
    have ih := wkc_lp hm n k (i + 1) (v := wakeS v l[i]) (by omega) (by omega) (h.wake _)
    rw [show ((i + 1 : Nat) : Int) = (i : Int) + 1 by omega] at ih
    rw [List.drop_eq_getElem_cons h1]
    exact loopK_more mixed (fuel := 9) (n := 9) (keep := [0, 6, 7, 8]) (ext := [53]) (im := [0, 2]) (orc := [.bool true, .int .i64 l[i], .iface 1000004 (.func (.yield 18) #[.agg (stL (wakeS v l[i])), .int .i64 11] #[])])
      (an (show decide ((i : Int) < l.length) = true by simp; omega) <| an (ixW h1) <| an (len_map (f := thT) v.th) <| an (ao_wakeS (i := l[i]) (h.ok (by omega)) (h.fit (by omega)) (th_ne h)) <| an (show In64 ((i : Int) + 1) by constructor <;> omega) trivial) (by kernel_rfl) (by rfl) ih
theorem wkc_all {l : List Int} (hm : l.length ≤ 1000000) (n : Int) {v : St} (h : Wk v 1000000) : LoopK Tryz.prog 1 (loopOf Tryz.prog 220 0) (hdW v n l 0 v.th.length) (.exit 0) (hdW (wakesS l v) n l l.length (wakesS l v).th.length) := by
  have := wkc_lp hm n l.length 0 rfl (by omega) h
  rwa [List.drop_zero] at this
/-! ### At the label -/
def bBc (x : Nat) : Option Blk := some ⟨true, false, 1, 1, [pt x]⟩
def hdC (s : St) (i m o : Int) (N : Nat) : Sg := ⟨mkT 35 [(2, .int .i64 m), (6, pt 2), (8, pt 0), (9, .func (.func 187) #[] #[pt 3]), (10, .int .i64 o)], [bX s i N, bT s.th N, bZ, bBc 0]⟩
def bEc (s : St) (N : Nat) : Option Blk := some ⟨true, false, 20, 1, [.agg (stO s 1 N).toArray]⟩
/-- Where it returns. -/
def enC (s : St) (o : Int) (N : Nat) : Sg := ⟨mkT 35 [(6, pt 0), (7, .int .i64 o)], [bEc s N, bT s.th N]⟩
def cPX : List FuncId := [22, 125, 93, 218, 217, 208, 219, 53, 206]
def cPO (t : Th) (c : Int) : List Value := [.bool false, vD true, .bool false, .bool false, thT (pcT t c), .int .i64 0, .nilFunc, thT (pcT t c), .int .i64 3, .nilFunc, thT (pcT t c)]
section
variable {s : St} {i m o : Int}
set_option maxRecDepth 100000 in
theorem ce_many (h : decide (m ≤ o) = true) : GotoP Tryz.prog 0 (gotoOf Tryz.prog 144) (hdC s i m o s.th.length) .ret (enC s o s.th.length) := goto_end mixed (fuel := 9) (n := 9) (im := [2, 1]) (keep := [6, 7]) (ext := cPX) (orc := [.bool true]) (an h trivial) (by intro l e; cases e) (by kernel_rfl)
set_option maxRecDepth 100000 in
theorem ce_check (h : decide (m ≤ o) = false) (hB : stB s = false) (ho : s.ok) : GotoP Tryz.prog 0 (gotoOf Tryz.prog 144) (hdC s i m o s.th.length) .ret (enC s o s.th.length) := goto_end mixed (fuel := 9) (n := 9) (im := [2, 1]) (keep := [6, 7]) (ext := cPX) (orc := [.bool false, vD false]) (an h <| an (len_map (f := thT) s.th) <| an (ac_pcheck hB ho) trivial) (by intro l e; cases e) (by kernel_rfl)
set_option maxRecDepth 100000 in
theorem ce_low (h : decide (m ≤ o) = false) (hB : stB s = true) (ho : s.ok) (hi : decide (i < 0) = true) : GotoP Tryz.prog 0 (gotoOf Tryz.prog 144) (hdC s i m o s.th.length) .ret (enC s o s.th.length) := goto_end mixed (fuel := 9) (n := 9) (im := [2, 1]) (keep := [6, 7]) (ext := cPX) (orc := [.bool false, vD true, .bool true]) (an h <| an (len_map (f := thT) s.th) <| an (ac_pcheck hB ho) <| an hi trivial) (by intro l e; cases e) (by kernel_rfl)
set_option maxRecDepth 100000 in
theorem ce_high (h : decide (m ≤ o) = false) (hB : stB s = true) (ho : s.ok) (hi : decide (i < 0) = false) (hj : decide ((s.th.length : Int) ≤ i) = true) : GotoP Tryz.prog 0 (gotoOf Tryz.prog 144) (hdC s i m o s.th.length) .ret (enC s o s.th.length) := goto_end mixed (fuel := 9) (n := 9) (im := [2, 1]) (keep := [6, 7]) (ext := cPX) (orc := [.bool false, vD true, .bool false, .bool true]) (an h <| an (len_map (f := thT) s.th) <| an (ac_pcheck hB ho) <| an hi <| an hj trivial) (by intro l e; cases e) (by kernel_rfl)
variable {n : Nat}
set_option maxRecDepth 100000 in
theorem ce_runs (h : decide (m ≤ o) = false) (hB : stB s = true) (ho : s.ok) (hn : n < s.th.length) (hr : (thRuns (gth s.th n).st == 0) = false) : GotoP Tryz.prog 0 (gotoOf Tryz.prog 144) (hdC s n m o s.th.length) .ret (enC s o s.th.length) := goto_end mixed (fuel := 9) (n := 9) (im := [2, 1]) (keep := [6, 7]) (ext := cPX) (orc := [.bool false, vD true, .bool false, .bool false, thT (gth s.th n), .int .i64 (thRuns (gth s.th n).st), .bool false])
  (an h <| an (len_map (f := thT) s.th) <| an (ac_pcheck hB ho) <| an (show decide ((n : Int) < 0) = false by simp) <| an (show decide ((s.th.length : Int) ≤ n) = false by simp; omega) <| an (idT hn) <| an (elT hn) <| an (ac_pruns (t := gth s.th n) rfl) <| an hr trivial) (by intro l e; cases e) (by kernel_rfl)
set_option maxRecDepth 100000 in
theorem ce_side (h : decide (m ≤ o) = false) (hB : stB s = true) (ho : s.ok) (hn : n < s.th.length) (hr : thRuns (gth s.th n).st = 0) (hs : (opSide (gth s.th n).ki == 3) = false) : GotoP Tryz.prog 0 (gotoOf Tryz.prog 144) (hdC s n m o s.th.length) .ret (enC s o s.th.length) := goto_end mixed (fuel := 9) (n := 9) (im := [2, 1]) (keep := [6, 7]) (ext := cPX) (orc := [.bool false, vD true, .bool false, .bool false, thT (gth s.th n), .int .i64 0, .nilFunc, thT (gth s.th n), .int .i64 (opSide (gth s.th n).ki), .bool true])
  (an h <| an (len_map (f := thT) s.th) <| an (ac_pcheck hB ho) <| an (show decide ((n : Int) < 0) = false by simp) <| an (show decide ((s.th.length : Int) ≤ n) = false by simp; omega) <| an (idT hn) <| an (elT hn) <| an (ac_pruns (t := gth s.th n) hr) <| an (idT hn) <| an (elT hn) <| an (ac_pside (gth s.th n).ki) <| an (show (!(opSide (gth s.th n).ki == 3)) = true by rw [hs]; rfl) trivial) (by intro l e; cases e) (by kernel_rfl)
/-- Who does not close, makes no step. -/
theorem ce_not (ho : s.ok) (hr : runsB s i 3 = false) : GotoP Tryz.prog 0 (gotoOf Tryz.prog 144) (hdC s i m o s.th.length) .ret (enC s o s.th.length) := by
  cases h : decide (m ≤ o)
  · cases hB : stB s
    · exact ce_check h hB ho
    · by_cases h0 : i < 0
      · exact ce_low h hB ho (by simp [h0])
      · by_cases h1 : (s.th.length : Int) ≤ i
        · exact ce_high h hB ho (by simp; omega) (by simp [h1])
        · obtain ⟨n, rfl⟩ : ∃ n : Nat, i = n := ⟨i.toNat, by omega⟩
          have hn : n < s.th.length := by omega
          have hr' : ¬ ((gth s.th n).st = 1 ∧ opSide (gth s.th n).ki = 3) := fun e => by
            have : runsB s n 3 = true := runs_iff.2 ⟨has_of hB hn, by simpa using e⟩
            rw [hr] at this; cases this
          by_cases hs : thRuns (gth s.th n).st = 0
          · refine ce_side h hB ho hn hs (bne_of fun e => hr' ⟨?_, e⟩)
            have h2 := runs_not hs
            have h3 := gth_ok hB hn
            generalize gth s.th n = t at h2 h3
            obtain ⟨st, ki, va, un, pc, re, se, tr, la, rs, go⟩ := t
            rw [thB_iff] at h3
            simp only at h2 ⊢
            omega
          · exact ce_runs h hB ho hn (bne_of hs)
  · exact ce_many h
end
/-- One more round: thread n, at step c, closes. -/
structure Cv (s : St) (n : Nat) (t : Th) (c m o : Int) : Prop where
  lt : decide (m ≤ o) = false
  w : Wk s 999999
  hn : n < s.th.length
  ht : gth s.th n = pcT t c
  st : t.st = 1
  sd : opSide t.ki = 3
  o1 : In64 (o + 1)
section
variable {s : St} {n : Nat} {t : Th} {c m o : Int} {x : Exit} {S : Sg}
theorem Cv.ok (h : Cv s n t c m o) : s.ok := h.w.ok (by omega)
theorem Cv.fit (h : Cv s n t c m o) : s.fit := h.w.fit (by omega)
theorem Cv.rs (h : Cv s n t c m o) : thRuns t.st = 0 := by rw [h.st]; rfl
theorem Cv.el (h : Cv s n t c m o) : ElP (s.th.map thT) (0 + (n : Int).toNat) (thT (pcT t c)) := h.ht ▸ elT h.hn
theorem Cv.id (h : Cv s n t c m o) : 0 ≤ (n : Int) ∧ (n : Int).toNat < s.th.length := idT h.hn
theorem Cv.nk (h : Cv s n t c m o) : (t.ki != 9) = true := by
  have := h.sd
  by_cases e : t.ki = 9
  · rw [e] at this; exact absurd this (by decide)
  · simp [e]
theorem Cv.pa {B : Prop} (h : Cv s n t c m o) (k : B) : decide (m ≤ o) = false ∧ LenP s.th.length s.th.length (s.th.map thT) ∧ AC Tryz.prog 22 [stT s] (.bool true) ∧ decide ((n : Int) < 0) = false ∧ decide ((s.th.length : Int) ≤ n) = false ∧ (0 ≤ (n : Int) ∧ (n : Int).toNat < s.th.length) ∧ ElP (s.th.map thT) (0 + (n : Int).toNat) (thT (pcT t c)) ∧ AC Tryz.prog 125 [thT (pcT t c)] (.int .i64 0) ∧ (0 ≤ (n : Int) ∧ (n : Int).toNat < s.th.length) ∧ ElP (s.th.map thT) (0 + (n : Int).toNat) (thT (pcT t c)) ∧ AC Tryz.prog 93 [.int .i64 (pcT t c).ki] (.int .i64 3) ∧ (0 ≤ (n : Int) ∧ (n : Int).toNat < s.th.length) ∧ ElP (s.th.map thT) (0 + (n : Int).toNat) (thT (pcT t c)) ∧ B :=
  ⟨h.lt, len_map s.th, ac_pcheck h.w.b h.ok, by simp, by have := h.hn; simp; omega, h.id, h.el, ac_pruns (t := pcT t c) h.rs, h.id, h.el, by have := ac_pside (pcT t c).ki; exact h.sd ▸ this, h.id, h.el, k⟩
def S0 (s : St) (n : Nat) (t : Th) (d : Int) : St := ((s.toWord s.hd s.tl d).setTh n (rgT (pcT t 0) 1 0)).addLg (tlE (s.toWord s.hd s.tl d) n t.ki 1 0)
set_option maxRecDepth 100000 in
theorem cv_shut (h : Cv s n t 0 m o) (hL : GotoP Tryz.prog 0 (gotoOf Tryz.prog 144) (hdC ((S0 s n t (clM s.md (modeI t.ki))).setTh n (pcT (rgT t 1 0) 1)) n m (o + 1) (s.th.set n (rgT (pcT t 0) 1 0)).length) x S) : GotoP Tryz.prog 0 (gotoOf Tryz.prog 144) (hdC s n m o s.th.length) x S :=
  have hw := h.w.shut (modeI t.ki)
  goto_more mixed (fuel := 9) (n := 9) (keep := [2, 6, 8, 9, 10]) (ext := cPX) (im := [0, 4, 2, 3]) (orc := cPO t 0 ++ [.nilFunc, thT (pcT t 0), .int .i64 (modeI t.ki), wdT s.hd s.tl (clM s.md (modeI t.ki)), .iface 1000004 (.func (.yield 18) #[.agg (stL (S0 s n t (clM s.md (modeI t.ki)))), .int .i64 11] #[]), thT (rgT (pcT t 0) 1 0), vRow (s.th.set n (rgT (pcT t 0) 1 0)).length (((s.th.set n (rgT (pcT t 0) 1 0)).set n (pcT (rgT t 1 0) 1)).map thT)])
    (h.pa <| an h.id <| an h.el <| an (ac_pmode t.ki) <| an (ac_pclose (h := s.hd) (t := s.tl) (m := s.md) (mode_is t.ki)) <| an (len_map (f := thT) s.th) <| an (tell_c (s := s.toWord s.hd s.tl (clM s.md (modeI t.ki))) (c := 0) (r := 1) (has_of hw.b h.hn) h.ht h.nk (hw.ok (by omega)) (hw.fit (by omega))) <|
      an (idT (l := s.th.set n (rgT (pcT t 0) 1 0)) (by rw [List.length_set]; exact h.hn)) <| an (el2 h.hn (rgT (pcT t 0) 1 0)) <| an (setT (s.th.set n (rgT (pcT t 0) 1 0)) n (pcT (rgT t 1 0) 1)) <| an h.o1 trivial) (by kernel_rfl) hL
set_option maxRecDepth 100000 in
theorem cv_full {u : St} (h : Cv s n t 1 m o) (he : AC Tryz.prog 219 [evT s.fe s.fl] (.tuple #[evT (nxE s.fe) [], rowI s.fl])) (hk : LoopK Tryz.prog 1 (loopOf Tryz.prog 220 0) (hdW (s.toFull (nxE s.fe) []) n s.fl 0 s.th.length) (.exit 0) (hdW u n s.fl s.fl.length u.th.length)) (hu : n < u.th.length) (hg : gth u.th n = pcT t 1)
    (hL : GotoP Tryz.prog 0 (gotoOf Tryz.prog 144) (hdC (u.setTh n (pcT t 2)) n m (o + 1) u.th.length) x S) : GotoP Tryz.prog 0 (gotoOf Tryz.prog 144) (hdC s n m o s.th.length) x S :=
  goto_more mixed (fuel := 9) (n := 9) (keep := [2, 6, 8, 9, 10]) (ext := cPX) (im := [0, 6, 2, 3]) (orc := cPO t 1 ++ [.nilFunc, .nilFunc, .tuple #[evT (nxE s.fe) [], rowI s.fl], oK 1 [0, 1] [0, 6, 7, 8] 0 (hdWT s.fl s.fl.length) [bX u n u.th.length, bT u.th u.th.length], thT (pcT t 1), vRow u.th.length ((u.th.set n (pcT t 2)).map thT)])
    (h.pa <| an he <| an hk <| an (idT hu) <| an (hg ▸ elT hu) <| an (setT u.th n (pcT t 2)) <| an h.o1 trivial) (by kernel_rfl) hL
set_option maxRecDepth 100000 in
theorem cv_empty {u : St} (h : Cv s n t c m o) (h0 : (c == 0) = false) (h1 : (c == 1) = false) (he : AC Tryz.prog 219 [evT s.ee s.el] (.tuple #[evT (nxE s.ee) [], rowI s.el])) (hk : LoopK Tryz.prog 1 (loopOf Tryz.prog 220 0) (hdW (s.toEmpty (nxE s.ee) []) n s.el 0 s.th.length) (.exit 0) (hdW u n s.el s.el.length u.th.length)) (hu : n < u.th.length) (hg : gth u.th n = pcT t c)
    (hL : GotoP Tryz.prog 0 (gotoOf Tryz.prog 144) (hdC (u.setTh n (doneT t)) n m (o + 1) u.th.length) x S) : GotoP Tryz.prog 0 (gotoOf Tryz.prog 144) (hdC s n m o s.th.length) x S :=
  goto_more mixed (fuel := 9) (n := 9) (keep := [2, 6, 8, 9, 10]) (ext := cPX) (im := [0, 6, 2, 3]) (orc := cPO t c ++ [.bool false, .bool false, .tuple #[evT (nxE s.ee) [], rowI s.el], oK 1 [0, 1] [0, 6, 7, 8] 0 (hdWT s.el s.el.length) [bX u n u.th.length, bT u.th u.th.length], thT (pcT t c), .tuple #[thT (doneT t), .int .i64 0], thT (pcT t c), vRow u.th.length ((u.th.set n (doneT t)).map thT)])
    (h.pa <| an h0 <| an h1 <| an he <| an hk <| an (idT hu) <| an (idT hu) <| an (hg ▸ elT hu) <| an (ac_pdone (done_of (c := c) h.rs)) <| an (hg ▸ elT hu) <| an (setT u.th n (doneT t)) <| an h.o1 trivial) (by kernel_rfl) hL
end
end Go.Proofs.YtfhjllchbgclaaaGreat

/- Contracts told by abstract values: the program's New, Invoke, Queue, by the engine. -/
namespace Go.Proofs.YtfhjllchbgclaaaGreat
set_option linter.unusedVariables false
set_option linter.unusedSimpArgs false
open Go.RowKit
theorem ac_croom (c : Cf) : AC Tryz.prog 45 [cfT c] (.int .i64 (cfR c)) := by
  intro O W vs hl hat ; obtain ⟨ys, rfl, _, _, rfl, h0, rfl⟩ := args_of hat
  rw [rp_cfT] at h0
  subst h0
  refine (croom_any c.lg c.th c.po c.wt c.sp c.yi c.si W).mono ?_
  rintro e W' ⟨rfl, hk⟩
  exact ⟨_, rfl, rp_int.2 rfl, hk⟩
theorem make_th {n : Int} (h0 : 0 ≤ n) (h1 : n ≤ 1000) : MakeP n n (List.replicate n.toNat th0).length ((List.replicate n.toNat th0).map thT) (thT th0) := ⟨by simp; omega, by omega, by omega, by simp⟩
set_option maxRecDepth 100000 in
theorem ac_pnew {c : Cf} (hc : cfB c = true) : AC Tryz.prog 23 [cfT c] (.tuple #[stT (newSt c), .int .i64 0]) :=
  ac_path mixed (ext := [39, 45, 44]) (fuel := 9) (n := 4) (orc := [.int .i64 0, .nilFunc, .int .i64 (cfR c), rowS (newL (cfR c)), rowT (List.replicate c.th.toNat th0)])
    (an (ac_ccheck (c := c) (r := 0) (by simp [hc])) <| an (ac_croom c) <| an (ac_snew (cfR c) (room_in c)) <| an (make_th (n := c.th) (by have := cf_th hc; omega) (by have := cf_th hc; omega)) <| an (len_map (f := thT) (List.replicate c.th.toNat th0)) trivial) (by kernel_rfl)
set_option maxRecDepth 100000 in
theorem ac_pinv_1 {s : St} {i k v u : Int} (hA : stB s = false) (ho : s.ok) (hf : s.fit) : AC Tryz.prog 24 [stT s, .int .i64 i, .int .i64 k, .int .i64 v, .int .i64 u] (.tuple #[stT s, .int .i64 20]) :=
  ac_path mixed (ext := [22, 89, 88, 91, 90]) (fuel := 9) (n := 5) (orc := [vD false, rowS s.sl, rowI s.sn, rowI s.rc, rowI s.fl, rowI s.el, rowT s.th, rowE s.lg])
    (an (ac_pcheck hA ho) <| an (ac_copS s.sl hf.sl) <| an (ac_copI s.sn hf.sn) <| an (ac_copI s.rc hf.rc) <| an (ac_copI s.fl hf.fl) <| an (ac_copI s.el hf.el) <| an (ac_copT s.th hf.th) <| an (ac_copE s.lg hf.lg) trivial) (by kernel_rfl)
set_option maxRecDepth 100000 in
theorem ac_pinv_2 {s : St} {i k v u E : Int} (hA : stB s = true) (hE : opMay s.cf.th s.cf.si i k = E) (hE0 : E ≠ 0) (ho : s.ok) (hf : s.fit) : AC Tryz.prog 24 [stT s, .int .i64 i, .int .i64 k, .int .i64 v, .int .i64 u] (.tuple #[stT s, .int .i64 E]) :=
  ac_path mixed (ext := [22, 89, 88, 91, 90, 47]) (fuel := 9) (n := 5) (orc := [vD true, .int .i64 E, .bool true, rowS s.sl, rowI s.sn, rowI s.rc, rowI s.fl, rowI s.el, rowT s.th, rowE s.lg])
    (an (ac_pcheck hA ho) <| an (ac_omay hE) <| an (show (E != 0) = true by simpa using hE0) <| an (ac_copS s.sl hf.sl) <| an (ac_copI s.sn hf.sn) <| an (ac_copI s.rc hf.rc) <| an (ac_copI s.fl hf.fl) <| an (ac_copI s.el hf.el) <| an (ac_copT s.th hf.th) <| an (ac_copE s.lg hf.lg) trivial) (by kernel_rfl)
set_option maxRecDepth 100000 in
theorem ac_pinv_3 {s : St} {n : Nat} {k v u E : Int} {t : Th} (hA : stB s = true) (hM : opMay s.cf.th s.cf.si n k = 0) (hT : thBeg (gth s.th n) k v u E t) (hn : n < s.th.length) (ho : s.ok) (hf : s.fit) :
    AC Tryz.prog 24 [stT s, .int .i64 n, .int .i64 k, .int .i64 v, .int .i64 u] (.tuple #[stT (s.setTh n t), .int .i64 E]) :=
  ac_path mixed (ext := [22, 89, 88, 91, 47, 48]) (fuel := 9) (n := 5)
    (orc := [vD true, .int .i64 0, .nilFunc, thT (gth s.th n), .tuple #[thT t, .int .i64 E], rowS s.sl, rowI s.sn, rowI s.rc, rowI s.fl, rowI s.el, rowT s.th, rowE s.lg, thT (gth s.th n), rowT (s.th.set n t)])
    (an (ac_pcheck hA ho) <| an (ac_omay hM) <| an (ixT hn) <| an (ac_tbeg hT) <| an (ac_copS s.sl hf.sl) <| an (ac_copI s.sn hf.sn) <| an (ac_copI s.rc hf.rc) <| an (ac_copI s.fl hf.fl) <| an (ac_copI s.el hf.el) <| an (allK_T s.th) <| an (app_nil (f := thT) (lt_ne hn) hf.th) <|
      an (ac_copE s.lg hf.lg) <| an (idT hn) <| an (elT hn) <| an (setT s.th n t) <| an (show LenP s.th.length (s.th.set n t).length ((s.th.set n t).map thT) from ⟨by simp, by simp⟩) trivial) (by kernel_rfl)
theorem ac_pinvoke {s : St} {i k v u E : Int} {r : St} (h : stBeg s i k v u E r) (ho : s.ok) (hf : s.fit) : AC Tryz.prog 24 [stT s, .int .i64 i, .int .i64 k, .int .i64 v, .int .i64 u] (.tuple #[stT r, .int .i64 E]) := by
  rcases h with ⟨hA, rfl, rfl⟩ | ⟨hA, h0, rfl, rfl⟩ | ⟨hA, h0, n, t, rfl, hn, hT, rfl⟩
  · exact ac_pinv_1 hA ho hf
  · exact ac_pinv_2 hA rfl h0 ho hf
  · exact ac_pinv_3 hA h0 hT hn ho hf

/-! ### What is there -/
section
variable {s : St} {r : Int} {n : Nat}
end
end Go.Proofs.YtfhjllchbgclaaaGreat

/- Layer 12: a thread parked, woken, and done: the program's, and the document's. -/
namespace Go.Proofs.YtfhjllchbgclaaaGreat
set_option linter.unusedVariables false
set_option linter.unusedSimpArgs false
open Go.ChangeShapes Go.WideShapes Go.ChangeAt Go.RowKit

end Go.Proofs.YtfhjllchbgclaaaGreat
