/- Layer 7: the document's own answers. -/
import Derived.Test.YtmdpgaihbkjjgaaWaitK
namespace Go.Proofs.Ytmdpgaihbkjjgaa
set_option linter.unusedVariables false
set_option linter.unusedSimpArgs false
open Go.ChangeShapes Go.WideShapes Go.ChangeAt Go.RowKit

theorem may_of {lg th po wt sp yi : Int} (h : mayB lg th po wt sp yi = true) : (wt = 0 ∨ wt = 1 ∨ wt = 2 ∨ wt = 3) ∧ (0 ≤ sp ∧ sp ≤ 8) ∧ (0 ≤ yi ∧ yi ≤ 8) := by
  have hp := may_iff.1 h
  omega
set_option maxHeartbeats 1000000 in
theorem rwnext_any (lg th po wt sp yi : Int) (si : Bool) (n : Int) (w : World) : Calls Try.prog 13 #[.agg #[.int .i64 lg, .int .i64 th, .int .i64 po, .int .i64 wt, .int .i64 sp, .int .i64 yi, .bool si], .int .i64 n] w fun e w' => e = .returned (.int .i64 (nxI lg th po wt sp yi n)) ∧ Kept w w' := by
  cases hm : mayB lg th po wt sp yi
  · have hk := nx_no (n := n) hm
    have hc := ck_no hm
    (rw [hk]; clear hk; go_enter Try.func13, Try.ntmps13; go_wp2_with (first | (go_at_call 25; refine (rccheck_any _ _ _ _ _ _ _ _).mono ?_; rintro e wx ⟨rfl, hgx⟩; obtain ⟨hcx, hfx⟩ := bcell hgx; have hz0 : w.heap.size < wx.heap.size := (by have := hgx.size; (try simp at this); omega))); (all_goals (go_ret; exact ⟨rfl, by repeat' (first | (with_reducible exact Below.refl _ _) | (with_reducible assumption) | (with_reducible refine kept_alloc ?_ _) | (with_reducible refine kept_drewN ?_ _) | (with_reducible refine Below.drew ?_) | (with_reducible refine Below.setCell ?_ (by first | omega | (simp; omega) | (simp; done)) _) | (refine kept_trans ?_ (by with_reducible assumption)))⟩)))
  · have hk := nx_yes (n := n) hm
    have hc := ck_yes hm
    obtain ⟨h0, h1, h2⟩ := may_of hm
    clear hm
    have hw : IntKind.i64.wrap (sp + yi) = sp + yi := IntWalk.i64_in _ (by omega)
    obtain rfl | rfl | rfl | rfl := h0
    · rw [show wayI 0 sp yi n = 0 from rfl] at hk
      (rw [hk]; clear hk; go_enter Try.func13, Try.ntmps13; go_wp2_with (first | (go_at_call 25; refine (rccheck_any _ _ _ _ _ _ _ _).mono ?_; rintro e wx ⟨rfl, hgx⟩; obtain ⟨hcx, hfx⟩ := bcell hgx; have hz0 : w.heap.size < wx.heap.size := (by have := hgx.size; (try simp at this); omega))); (all_goals (go_ret; exact ⟨rfl, by repeat' (first | (with_reducible exact Below.refl _ _) | (with_reducible assumption) | (with_reducible refine kept_alloc ?_ _) | (with_reducible refine kept_drewN ?_ _) | (with_reducible refine Below.drew ?_) | (with_reducible refine Below.setCell ?_ (by first | omega | (simp; omega) | (simp; done)) _) | (refine kept_trans ?_ (by with_reducible assumption)))⟩)))
    · rw [show wayI 1 sp yi n = 1 from rfl] at hk
      (rw [hk]; clear hk; go_enter Try.func13, Try.ntmps13; go_wp2_with (first | (go_at_call 25; refine (rccheck_any _ _ _ _ _ _ _ _).mono ?_; rintro e wx ⟨rfl, hgx⟩; obtain ⟨hcx, hfx⟩ := bcell hgx; have hz0 : w.heap.size < wx.heap.size := (by have := hgx.size; (try simp at this); omega))); (all_goals (go_ret; exact ⟨rfl, by repeat' (first | (with_reducible exact Below.refl _ _) | (with_reducible assumption) | (with_reducible refine kept_alloc ?_ _) | (with_reducible refine kept_drewN ?_ _) | (with_reducible refine Below.drew ?_) | (with_reducible refine Below.setCell ?_ (by first | omega | (simp; omega) | (simp; done)) _) | (refine kept_trans ?_ (by with_reducible assumption)))⟩)))
    · by_cases g1 : n < sp
      · rw [show wayI 2 sp yi n = 0 by unfold wayI; simp [g1]] at hk
        (rw [hk]; clear hk; go_enter Try.func13, Try.ntmps13; go_wp2_with (first | (go_at_call 25; refine (rccheck_any _ _ _ _ _ _ _ _).mono ?_; rintro e wx ⟨rfl, hgx⟩; obtain ⟨hcx, hfx⟩ := bcell hgx; have hz0 : w.heap.size < wx.heap.size := (by have := hgx.size; (try simp at this); omega))); (all_goals (go_ret; exact ⟨rfl, by repeat' (first | (with_reducible exact Below.refl _ _) | (with_reducible assumption) | (with_reducible refine kept_alloc ?_ _) | (with_reducible refine kept_drewN ?_ _) | (with_reducible refine Below.drew ?_) | (with_reducible refine Below.setCell ?_ (by first | omega | (simp; omega) | (simp; done)) _) | (refine kept_trans ?_ (by with_reducible assumption)))⟩)))
      · by_cases g2 : n < sp + yi
        · rw [show wayI 2 sp yi n = 1 by unfold wayI; simp [g1, g2]] at hk
          (rw [hk]; clear hk; go_enter Try.func13, Try.ntmps13; go_wp2_with (first | (go_at_call 25; refine (rccheck_any _ _ _ _ _ _ _ _).mono ?_; rintro e wx ⟨rfl, hgx⟩; obtain ⟨hcx, hfx⟩ := bcell hgx; have hz0 : w.heap.size < wx.heap.size := (by have := hgx.size; (try simp at this); omega))); (all_goals (go_ret; exact ⟨rfl, by repeat' (first | (with_reducible exact Below.refl _ _) | (with_reducible assumption) | (with_reducible refine kept_alloc ?_ _) | (with_reducible refine kept_drewN ?_ _) | (with_reducible refine Below.drew ?_) | (with_reducible refine Below.setCell ?_ (by first | omega | (simp; omega) | (simp; done)) _) | (refine kept_trans ?_ (by with_reducible assumption)))⟩)))
        · rw [show wayI 2 sp yi n = 2 by unfold wayI; simp [g1, g2]] at hk
          (rw [hk]; clear hk; go_enter Try.func13, Try.ntmps13; go_wp2_with (first | (go_at_call 25; refine (rccheck_any _ _ _ _ _ _ _ _).mono ?_; rintro e wx ⟨rfl, hgx⟩; obtain ⟨hcx, hfx⟩ := bcell hgx; have hz0 : w.heap.size < wx.heap.size := (by have := hgx.size; (try simp at this); omega))); (all_goals (go_ret; exact ⟨rfl, by repeat' (first | (with_reducible exact Below.refl _ _) | (with_reducible assumption) | (with_reducible refine kept_alloc ?_ _) | (with_reducible refine kept_drewN ?_ _) | (with_reducible refine Below.drew ?_) | (with_reducible refine Below.setCell ?_ (by first | omega | (simp; omega) | (simp; done)) _) | (refine kept_trans ?_ (by with_reducible assumption)))⟩)))
    · rw [show wayI 3 sp yi n = 2 from rfl] at hk
      (rw [hk]; clear hk; go_enter Try.func13, Try.ntmps13; go_wp2_with (first | (go_at_call 25; refine (rccheck_any _ _ _ _ _ _ _ _).mono ?_; rintro e wx ⟨rfl, hgx⟩; obtain ⟨hcx, hfx⟩ := bcell hgx; have hz0 : w.heap.size < wx.heap.size := (by have := hgx.size; (try simp at this); omega))); (all_goals (go_ret; exact ⟨rfl, by repeat' (first | (with_reducible exact Below.refl _ _) | (with_reducible assumption) | (with_reducible refine kept_alloc ?_ _) | (with_reducible refine kept_drewN ?_ _) | (with_reducible refine Below.drew ?_) | (with_reducible refine Below.setCell ?_ (by first | omega | (simp; omega) | (simp; done)) _) | (refine kept_trans ?_ (by with_reducible assumption)))⟩)))

theorem try_bd {lg th po wt sp yi : Int} (h : parksB lg th po wt sp yi = true) : 0 ≤ tryI lg th po wt sp yi ∧ tryI lg th po wt sp yi ≤ 16 := by
  have := may_of (parks_may h)
  rw [try_yes h]
  omega
/-- The first time that one parks. -/
theorem until_at {lg th po wt sp yi : Int} {j : Nat} (h : nxI lg th po wt sp yi j = 2) (hb : ∀ m : Nat, m < j → nxI lg th po wt sp yi m ≠ 2) : tryI lg th po wt sp yi = j ∧ parksB lg th po wt sp yi = true := by
  rw [nx_parks (by omega)] at h
  have ht := try_bd h.1
  refine ⟨?_, h.1⟩
  rcases Int.lt_or_eq_of_le h.2 with hlt | heq
  · have := hb (tryI lg th po wt sp yi).toNat (by omega)
    rw [show (((tryI lg th po wt sp yi).toNat : Nat) : Int) = tryI lg th po wt sp yi by omega, ne_eq, nx_parks ht.1] at this
    exact absurd ⟨h.1, Int.le_refl _⟩ this
  · exact heq
theorem until_none {lg th po wt sp yi : Int} (hb : ∀ m : Nat, m < 20 → nxI lg th po wt sp yi m ≠ 2) : tryI lg th po wt sp yi = 0 ∧ parksB lg th po wt sp yi = false := by
  have : parksB lg th po wt sp yi = false := by
    cases h : parksB lg th po wt sp yi
    · rfl
    · have ht := try_bd h
      have := hb (tryI lg th po wt sp yi).toNat (by omega)
      rw [show (((tryI lg th po wt sp yi).toNat : Nat) : Int) = tryI lg th po wt sp yi by omega, ne_eq, nx_parks ht.1] at this
      exact absurd ⟨h, Int.le_refl _⟩ this
  exact ⟨try_no this, this⟩

set_option maxHeartbeats 1000000 in
theorem rwuntil_any (lg th po wt sp yi : Int) (si : Bool) (w : World) : Calls Try.prog 10 #[.agg #[.int .i64 lg, .int .i64 th, .int .i64 po, .int .i64 wt, .int .i64 sp, .int .i64 yi, .bool si]] w fun e w' => e = .returned (.tuple #[.int .i64 (tryI lg th po wt sp yi), .bool (parksB lg th po wt sp yi)]) ∧ Kept w w' := by
  go_enter Try.func10, Try.ntmps10
  go_wp2
  have hcs0 : CellsAt (w.alloc (.cells #[.int .i64 lg, .int .i64 th, .int .i64 po, .int .i64 wt, .int .i64 sp, .int .i64 yi, .bool si] 23)) [(w.heap.size, 0, .int .i64 lg), (w.heap.size, 1, .int .i64 th), (w.heap.size, 2, .int .i64 po), (w.heap.size, 3, .int .i64 wt), (w.heap.size, 4, .int .i64 sp), (w.heap.size, 5, .int .i64 yi), (w.heap.size, 6, .bool si)] := by (simp only [CellsAt]; (repeat' (first | exact trivial | (refine And.intro ?_ ?_))); all_goals (first | (focus ((try simp only [World.size_setCell, World.size_alloc]); omega)) | (repeat (first | rfl | assumption | (refine (World.cell?_alloc_past _ _ _ ?_).trans ?_; focus ((try simp only [World.size_setCell, World.size_alloc]); omega)) | (refine (World.cell?_alloc_at _ _ _ _ ?_).trans ?_; focus ((try simp only [World.size_setCell, World.size_alloc]); done)) | (refine (World.cell?_setCell_other _ _ _ _ ?_).trans ?_; focus (simp; done)) | (refine (World.cell?_setCell_other _ _ _ _ ?_).trans ?_; focus (simp; omega)) | (refine World.cell?_setCell_same' _ _ _ ?_; focus (simp; done))))))
  have HC := Lib.hid hcs0
  clear hcs0
  go_loopw [4] (fun i wr => ∃ j : Nat, j ≤ 20 ∧ i = .int .i64 j ∧ Hid (∀ m : Nat, m < j → nxI lg th po wt sp yi m ≠ 2) ∧ CellsAt wr [(w.heap.size, 0, .int .i64 lg), (w.heap.size, 1, .int .i64 th), (w.heap.size, 2, .int .i64 po), (w.heap.size, 3, .int .i64 wt), (w.heap.size, 4, .int .i64 sp), (w.heap.size, 5, .int .i64 yi), (w.heap.size, 6, .bool si)] ∧ Below w.heap.size w wr) (fun i _ => 20 - (intOf i).toNat)
  case atStart => exact ⟨0, by omega, rfl, Lib.hid (fun m hm => absurd hm (by omega)), HC.out, by repeat' (first | (with_reducible exact Below.refl _ _) | (with_reducible assumption) | (with_reducible refine kept_alloc ?_ _) | (with_reducible refine kept_drewN ?_ _) | (with_reducible refine Below.drew ?_) | (with_reducible refine Below.setCell ?_ (by first | omega | (simp; omega) | (simp; done)) _) | (refine kept_trans ?_ (by with_reducible assumption)))⟩
  case round =>
    obtain ⟨j, hj, rfl, hno, hcs, hB⟩ := hrel
    by_cases hlt : j < 20
    · have i2 : (j : Int) < 20 := by omega
      have hh : Hid (nxI lg th po wt sp yi j = 2 → tryI lg th po wt sp yi = j ∧ parksB lg th po wt sp yi = true) := fun h => until_at h hno.out
      have hn : Hid (nxI lg th po wt sp yi j ≠ 2 → ∀ m : Nat, m < j + 1 → nxI lg th po wt sp yi m ≠ 2) := fun h m hm => by
        by_cases hmj : m = j
        · subst hmj; exact h
        · exact hno.out m (by omega)
      have hq0 := hcs.1.2; have hq1 := hcs.2.1.2; have hq2 := hcs.2.2.1.2; have hq3 := hcs.2.2.2.1.2; have hq4 := hcs.2.2.2.2.1.2; have hq5 := hcs.2.2.2.2.2.1.2; have hq6 := hcs.2.2.2.2.2.2.1.2; have hz0 := hcs.1.1
      have HCW := Lib.hid hcs
      clear hcs
      have hcall := rwnext_any lg th po wt sp yi si j wr
      generalize nxI lg th po wt sp yi j = x at *
      cases hx : (x == 2)
      · have g := Lib.hid (hn.out (by simpa using hx))
        clear hn hh
        go_wp2_with (go_at_call 13; refine hcall.mono ?_; rintro e w2 ⟨rfl, hg2⟩)
        exact ⟨⟨j + 1, by omega, by go_num, g, cells_keep hg2 HCW.out, by repeat' (first | (with_reducible exact Below.refl _ _) | (with_reducible assumption) | (with_reducible refine kept_alloc ?_ _) | (with_reducible refine kept_drewN ?_ _) | (with_reducible refine Below.drew ?_) | (with_reducible refine Below.setCell ?_ (by first | omega | (simp; omega) | (simp; done)) _) | (refine kept_trans ?_ (by with_reducible assumption)))⟩, by simp [intOf]; omega⟩
      · have g := Lib.hid (hh.out (by simpa using hx))
        clear hn hh
        go_wp2_with (go_at_call 13; refine hcall.mono ?_; rintro e w2 ⟨rfl, hg2⟩)
        go_ret2
        exact ⟨by rw [g.out.1, g.out.2]; rfl, by repeat' (first | (with_reducible exact Below.refl _ _) | (with_reducible assumption) | (with_reducible refine kept_alloc ?_ _) | (with_reducible refine kept_drewN ?_ _) | (with_reducible refine Below.drew ?_) | (with_reducible refine Below.setCell ?_ (by first | omega | (simp; omega) | (simp; done)) _) | (refine kept_trans ?_ (by with_reducible assumption)))⟩
    · have : j = 20 := by omega
      subst this
      have g := Lib.hid (until_none hno.out)
      clear hno hcs
      go_wp2
      go_ret2
      exact ⟨by rw [g.out.1, g.out.2]; rfl, by repeat' (first | (with_reducible exact Below.refl _ _) | (with_reducible assumption) | (with_reducible refine kept_alloc ?_ _) | (with_reducible refine kept_drewN ?_ _) | (with_reducible refine Below.drew ?_) | (with_reducible refine Below.setCell ?_ (by first | omega | (simp; omega) | (simp; done)) _) | (refine kept_trans ?_ (by with_reducible assumption)))⟩

theorem Ow.mono {α : Type} {W : World} {base base' k : Nat} {e : TypeId} {enc : α → List Value} {xs : List α} {v : Value} (h : Ow W base e k enc xs v) (hb : base' ≤ base) : Ow W base' e k enc xs v := by
  obtain ⟨h0, h1 | ⟨g, cap, cur, hv, hbg, hr⟩⟩ := h
  · exact ⟨h0, .inl h1⟩
  · exact ⟨h0, .inr ⟨g, cap, cur, hv, Nat.le_trans hb hbg, hr⟩⟩
theorem sli_one (w : World) (x : Int) {g : Nat} (hg : w.heap.size = g) : Sl (w.alloc (.cells #[.int .i64 x] 3)) 1 intC [x] (.slice (some ⟨g, 0, none⟩) 1 1) :=
  Ow.sl intEnc (Ow.made (base := 0) (e := 3) (W := w) intEnc [x] #[.int .i64 x] rfl (Nat.zero_le _) (by show 1 ≤ maxLen; decide) hg rfl)
theorem ow_nil {W : World} {base : Nat} : Ow W base 3 1 intC [] (.slice none 0 0) := ⟨by simp, .inl ⟨rfl, rfl⟩⟩

set_option maxHeartbeats 1000000 in
theorem rwalk_any (lg th po wt sp yi : Int) (si : Bool) (many : Int) (w : World) (hm : In64 many) : Calls Try.prog 16 #[.agg #[.int .i64 lg, .int .i64 th, .int .i64 po, .int .i64 wt, .int .i64 sp, .int .i64 yi, .bool si], .int .i64 many] w (RetI (walkL lg th po wt sp yi (manyN many)) w) := by
  have hkn := many_le many
  obtain ⟨k, hkm⟩ : ∃ k, manyN many = k := ⟨_, rfl⟩
  rw [hkm] at hkn ⊢
  have HN := Lib.hid hkm
  clear hkm
  go_enter Try.func16, Try.ntmps16
  go_wp2
  obtain ⟨V, hV⟩ : ∃ V, w.alloc (.cells #[.int .i64 lg, .int .i64 th, .int .i64 po, .int .i64 wt, .int .i64 sp, .int .i64 yi, .bool si] 23) = V := ⟨_, rfl⟩
  have hcs0 : CellsAt V [(w.heap.size, 0, .int .i64 lg), (w.heap.size, 1, .int .i64 th), (w.heap.size, 2, .int .i64 po), (w.heap.size, 3, .int .i64 wt), (w.heap.size, 4, .int .i64 sp), (w.heap.size, 5, .int .i64 yi), (w.heap.size, 6, .bool si)] := by rw [← hV]; (simp only [CellsAt]; (repeat' (first | exact trivial | (refine And.intro ?_ ?_))); all_goals (first | (focus ((try simp only [World.size_setCell, World.size_alloc]); omega)) | (repeat (first | rfl | assumption | (refine (World.cell?_alloc_past _ _ _ ?_).trans ?_; focus ((try simp only [World.size_setCell, World.size_alloc]); omega)) | (refine (World.cell?_alloc_at _ _ _ _ ?_).trans ?_; focus ((try simp only [World.size_setCell, World.size_alloc]); done)) | (refine (World.cell?_setCell_other _ _ _ _ ?_).trans ?_; focus (simp; done)) | (refine (World.cell?_setCell_other _ _ _ _ ?_).trans ?_; focus (simp; omega)) | (refine World.cell?_setCell_same' _ _ _ ?_; focus (simp; done))))))
  have HC := Lib.hid hcs0
  have hB0 : Below w.heap.size w V := by rw [← hV]; repeat' (first | (with_reducible exact Below.refl _ _) | (with_reducible assumption) | (with_reducible refine kept_alloc ?_ _) | (with_reducible refine kept_drewN ?_ _) | (with_reducible refine Below.drew ?_) | (with_reducible refine Below.setCell ?_ (by first | omega | (simp; omega) | (simp; done)) _) | (refine kept_trans ?_ (by with_reducible assumption)))
  have hVz : w.heap.size < V.heap.size := by rw [← hV]; simp
  rw [hV]
  clear hcs0 hV
  go_loopw [5, 6] (fun o i wr => ∃ (j : Nat) (p : Option Addr) (c : Nat), j ≤ k ∧ i = .int .i64 j ∧ o = .slice p j c ∧ Ow wr V.heap.size 3 1 intC (walkL lg th po wt sp yi j) (.slice p j c) ∧ Below V.heap.size V wr) (fun _ i _ => k - (intOf i).toNat)
  case atStart => exact ⟨0, none, 0, by omega, rfl, rfl, ow_nil, Below.refl _ _⟩
  case round =>
    obtain ⟨j, p, c, hj, rfl, rfl, hO, hB⟩ := hrel
    have HO := Lib.hid hO
    clear hO
    by_cases hlt : j < k
    · have hcs := cells_keep hB HC.out
      have hq0 := hcs.1.2; have hq1 := hcs.2.1.2; have hq2 := hcs.2.2.1.2; have hq3 := hcs.2.2.2.1.2; have hq4 := hcs.2.2.2.2.1.2; have hq5 := hcs.2.2.2.2.2.1.2; have hq6 := hcs.2.2.2.2.2.2.1.2; have hz0 := hcs.1.1
      have HCW := Lib.hid hcs
      clear hcs
      have hi : (j : Int) < many ∧ (j : Int) < 1000 := by
        have := HN.out
        unfold manyN at this
        omega
      have i1 := hi.1
      have i2 := hi.2
      have hs := walk_succ lg th po wt sp yi j
      have HS := Lib.hid hs
      clear hs hi
      have hcall := rwnext_any lg th po wt sp yi si j wr
      generalize nxI lg th po wt sp yi j = x at *
      have hlw := walk_len lg th po wt sp yi j
      go_wp2_with fail
      refine hcall.mono ?_
      rintro e w2 ⟨rfl, hg2⟩
      have hB2 : Below V.heap.size V w2 := kept_trans hB hg2
      have hB3 : Below V.heap.size V (w2.alloc (.cells #[.int .i64 x] 3)) := hB2.alloc hB2.size _
      have HO2 := Lib.hid ((HO.out.kept hg2).kept ((Below.refl _ _).alloc (Nat.le_refl _) (.cells #[.int .i64 x] 3)))
      have hln : (walkL lg th po wt sp yi j ++ [x]).length = j + 1 := by rw [List.length_append, hlw]; rfl
      have HL := Lib.hid hln
      clear hln
      go_wp2_with (at_builtin; refine wpList_app' (wb := V) rfl _ _ 24 rfl (.int .i64 0) 8 Try.underlying24 int_info rfl (by decide) intEnc rfl rfl (xs := walkL lg th po wt sp yi j) (ys := [x]) HO2.out (sli_one w2 x rfl) hB3 (by simp only [List.length_nil, List.length_cons]; unfold maxLen; omega) (by simp only [List.length_nil, List.length_cons]; omega) ?_; intro v1 w3 h1 hb1; obtain ⟨p3, k3, hv3, -⟩ := (Ow.sl intEnc h1).is; rw [HL.out] at hv3; subst hv3)
      exact ⟨⟨j + 1, p3, k3, by omega, by go_num, rfl, by rw [HS.out]; exact h1, hb1⟩, by simp [intOf]; omega⟩
    · have hjk : j = k := by omega
      subst hjk
      have hor : (j : Int) = many ∧ ¬ (1000 : Int) ≤ j ∨ ((j : Int) = 0 ∧ many ≤ 0) ∨ ((j : Int) = 1000 ∧ 1000 ≤ many) := by
        have := HN.out
        unfold manyN at this
        omega
      have hret : Hid (∀ W, Ow W V.heap.size 3 1 intC (walkL lg th po wt sp yi j) (.slice p j c) → Below V.heap.size V W → RetI (walkL lg th po wt sp yi j) w (.returned (.slice p j c)) W) := fun W h1 h2 =>
        ⟨p, c, by rw [walk_len], by rw [walk_len]; exact Ow.mono h1 (by omega), hB0.trans (h2.mono hB0.size)⟩
      by_cases hjm : (j : Int) < many
      · have hj1 : ¬ (j : Int) < 1000 := by omega
        clear hor
        go_wp2
        go_ret
        exact hret.out _ HO.out hB
      · clear hor
        go_wp2
        go_ret
        exact hret.out _ HO.out hB
end Go.Proofs.Ytmdpgaihbkjjgaa
