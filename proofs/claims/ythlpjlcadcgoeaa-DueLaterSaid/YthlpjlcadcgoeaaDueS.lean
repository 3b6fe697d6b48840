/- Layer 4: contracts of Check, First, Put, Drop. -/
import Derived.Test.YthlpjlcadcgoeaaDueR
namespace Go.Proofs.Ythlpjlcadcgoeaa
set_option linter.unusedVariables false
set_option linter.unusedSimpArgs false
open Go.ChangeShapes Go.WideShapes Go.ChangeAt Go.RowKit

def fstB (l : List Du) : Bool := okB l && !l.isEmpty
def fstD (l : List Du) : Du := if fstB l = true then gt l 0 else ⟨0, 0⟩
/-- What a call that hands back dues and an error leaves. -/
def RetDE (w : World) (r : List Du) (c : Int) (e : Ending) (w' : World) : Prop :=
  ∃ (p : Option Addr) (k : Nat), e = .returned (.tuple #[.slice p r.length k, .int .i64 c]) ∧ Sl w' 2 Du.cells r (.slice p r.length k) ∧ Kept w w'

def StandYes (w : World) (l : List Du) (e : Ending) (w' : World) : Prop := ∃ mb, e = .returned (.tuple #[.map (some mb), .bool true]) ∧ MapD w' mb l ∧ w.heap.size ≤ mb ∧ Kept w w'
theorem stand_yes (l : List Du) (p : Option Addr) (k : Nat) (w : World) (hl : Sl w 2 Du.cells l (.slice p l.length k)) (hm : l.length ≤ 1000) (ho : okB l = true) : Calls Try.prog 16 #[.slice p l.length k] w (StandYes w l) := by
  refine (stand_any l p k w hl hm).mono ?_
  rintro e w1 ⟨hB1, ⟨-, mb, rfl, hM, hmb⟩ | ⟨h1, -⟩⟩
  · exact ⟨mb, rfl, hM, hmb, hB1⟩
  · rw [ho] at h1; cases h1
theorem stand_no (l : List Du) (p : Option Addr) (k : Nat) (w : World) (hl : Sl w 2 Du.cells l (.slice p l.length k)) (hm : l.length ≤ 1000) (ho : okB l = false) : Calls Try.prog 16 #[.slice p l.length k] w fun e w' => e = .returned (.tuple #[.map none, .bool false]) ∧ Kept w w' := by
  refine (stand_any l p k w hl hm).mono ?_
  rintro e w1 ⟨hB1, ⟨h1, -⟩ | ⟨-, rfl⟩⟩
  · rw [ho] at h1; cases h1
  · exact ⟨rfl, hB1⟩
theorem dcheck_any (l : List Du) (p : Option Addr) (k : Nat) (w : World) (hl : Sl w 2 Du.cells l (.slice p l.length k)) (hm : l.length ≤ 800) :
    Calls Try.prog 9 #[.slice p l.length k] w fun e w' => e = .returned (.bool (okB l)) ∧ Kept w w' := by
  have H := Lib.hid hl
  go_enter Try.func9, Try.ntmps9
  go_wp2_with fail
  refine (stand_any l p k w H.out (by omega)).mono ?_
  rintro e w1 ⟨hB, ⟨h1, mb, rfl, hM, -⟩ | ⟨h1, rfl⟩⟩
  all_goals
    have h2 := Lib.hid h1
    clear h1
    go_wp2
    go_ret
    exact ⟨by rw [h2.out]; rfl, hB⟩

set_option maxHeartbeats 1000000 in
theorem dfirst_any (l : List Du) (p : Option Addr) (k : Nat) (w : World) (hl : Sl w 2 Du.cells l (.slice p l.length k)) (hm : l.length ≤ 800) :
    Calls Try.prog 15 #[.slice p l.length k] w fun e w' => e = .returned (.tuple #[.agg #[.int .i64 (fstD l).tm, .int .i64 (fstD l).id], .bool (fstB l)]) ∧ Kept w w' := by
  have H := Lib.hid hl
  cases l with
  | nil =>
    have e1 : fstB [] = false := rfl
    have e2 : (fstD []).tm = 0 ∧ (fstD []).id = 0 := ⟨rfl, rfl⟩
    rw [e1, e2.1, e2.2]
    go_enter Try.func15, Try.ntmps15
    go_wp2
    refine bodyPost_ret (v := .tuple #[.agg #[.int .i64 0, .int .i64 0], .bool false]) (by simp [results, Try.results15, go_sem]) rfl ⟨rfl, by repeat' (first | (with_reducible exact Below.refl _ _) | (with_reducible assumption) | (with_reducible refine kept_alloc ?_ _) | (with_reducible refine kept_drewN ?_ _) | (with_reducible refine Below.drew ?_) | (with_reducible refine Below.setCell ?_ (by first | omega | (simp; omega) | (simp; done)) _) | (refine kept_trans ?_ (by with_reducible assumption)))⟩
  | cons d r =>
    obtain ⟨N, hN⟩ : ∃ N, (d :: r).length = N := ⟨_, rfl⟩
    have hN0 : 0 < N := by rw [← hN]; simp
    obtain ⟨p', k', e1, hk1, hk2, _, hne⟩ := hl.is
    cases e1
    obtain ⟨b, o, rfl, hb, -⟩ := hne (by simp)
    obtain ⟨c1, c2⟩ := sl_gt hl (j := 0) (by simp)
    rw [hN] at hl hm hk1 ⊢
    have HN := Lib.hid hN
    have b1 : (0 : Int) < (N : Int) := by omega
    have b2 : ((N : Int) == 0) = false := by simp; omega
    rw [Nat.zero_mul, Nat.add_zero] at c1 c2
    obtain ⟨B, hok⟩ : ∃ B, okB (d :: r) = B := ⟨_, rfl⟩
    have hck : ∀ W : World, Kept w W → Calls Try.prog 9 #[.slice (some ⟨b, o, none⟩) N k] W fun e w' => e = .returned (.bool B) ∧ Kept W w' := fun W hW => by
      have h := dcheck_any (d :: r) (some ⟨b, o, none⟩) k W (H.out.kept hW) (by rw [HN.out]; exact hm)
      rw [HN.out, hok] at h
      exact h
    have HC := Lib.hid hck
    have e1 : fstB (d :: r) = B := by simp [fstB, hok]
    have e2 : fstD (d :: r) = if B = true then gt (d :: r) 0 else ⟨0, 0⟩ := by simp [fstD, e1]
    rw [e1, e2]
    clear hN hl hne hck hok e1 e2
    generalize gt (d :: r) 0 = z at *
    cases B
    all_goals
      go_enter Try.func15, Try.ntmps15
      go_wp2_with fail
      refine (HC.out _ (by repeat' (first | (with_reducible exact Below.refl _ _) | (with_reducible assumption) | (with_reducible refine kept_alloc ?_ _) | (with_reducible refine kept_drewN ?_ _) | (with_reducible refine Below.drew ?_) | (with_reducible refine Below.setCell ?_ (by first | omega | (simp; omega) | (simp; done)) _) | (refine kept_trans ?_ (by with_reducible assumption))))).mono ?_
      rintro e w1 ⟨rfl, hg⟩
      have hcs : CellsAt w1 [(w.heap.size, 0, .int .i64 0), (w.heap.size, 1, .int .i64 0)] := cells_keep hg (by (simp only [CellsAt]; (repeat' (first | exact trivial | (refine And.intro ?_ ?_))); all_goals (first | (focus ((try simp only [World.size_setCell, World.size_alloc]); omega)) | (repeat (first | rfl | assumption | (refine (World.cell?_alloc_past _ _ _ ?_).trans ?_; focus ((try simp only [World.size_setCell, World.size_alloc]); omega)) | (refine (World.cell?_alloc_at _ _ _ _ ?_).trans ?_; focus ((try simp only [World.size_setCell, World.size_alloc]); done)) | (refine (World.cell?_setCell_other _ _ _ _ ?_).trans ?_; focus (simp; done)) | (refine (World.cell?_setCell_other _ _ _ _ ?_).trans ?_; focus (simp; omega)) | (refine World.cell?_setCell_same' _ _ _ ?_; focus (simp; done)))))))
      have hq0 := hcs.1.2; have hq1 := hcs.2.1.2; have hz0 := hcs.1.1
      have hB1 : Below w.heap.size w w1 := by repeat' (first | (with_reducible exact Below.refl _ _) | (with_reducible assumption) | (with_reducible refine kept_alloc ?_ _) | (with_reducible refine kept_drewN ?_ _) | (with_reducible refine Below.drew ?_) | (with_reducible refine Below.setCell ?_ (by first | omega | (simp; omega) | (simp; done)) _) | (refine kept_trans ?_ (by with_reducible assumption)))
      have q5 := ((bcell hB1).1 _ o hb).trans c1
      have q6 := ((bcell hB1).1 _ (o + 1) hb).trans c2
      have f1 : ∀ j, w1.frozen? ⟨w.heap.size, j, none⟩ = false := fun j => ((bcell hg).2 _ j (by simp)).trans (World.frozen?_alloc_at _ _ _ _ rfl)
      go_wp2
    · refine bodyPost_ret (v := .tuple #[.agg #[.int .i64 0, .int .i64 0], .bool false]) (by simp [results, Try.results15, go_sem, *]) rfl ⟨rfl, by repeat' (first | (with_reducible exact Below.refl _ _) | (with_reducible assumption) | (with_reducible refine kept_alloc ?_ _) | (with_reducible refine kept_drewN ?_ _) | (with_reducible refine Below.drew ?_) | (with_reducible refine Below.setCell ?_ (by first | omega | (simp; omega) | (simp; done)) _) | (refine kept_trans ?_ (by with_reducible assumption)))⟩
    · refine bodyPost_ret (v := .tuple #[.agg #[.int .i64 z.tm, .int .i64 z.id], .bool true]) (by simp [results, Try.results15, go_sem, *]) rfl ⟨rfl, by repeat' (first | (with_reducible exact Below.refl _ _) | (with_reducible assumption) | (with_reducible refine kept_alloc ?_ _) | (with_reducible refine kept_drewN ?_ _) | (with_reducible refine Below.drew ?_) | (with_reducible refine Below.setCell ?_ (by first | omega | (simp; omega) | (simp; done)) _) | (refine kept_trans ?_ (by with_reducible assumption)))⟩

set_option maxHeartbeats 2000000 in
theorem dput_any (l : List Du) (d : Du) (p : Option Addr) (k : Nat) (w : World) (hl : Sl w 2 Du.cells l (.slice p l.length k)) (hm : l.length ≤ 700) :
    Calls Try.prog 10 #[.slice p l.length k, .agg #[.int .i64 d.tm, .int .i64 d.id]] w (RetDE w (putL l d) (codeI l d)) := by
  have H := Lib.hid hl
  cases hok : okB l
  · have e1 : codeI l d = 40 := by simp [codeI, hok]
    have e2 : putL l d = l := putL_no (by rw [e1]; decide)
    rw [e1, e2]
    have HO := Lib.hid hok
    clear hl hok e1 e2
    go_enter Try.func10, Try.ntmps10
    go_wp2_with fail
    refine (stand_any l p k _ (H.out.kept (by repeat' (first | (with_reducible exact Below.refl _ _) | (with_reducible assumption) | (with_reducible refine kept_alloc ?_ _) | (with_reducible refine kept_drewN ?_ _) | (with_reducible refine Below.drew ?_) | (with_reducible refine Below.setCell ?_ (by first | omega | (simp; omega) | (simp; done)) _) | (refine kept_trans ?_ (by with_reducible assumption))))) (by omega)).mono ?_
    rintro e w1 ⟨hB1, ⟨h1, -⟩ | ⟨-, rfl⟩⟩
    · rw [HO.out] at h1; cases h1
    have hcs : CellsAt w1 [(w.heap.size, 0, .int .i64 d.tm), (w.heap.size, 1, .int .i64 d.id)] := cells_keep hB1 (by (simp only [CellsAt]; (repeat' (first | exact trivial | (refine And.intro ?_ ?_))); all_goals (first | (focus ((try simp only [World.size_setCell, World.size_alloc]); omega)) | (repeat (first | rfl | assumption | (refine (World.cell?_alloc_past _ _ _ ?_).trans ?_; focus ((try simp only [World.size_setCell, World.size_alloc]); omega)) | (refine (World.cell?_alloc_at _ _ _ _ ?_).trans ?_; focus ((try simp only [World.size_setCell, World.size_alloc]); done)) | (refine (World.cell?_setCell_other _ _ _ _ ?_).trans ?_; focus (simp; done)) | (refine (World.cell?_setCell_other _ _ _ _ ?_).trans ?_; focus (simp; omega)) | (refine World.cell?_setCell_same' _ _ _ ?_; focus (simp; done))))))); have hq0 := hcs.1.2; have hq1 := hcs.2.1.2; have hz0 := hcs.1.1
    have hx := nil_look w1 d.id
    go_wp2_with fail
    refine (kept_any l p k _ (H.out.kept (by repeat' (first | (with_reducible exact Below.refl _ _) | (with_reducible assumption) | (with_reducible refine kept_alloc ?_ _) | (with_reducible refine kept_drewN ?_ _) | (with_reducible refine Below.drew ?_) | (with_reducible refine Below.setCell ?_ (by first | omega | (simp; omega) | (simp; done)) _) | (refine kept_trans ?_ (by with_reducible assumption))))) (by omega)).mono ?_
    rintro e w2 ⟨p2, k2, rfl, hS2, hB2⟩
    go_wp2
    go_ret2
    exact ⟨p2, k2, rfl, hS2, by repeat' (first | (with_reducible exact Below.refl _ _) | (with_reducible assumption) | (with_reducible refine kept_alloc ?_ _) | (with_reducible refine kept_drewN ?_ _) | (with_reducible refine Below.drew ?_) | (with_reducible refine Below.setCell ?_ (by first | omega | (simp; omega) | (simp; done)) _) | (refine kept_trans ?_ (by with_reducible assumption)))⟩
  · obtain ⟨I, hI⟩ : ∃ I, inTB d = I := ⟨_, rfl⟩
    obtain ⟨F, hF⟩ : ∃ F, ofTB d = F := ⟨_, rfl⟩
    obtain ⟨T, hT⟩ : ∃ T, hasB l d.id = T := ⟨_, rfl⟩
    have HO := Lib.hid hok
    have HT := Lib.hid hT
    cases I
    · have e1 : codeI l d = 50 := by simp [codeI, hok, hI]
      have e2 : putL l d = l := putL_no (by rw [e1]; decide)
      rw [e1, e2]
      clear hl hok e1 e2 hF hT
      go_enter Try.func10, Try.ntmps10; go_wp2_with fail; refine (stand_yes l p k _ (H.out.kept (by repeat' (first | (with_reducible exact Below.refl _ _) | (with_reducible assumption) | (with_reducible refine kept_alloc ?_ _) | (with_reducible refine kept_drewN ?_ _) | (with_reducible refine Below.drew ?_) | (with_reducible refine Below.setCell ?_ (by first | omega | (simp; omega) | (simp; done)) _) | (refine kept_trans ?_ (by with_reducible assumption))))) (by omega) HO.out).mono ?_; rintro e w1 ⟨mb, rfl, hM, hmb, hB1⟩; have hcs : CellsAt w1 [(w.heap.size, 0, .int .i64 d.tm), (w.heap.size, 1, .int .i64 d.id)] := cells_keep hB1 (by (simp only [CellsAt]; (repeat' (first | exact trivial | (refine And.intro ?_ ?_))); all_goals (first | (focus ((try simp only [World.size_setCell, World.size_alloc]); omega)) | (repeat (first | rfl | assumption | (refine (World.cell?_alloc_past _ _ _ ?_).trans ?_; focus ((try simp only [World.size_setCell, World.size_alloc]); omega)) | (refine (World.cell?_alloc_at _ _ _ _ ?_).trans ?_; focus ((try simp only [World.size_setCell, World.size_alloc]); done)) | (refine (World.cell?_setCell_other _ _ _ _ ?_).trans ?_; focus (simp; done)) | (refine (World.cell?_setCell_other _ _ _ _ ?_).trans ?_; focus (simp; omega)) | (refine World.cell?_setCell_same' _ _ _ ?_; focus (simp; done))))))); have hq0 := hcs.1.2; have hq1 := hcs.2.1.2; have hz0 := hcs.1.1; obtain ⟨x, hx⟩ := map_look hM d.id; rw [HT.out] at hx; have HM := Lib.hid hM; clear hM
      go_wp2_with fail; refine (inTime_any d _).mono ?_; rintro e w2 ⟨rfl, hB2⟩; have hcs : CellsAt w2 [(w.heap.size, 0, .int .i64 d.tm), (w.heap.size, 1, .int .i64 d.id)] := cells_keep hB2 (by (simp only [CellsAt]; (repeat' (first | exact trivial | (refine And.intro ?_ ?_))); all_goals (first | (focus ((try simp only [World.size_setCell, World.size_alloc]); omega)) | (repeat (first | rfl | assumption | (refine (World.cell?_alloc_past _ _ _ ?_).trans ?_; focus ((try simp only [World.size_setCell, World.size_alloc]); omega)) | (refine (World.cell?_alloc_at _ _ _ _ ?_).trans ?_; focus ((try simp only [World.size_setCell, World.size_alloc]); done)) | (refine (World.cell?_setCell_other _ _ _ _ ?_).trans ?_; focus (simp; done)) | (refine (World.cell?_setCell_other _ _ _ _ ?_).trans ?_; focus (simp; omega)) | (refine World.cell?_setCell_same' _ _ _ ?_; focus (simp; done))))))); have hq0 := hcs.1.2; have hq1 := hcs.2.1.2; have hz0 := hcs.1.1
      rw [hI]
      go_wp2_with fail; refine (kept_any l p k _ (H.out.kept (by repeat' (first | (with_reducible exact Below.refl _ _) | (with_reducible assumption) | (with_reducible refine kept_alloc ?_ _) | (with_reducible refine kept_drewN ?_ _) | (with_reducible refine Below.drew ?_) | (with_reducible refine Below.setCell ?_ (by first | omega | (simp; omega) | (simp; done)) _) | (refine kept_trans ?_ (by with_reducible assumption))))) (by omega)).mono ?_; rintro e wz ⟨p2, k2, rfl, hS2, hB2⟩; go_wp2; go_ret2; exact ⟨p2, k2, rfl, hS2, by repeat' (first | (with_reducible exact Below.refl _ _) | (with_reducible assumption) | (with_reducible refine kept_alloc ?_ _) | (with_reducible refine kept_drewN ?_ _) | (with_reducible refine Below.drew ?_) | (with_reducible refine Below.setCell ?_ (by first | omega | (simp; omega) | (simp; done)) _) | (refine kept_trans ?_ (by with_reducible assumption)))⟩
    · cases F
      · have e1 : codeI l d = 40 := by simp [codeI, hok, hI, hF]
        have e2 : putL l d = l := putL_no (by rw [e1]; decide)
        rw [e1, e2]
        clear hl hok e1 e2 hT
        go_enter Try.func10, Try.ntmps10; go_wp2_with fail; refine (stand_yes l p k _ (H.out.kept (by repeat' (first | (with_reducible exact Below.refl _ _) | (with_reducible assumption) | (with_reducible refine kept_alloc ?_ _) | (with_reducible refine kept_drewN ?_ _) | (with_reducible refine Below.drew ?_) | (with_reducible refine Below.setCell ?_ (by first | omega | (simp; omega) | (simp; done)) _) | (refine kept_trans ?_ (by with_reducible assumption))))) (by omega) HO.out).mono ?_; rintro e w1 ⟨mb, rfl, hM, hmb, hB1⟩; have hcs : CellsAt w1 [(w.heap.size, 0, .int .i64 d.tm), (w.heap.size, 1, .int .i64 d.id)] := cells_keep hB1 (by (simp only [CellsAt]; (repeat' (first | exact trivial | (refine And.intro ?_ ?_))); all_goals (first | (focus ((try simp only [World.size_setCell, World.size_alloc]); omega)) | (repeat (first | rfl | assumption | (refine (World.cell?_alloc_past _ _ _ ?_).trans ?_; focus ((try simp only [World.size_setCell, World.size_alloc]); omega)) | (refine (World.cell?_alloc_at _ _ _ _ ?_).trans ?_; focus ((try simp only [World.size_setCell, World.size_alloc]); done)) | (refine (World.cell?_setCell_other _ _ _ _ ?_).trans ?_; focus (simp; done)) | (refine (World.cell?_setCell_other _ _ _ _ ?_).trans ?_; focus (simp; omega)) | (refine World.cell?_setCell_same' _ _ _ ?_; focus (simp; done))))))); have hq0 := hcs.1.2; have hq1 := hcs.2.1.2; have hz0 := hcs.1.1; obtain ⟨x, hx⟩ := map_look hM d.id; rw [HT.out] at hx; have HM := Lib.hid hM; clear hM
        go_wp2_with fail; refine (inTime_any d _).mono ?_; rintro e w2 ⟨rfl, hB2⟩; have hcs : CellsAt w2 [(w.heap.size, 0, .int .i64 d.tm), (w.heap.size, 1, .int .i64 d.id)] := cells_keep hB2 (by (simp only [CellsAt]; (repeat' (first | exact trivial | (refine And.intro ?_ ?_))); all_goals (first | (focus ((try simp only [World.size_setCell, World.size_alloc]); omega)) | (repeat (first | rfl | assumption | (refine (World.cell?_alloc_past _ _ _ ?_).trans ?_; focus ((try simp only [World.size_setCell, World.size_alloc]); omega)) | (refine (World.cell?_alloc_at _ _ _ _ ?_).trans ?_; focus ((try simp only [World.size_setCell, World.size_alloc]); done)) | (refine (World.cell?_setCell_other _ _ _ _ ?_).trans ?_; focus (simp; done)) | (refine (World.cell?_setCell_other _ _ _ _ ?_).trans ?_; focus (simp; omega)) | (refine World.cell?_setCell_same' _ _ _ ?_; focus (simp; done))))))); have hq0 := hcs.1.2; have hq1 := hcs.2.1.2; have hz0 := hcs.1.1
        rw [hI]
        clear hI
        go_wp2_with fail; refine (ofThread_any d _).mono ?_; rintro e w3 ⟨rfl, hB3⟩; have hcs : CellsAt w3 [(w.heap.size, 0, .int .i64 d.tm), (w.heap.size, 1, .int .i64 d.id)] := cells_keep hB3 (by (simp only [CellsAt]; (repeat' (first | exact trivial | (refine And.intro ?_ ?_))); all_goals (first | (focus ((try simp only [World.size_setCell, World.size_alloc]); omega)) | (repeat (first | rfl | assumption | (refine (World.cell?_alloc_past _ _ _ ?_).trans ?_; focus ((try simp only [World.size_setCell, World.size_alloc]); omega)) | (refine (World.cell?_alloc_at _ _ _ _ ?_).trans ?_; focus ((try simp only [World.size_setCell, World.size_alloc]); done)) | (refine (World.cell?_setCell_other _ _ _ _ ?_).trans ?_; focus (simp; done)) | (refine (World.cell?_setCell_other _ _ _ _ ?_).trans ?_; focus (simp; omega)) | (refine World.cell?_setCell_same' _ _ _ ?_; focus (simp; done))))))); have hq0 := hcs.1.2; have hq1 := hcs.2.1.2; have hz0 := hcs.1.1
        rw [hF]
        go_wp2_with fail; refine (kept_any l p k _ (H.out.kept (by repeat' (first | (with_reducible exact Below.refl _ _) | (with_reducible assumption) | (with_reducible refine kept_alloc ?_ _) | (with_reducible refine kept_drewN ?_ _) | (with_reducible refine Below.drew ?_) | (with_reducible refine Below.setCell ?_ (by first | omega | (simp; omega) | (simp; done)) _) | (refine kept_trans ?_ (by with_reducible assumption))))) (by omega)).mono ?_; rintro e wz ⟨p2, k2, rfl, hS2, hB2⟩; go_wp2; go_ret2; exact ⟨p2, k2, rfl, hS2, by repeat' (first | (with_reducible exact Below.refl _ _) | (with_reducible assumption) | (with_reducible refine kept_alloc ?_ _) | (with_reducible refine kept_drewN ?_ _) | (with_reducible refine Below.drew ?_) | (with_reducible refine Below.setCell ?_ (by first | omega | (simp; omega) | (simp; done)) _) | (refine kept_trans ?_ (by with_reducible assumption)))⟩
      · cases T
        · have e1 : codeI l d = 0 := by simp [codeI, hok, hI, hF, hT]
          have e2 : putL l d = srt (l ++ [d]) := putL_ok e1
          have hap : Apart (l ++ [d]) := List.pairwise_append.2 ⟨(ok_iff.1 hok).2.2, by simp, fun a hA b hb => by rw [List.mem_singleton] at hb; subst hb; exact nhas_iff.1 hT a hA⟩
          rw [e1, e2]
          have HAP := Lib.hid hap
          clear hl hok e1 e2 hT hap
          go_enter Try.func10, Try.ntmps10; go_wp2_with fail; refine (stand_yes l p k _ (H.out.kept (by repeat' (first | (with_reducible exact Below.refl _ _) | (with_reducible assumption) | (with_reducible refine kept_alloc ?_ _) | (with_reducible refine kept_drewN ?_ _) | (with_reducible refine Below.drew ?_) | (with_reducible refine Below.setCell ?_ (by first | omega | (simp; omega) | (simp; done)) _) | (refine kept_trans ?_ (by with_reducible assumption))))) (by omega) HO.out).mono ?_; rintro e w1 ⟨mb, rfl, hM, hmb, hB1⟩; have hcs : CellsAt w1 [(w.heap.size, 0, .int .i64 d.tm), (w.heap.size, 1, .int .i64 d.id)] := cells_keep hB1 (by (simp only [CellsAt]; (repeat' (first | exact trivial | (refine And.intro ?_ ?_))); all_goals (first | (focus ((try simp only [World.size_setCell, World.size_alloc]); omega)) | (repeat (first | rfl | assumption | (refine (World.cell?_alloc_past _ _ _ ?_).trans ?_; focus ((try simp only [World.size_setCell, World.size_alloc]); omega)) | (refine (World.cell?_alloc_at _ _ _ _ ?_).trans ?_; focus ((try simp only [World.size_setCell, World.size_alloc]); done)) | (refine (World.cell?_setCell_other _ _ _ _ ?_).trans ?_; focus (simp; done)) | (refine (World.cell?_setCell_other _ _ _ _ ?_).trans ?_; focus (simp; omega)) | (refine World.cell?_setCell_same' _ _ _ ?_; focus (simp; done))))))); have hq0 := hcs.1.2; have hq1 := hcs.2.1.2; have hz0 := hcs.1.1; obtain ⟨x, hx⟩ := map_look hM d.id; rw [HT.out] at hx; have HM := Lib.hid hM; clear hM
          go_wp2_with fail; refine (inTime_any d _).mono ?_; rintro e w2 ⟨rfl, hB2⟩; have hcs : CellsAt w2 [(w.heap.size, 0, .int .i64 d.tm), (w.heap.size, 1, .int .i64 d.id)] := cells_keep hB2 (by (simp only [CellsAt]; (repeat' (first | exact trivial | (refine And.intro ?_ ?_))); all_goals (first | (focus ((try simp only [World.size_setCell, World.size_alloc]); omega)) | (repeat (first | rfl | assumption | (refine (World.cell?_alloc_past _ _ _ ?_).trans ?_; focus ((try simp only [World.size_setCell, World.size_alloc]); omega)) | (refine (World.cell?_alloc_at _ _ _ _ ?_).trans ?_; focus ((try simp only [World.size_setCell, World.size_alloc]); done)) | (refine (World.cell?_setCell_other _ _ _ _ ?_).trans ?_; focus (simp; done)) | (refine (World.cell?_setCell_other _ _ _ _ ?_).trans ?_; focus (simp; omega)) | (refine World.cell?_setCell_same' _ _ _ ?_; focus (simp; done))))))); have hq0 := hcs.1.2; have hq1 := hcs.2.1.2; have hz0 := hcs.1.1
          rw [hI]
          clear hI
          go_wp2_with fail; refine (ofThread_any d _).mono ?_; rintro e w3 ⟨rfl, hB3⟩; have hcs : CellsAt w3 [(w.heap.size, 0, .int .i64 d.tm), (w.heap.size, 1, .int .i64 d.id)] := cells_keep hB3 (by (simp only [CellsAt]; (repeat' (first | exact trivial | (refine And.intro ?_ ?_))); all_goals (first | (focus ((try simp only [World.size_setCell, World.size_alloc]); omega)) | (repeat (first | rfl | assumption | (refine (World.cell?_alloc_past _ _ _ ?_).trans ?_; focus ((try simp only [World.size_setCell, World.size_alloc]); omega)) | (refine (World.cell?_alloc_at _ _ _ _ ?_).trans ?_; focus ((try simp only [World.size_setCell, World.size_alloc]); done)) | (refine (World.cell?_setCell_other _ _ _ _ ?_).trans ?_; focus (simp; done)) | (refine (World.cell?_setCell_other _ _ _ _ ?_).trans ?_; focus (simp; omega)) | (refine World.cell?_setCell_same' _ _ _ ?_; focus (simp; done))))))); have hq0 := hcs.1.2; have hq1 := hcs.2.1.2; have hz0 := hcs.1.1
          rw [hF]
          clear hF
          have hB13 : Kept w1 w3 := by repeat' (first | (with_reducible exact Below.refl _ _) | (with_reducible assumption) | (with_reducible refine kept_alloc ?_ _) | (with_reducible refine kept_drewN ?_ _) | (with_reducible refine Below.drew ?_) | (with_reducible refine Below.setCell ?_ (by first | omega | (simp; omega) | (simp; done)) _) | (refine kept_trans ?_ (by with_reducible assumption)))
          obtain ⟨w4, hu, hM4, hO4, hs4⟩ := map_put (HM.out.kept hB13) d HT.out
          have HE := Lib.hid (And.intro hM4 (And.intro hO4 hs4))
          clear hM4 hO4 hs4
          go_wp2_with fail
          refine (ordered_any (l ++ [d]) mb w4 HE.out.1 HAP.out (by simp; omega)).mono ?_
          rintro e w5 ⟨p5, k5, rfl, hS5, hB5⟩
          go_wp2
          go_ret2
          have hBw : Kept w w3 := by repeat' (first | (with_reducible exact Below.refl _ _) | (with_reducible assumption) | (with_reducible refine kept_alloc ?_ _) | (with_reducible refine kept_drewN ?_ _) | (with_reducible refine Below.drew ?_) | (with_reducible refine Below.setCell ?_ (by first | omega | (simp; omega) | (simp; done)) _) | (refine kept_trans ?_ (by with_reducible assumption)))
          have hmb' : w.heap.size ≤ mb := by simp at hmb; omega
          exact ⟨p5, k5, rfl, hS5, kept_trans (Out.below hBw HE.out.2.1 (by simp; exact hmb') hBw.size) hB5⟩
        · have e1 : codeI l d = 60 := by simp [codeI, hok, hI, hF, hT]
          have e2 : putL l d = l := putL_no (by rw [e1]; decide)
          rw [e1, e2]
          clear hl hok e1 e2 hT
          go_enter Try.func10, Try.ntmps10; go_wp2_with fail; refine (stand_yes l p k _ (H.out.kept (by repeat' (first | (with_reducible exact Below.refl _ _) | (with_reducible assumption) | (with_reducible refine kept_alloc ?_ _) | (with_reducible refine kept_drewN ?_ _) | (with_reducible refine Below.drew ?_) | (with_reducible refine Below.setCell ?_ (by first | omega | (simp; omega) | (simp; done)) _) | (refine kept_trans ?_ (by with_reducible assumption))))) (by omega) HO.out).mono ?_; rintro e w1 ⟨mb, rfl, hM, hmb, hB1⟩; have hcs : CellsAt w1 [(w.heap.size, 0, .int .i64 d.tm), (w.heap.size, 1, .int .i64 d.id)] := cells_keep hB1 (by (simp only [CellsAt]; (repeat' (first | exact trivial | (refine And.intro ?_ ?_))); all_goals (first | (focus ((try simp only [World.size_setCell, World.size_alloc]); omega)) | (repeat (first | rfl | assumption | (refine (World.cell?_alloc_past _ _ _ ?_).trans ?_; focus ((try simp only [World.size_setCell, World.size_alloc]); omega)) | (refine (World.cell?_alloc_at _ _ _ _ ?_).trans ?_; focus ((try simp only [World.size_setCell, World.size_alloc]); done)) | (refine (World.cell?_setCell_other _ _ _ _ ?_).trans ?_; focus (simp; done)) | (refine (World.cell?_setCell_other _ _ _ _ ?_).trans ?_; focus (simp; omega)) | (refine World.cell?_setCell_same' _ _ _ ?_; focus (simp; done))))))); have hq0 := hcs.1.2; have hq1 := hcs.2.1.2; have hz0 := hcs.1.1; obtain ⟨x, hx⟩ := map_look hM d.id; rw [HT.out] at hx; have HM := Lib.hid hM; clear hM
          go_wp2_with fail; refine (inTime_any d _).mono ?_; rintro e w2 ⟨rfl, hB2⟩; have hcs : CellsAt w2 [(w.heap.size, 0, .int .i64 d.tm), (w.heap.size, 1, .int .i64 d.id)] := cells_keep hB2 (by (simp only [CellsAt]; (repeat' (first | exact trivial | (refine And.intro ?_ ?_))); all_goals (first | (focus ((try simp only [World.size_setCell, World.size_alloc]); omega)) | (repeat (first | rfl | assumption | (refine (World.cell?_alloc_past _ _ _ ?_).trans ?_; focus ((try simp only [World.size_setCell, World.size_alloc]); omega)) | (refine (World.cell?_alloc_at _ _ _ _ ?_).trans ?_; focus ((try simp only [World.size_setCell, World.size_alloc]); done)) | (refine (World.cell?_setCell_other _ _ _ _ ?_).trans ?_; focus (simp; done)) | (refine (World.cell?_setCell_other _ _ _ _ ?_).trans ?_; focus (simp; omega)) | (refine World.cell?_setCell_same' _ _ _ ?_; focus (simp; done))))))); have hq0 := hcs.1.2; have hq1 := hcs.2.1.2; have hz0 := hcs.1.1
          rw [hI]
          clear hI
          go_wp2_with fail; refine (ofThread_any d _).mono ?_; rintro e w3 ⟨rfl, hB3⟩; have hcs : CellsAt w3 [(w.heap.size, 0, .int .i64 d.tm), (w.heap.size, 1, .int .i64 d.id)] := cells_keep hB3 (by (simp only [CellsAt]; (repeat' (first | exact trivial | (refine And.intro ?_ ?_))); all_goals (first | (focus ((try simp only [World.size_setCell, World.size_alloc]); omega)) | (repeat (first | rfl | assumption | (refine (World.cell?_alloc_past _ _ _ ?_).trans ?_; focus ((try simp only [World.size_setCell, World.size_alloc]); omega)) | (refine (World.cell?_alloc_at _ _ _ _ ?_).trans ?_; focus ((try simp only [World.size_setCell, World.size_alloc]); done)) | (refine (World.cell?_setCell_other _ _ _ _ ?_).trans ?_; focus (simp; done)) | (refine (World.cell?_setCell_other _ _ _ _ ?_).trans ?_; focus (simp; omega)) | (refine World.cell?_setCell_same' _ _ _ ?_; focus (simp; done))))))); have hq0 := hcs.1.2; have hq1 := hcs.2.1.2; have hz0 := hcs.1.1
          rw [hF]
          clear hF
          go_wp2_with fail; refine (kept_any l p k _ (H.out.kept (by repeat' (first | (with_reducible exact Below.refl _ _) | (with_reducible assumption) | (with_reducible refine kept_alloc ?_ _) | (with_reducible refine kept_drewN ?_ _) | (with_reducible refine Below.drew ?_) | (with_reducible refine Below.setCell ?_ (by first | omega | (simp; omega) | (simp; done)) _) | (refine kept_trans ?_ (by with_reducible assumption))))) (by omega)).mono ?_; rintro e wz ⟨p2, k2, rfl, hS2, hB2⟩; go_wp2; go_ret2; exact ⟨p2, k2, rfl, hS2, by repeat' (first | (with_reducible exact Below.refl _ _) | (with_reducible assumption) | (with_reducible refine kept_alloc ?_ _) | (with_reducible refine kept_drewN ?_ _) | (with_reducible refine Below.drew ?_) | (with_reducible refine Below.setCell ?_ (by first | omega | (simp; omega) | (simp; done)) _) | (refine kept_trans ?_ (by with_reducible assumption)))⟩

set_option maxHeartbeats 2000000 in
theorem ddrop_any (l : List Du) (i : Int) (p : Option Addr) (k : Nat) (w : World) (hl : Sl w 2 Du.cells l (.slice p l.length k)) (hm : l.length ≤ 700) :
    Calls Try.prog 12 #[.slice p l.length k, .int .i64 i] w (RetDE w (dropL l i) (dropI l i)) := by
  have H := Lib.hid hl
  obtain ⟨T, hT⟩ : ∃ T, hasB l i = T := ⟨_, rfl⟩
  have HT := Lib.hid hT
  cases hok : okB l
  · have e1 : dropI l i = 40 := by simp [dropI, hok]
    have e2 : dropL l i = l := by simp [dropL, e1]
    rw [e1, e2]
    have HO := Lib.hid hok
    clear hl hok e1 e2 hT
    go_enter Try.func12, Try.ntmps12
    go_wp2_with fail
    refine (stand_no l p k _ (H.out.kept (by repeat' (first | (with_reducible exact Below.refl _ _) | (with_reducible assumption) | (with_reducible refine kept_alloc ?_ _) | (with_reducible refine kept_drewN ?_ _) | (with_reducible refine Below.drew ?_) | (with_reducible refine Below.setCell ?_ (by first | omega | (simp; omega) | (simp; done)) _) | (refine kept_trans ?_ (by with_reducible assumption))))) (by omega) HO.out).mono ?_
    rintro e w1 ⟨rfl, hB1⟩
    have hx := nil_look w1 i
    go_wp2_with fail; refine (kept_any l p k _ (H.out.kept (by repeat' (first | (with_reducible exact Below.refl _ _) | (with_reducible assumption) | (with_reducible refine kept_alloc ?_ _) | (with_reducible refine kept_drewN ?_ _) | (with_reducible refine Below.drew ?_) | (with_reducible refine Below.setCell ?_ (by first | omega | (simp; omega) | (simp; done)) _) | (refine kept_trans ?_ (by with_reducible assumption))))) (by omega)).mono ?_; rintro e wz ⟨p2, k2, rfl, hS2, hB2⟩; go_wp2; go_ret2; exact ⟨p2, k2, rfl, hS2, by repeat' (first | (with_reducible exact Below.refl _ _) | (with_reducible assumption) | (with_reducible refine kept_alloc ?_ _) | (with_reducible refine kept_drewN ?_ _) | (with_reducible refine Below.drew ?_) | (with_reducible refine Below.setCell ?_ (by first | omega | (simp; omega) | (simp; done)) _) | (refine kept_trans ?_ (by with_reducible assumption)))⟩
  · cases T
    · have e1 : dropI l i = 40 := by simp [dropI, hT]
      have e2 : dropL l i = l := by simp [dropL, e1]
      rw [e1, e2]
      have HO := Lib.hid hok
      clear hl hok e1 e2 hT
      go_enter Try.func12, Try.ntmps12
      go_wp2_with fail
      refine (stand_yes l p k _ (H.out.kept (by repeat' (first | (with_reducible exact Below.refl _ _) | (with_reducible assumption) | (with_reducible refine kept_alloc ?_ _) | (with_reducible refine kept_drewN ?_ _) | (with_reducible refine Below.drew ?_) | (with_reducible refine Below.setCell ?_ (by first | omega | (simp; omega) | (simp; done)) _) | (refine kept_trans ?_ (by with_reducible assumption))))) (by omega) HO.out).mono ?_
      rintro e w1 ⟨mb, rfl, hM, hmb, hB1⟩
      obtain ⟨x, hx⟩ := map_look hM i
      rw [HT.out] at hx
      clear hM
      go_wp2_with fail; refine (kept_any l p k _ (H.out.kept (by repeat' (first | (with_reducible exact Below.refl _ _) | (with_reducible assumption) | (with_reducible refine kept_alloc ?_ _) | (with_reducible refine kept_drewN ?_ _) | (with_reducible refine Below.drew ?_) | (with_reducible refine Below.setCell ?_ (by first | omega | (simp; omega) | (simp; done)) _) | (refine kept_trans ?_ (by with_reducible assumption))))) (by omega)).mono ?_; rintro e wz ⟨p2, k2, rfl, hS2, hB2⟩; go_wp2; go_ret2; exact ⟨p2, k2, rfl, hS2, by repeat' (first | (with_reducible exact Below.refl _ _) | (with_reducible assumption) | (with_reducible refine kept_alloc ?_ _) | (with_reducible refine kept_drewN ?_ _) | (with_reducible refine Below.drew ?_) | (with_reducible refine Below.setCell ?_ (by first | omega | (simp; omega) | (simp; done)) _) | (refine kept_trans ?_ (by with_reducible assumption)))⟩
    · have e1 : dropI l i = 0 := by simp [dropI, hT, hok]
      have e2 : dropL l i = without l i := by simp [dropL, e1]
      have hap := (ok_iff.1 hok).2.2
      have hw : srt (without l i) = without l i := srt_id ((ok_iff.1 hok).2.1.filter _) (hap.filter _)
      rw [e1, e2, ← hw]
      have HO := Lib.hid hok
      have HAP := Lib.hid hap
      have hlw : (without l i).length ≤ 700 := Nat.le_trans (List.length_filter_le _ _) hm
      clear hl hok e1 e2 hT hw hap
      go_enter Try.func12, Try.ntmps12
      go_wp2_with fail
      refine (stand_yes l p k _ (H.out.kept (by repeat' (first | (with_reducible exact Below.refl _ _) | (with_reducible assumption) | (with_reducible refine kept_alloc ?_ _) | (with_reducible refine kept_drewN ?_ _) | (with_reducible refine Below.drew ?_) | (with_reducible refine Below.setCell ?_ (by first | omega | (simp; omega) | (simp; done)) _) | (refine kept_trans ?_ (by with_reducible assumption))))) (by omega) HO.out).mono ?_
      rintro e w1 ⟨mb, rfl, hM, hmb, hB1⟩
      obtain ⟨x, hx⟩ := map_look hM i
      rw [HT.out] at hx
      have hMx := hM.kept (w' := w1.alloc (.cells #[.int .i64 x.tm, .int .i64 x.id] 24)) (by repeat' (first | (with_reducible exact Below.refl _ _) | (with_reducible assumption) | (with_reducible refine kept_alloc ?_ _) | (with_reducible refine kept_drewN ?_ _) | (with_reducible refine Below.drew ?_) | (with_reducible refine Below.setCell ?_ (by first | omega | (simp; omega) | (simp; done)) _) | (refine kept_trans ?_ (by with_reducible assumption))))
      obtain ⟨w4, hu, hM4, hO4, hs4⟩ := map_drop hMx i HAP.out 0
      have HE := Lib.hid (And.intro hM4 (And.intro hO4 hs4))
      clear hM4 hO4 hs4 hMx hM
      go_wp2_with fail
      refine (ordered_any (without l i) mb w4 HE.out.1 (HAP.out.filter _) (by omega)).mono ?_
      rintro e w5 ⟨p5, k5, rfl, hS5, hB5⟩
      go_wp2
      go_ret2
      have hBw : Kept w (w1.alloc (.cells #[.int .i64 x.tm, .int .i64 x.id] 24)) := by repeat' (first | (with_reducible exact Below.refl _ _) | (with_reducible assumption) | (with_reducible refine kept_alloc ?_ _) | (with_reducible refine kept_drewN ?_ _) | (with_reducible refine Below.drew ?_) | (with_reducible refine Below.setCell ?_ (by first | omega | (simp; omega) | (simp; done)) _) | (refine kept_trans ?_ (by with_reducible assumption)))
      exact ⟨p5, k5, rfl, hS5, kept_trans (Out.below hBw HE.out.2.1 (by simp; exact hmb) hBw.size) hB5⟩
end Go.Proofs.Ythlpjlcadcgoeaa
