/- Layer 6: Check, Prepare, a copy of an event, how many are enough (a closure). -/
import Derived.Test.YtlgldniepcjfoaaLineJ
import Derived.Test.YtlgldniepcjfoaaEventF
namespace Go.Proofs.Ytlgldniepcjfoaa
set_option linter.unusedVariables false
set_option linter.unusedSimpArgs false
open Go.ChangeShapes Go.WideShapes Go.ChangeAt Go.RowKit

set_option maxHeartbeats 1000000 in
theorem echeck_any (ep : Int) (l : List Int) (p : Option Addr) (k : Nat) (w : World) (hl : Sl w 1 intC l (.slice p l.length k)) :
    Calls Try.prog 8 #[.agg #[.int .i64 ep, .slice p l.length k]] w fun e w' => e = .returned (.bool (okE ep l)) ∧ Kept w w' := by
  have H := Lib.hid hl
  clear hl
  unfold okE
  cases b1 : decide (0 ≤ ep)
  · go_enter Try.func8, Try.ntmps8
    go_wp2
    go_ret
    exact ⟨ret_bool (by simp), by repeat' (first | (with_reducible exact Below.refl _ _) | (with_reducible assumption) | (with_reducible refine kept_alloc ?_ _) | (with_reducible refine kept_drewN ?_ _) | (with_reducible refine Below.drew ?_) | (with_reducible refine Below.setCell ?_ (by first | omega | (simp; omega) | (simp; done)) _) | (refine kept_trans ?_ (by with_reducible assumption)))⟩
  · cases b2 : decide (ep ≤ 1099511627776)
    · go_enter Try.func8, Try.ntmps8
      go_wp2
      go_ret
      exact ⟨ret_bool (by simp), by repeat' (first | (with_reducible exact Below.refl _ _) | (with_reducible assumption) | (with_reducible refine kept_alloc ?_ _) | (with_reducible refine kept_drewN ?_ _) | (with_reducible refine Below.drew ?_) | (with_reducible refine Below.setCell ?_ (by first | omega | (simp; omega) | (simp; done)) _) | (refine kept_trans ?_ (by with_reducible assumption)))⟩
    · go_enter Try.func8, Try.ntmps8
      go_wp2_with fail
      refine (lcheck_any l p k _ (H.out.kept (by repeat' (first | (with_reducible exact Below.refl _ _) | (with_reducible assumption) | (with_reducible refine kept_alloc ?_ _) | (with_reducible refine kept_drewN ?_ _) | (with_reducible refine Below.drew ?_) | (with_reducible refine Below.setCell ?_ (by first | omega | (simp; omega) | (simp; done)) _) | (refine kept_trans ?_ (by with_reducible assumption)))))).mono ?_
      rintro e w1 ⟨rfl, hg1⟩
      go_wp2
      go_ret
      exact ⟨ret_bool (by simp), by repeat' (first | (with_reducible exact Below.refl _ _) | (with_reducible assumption) | (with_reducible refine kept_alloc ?_ _) | (with_reducible refine kept_drewN ?_ _) | (with_reducible refine Below.drew ?_) | (with_reducible refine Below.setCell ?_ (by first | omega | (simp; omega) | (simp; done)) _) | (refine kept_trans ?_ (by with_reducible assumption)))⟩
theorem echeck_val {ep : Int} {l : List Int} {b : Bool} (hb : okE ep l = b) (p : Option Addr) (k : Nat) (w : World) (hl : Sl w 1 intC l (.slice p l.length k)) :
    Calls Try.prog 8 #[.agg #[.int .i64 ep, .slice p l.length k]] w fun e w' => e = .returned (.bool b) ∧ Kept w w' := hb ▸ echeck_any ep l p k w hl

theorem eprep_any (ep : Int) (l : List Int) (p : Option Addr) (k : Nat) (w : World) (hl : Sl w 1 intC l (.slice p l.length k)) :
    Calls Try.prog 9 #[.agg #[.int .i64 ep, .slice p l.length k]] w fun e w' => e = .returned (.int .i64 (prE ep l)) ∧ Kept w w' := by
  have H := Lib.hid hl
  clear hl
  unfold prE
  cases hok : okE ep l
  all_goals
    have HO := Lib.hid hok
    clear hok
    go_enter Try.func9, Try.ntmps9
    go_wp2_with fail
    refine (echeck_val HO.out p k _ (H.out.kept (by repeat' (first | (with_reducible exact Below.refl _ _) | (with_reducible assumption) | (with_reducible refine kept_alloc ?_ _) | (with_reducible refine kept_drewN ?_ _) | (with_reducible refine Below.drew ?_) | (with_reducible refine Below.setCell ?_ (by first | omega | (simp; omega) | (simp; done)) _) | (refine kept_trans ?_ (by with_reducible assumption)))))).mono ?_
    rintro e w1 ⟨rfl, hg1⟩
    have hcs : CellsAt w1 [(w.heap.size, 0, .int .i64 ep), (w.heap.size, 1, .slice p l.length k)] := cells_keep hg1 (by (simp only [CellsAt]; (repeat' (first | exact trivial | (refine And.intro ?_ ?_))); all_goals (first | (focus ((try simp only [World.size_setCell, World.size_alloc]); omega)) | (repeat (first | rfl | assumption | (refine (World.cell?_alloc_past _ _ _ ?_).trans ?_; focus ((try simp only [World.size_setCell, World.size_alloc]); omega)) | (refine (World.cell?_alloc_at _ _ _ _ ?_).trans ?_; focus ((try simp only [World.size_setCell, World.size_alloc]); done)) | (refine (World.cell?_setCell_other _ _ _ _ ?_).trans ?_; focus (simp; done)) | (refine (World.cell?_setCell_other _ _ _ _ ?_).trans ?_; focus (simp; omega)) | (refine World.cell?_setCell_same' _ _ _ ?_; focus (simp; done)))))))
    have hq0 := hcs.1.2; have hq1 := hcs.2.1.2; have hz0 := hcs.1.1
    go_wp2
    go_ret
    exact ⟨rfl, by repeat' (first | (with_reducible exact Below.refl _ _) | (with_reducible assumption) | (with_reducible refine kept_alloc ?_ _) | (with_reducible refine kept_drewN ?_ _) | (with_reducible refine Below.drew ?_) | (with_reducible refine Below.setCell ?_ (by first | omega | (simp; omega) | (simp; done)) _) | (refine kept_trans ?_ (by with_reducible assumption)))⟩
theorem eprep_val {ep c : Int} {l : List Int} (hc : prE ep l = c) (p : Option Addr) (k : Nat) (w : World) (hl : Sl w 1 intC l (.slice p l.length k)) :
    Calls Try.prog 9 #[.agg #[.int .i64 ep, .slice p l.length k]] w fun e w' => e = .returned (.int .i64 c) ∧ Kept w w' := hc ▸ eprep_any ep l p k w hl

/-- What a call that hands back an event alone leaves: its line is of the call's own. -/
def RetEO (w : World) (ep : Int) (r : List Int) (e : Ending) (w' : World) : Prop :=
  ∃ (p : Option Addr) (k : Nat), e = .returned (.agg #[.int .i64 ep, .slice p r.length k]) ∧ Ow w' w.heap.size 3 1 intC r (.slice p r.length k) ∧ Kept w w'
set_option maxHeartbeats 2000000 in
theorem ekept_any (ep : Int) (l : List Int) (p : Option Addr) (k : Nat) (w : World) (hl : Sl w 1 intC l (.slice p l.length k)) (hm : l.length ≤ 999999) :
    Calls Try.prog 18 #[.agg #[.int .i64 ep, .slice p l.length k]] w (RetEO w ep l) := by
  have H := Lib.hid hl
  clear hl
  go_enter Try.func18, Try.ntmps18
  go_wp2
  obtain ⟨V, hV⟩ : ∃ V, (w.alloc (.cells #[.int .i64 ep, .slice p l.length k] 24)).alloc (.cells #[.int .i64 0, .slice none 0 0] 24) = V := ⟨_, rfl⟩
  have hcs : CellsAt V [(w.heap.size, 0, .int .i64 ep), (w.heap.size, 1, .slice p l.length k), (w.heap.size + 1, 0, .int .i64 0), (w.heap.size + 1, 1, .slice none 0 0)] := by rw [← hV]; (simp only [CellsAt]; (repeat' (first | exact trivial | (refine And.intro ?_ ?_))); all_goals (first | (focus ((try simp only [World.size_setCell, World.size_alloc]); omega)) | (repeat (first | rfl | assumption | (refine (World.cell?_alloc_past _ _ _ ?_).trans ?_; focus ((try simp only [World.size_setCell, World.size_alloc]); omega)) | (refine (World.cell?_alloc_at _ _ _ _ ?_).trans ?_; focus ((try simp only [World.size_setCell, World.size_alloc]); done)) | (refine (World.cell?_setCell_other _ _ _ _ ?_).trans ?_; focus (simp; done)) | (refine (World.cell?_setCell_other _ _ _ _ ?_).trans ?_; focus (simp; omega)) | (refine World.cell?_setCell_same' _ _ _ ?_; focus (simp; done))))))
  have hB : Below w.heap.size w V := by rw [← hV]; repeat' (first | (with_reducible exact Below.refl _ _) | (with_reducible assumption) | (with_reducible refine kept_alloc ?_ _) | (with_reducible refine kept_drewN ?_ _) | (with_reducible refine Below.drew ?_) | (with_reducible refine Below.setCell ?_ (by first | omega | (simp; omega) | (simp; done)) _) | (refine kept_trans ?_ (by with_reducible assumption)))
  have hz : V.heap.size = w.heap.size + 2 := by rw [← hV]; simp
  have hfr : ∀ j, V.frozen? ⟨w.heap.size + 1, j, none⟩ = false := by intro j; rw [← hV]; exact World.frozen?_alloc_at _ _ _ _ (by simp)
  rw [hV]
  clear hV
  have HL := Lib.hid (H.out.kept hB)
  have hsz : w.heap.size < V.heap.size := by omega
  have hsz1 : w.heap.size + 1 < V.heap.size := by omega
  have hq0 := hcs.1.2; have hq1 := hcs.2.1.2; have hq2 := hcs.2.2.1.2; have hq3 := hcs.2.2.2.1.2; have hz0 := hcs.1.1; have hz1 := hcs.2.2.1.1
  have hzz := Lib.hid hz
  clear hz
  go_region_held3 (fun w' => w'.cell? ⟨w.heap.size, 0, none⟩ = some (.int .i64 ep) ∧ w'.cell? ⟨w.heap.size, 1, none⟩ = some (.slice p l.length k))
    (first
      | (go_split_ands; refine ⟨?_, ?_⟩ <;> (refine (hb1.cell (p := ⟨_, _, none⟩) (by show w.heap.size < V.heap.size; omega)).trans ?_; assumption))
      | go_keep)
    ((first
      | (refine step_app (wb := V) (by rfl) _ _ 22 (by rfl) (.int .i64 0) 8 Try.underlying22 int_info (by rfl) (by decide) intEnc (by rfl) (by rfl) (xs := []) (ys := l) owi_nil (HL.out.kept (by repeat' (first | (with_reducible exact Below.refl _ _) | (with_reducible assumption) | (with_reducible refine kept_alloc ?_ _) | (with_reducible refine kept_drewN ?_ _) | (with_reducible refine Below.drew ?_) | (with_reducible refine Below.setCell ?_ (by first | omega | (simp; omega) | (simp; done)) _) | (refine kept_trans ?_ (by with_reducible assumption))))) (by repeat' (first | (with_reducible exact Below.refl _ _) | (with_reducible assumption) | (with_reducible refine kept_alloc ?_ _) | (with_reducible refine kept_drewN ?_ _) | (with_reducible refine Below.drew ?_) | (with_reducible refine Below.setCell ?_ (by first | omega | (simp; omega) | (simp; done)) _) | (refine kept_trans ?_ (by with_reducible assumption)))) (by simp; unfold maxLen; omega) (by simp; omega) ?_; intro v1 w1 how1 hb1 hg1; obtain ⟨p1, k1, rfl, hs1, hs2, hs3, hs4⟩ := (Ow.sl intEnc how1).is; clear hs1 hs2 hs3 hs4; have hcs := cells_keep hb1 hcs; have hq0 := hcs.1.2; have hq1 := hcs.2.1.2; have hq2 := hcs.2.2.1.2; have hq3 := hcs.2.2.2.1.2; have hz0 := hcs.1.1; have hz1 := hcs.2.2.1.1; have hfx : ∀ j, w1.frozen? ⟨w.heap.size + 1, j, none⟩ = false := fun j => (hb1.frozen (p := ⟨w.heap.size + 1, j, none⟩) hsz1).trans (hfr j))))
  all_goals go_wp2
  all_goals
    simp only [List.nil_append] at how1
    refine bodyPost_ret (v := .agg #[.int .i64 ep, .slice p1 l.length k1]) (by simp [results, Try.results18, go_sem, *]) rfl ?_
    have h0 : Below w.heap.size w w1 := hB.trans (hb1.mono hB.size)
    exact ⟨p1, k1, rfl, Ow.mono ((how1.setCell (p := ⟨_, _, none⟩) hsz1 _).setCell (p := ⟨_, _, none⟩) hsz1 _) hB.size, (h0.setCell (p := ⟨_, _, none⟩) (Nat.le_succ _) _).setCell (p := ⟨_, _, none⟩) (Nat.le_succ _) _⟩

/-! ### How many are enough -/
theorem upTo1_tells (m : Int) (b : Nat) (w : World) (hb : b < w.heap.size) (hc : w.cell? ⟨b, 0, none⟩ = some (.int .i64 m)) : Tells 31 #[.pointer (some ⟨b, 0, none⟩)] (fun x => decide (x < m)) w := by
  intro W x hW
  have c1 := (hW.cell (p := ⟨b, 0, none⟩) hb).trans hc
  show Calls Try.prog 31 #[.int .i64 x, .pointer (some ⟨b, 0, none⟩)] W _
  go_enter Try.func31, Try.ntmps31
  go_wp2
  all_goals (go_ret; exact ⟨rfl, by repeat' (first | (with_reducible exact Below.refl _ _) | (with_reducible assumption) | (with_reducible refine kept_alloc ?_ _) | (with_reducible refine kept_drewN ?_ _) | (with_reducible refine Below.drew ?_) | (with_reducible refine Below.setCell ?_ (by first | omega | (simp; omega) | (simp; done)) _) | (refine kept_trans ?_ (by with_reducible assumption)))⟩)
def RetUp (m : Int) (w : World) (e : Ending) (w' : World) : Prop := ∃ lb, e = .returned (.func (.func 31) #[] lb) ∧ Tells 31 lb (fun x => decide (x < m)) w' ∧ Kept w w'
theorem eupto_any (m : Int) (w : World) : Calls Try.prog 21 #[.int .i64 m] w (RetUp m w) := by
  go_enter Try.func21, Try.ntmps21
  go_wp2
  go_ret
  exact ⟨_, rfl, upTo1_tells m w.heap.size _ (by simp) (by simp), by repeat' (first | (with_reducible exact Below.refl _ _) | (with_reducible assumption) | (with_reducible refine kept_alloc ?_ _) | (with_reducible refine kept_drewN ?_ _) | (with_reducible refine Below.drew ?_) | (with_reducible refine Below.setCell ?_ (by first | omega | (simp; omega) | (simp; done)) _) | (refine kept_trans ?_ (by with_reducible assumption)))⟩
end Go.Proofs.Ytlgldniepcjfoaa
