/- Layer 9: the document's places at first, written, released. -/
import Derived.Test.YtbfmnlniabldbaaSlotH
import Derived.Test.YtbfmnlniabldbaaTail
namespace Go.Proofs.Ytbfmnlniabldbaa
set_option linter.unusedVariables false
set_option linter.unusedSimpArgs false
open Go.ChangeShapes Go.WideShapes Go.ChangeAt Go.RowKit


theorem os_some {w : World} {base : Nat} {l : List Slo} {v : Value} (h : Ow w base 36 2 Slo.cells l v) (hne : l ≠ []) : ∃ g cap, v = .slice (some ⟨g, 0, none⟩) l.length cap ∧ base ≤ g := by
  obtain ⟨_, ⟨_, h1⟩ | ⟨g, cap, _, h1, hb, _⟩⟩ := h
  · exact absurd (List.length_eq_zero_iff.1 h1) hne
  · exact ⟨g, cap, h1, hb⟩
theorem set_both {l : List Slo} {i : Nat} (hi : i < l.length) (x y : Int) : (l.set i ⟨x, (gs l i).vl⟩).set i ⟨(gs (l.set i ⟨x, (gs l i).vl⟩) i).st, y⟩ = l.set i ⟨x, y⟩ := by
  rw [gs_set hi, if_pos rfl, List.set_set]
theorem ss_one (w : World) (d : Slo) {g : Nat} (hg : w.heap.size = g) : Sl (w.alloc (.cells #[.int .i64 d.st, .int .i64 d.vl] 36)) 2 Slo.cells [d] (.slice (some ⟨g, 0, none⟩) 1 1) :=
  Ow.sl Slo.enc (Ow.made (base := 0) (e := 36) (W := w) Slo.enc [d] #[.int .i64 d.st, .int .i64 d.vl] rfl (Nat.zero_le _) (by show 1 ≤ maxLen; decide) hg rfl)
theorem ss_two (w : World) (c d : Slo) {g : Nat} (hg : w.heap.size = g) : Sl (w.alloc (.cells #[.int .i64 c.st, .int .i64 c.vl, .int .i64 d.st, .int .i64 d.vl] 36)) 2 Slo.cells [c, d] (.slice (some ⟨g, 0, none⟩) 2 2) :=
  Ow.sl Slo.enc (Ow.made (base := 0) (e := 36) (W := w) Slo.enc [c, d] #[.int .i64 c.st, .int .i64 c.vl, .int .i64 d.st, .int .i64 d.vl] rfl (Nat.zero_le _) (by show 2 ≤ maxLen; decide) hg rfl)

set_option maxHeartbeats 3000000 in
theorem rwith_any (l : List Slo) (q : Int) (i : Nat) (s : Slo) (p : Option Addr) (k : Nat) (w : World) (hl : Sl w 2 Slo.cells l (.slice p l.length k)) (hm : l.length ≤ 1000) (hq : In64 q) (hpl : placeI q l.length = i) (hi : i < l.length) :
    Calls Try.prog 26 #[.slice p l.length k, .int .i64 q, .agg #[.int .i64 s.st, .int .i64 s.vl]] w (RetN w (l.set i s)) := by
  have H := Lib.hid hl
  have HPL := Lib.hid hpl
  have HI := Lib.hid hi
  have HM := Lib.hid hm
  obtain ⟨st, vl⟩ := s
  have hne : Hid (l ≠ []) := Lib.hid (by intro h; subst h; simp at hi)
  have b1 : (0 : Int) ≤ (i : Int) := by omega
  have b2 : (i : Int) < (l.length : Int) := by omega
  clear hl hpl hi
  unfold RetN
  rw [List.length_set]
  have hV : Below w.heap.size w ((w.alloc (.cells #[.int .i64 st, .int .i64 vl] 36)).alloc (.cells #[] 36)) := by repeat' (first | (with_reducible exact Below.refl _ _) | (with_reducible assumption) | (with_reducible refine kept_alloc ?_ _) | (with_reducible refine kept_drewN ?_ _) | (with_reducible refine Below.drew ?_) | (with_reducible refine Below.setCell ?_ (by first | omega | (simp; omega) | (simp; done)) _) | (refine kept_trans ?_ (by with_reducible assumption)))
  have hE : Hid (Ow ((w.alloc (.cells #[.int .i64 st, .int .i64 vl] 36)).alloc (.cells #[] 36)) w.heap.size 36 2 Slo.cells [] (.slice (some ⟨w.heap.size + 1, 0, none⟩) 0 0)) := Lib.hid
    (Ow.made (W := w.alloc (.cells #[.int .i64 st, .int .i64 vl] 36)) (base := w.heap.size) (e := 36) Slo.enc [] #[] rfl (by simp) (by unfold maxLen; decide) (by simp) rfl)
  have HB := Lib.hid hV
  clear hV
  go_enter Try.func26, Try.ntmps26
  go_wp2_with ((at_builtin; refine wpList_appb (wb := w) rfl _ _ 22 rfl (.agg #[.int .i64 0, .int .i64 0]) 16 Try.underlying22 slo_info rfl (by decide) Slo.enc rfl rfl (xs := []) (ys := l) hE.out (H.out.kept HB.out) HB.out (by simp only [List.length_append, List.length_nil, List.length_cons]; unfold maxLen; omega) (by simp only [List.length_append, List.length_nil, List.length_cons]; omega) ?_); intro v1 w1 ho1 hb1 hgr hbk)
  obtain ⟨g1, k1, rfl, hg1⟩ := os_some (l := l) (by simpa using ho1) hne.out
  rw [List.nil_append] at ho1
  have hz : w1.heap[w.heap.size]? = some (.cells #[.int .i64 st, .int .i64 vl] 36 (0, 0)) := by
    refine (hgr.block w.heap.size (by simp; omega) (by intro e; have e2 : some w.heap.size = some (w.heap.size + 1) := e; simp at e2)).trans ?_
    exact obj_past (by simp) (heap_alloc_new w _)
  have hcs : CellsAt w1 [(w.heap.size, 0, .int .i64 st), (w.heap.size, 1, .int .i64 vl)] := by
    have hs := (Array.getElem?_eq_some_iff.1 hz).1
    refine ⟨⟨hs, ?_⟩, ⟨hs, ?_⟩, trivial⟩ <;> simp [World.cell?, hz]
  have HO := Lib.hid ho1
  have hgx := (Ow.lt ho1 _ rfl).2
  have hq0 := hcs.1.2; have hq1 := hcs.2.1.2; have hz0 := hcs.1.1
  clear ho1 hgr hbk hE HB
  have hob : ObjsAt w1 [(w.heap.size, .cells #[.int .i64 st, .int .i64 vl] 36 (0, 0))] := ⟨hz, trivial⟩
  clear hz
  (refine wp_region_objs_tail (w := w1) 7 [(w.heap.size, .cells #[.int .i64 st, .int .i64 vl] 36 (0, 0))] (by kernel_rfl) (by kernel_rfl) (by repeat' (first | (with_reducible exact Below.refl _ _) | (with_reducible assumption) | (with_reducible refine kept_alloc ?_ _) | (with_reducible refine kept_drewN ?_ _) | (with_reducible refine Below.drew ?_) | (with_reducible refine Below.setCell ?_ (by first | omega | (simp; omega) | (simp; done)) _) | (refine kept_trans ?_ (by with_reducible assumption)))) (by first | exact hob | (simp only [ObjsAt]; (repeat' (first | exact trivial | (refine And.intro ?_ ?_))); all_goals (repeat (first | assumption | (refine obj_at ?_; focus ((try simp only [World.size_setCell, World.size_alloc]); done)) | (refine obj_past ?_ ?_; focus ((try simp only [World.size_setCell, World.size_alloc]); omega)))))) (fun hne => ?_); (have hq0 : ∀ xwd : Wo w1 [(w.heap.size, .cells #[.int .i64 st, .int .i64 vl] 36 (0, 0))], xwd.at.cell? ⟨w.heap.size, 0, none⟩ = some (.int .i64 st) := fun xwd => obj_cell xwd.objs.1 0; have hq1 : ∀ xwd : Wo w1 [(w.heap.size, .cells #[.int .i64 st, .int .i64 vl] 36 (0, 0))], xwd.at.cell? ⟨w.heap.size, 1, none⟩ = some (.int .i64 vl) := fun xwd => obj_cell xwd.objs.1 1); (try simp only [List.take_succ_cons, List.take_zero, List.drop_succ_cons, List.drop_zero]); (repeat (go_big_quiet_step ((first | (go_at_call 28; exact quiet_callo (rplace_val HPL.out (by omega) (by omega) _)))))); (refine wpQuiet_nil ?_); intro wq hwq; obtain ⟨xwd, hxwd⟩ := hwq; clear hq0 hq1; have hgx : Below w1.heap.size w1 wq := (by rw [hxwd]; exact xwd.kept); have hob := (show ObjsAt wq [(w.heap.size, .cells #[.int .i64 st, .int .i64 vl] 36 (0, 0))] by rw [hxwd]; exact xwd.objs); have hq0 : wq.cell? ⟨w.heap.size, 0, none⟩ = some (.int .i64 st) := obj_cell hob.1 0; have hq1 : wq.cell? ⟨w.heap.size, 1, none⟩ = some (.int .i64 vl) := obj_cell hob.1 1; have hf0 := obj_frozen hob.1; have hz0 := obj_lt hob.1; clear hxwd xwd hne)
  have hO2 := Ow.kept HO.out hgx
  obtain ⟨c1, c2, f1, f2⟩ := Ow.slots hO2 HI.out
  have hB2 : Below w.heap.size w wq := kept_trans hb1 hgx
  have HO2 := Lib.hid hO2
  obtain ⟨u1, g3⟩ := cell?_setCell_some (w := wq) (p := ⟨g1, i * 2, none⟩) (x := .int .i64 st) (q := ⟨g1, i * 2 + 1, none⟩) c2
  clear hO2 hb1 hgx hob
  go_wp2
  go_ret
  have e2 : Ow ((wq.setCell ⟨g1, i * 2, none⟩ (.int .i64 st)).setCell ⟨g1, i * 2 + 1, none⟩ (.int .i64 vl)) w.heap.size 36 2 Slo.cells (l.set i ⟨st, vl⟩) (.slice (some ⟨g1, 0, none⟩) l.length k1) := by
    have h := Ow.setVl (Ow.setSt HO2.out i st) i vl
    rwa [set_both HI.out] at h
  exact ⟨_, k1, rfl, e2, (hB2.setCell (p := ⟨g1, _, none⟩) hg1 _).setCell (p := ⟨g1, _, none⟩) hg1 _⟩

/-- What a call of the document's that hands back slots, and an error, leaves. -/
def RetRE (w : World) (r : List Slo) (c : Int) (e : Ending) (w' : World) : Prop :=
  ∃ p k, e = .returned (.tuple #[.slice p r.length k, .int .i64 c]) ∧ Sl w' 2 Slo.cells r (.slice p r.length k) ∧ Kept w w'
set_option maxHeartbeats 1000000 in
theorem rswrite_any (l : List Slo) (q v : Int) (p : Option Addr) (k : Nat) (w : World) (hl : Sl w 2 Slo.cells l (.slice p l.length k)) (hm : l.length ≤ 1000) (hq : In64 q) :
    Calls Try.prog 10 #[.slice p l.length k, .int .i64 q, .int .i64 v] w (RetRE w (wrL l q v) (wrE l q)) := by
  have H := Lib.hid hl
  clear hl
  cases hb : okSl l
  · have HB := Lib.hid hb
    have h1 : liesS l q = false := by simp [liesS, hb]
    have h2 : rdyB l q = false := by simp [rdyB, h1]
    have e2 : wrL l q v = l ∧ wrE l q = 40 := by simp [wrL, wrE, h1, h2]
    rw [e2.1, e2.2]
    clear hb h1 h2 e2
    go_enter Try.func10, Try.ntmps10
    go_wp2_with fail
    refine (rscheck_val HB.out p k _ H.out hm).mono ?_
    rintro e w1 ⟨rfl, hg1⟩
    go_wp2
    go_ret2
    exact ⟨p, k, rfl, H.out.kept hg1, by repeat' (first | (with_reducible exact Below.refl _ _) | (with_reducible assumption) | (with_reducible refine kept_alloc ?_ _) | (with_reducible refine kept_drewN ?_ _) | (with_reducible refine Below.drew ?_) | (with_reducible refine Below.setCell ?_ (by first | omega | (simp; omega) | (simp; done)) _) | (refine kept_trans ?_ (by with_reducible assumption)))⟩
  · have HB := Lib.hid hb
    cases h0 : decide (q < 0)
    · have h1 : liesS l q = true := lies_iff.2 ⟨by simpa using h0, hb⟩
      cases h2 : rdyB l q
      · have H2 := Lib.hid h2
        have e2 : wrL l q v = l ∧ wrE l q = 30 := by simp [wrL, wrE, h1, h2]
        rw [e2.1, e2.2]
        clear hb h1 h2 e2
        go_enter Try.func10, Try.ntmps10
        go_wp2_with fail
        refine (rscheck_val HB.out p k _ H.out hm).mono ?_
        rintro e w1 ⟨rfl, hg1⟩
        go_wp2_with fail
        refine (rsready_val H2.out p k _ (H.out.kept hg1) hm hq).mono ?_
        rintro e w2 ⟨rfl, hg2⟩
        go_wp2
        go_ret2
        exact ⟨p, k, rfl, (H.out.kept hg1).kept hg2, by repeat' (first | (with_reducible exact Below.refl _ _) | (with_reducible assumption) | (with_reducible refine kept_alloc ?_ _) | (with_reducible refine kept_drewN ?_ _) | (with_reducible refine Below.drew ?_) | (with_reducible refine Below.setCell ?_ (by first | omega | (simp; omega) | (simp; done)) _) | (refine kept_trans ?_ (by with_reducible assumption)))⟩
      · have H2 := Lib.hid h2
        obtain ⟨h3, h4⟩ := plc_lt h1
        have H3 := Lib.hid h3
        have H4 := Lib.hid h4
        have e2 : wrL l q v = l.set (plc l q) ⟨q, v⟩ ∧ wrE l q = 0 := by simp [wrL, wrE, h1, h2]
        rw [e2.1, e2.2]
        clear hb h1 h2 h3 h4 e2
        unfold RetRE
        rw [List.length_set]
        generalize plc l q = i at *
        go_enter Try.func10, Try.ntmps10
        go_wp2_with fail
        refine (rscheck_val HB.out p k _ H.out hm).mono ?_
        rintro e w1 ⟨rfl, hg1⟩
        go_wp2_with fail
        refine (rsready_val H2.out p k _ (H.out.kept hg1) hm hq).mono ?_
        rintro e w2 ⟨rfl, hg2⟩
        go_wp2_with fail
        refine (rwith_any l q i ⟨q, v⟩ p k _ ((H.out.kept hg1).kept hg2) hm hq H4.out H3.out).mono ?_
        rintro e w3 ⟨p3, k3, rfl, ho, hb3⟩
        rw [List.length_set] at ho
        rw [List.length_set]
        have HO := Lib.hid ho
        clear ho
        go_wp2
        go_ret2
        exact ⟨p3, k3, rfl, Ow.sl Slo.enc HO.out, by repeat' (first | (with_reducible exact Below.refl _ _) | (with_reducible assumption) | (with_reducible refine kept_alloc ?_ _) | (with_reducible refine kept_drewN ?_ _) | (with_reducible refine Below.drew ?_) | (with_reducible refine Below.setCell ?_ (by first | omega | (simp; omega) | (simp; done)) _) | (refine kept_trans ?_ (by with_reducible assumption)))⟩
    · have h1 : liesS l q = false := by simp [liesS]; simp at h0; omega
      have h2 : rdyB l q = false := by simp [rdyB, h1]
      have e2 : wrL l q v = l ∧ wrE l q = 40 := by simp [wrL, wrE, h1, h2]
      rw [e2.1, e2.2]
      clear hb h1 h2 e2
      go_enter Try.func10, Try.ntmps10
      go_wp2_with fail
      refine (rscheck_val HB.out p k _ H.out hm).mono ?_
      rintro e w1 ⟨rfl, hg1⟩
      go_wp2
      go_ret2
      exact ⟨p, k, rfl, H.out.kept hg1, by repeat' (first | (with_reducible exact Below.refl _ _) | (with_reducible assumption) | (with_reducible refine kept_alloc ?_ _) | (with_reducible refine kept_drewN ?_ _) | (with_reducible refine Below.drew ?_) | (with_reducible refine Below.setCell ?_ (by first | omega | (simp; omega) | (simp; done)) _) | (refine kept_trans ?_ (by with_reducible assumption)))⟩

set_option maxHeartbeats 1000000 in
theorem rsrelease_any (l : List Slo) (q : Int) (p : Option Addr) (k : Nat) (w : World) (hl : Sl w 2 Slo.cells l (.slice p l.length k)) (hm : l.length ≤ 1000) (hq : In64 q) :
    Calls Try.prog 14 #[.slice p l.length k, .int .i64 q] w (RetRE w (rlL l q) (rlE l q)) := by
  have H := Lib.hid hl
  clear hl
  cases h1 : rdyB l q
  · have H1 := Lib.hid h1
    have e1 : rlB l q = false := by simp [rlB, h1]
    have e2 : rlL l q = l ∧ rlE l q = 40 := by simp [rlL, rlE, e1]
    rw [e2.1, e2.2]
    clear h1 e1 e2
    go_enter Try.func14, Try.ntmps14
    go_wp2_with fail
    refine (rsready_val H1.out p k _ H.out hm hq).mono ?_
    rintro e w1 ⟨rfl, hg1⟩
    go_wp2
    go_ret2
    exact ⟨p, k, rfl, H.out.kept hg1, by repeat' (first | (with_reducible exact Below.refl _ _) | (with_reducible assumption) | (with_reducible refine kept_alloc ?_ _) | (with_reducible refine kept_drewN ?_ _) | (with_reducible refine Below.drew ?_) | (with_reducible refine Below.setCell ?_ (by first | omega | (simp; omega) | (simp; done)) _) | (refine kept_trans ?_ (by with_reducible assumption)))⟩
  · have H1 := Lib.hid h1
    cases h5 : decide (1099511627776 < q)
    · obtain ⟨h3, h4⟩ := plc_lt (rdy_lies h1).1
      have H3 := Lib.hid h3
      have H4 := Lib.hid h4
      have hqa : 0 ≤ q := (lies_iff.1 (rdy_lies h1).1).1
      have hqb : q ≤ 1099511627776 := by simpa using h5
      have e1 : rlB l q = true := by simp [rlB, h1, hqb]
      have hw : IntKind.i64.wrap (q + (l.length : Int)) = q + l.length := IntWalk.i64_in _ (by omega)
      have HV : Hid (rdV l q = (gs l (plc l q)).vl ∧ rdE l q = 0) := Lib.hid (by simp [rdV, rdE, h1])
      have e2 : rlL l q = l.set (plc l q) ⟨q + l.length, (gs l (plc l q)).vl⟩ ∧ rlE l q = 0 := by simp [rlL, rlE, e1]
      rw [e2.1, e2.2]
      clear h1 h3 h4 e1 e2
      unfold RetRE
      rw [List.length_set]
      generalize plc l q = i at *
      obtain ⟨z, hz⟩ : ∃ z, (gs l i).vl = z := ⟨_, rfl⟩
      rw [hz] at HV ⊢
      clear hz
      go_enter Try.func14, Try.ntmps14
      go_wp2_with fail
      refine (rsready_val H1.out p k _ H.out hm hq).mono ?_
      rintro e w1 ⟨rfl, hg1⟩
      go_wp2_with fail
      refine (rsread_val HV.out.1 HV.out.2 p k _ (H.out.kept hg1) hm hq).mono ?_
      rintro e w2 ⟨rfl, hg2⟩
      go_wp2_with fail
      refine (rwith_any l q i ⟨q + l.length, z⟩ p k _ ((H.out.kept hg1).kept hg2) hm hq H4.out H3.out).mono ?_
      rintro e w3 ⟨p3, k3, rfl, ho, hb3⟩
      rw [List.length_set] at ho
      rw [List.length_set]
      have HO := Lib.hid ho
      clear ho
      go_wp2
      go_ret2
      exact ⟨p3, k3, rfl, Ow.sl Slo.enc HO.out, by repeat' (first | (with_reducible exact Below.refl _ _) | (with_reducible assumption) | (with_reducible refine kept_alloc ?_ _) | (with_reducible refine kept_drewN ?_ _) | (with_reducible refine Below.drew ?_) | (with_reducible refine Below.setCell ?_ (by first | omega | (simp; omega) | (simp; done)) _) | (refine kept_trans ?_ (by with_reducible assumption)))⟩
    · have hq1 : 1099511627776 < q := by simpa using h5
      have e1 : rlB l q = false := by simp [rlB, h1]; omega
      have e2 : rlL l q = l ∧ rlE l q = 40 := by simp [rlL, rlE, e1]
      rw [e2.1, e2.2]
      clear h1 e1 e2
      go_enter Try.func14, Try.ntmps14
      go_wp2_with fail
      refine (rsready_val H1.out p k _ H.out hm hq).mono ?_
      rintro e w1 ⟨rfl, hg1⟩
      go_wp2
      go_ret2
      exact ⟨p, k, rfl, H.out.kept hg1, by repeat' (first | (with_reducible exact Below.refl _ _) | (with_reducible assumption) | (with_reducible refine kept_alloc ?_ _) | (with_reducible refine kept_drewN ?_ _) | (with_reducible refine Below.drew ?_) | (with_reducible refine Below.setCell ?_ (by first | omega | (simp; omega) | (simp; done)) _) | (refine kept_trans ?_ (by with_reducible assumption)))⟩

/-- So many places at first. -/
def newJ (k : Nat) : List Slo := (List.range k).map fun (i : Nat) => (⟨(i : Int), 0⟩ : Slo)
theorem newJ_len (k : Nat) : (newJ k).length = k := by simp [newJ]
theorem newJ_succ (k : Nat) : newJ (k + 1) = newJ k ++ [⟨k, 0⟩] := by simp [newJ, List.range_succ]
set_option maxHeartbeats 2000000 in
theorem rsnew_any (r : Int) (hr : In64 r) (w : World) : Calls Try.prog 17 #[.int .i64 r] w (RetN w (newL r)) := by
  have ow0 : Hid (Ow w w.heap.size 36 2 Slo.cells (newJ 0) (.slice none 0 0)) := Lib.hid ⟨by simp [newJ], .inl ⟨rfl, rfl⟩⟩
  cases h1 : decide (0 < r)
  · have e : newL r = [] := by unfold newL; rw [if_neg]; rw [ring_iff]; simp at h1; omega
    rw [e]
    clear e
    go_enter Try.func17, Try.ntmps17
    go_wp2
    go_loopw [3, 4] (fun v i wr => v = .slice none 0 0 ∧ i = .int .i64 0 ∧ Below w.heap.size w wr) (fun _ _ _ => 0)
    case atStart => exact ⟨rfl, rfl, Below.refl _ _⟩
    case round =>
      obtain ⟨rfl, rfl, hB⟩ := hrel
      go_wp2
      go_ret
      exact ⟨none, 0, rfl, ⟨by simp, .inl ⟨rfl, rfl⟩⟩, by repeat' (first | (with_reducible exact Below.refl _ _) | (with_reducible assumption) | (with_reducible refine kept_alloc ?_ _) | (with_reducible refine kept_drewN ?_ _) | (with_reducible refine Below.drew ?_) | (with_reducible refine Below.setCell ?_ (by first | omega | (simp; omega) | (simp; done)) _) | (refine kept_trans ?_ (by with_reducible assumption)))⟩
  · cases h2 : decide (r ≤ 64)
    · have e : newL r = [] := by unfold newL; rw [if_neg]; rw [ring_iff]; simp at h2; omega
      rw [e]
      clear e
      go_enter Try.func17, Try.ntmps17
      go_wp2
      go_loopw [3, 4] (fun v i wr => v = .slice none 0 0 ∧ i = .int .i64 0 ∧ Below w.heap.size w wr) (fun _ _ _ => 0)
      case atStart => exact ⟨rfl, rfl, Below.refl _ _⟩
      case round =>
        obtain ⟨rfl, rfl, hB⟩ := hrel
        go_wp2
        go_ret
        exact ⟨none, 0, rfl, ⟨by simp, .inl ⟨rfl, rfl⟩⟩, by repeat' (first | (with_reducible exact Below.refl _ _) | (with_reducible assumption) | (with_reducible refine kept_alloc ?_ _) | (with_reducible refine kept_drewN ?_ _) | (with_reducible refine Below.drew ?_) | (with_reducible refine Below.setCell ?_ (by first | omega | (simp; omega) | (simp; done)) _) | (refine kept_trans ?_ (by with_reducible assumption)))⟩
    · obtain ⟨k, hk⟩ : ∃ k : Nat, r = k := ⟨r.toNat, by simp at h1; omega⟩
      subst hk
      have hkm : k ≤ 64 := by simp at h2; omega
      have e : newL (k : Int) = newJ k := by unfold newL newJ; rw [if_pos, Int.toNat_natCast]; rw [ring_iff]; simp at h1 h2; omega
      rw [e]
      clear e h1
      go_enter Try.func17, Try.ntmps17
      go_wp2
      go_loopw [3, 4] (fun v i wr => ∃ (j : Nat) (p : Option Addr) (c : Nat), j ≤ k ∧ i = .int .i64 j ∧ v = .slice p j c ∧ Ow wr w.heap.size 36 2 Slo.cells (newJ j) (.slice p j c) ∧ Below w.heap.size w wr) (fun _ i _ => k - (intOf i).toNat)
      case atStart => exact ⟨0, none, 0, by omega, rfl, rfl, ow0.out, Below.refl _ _⟩
      case round =>
        obtain ⟨j, p, c, hj, rfl, rfl, hO, hB⟩ := hrel
        have HO := Lib.hid hO
        have HB := Lib.hid hB
        clear hO hB ow0
        by_cases hlt : j < k
        · have i2 : (j : Int) < (k : Int) := by omega
          have HJ := Lib.hid (newJ_len j)
          have hjl : (newJ j).length ≤ 64 := by rw [HJ.out]; omega
          go_wp2_with ((at_builtin; refine wpList_app' (wb := w) rfl _ _ 22 rfl (.agg #[.int .i64 0, .int .i64 0]) 16 Try.underlying22 slo_info rfl (by decide) Slo.enc rfl rfl (xs := (newJ j)) (ys := [(⟨j, 0⟩ : Slo)]) (HO.out.kept ((Below.refl _ _).alloc (Nat.le_refl _) _)) (ss_one _ ⟨j, 0⟩ rfl) (HB.out.alloc HB.out.size _) (by simp only [List.length_append, List.length_nil, List.length_cons]; unfold maxLen; omega) (by simp only [List.length_append, List.length_nil, List.length_cons]; omega) ?_); intro v1 w4 ho1 hb1; obtain ⟨g1, k4, rfl, hg1⟩ := os_some ho1 (by simp); rw [← newJ_succ, newJ_len] at ho1; have HO1 := Lib.hid ho1; clear ho1; rw [List.length_append, HJ.out])
          exact ⟨⟨j + 1, _, k4, by omega, by go_num, rfl, HO1.out, hb1⟩, by simp [intOf]; omega⟩
        · have hjk : j = k := by omega
          subst hjk
          go_wp2
          go_ret
          refine ⟨p, c, by rw [newJ_len]; rfl, ?_, HB.out⟩
          rw [newJ_len]
          exact HO.out
end Go.Proofs.Ytbfmnlniabldbaa
