/- Layer 10: the greatest gap of some; Gap, Fair, Least. -/
import Derived.Test.YtlmiedgpibollaaTurnD
namespace Go.Proofs.Ytlmiedgpibollaa
set_option linter.unusedVariables false
set_option linter.unusedSimpArgs false
open Go.ChangeShapes Go.WideShapes Go.ChangeAt Go.RowKit

theorem mk_mapi (n : Int) (W : World) : (Instr.makeMap 40 (some (.int .i64 n))).run Try.prog W = .ok (.map (some W.heap.size)) (W.alloc (.map #[] 0)) := by
  have hu := Try.underlying40
  simp [Instr.makeMap, run_underlying hu, asInt, asIntOf, Result.andThen]

theorem zeros_next {who : List Int} {i : Nat} {y : Int} (hy : who[i]? = some y) : withI (zerosO (who.take i)) y 0 = zerosO (who.take (i + 1)) := by
  obtain ⟨h1, h2⟩ := List.getElem?_eq_some_iff.1 hy
  funext x
  unfold withI zerosO
  rw [List.take_succ_eq_append_getElem h1, h2]
  by_cases e : x = y
  · subst e; simp
  · by_cases hm : x ∈ who.take i <;> simp [hm, e]
theorem tof_n {l : List Int} {N : Nat} (hN : l.length = N) (p : Option Addr) (k : Nat) (g1 g2 g3 : Nat) (lb1 lb2 lb3 : Array Value) (S : List Nat) (I : Nat → Int → World → Prop) (asks stop : Int → Bool) (w0 w : World)
    (eg1 : ∀ args w, (callFunc g1 args).run Try.prog w = .ok (.enter g1 args) w) (eg2 : ∀ args w, (callFunc g2 args).run Try.prog w = .ok (.enter g2 args) w) (eg3 : ∀ args w, (callFunc g3 args).run Try.prog w = .ok (.enter g3 args) w)
    (hB0 : Below w0.heap.size w0 w) (hS : ∀ b ∈ S, w0.heap.size ≤ b ∧ b < w.heap.size) (hl : Sl w0 1 intC l (.slice p l.length k))
    (hI : ∀ j s W W', I j s W → Below W.heap.size W W' → I j s W') (h0 : I 0 0 w)
    (hstop : ∀ j s W, I j s W → Calls Try.prog g3 (#[.int .i64 s] ++ lb3) W fun e W' => e = .returned (.bool (stop s)) ∧ Kept W W')
    (hask : ∀ j s W y, I j s W → Calls Try.prog g1 (#[.int .i64 y] ++ lb1) W fun e W' => e = .returned (.bool (asks y)) ∧ Kept W W')
    (hadd : ∀ (j : Nat) s W y, I j s W → l[j]? = some y → asks y = true → Calls Try.prog g2 (#[.int .i64 s, .int .i64 j, .int .i64 y] ++ lb2) W (RetAdd I S j W))
    (hskip : ∀ j s W y, I j s W → l[j]? = some y → asks y = false → I (j + 1) s W) :
    Calls Try.prog 25 #[.agg #[Value.func (.func (g1)) #[] lb1, Value.func (.func (g2)) #[] lb2, Value.func (.func (g3)) #[] lb3], .slice p N k] w (RetTal N I stop w0) := by
  subst hN
  exact tof_any l p k g1 g2 g3 lb1 lb2 lb3 S I asks stop w0 w eg1 eg2 eg3 hB0 hS hl hI h0 hstop hask hadd hskip

theorem igap_stop {l who : List Int} {mb eb bb E j : Nat} {s : Int} {W : World} (h : IGap l who mb eb bb E j s W) :
    Calls Try.prog 28 (#[.int .i64 s] ++ #[.pointer (some ⟨eb, 0, none⟩)]) W fun e W' => e = .returned (.bool (decide ((E : Int) ≤ s))) ∧ Kept W W' := by
  obtain ⟨n, m, h1, h2, h3, h4, h5⟩ := h
  exact widest3_any s E eb W h5.2.1.1 h5.2.1.2
theorem igap_ask {l who : List Int} {mb eb bb E j : Nat} {s : Int} {W : World} (h : IGap l who mb eb bb E j s W) (y : Int) :
    Calls Try.prog 26 (#[.int .i64 y] ++ #[.pointer (some ⟨bb, 0, none⟩)]) W fun e W' => e = .returned (.bool (decide (y ∈ who))) ∧ Kept W W' := by
  obtain ⟨n, m, h1, h2, h3, h4, h5⟩ := h
  rw [← knows_is h2 y]
  exact widest1_any y m mb bb W h4 h5.1.1 h5.1.2
theorem igap_add {l who : List Int} {mb eb bb E j : Nat} {s : Int} {W : World} (h : IGap l who mb eb bb E j s W) {y : Int} (hy : l[j]? = some y) (ha : decide (y ∈ who) = true) (hbig : l.length ≤ 9223372036854775807) (h1 : bb ≠ mb) (h2 : eb ≠ mb) :
    Calls Try.prog 27 (#[.int .i64 s, .int .i64 j, .int .i64 y] ++ #[.pointer (some ⟨bb, 0, none⟩)]) W (RetAdd (IGap l who mb eb bb E) [mb] j W) := by
  obtain ⟨n, m, rfl, hk, h3, h4, h5⟩ := h
  obtain ⟨v, hv⟩ := (hk.1 y).2 (of_decide_eq_true ha)
  have hlt := (List.getElem?_eq_some_iff.1 hy).1
  refine (widest2_any n j y v m mb bb W h4 hv (hk.2.1 y v hv) (by omega) h5.1.1 h5.1.2 h1).mono ?_
  rintro e W' ⟨rfl, hM, hO⟩
  exact ⟨_, rfl, ⟨_, _, rfl, knows_add hk hy hv, hlt, hM, cells_out hO h5 (by intro x hx; simp at hx; rcases hx with rfl | rfl <;> simp [h1, h2])⟩, hO⟩
theorem igap_skip {l who : List Int} {mb eb bb E j : Nat} {s : Int} {W : World} (h : IGap l who mb eb bb E j s W) {y : Int} (hy : l[j]? = some y) (ha : decide (y ∈ who) = false) : IGap l who mb eb bb E (j + 1) s W := by
  obtain ⟨n, m, rfl, hk, h3, h4, h5⟩ := h
  refine ⟨n, m, rfl, knows_skip hk hy ?_, (List.getElem?_eq_some_iff.1 hy).1, h4, h5⟩
  have := knows_is hk y
  rw [ha] at this
  simpa using this

set_option maxHeartbeats 2000000 in
theorem twidest_any (l who : List Int) (E : Nat) (hE : E ≤ 9223372036854775807) (p q : Option Addr) (k kw : Nat) (w : World) (hl : Sl w 1 intC l (.slice p l.length k)) (hw : Sl w 1 intC who (.slice q who.length kw)) :
    Calls Try.prog 21 #[.slice p l.length k, .slice q who.length kw, .int .i64 E] w fun e w' => e = .returned (.int .i64 (min (widO l who) E : Nat)) ∧ Kept w w' := by
  have H := Lib.hid hl
  have HW := Lib.hid hw
  obtain ⟨_, _, e1, hlk, hkm, _, _⟩ := hl.is
  cases e1
  obtain ⟨_, _, e1, hwk, hwm, _, hne⟩ := hw.is
  cases e1
  have hbig : l.length ≤ 9223372036854775807 := by unfold maxLen at hkm; omega
  have hbig' : who.length ≤ 9223372036854775807 := by unfold maxLen at hwm; omega
  clear hl hw hkm hwm hlk
  obtain ⟨N, hN⟩ : ∃ N, l.length = N := ⟨_, rfl⟩
  obtain ⟨M, hM⟩ : ∃ M, who.length = M := ⟨_, rfl⟩
  rw [hN] at hbig ⊢
  rw [hM] at hbig' hwk ⊢
  have HN := Lib.hid hN
  have HM := Lib.hid hM
  have HNE := Lib.hid hne
  have hmm := mk_mapi (M : Int)
  clear hN hM hne
  go_enter Try.func21, Try.ntmps21
  go_wp2
  have hM0 : MapI (((w.alloc (.cells #[.int .i64 E] 3)).alloc (.map #[] 0)).alloc (.cells #[.map (some (w.heap.size + 1))] 40)) (w.heap.size + 1) (zerosO (who.take 0)) := by
    have h1 := (MapI.made (w.alloc (.cells #[.int .i64 E] 3))).kept (((Below.refl _ _).alloc (Nat.le_refl _) (.cells #[.map (some (w.heap.size + 1))] 40)))
    have h2 : zerosO (who.take 0) = fun _ => none := by funext x; simp [zerosO]
    rw [h2]
    simpa using h1
  have hcs0 : CellsAt (((w.alloc (.cells #[.int .i64 E] 3)).alloc (.map #[] 0)).alloc (.cells #[.map (some (w.heap.size + 1))] 40)) [(w.heap.size + 1 + 1, 0, .map (some (w.heap.size + 1))), (w.heap.size, 0, .int .i64 E)] := by (simp only [CellsAt]; (repeat' (first | exact trivial | (refine And.intro ?_ ?_))); all_goals (first | (focus ((try simp only [World.size_setCell, World.size_alloc]); omega)) | (repeat (first | rfl | assumption | (refine (World.cell?_alloc_past _ _ _ ?_).trans ?_; focus ((try simp only [World.size_setCell, World.size_alloc]); omega)) | (refine (World.cell?_alloc_at _ _ _ _ ?_).trans ?_; focus ((try simp only [World.size_setCell, World.size_alloc]); done)) | (refine (World.cell?_setCell_other _ _ _ _ ?_).trans ?_; focus (simp; done)) | (refine (World.cell?_setCell_other _ _ _ _ ?_).trans ?_; focus (simp; omega)) | (refine World.cell?_setCell_same' _ _ _ ?_; focus (simp; done))))))
  have HM0 := Lib.hid (And.intro hM0 hcs0)
  clear hM0 hcs0 hmm
  go_loopw [9, 18] (fun _ s18 wr => ∃ i : Nat, i ≤ M ∧ s18 = .int .i64 i ∧ MapI wr (w.heap.size + 1) (zerosO (who.take i)) ∧ CellsAt wr [(w.heap.size + 1 + 1, 0, .map (some (w.heap.size + 1))), (w.heap.size, 0, .int .i64 E)] ∧ Below w.heap.size w wr) (fun _ s18 _ => M - (intOf s18).toNat)
  case atStart => exact ⟨0, by omega, rfl, HM0.out.1, HM0.out.2, by repeat' (first | (with_reducible exact Below.refl _ _) | (with_reducible assumption) | (with_reducible refine kept_alloc ?_ _) | (with_reducible refine kept_drewN ?_ _) | (with_reducible refine Below.drew ?_) | (with_reducible refine Below.setCell ?_ (by first | omega | (simp; omega) | (simp; done)) _) | (refine kept_trans ?_ (by with_reducible assumption)))⟩
  case round =>
    clear HM0
    obtain ⟨i, hi, rfl, hmp, hcs, hB⟩ := hrel
    by_cases hlt : i < M
    · have hlt' : i < who.length := by rw [HM.out]; exact hlt
      obtain ⟨b, o, rfl, hb, -⟩ := HNE.out (by intro h; subst h; simp at hlt')
      have c1 := (hB.cell (p := ⟨b, o + i, none⟩) hb).trans (sl_int HW.out hlt')
      have hbw : b < wr.heap.size := Nat.lt_of_lt_of_le hb hB.size
      have hy := List.getElem?_eq_getElem hlt'
      have i1 : (0 : Int) ≤ (i : Int) := by omega
      have i2 : (i : Int) < (M : Int) := by omega
      generalize who[i] = y at *
      obtain ⟨w1, hu, hM1, hO1, hs1⟩ := mapi_put hmp y 0
      rw [zeros_next hy] at hM1
      have hu' : (Instr.mapUpdate 40 (.map (some (w.heap.size + 1))) (.int .i64 y) (.int .i64 0)).run Try.prog wr = .ok () w1 := hu
      have hcs1 := cells_out hO1 hcs (by intro x hx; simp at hx; rcases hx with rfl | rfl <;> simp)
      have hB1 : Below w.heap.size w w1 := Out.below hB hO1 (by simp) hB.size
      have hmb := hmp.lt
      have q0 := hcs.1.2
      have z0 := hcs.1.1
      have HE := Lib.hid (And.intro hM1 (And.intro hcs1 hB1))
      clear hM1 hcs1 hB1 hO1 hu hy hcs hmp hB
      go_wp2
      exact ⟨⟨i + 1, by omega, by go_num, HE.out.1, HE.out.2.1, HE.out.2.2⟩, by simp [intOf]; omega⟩
    · have : i = M := by omega
      subst this
      have ht : who.take i = who := by rw [← HM.out, List.take_length]
      rw [ht] at hmp
      have h0 : IGap l who (w.heap.size + 1) w.heap.size (w.heap.size + 1 + 1) E 0 0 wr := ⟨0, _, rfl, knows_start l who, Nat.zero_le _, hmp, hcs⟩
      have HI := Lib.hid (And.intro h0 (And.intro hB hmp.lt))
      clear ht hmp hcs hB h0
      go_wp2_with fail
      refine (tof_n HN.out p k 26 27 28 #[.pointer (some ⟨w.heap.size + 1 + 1, 0, none⟩)] #[.pointer (some ⟨w.heap.size + 1 + 1, 0, none⟩)] #[.pointer (some ⟨w.heap.size, 0, none⟩)] [w.heap.size + 1] (IGap l who (w.heap.size + 1) w.heap.size (w.heap.size + 1 + 1) E) (fun y => decide (y ∈ who)) (fun s => decide ((E : Int) ≤ s)) w _ widest1_enters widest2_enters widest3_enters HI.out.2.1 (by intro b hb; simp at hb; subst hb; exact ⟨by omega, HI.out.2.2⟩) H.out
        (fun j s W W' h hk => igap_kept h hk) HI.out.1 (fun j s W h => igap_stop h) (fun j s W y h => igap_ask h y) (fun j s W y h hy ha => igap_add h hy ha (by rw [HN.out]; exact hbig) (by omega) (by omega)) (fun j s W y h hy ha => igap_skip h hy ha)).mono ?_
      rintro e w4 ⟨s, j, rfl, ⟨n, m, rfl, hkn, hjl, hmp, hcs⟩, hjn, hd, hB⟩
      have hdone := knows_done (E := E) hkn (by rcases hd with hd | hd; exact .inl (by have := of_decide_eq_true hd; omega); exact .inr (by rw [HN.out]; exact hd))
      rw [HN.out] at hdone
      have HD := Lib.hid (And.intro hdone (And.intro hmp (And.intro hkn hB)))
      have q1 := hcs.2.1.2
      have q0 := hcs.1.2
      have z1 := hcs.2.1.1
      have z0 := hcs.1.1
      have hmb := hmp.lt
      clear hdone hmp hkn hB hd hcs hjl HI
      go_wp2
      go_loopw [10, 12, 33] (fun s10 _ s33 wr => ∃ (i' g : Nat), i' ≤ i ∧ s33 = .int .i64 i' ∧ s10 = .int .i64 g ∧ g = lastO N m (who.take i') n ∧ w4 = wr) (fun _ _ s33 _ => i - (intOf s33).toNat)
      case atStart => exact ⟨0, n, by omega, rfl, rfl, rfl, rfl⟩
      case round =>
        obtain ⟨i', g, hi', rfl, rfl, hg, hww⟩ := hrel
        subst hww
        by_cases hlt2 : i' < i
        · have hlt' : i' < who.length := by rw [HM.out]; exact hlt2
          obtain ⟨b, o, rfl, hb, -⟩ := HNE.out (by intro h; subst h; simp at hlt')
          have c1 := (HD.out.2.2.2.cell (p := ⟨b, o + i', none⟩) hb).trans (sl_int HW.out hlt')
          have hbw : b < w4.heap.size := Nat.lt_of_lt_of_le hb HD.out.2.2.2.size
          have hnx : lastO N m (who.take (i' + 1)) n = max g (N - (m who[i']).getD 0) := by rw [List.take_succ_eq_append_getElem hlt', last_snoc, ← hg]
          have hmem : who[i'] ∈ who := List.getElem_mem hlt'
          have i1 : (0 : Int) ≤ (i' : Int) := by omega
          have i2 : (i' : Int) < (i : Int) := by omega
          generalize who[i'] = y at *
          obtain ⟨v, hv⟩ := (HD.out.2.2.1.1 y).2 hmem
          have hvj := HD.out.2.2.1.2.1 y v hv
          have hlk := mapi_look HD.out.2.1 y
          rw [hv] at hlk hnx
          simp only [Option.getD_some] at hlk hnx
          have hw1 : IntKind.i64.wrap ((N : Int) - (v : Int)) = (N : Int) - (v : Int) := IntWalk.i64_in _ (by omega)
          have HX := Lib.hid hnx
          clear hnx hv hmem hg
          go_wp2
          all_goals
            refine ⟨⟨i' + 1, max g (N - v), by omega, by go_num, ?_, HX.out.symm, by trivial⟩, by simp [intOf]; omega⟩
            congr 1; omega
        · have : i' = i := by omega
          subst this
          have ht : who.take i' = who := by rw [← HM.out, List.take_length]
          rw [ht] at hg
          have hm : min g E = min (widO l who) E := by rw [hg]; exact HD.out.1
          have HG := Lib.hid hm
          clear hm hg ht
          go_wp2
          all_goals
            go_ret
            refine ⟨ret_int ?_, HD.out.2.2.2⟩
            rw [← HG.out]
            omega
end Go.Proofs.Ytlmiedgpibollaa
