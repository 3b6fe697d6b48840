/- Texts merged: SdCQ. -/
import Derived.Test.YtfllnpcoggmepaaGreatZb12
/- Layer 14, plain: who sends into a full fabric, alone. -/
namespace Go.Proofs.YtfllnpcoggmepaaGreat
set_option linter.unusedVariables false
set_option linter.unusedSimpArgs false
section
variable {c : Cf} {s : St} {i : Nat} {ki v : Int}
theorem AlI.goes (h : AlI c s i) (hki : 1 ≤ ki ∧ ki ≤ 3) {n m : Nat} {u : St} (hg : Goes 0 (mkS s 0 0 i s.sl [((0 : Nat) : Int)] [] s.ee (tS ki v 2 0 0 0 0) s.lg) n u) (hu : ∀ m, sendK u ((0 : Nat) : Int) m = (u, 0)) (hm : 2 + n ≤ m) : sendK (s.setTh 0 (tS ki v 0 0 0 0 0)) ((0 : Nat) : Int) m = (u, 2 + n) ∧ stB u = true := by
  have hl := h.len
  have hs : opSide ki = 1 := by have := side_is ki; omega
  have hB := h.begB (k := 0) (v := v) hki
  rw [h.st0] at hB ⊢
  have g := (head_go (s := s) (hd := 0) (tl := i) (sl := s.sl) (fl := []) (ee := s.ee) (v := v) (re := 0) (se := 0) (tr := 0) (rs := 0) (lg := s.lg) (k := 0) (by omega) hs (by omega)).trans hg
  exact ⟨g.ends hB hu hm, (g hB).1⟩
/-- It is told so. -/
theorem AlI.told (h : AlI c s i) (hi : i = s.sl.length) (hki : 1 ≤ ki ∧ ki ≤ 3) {r : Int} (hr : (c.po = 1 ∧ r = 3) ∨ (c.po = 0 ∧ ki = 2 ∧ r = 2)) :
    sendK (s.setTh 0 (tS ki v 0 0 0 0 0)) ((0 : Nat) : Int) 100 = (mkS s 0 0 i s.sl [] [] s.ee (tD ki v r) (s.lg ++ [⟨((0 : Nat) : Int), ki, v, r, 0⟩]), 4) ∧ stB (mkS s 0 0 i s.sl [] [] s.ee (tD ki v r) (s.lg ++ [⟨((0 : Nat) : Int), ki, v, r, 0⟩])) = true := by
  have hl := h.len
  have hs : opSide ki = 1 := by have := side_is ki; omega
  exact h.goes (n := 2) hki (told_go (k := 0) (by omega) hs (by omega) (h.full hi) (by rw [h.cf]; exact hr)) (fun m => sendK_off (off_mk (by omega) (show (0 : Int) ≠ 1 by decide)) m) (by omega)
theorem AlI.rel (h : AlI c s i) (hi : i = s.sl.length) : acR (0 + 1) (i : Int) s.md (rlL s.sl 0).length = 1 ∧ rdyB (rlL s.sl 0) i = true ∧ plc (rlL s.sl 0) i = 0 ∧ evwB 0 (i : Int) s.md s.sl.length 0 = true := by
  have hl := h.len
  have hc := (word_ok h.b).1
  rw [h.hd, h.tl] at hc
  have hcl := check_len hc
  have he : evwB 0 (i : Int) s.md s.sl.length 0 = true := ev_iff.2 ⟨hc, h.md, rfl, by omega, by omega⟩
  have hr0 : rdyB s.sl 0 = true := by
    have hl0 : liesS s.sl 0 = true := lies_iff.2 ⟨by omega, (word_ok h.b).2.1⟩
    have := plc_id (l := s.sl) (j := 0) (by omega)
    unfold rdyB; rw [hl0, show ((0 : Int)) = ((0 : Nat) : Int) from rfl, this, h.sl 0 (by omega)]; rfl
  have hrl : rlB s.sl 0 = true := by unfold rlB; rw [hr0]; decide
  have hp0 : plc s.sl 0 = 0 := plc_id (l := s.sl) (j := 0) (by omega)
  have hpl : plc (rlL s.sl 0) i = 0 := by
    unfold plc
    rw [rl_len]
    have : placeI (i : Int) s.sl.length = 0 := by unfold placeI; rw [if_pos (lies_of (by omega) (by omega)), hi]; exact Int.emod_self
    rw [this]; rfl
  have hg0 : gs (rlL s.sl 0) 0 = ⟨(s.sl.length : Int), (gs s.sl 0).vl⟩ := by
    unfold rlL; rw [if_pos hrl, hp0, gs_set (by omega), if_pos rfl, Int.zero_add]
  refine ⟨?_, ?_, hpl, he⟩
  · rw [rl_len]
    exact ac1_iff.2 ⟨check_iff.2 (by omega), h.md, by omega, by omega⟩
  · unfold rdyB
    rw [show liesS (rlL s.sl 0) i = true from lies_iff.2 ⟨by omega, rlL_ok (word_ok h.b).2.1 _⟩, hpl, hg0]
    simp [hi]
/-- The oldest one goes. -/
theorem AlI.evict (h : AlI c s i) (hi : i = s.sl.length) (hki : 1 ≤ ki ∧ ki ≤ 3) (hp : c.po = 2) : ∃ g : Int,
    sendK (s.setTh 0 (tS ki v 0 0 0 0 0)) ((0 : Nat) : Int) 100 = (mkS s 0 (0 + 1) ((i : Int) + 1) (wrL (rlL s.sl 0) i v) [] [] (ntE s.ee []) (tD ki v 1) (s.lg ++ [⟨((0 : Nat) : Int), 9, v, 1, g⟩] ++ [⟨((0 : Nat) : Int), ki, v, 1, 0⟩]), 10) ∧
    stB (mkS s 0 (0 + 1) ((i : Int) + 1) (wrL (rlL s.sl 0) i v) [] [] (ntE s.ee []) (tD ki v 1) (s.lg ++ [⟨((0 : Nat) : Int), 9, v, 1, g⟩] ++ [⟨((0 : Nat) : Int), ki, v, 1, 0⟩])) = true := by
  have hl := h.len
  have hs : opSide ki = 1 := by have := side_is ki; omega
  obtain ⟨r1, r2, r3, r4⟩ := h.rel hi
  have hk : 0 < s.th.length := by omega
  obtain ⟨g, hg⟩ := evict_go (s := s) (k := 0) (hd := 0) (tl := i) (sl := s.sl) (fl := []) (ee := s.ee) (ki := ki) (v := v) (re := 0) (se := 0) (tr := 0) (rs := 0) (lg := s.lg) hk hs (h.full hi) (by rw [h.cf]; exact hp) r4
  have hw : wrE (rlL s.sl 0) i = 0 := by unfold wrE; rw [(rdy_lies r2).1, r2]; rfl
  exact ⟨g, h.goes (n := 3 + 5) hki (hg.trans (room_go hk hs (by omega) h.el r1 hw)) (fun m => sendK_off (off_mk hk (show (0 : Int) ≠ 1 by decide)) m) (by omega)⟩
theorem AlI.way (h : AlI c s i) (n : Int) : waySt s n = wayI c.wt c.sp c.yi n := by
  have hm : mayB c.lg c.th c.po c.wt c.sp c.yi = true := by have := (st_iff.1 h.b).1; rw [h.cf] at this; exact this
  unfold waySt; rw [h.cf]; exact if_pos hm
theorem AlI.cf_is (h : AlI c s i) : 1 ≤ c.lg ∧ c.lg ≤ 6 ∧ 1 ≤ c.th ∧ c.th ≤ 16 ∧ 0 ≤ c.po ∧ c.po ≤ 2 ∧ 0 ≤ c.wt ∧ c.wt ≤ 3 ∧ 0 ≤ c.sp ∧ c.sp ≤ 8 ∧ 0 ≤ c.yi ∧ c.yi ≤ 8 ∧ (c.wt = 2 ∨ c.sp = 0 ∧ c.yi = 0) := by
  have := (st_iff.1 h.b).1; rw [h.cf] at this; exact may_iff.1 (show mayB c.lg c.th c.po c.wt c.sp c.yi = true from this)
/-- It waits. -/
theorem AlI.parks (h : AlI c s i) (hi : i = s.sl.length) (hki : 1 ≤ ki ∧ ki ≤ 3) (h2 : ki ≠ 2) (hp : c.po = 0) (hw : c.wt = 2 ∨ c.wt = 3) : ∃ n : Nat,
    sendK (s.setTh 0 (tS ki v 0 0 0 0 0)) ((0 : Nat) : Int) 100 = (mkS s 0 0 i s.sl [((0 : Nat) : Int)] ([] ++ [((0 : Nat) : Int)]) s.ee ⟨2, ki, v, 0, 2, 0, s.fe, 0, false, 0, 0⟩ s.lg, n) ∧ n ≤ 100 ∧
    stB (mkS s 0 0 i s.sl [((0 : Nat) : Int)] ([] ++ [((0 : Nat) : Int)]) s.ee ⟨2, ki, v, 0, 2, 0, s.fe, 0, false, 0, 0⟩ s.lg) = true := by
  have hl := h.len
  have hs : opSide ki = 1 := by have := side_is ki; omega
  have hk : 0 < s.th.length := by omega
  have hcf := h.cf_is
  have hc : cmB s.fe [] s.fe ((0 : Nat) : Int) = true := by
    have := (full_lines h.b).2.2.2.2.1
    rw [h.fl] at this
    unfold cmB; rw [this, show entE [] ((0 : Nat) : Int) = 0 by decide]; simp
  obtain ⟨n, hn⟩ : ∃ n : Nat, (n : Int) = c.sp + c.yi := ⟨(c.sp + c.yi).toNat, by omega⟩
  have hg := try_go (s := s) (k := 0) (hd := 0) (tl := i) (sl := s.sl) (fl := []) (ee := s.ee) (ki := ki) (v := v) (re := 0) (se := 0) (rs := 0) (lg := s.lg) hk hs (h.full hi) (by rw [h.cf]; exact hp) h2 n 0 (by omega) (fun j hj => by
    rw [h.way, Int.zero_add]; unfold wayI
    rcases hw with hw | hw
    · rw [if_neg (by omega), if_neg (by omega), if_pos hw]
      split
      · omega
      · rw [if_pos (by omega)]; omega
    · omega)
  have hg2 := park_go (s := s) (k := 0) (hd := 0) (tl := i) (sl := s.sl) (fl := []) (ee := s.ee) (ki := ki) (v := v) (re := 0) (se := 0) (tr := 0 + (n : Int)) (rs := 0) (lg := s.lg) hk hs (by omega) (h.full hi) (by rw [h.cf]; exact hp) h2 (by
    rw [h.way, Int.zero_add, hn]; unfold wayI
    rcases hw with hw | hw
    · rw [if_neg (by omega), if_neg (by omega), if_pos hw, if_neg (by omega), if_neg (by omega)]
    · rw [if_neg (by omega), if_neg (by omega), if_neg (by omega)]) hc
  obtain ⟨e1, e2⟩ := h.goes (n := n + 4) (m := 100) hki (hg.trans hg2) (fun m => sendK_off (off_mk hk (show (2 : Int) ≠ 1 by decide)) m) (by omega)
  exact ⟨2 + (n + 4), e1, by omega, e2⟩
/-- It goes on without end. -/
theorem AlI.busy (h : AlI c s i) (hi : i = s.sl.length) (hki : 1 ≤ ki ∧ ki ≤ 3) (h2 : ki ≠ 2) (hp : c.po = 0) (hw : c.wt ≠ 2 ∧ c.wt ≠ 3) :
    sendK (s.setTh 0 (tS ki v 0 0 0 0 0)) ((0 : Nat) : Int) 100 = (mkS s 0 0 i s.sl [((0 : Nat) : Int)] [] s.ee (tS ki v 2 0 0 98 0) s.lg, 100) ∧ stB (mkS s 0 0 i s.sl [((0 : Nat) : Int)] [] s.ee (tS ki v 2 0 0 98 0) s.lg) = true := by
  have hl := h.len
  have hs : opSide ki = 1 := by have := side_is ki; omega
  have hk : 0 < s.th.length := by omega
  have hcf := h.cf_is
  have hg := try_go (s := s) (k := 0) (hd := 0) (tl := i) (sl := s.sl) (fl := []) (ee := s.ee) (ki := ki) (v := v) (re := 0) (se := 0) (rs := 0) (lg := s.lg) hk hs (h.full hi) (by rw [h.cf]; exact hp) h2 98 0 (by omega) (fun j hj => by
    rw [h.way]; unfold wayI
    split
    · omega
    · split
      · omega
      · omega)
  have hB := h.begB (k := 0) (v := v) hki
  rw [h.st0] at hB ⊢
  have g := (head_go (s := s) (hd := 0) (tl := i) (sl := s.sl) (fl := []) (ee := s.ee) (v := v) (re := 0) (se := 0) (tr := 0) (rs := 0) (lg := s.lg) hk hs (by omega)).trans hg
  obtain ⟨g1, g2⟩ := g hB
  exact ⟨g2 0, g1⟩
/-! What is there. -/
theorem mk_qu (h : AlI c s i) {sn fl : List Int} {t : Th} {lg : List En} (hB : stB (mkS s 0 0 i s.sl sn fl s.ee t lg) = true) : (quV (mkS s 0 0 i s.sl sn fl s.ee t lg)).vals.length = i ∧ (0 < i → gI' (quV (mkS s 0 0 i s.sl sn fl s.ee t lg)).vals 0 = 0) := by
  have hl := h.len
  rw [quV_yes hB]
  refine ⟨?_, fun h0 => ?_⟩
  · show ((List.range ((i : Int) - 0).toNat).map _).length = i
    simp
  · show gI' ((List.range ((i : Int) - 0).toNat).map _) 0 = 0
    simp only [gI', List.getD_eq_getElem?_getD, List.getElem?_map, List.getElem?_range (show 0 < ((i : Int) - 0).toNat by omega), Option.map_some, Option.getD_some]
    show (gs s.sl (plc s.sl (0 + ((0 : Nat) : Int)))).vl = 0
    rw [Int.zero_add, plc_id (by omega), h.sl 0 (by omega), if_pos h0]; rfl
theorem mk_qv (h : AlI c s i) (hi : i = s.sl.length) {t : Th} {lg : List En} {ee : Int} (hB : stB (mkS s 0 (0 + 1) ((i : Int) + 1) (wrL (rlL s.sl 0) i v) [] [] ee t lg) = true) :
    (quV (mkS s 0 (0 + 1) ((i : Int) + 1) (wrL (rlL s.sl 0) i v) [] [] ee t lg)).vals.length = i ∧ gI' (quV (mkS s 0 (0 + 1) ((i : Int) + 1) (wrL (rlL s.sl 0) i v) [] [] ee t lg)).vals (i - 1) = v := by
  have hl := h.len
  obtain ⟨r1, r2, r3, r4⟩ := h.rel hi
  rw [quV_yes hB]
  refine ⟨?_, ?_⟩
  · show ((List.range ((i : Int) + 1 - (0 + 1)).toNat).map _).length = i
    simp
  · show gI' ((List.range ((i : Int) + 1 - (0 + 1)).toNat).map _) (i - 1) = v
    simp only [gI', List.getD_eq_getElem?_getD, List.getElem?_map, List.getElem?_range (show i - 1 < ((i : Int) + 1 - (0 + 1)).toNat by omega), Option.map_some, Option.getD_some]
    show (gs (wrL (rlL s.sl 0) i v) (plc (wrL (rlL s.sl 0) i v) (0 + 1 + ((i - 1 : Nat) : Int)))).vl = v
    have e1 : plc (wrL (rlL s.sl 0) i v) i = 0 := by rw [plc_sts (wr_sts _ _ _)]; exact r3
    rw [show (0 : Int) + 1 + ((i - 1 : Nat) : Int) = i by omega, e1]
    unfold wrL
    rw [if_pos r2, r3, gs_set (by rw [rl_len]; omega), if_pos rfl]
end
end Go.Proofs.YtfllnpcoggmepaaGreat
