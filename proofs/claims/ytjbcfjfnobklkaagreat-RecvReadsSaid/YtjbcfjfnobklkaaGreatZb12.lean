/- Texts merged: RecvAQ, RecvVQ, SdBQ, RecvBQ, RcQQ, RcOQ, RcEQ, RcFQ, RcGQ, RgmQ. -/
import Derived.Test.YtjbcfjfnobklkaaGreatZb11
import Derived.Test.YtjbcfjfnobklkaaGreatZb10
import Derived.Test.YtjbcfjfnobklkaaGreatZb8
/- Layer 15, plain: who receives alone. -/
namespace Go.Proofs.YtjbcfjfnobklkaaGreat
set_option linter.unusedVariables false
set_option linter.unusedSimpArgs false
/-- A state of which one thread, the head, the slots, and the lines that it may change, are told. -/
def mkR (s : St) (k : Nat) (hd : Int) (sl : List Slo) (rc : List Int) (fe : Int) (el : List Int) (t : Th) (lg : List En) : St := ⟨s.cf, hd, s.tl, s.md, sl, s.sn, rc, fe, s.fl, s.ee, el, s.nw, s.th.set k t, lg⟩
section
variable {s : St} {k : Nat} {hd : Int} {sl : List Slo} {rc el : List Int} {fe : Int} {t : Th} {lg : List En}
theorem gth_mr (hk : k < s.th.length) : gth (mkR s k hd sl rc fe el t lg).th k = t := by show gth (s.th.set k t) k = t; rw [gth_set hk, if_pos rfl]
theorem on_mr (hk : k < s.th.length) (f : Th → Th) : (mkR s k hd sl rc fe el t lg).onTh k f = mkR s k hd sl rc fe el (f t) lg := by
  unfold St.onTh; rw [gth_mr hk]; unfold St.setTh mkR; simp only [List.set_set]
theorem len_mr : (mkR s k hd sl rc fe el t lg).th.length = s.th.length := by simp [mkR]
theorem runs_mr (hk : k < s.th.length) (hB : stB (mkR s k hd sl rc fe el t lg) = true) (h1 : t.st = 1) (h2 : opSide t.ki = 2) : runsB (mkR s k hd sl rc fe el t lg) k 2 = true := by
  refine runs_iff.2 ⟨has_of hB (by rw [len_mr]; exact hk), ?_, ?_⟩ <;> rw [Int.toNat_natCast, gth_mr hk] <;> assumption
theorem off_mr (hk : k < s.th.length) (h1 : t.st ≠ 1) : runsB (mkR s k hd sl rc fe el t lg) k 2 = false := by
  cases h : runsB (mkR s k hd sl rc fe el t lg) k 2
  · rfl
  · have := (runs_iff.1 h).2.1; rw [Int.toNat_natCast, gth_mr hk] at this; exact absurd this h1
theorem told_mr (hk : k < s.th.length) (hB : stB (mkR s k hd sl rc fe el t lg) = true) (ki r g p : Int) : toldS (mkR s k hd sl rc fe el t lg) k ki r g p = mkR s k hd sl rc fe el (pcT (tellT t ki r g) p) (lg ++ [⟨k, ki, t.va, r, g⟩]) := by
  unfold toldS
  rw [tell_th hB (by rw [len_mr]; exact hk), gth_mr hk]
  have e : ((mkR s k hd sl rc fe el t lg).setTh k (tellT t ki r g)).addLg ⟨k, ki, t.va, r, g⟩ = mkR s k hd sl rc fe el (tellT t ki r g) (lg ++ [⟨k, ki, t.va, r, g⟩]) := by
    unfold St.setTh St.addLg mkR; simp only [List.set_set]
  rw [e, on_mr hk]
theorem is_mr (hk : k < s.th.length) (hB : stB (mkR s k hd sl rc fe el t lg) = true) (h1 : t.st = 1) (h2 : opSide t.ki = 2) : recvS (mkR s k hd sl rc fe el t lg) k = recvN (mkR s k hd sl rc fe el t lg) k := by
  have := runs_mr hk hB h1 h2
  unfold recvS; rw [if_pos this, Int.toNat_natCast]
theorem r_0 (hk : k < s.th.length) (p : t.pc = 0) : recvN (mkR s k hd sl rc fe el t lg) k = mkR s k hd sl (entL rc k) fe el (pcT t 1) lg := by
  rw [recvN_0 (by rw [gth_mr hk]; exact p)]
  show (mkR s k hd sl (entL rc k) fe el t lg).onTh k _ = _
  rw [on_mr hk]
theorem r_1 (hk : k < s.th.length) (p : t.pc = 1) (h : plI rc k = 0) : recvN (mkR s k hd sl rc fe el t lg) k = mkR s k hd sl rc fe el (pcT t 2) lg := by
  rw [recvN_1 (by rw [gth_mr hk]; exact p)]
  unfold firstR
  rw [if_pos (show plI (mkR s k hd sl rc fe el t lg).rc k = 0 from h), on_mr hk]
theorem r_2 (hk : k < s.th.length) (p : t.pc = 2) (h : tkR hd s.tl s.md sl.length = 1) : recvN (mkR s k hd sl rc fe el t lg) k = mkR s k hd sl rc fe el (pcT t 3) lg := by
  rw [recvN_2 (by rw [gth_mr hk]; exact p)]
  unfold lookR
  rw [if_pos (show seesR (mkR s k hd sl rc fe el t lg) = 1 from h), on_mr hk]
theorem r_2e (hk : k < s.th.length) (p : t.pc = 2) (hB : stB (mkR s k hd sl rc fe el t lg) = true) (h : tkR hd s.tl s.md sl.length = 4) (h5 : t.ki = 5) : recvN (mkR s k hd sl rc fe el t lg) k = mkR s k hd sl rc fe el (pcT (tellT t t.ki 4 0) 9) (lg ++ [⟨k, t.ki, t.va, 4, 0⟩]) := by
  rw [recvN_2 (by rw [gth_mr hk]; exact p)]
  have hs : seesR (mkR s k hd sl rc fe el t lg) = 4 := h
  unfold lookR
  rw [hs, if_neg (by decide), if_neg (by decide), gth_mr hk, if_pos h5]
  exact told_mr hk hB _ _ _ _
theorem r_2p (hk : k < s.th.length) (p : t.pc = 2) (h : tkR hd s.tl s.md sl.length = 4) (h5 : t.ki ≠ 5) (hl : t.la = false) (hw : waySt s t.tr = 2) : recvN (mkR s k hd sl rc fe el t lg) k = mkR s k hd sl rc fe el (pcT t 5) lg := by
  rw [recvN_2 (by rw [gth_mr hk]; exact p)]
  have hs : seesR (mkR s k hd sl rc fe el t lg) = 4 := h
  unfold lookR
  rw [hs, if_neg (by decide), if_neg (by decide), gth_mr hk, if_neg h5, if_neg (by rw [hl]; decide), if_pos (show waySt (mkR s k hd sl rc fe el t lg) t.tr = 2 from hw), on_mr hk]
theorem r_2o (hk : k < s.th.length) (p : t.pc = 2) (h : tkR hd s.tl s.md sl.length = 4) (h5 : t.ki ≠ 5) (hl : t.la = false) (hw : waySt s t.tr ≠ 2) : recvN (mkR s k hd sl rc fe el t lg) k = mkR s k hd sl rc fe el (onT t) lg := by
  rw [recvN_2 (by rw [gth_mr hk]; exact p)]
  have hs : seesR (mkR s k hd sl rc fe el t lg) = 4 := h
  unfold lookR
  rw [hs, if_neg (by decide), if_neg (by decide), gth_mr hk, if_neg h5, if_neg (by rw [hl]; decide), if_neg (show ¬ waySt (mkR s k hd sl rc fe el t lg) t.tr = 2 from hw), on_mr hk]
theorem r_3 (hk : k < s.th.length) (hB : stB (mkR s k hd sl rc fe el t lg) = true) (h1 : t.st ≠ 0) (p : t.pc = 3) (h : tkR hd s.tl s.md sl.length = 1) :
    recvN (mkR s k hd sl rc fe el t lg) k = mkR s k (hd + 1) sl rc fe el (pcT (tellT (regT t hd 4) t.ki 1 (valV (mkR s k hd sl rc fe el t lg) hd)) 4) (lg ++ [⟨k, t.ki, t.va, 1, valV (mkR s k hd sl rc fe el t lg) hd⟩]) := by
  rw [recvN_3 (by rw [gth_mr hk]; exact p)]
  have hs : seesR (mkR s k hd sl rc fe el t lg) = 1 := h
  unfold takeR
  rw [hs, if_neg (by decide), if_neg (by decide), gth_mr hk]
  have hw := takeB_ok hB (n := k) (by rw [len_mr]; exact hk) (by rw [gth_mr hk]; exact h1) hs
  have e : ((mkR s k hd sl rc fe el t lg).toWord ((mkR s k hd sl rc fe el t lg).hd + 1) (mkR s k hd sl rc fe el t lg).tl (mkR s k hd sl rc fe el t lg).md).onTh k (regT · (mkR s k hd sl rc fe el t lg).hd 4) = mkR s k (hd + 1) sl rc fe el (regT t hd 4) lg := by
    show (mkR s k (hd + 1) sl rc fe el t lg).onTh k (regT · hd 4) = _
    rw [on_mr hk]
  rw [e] at hw ⊢
  exact told_mr hk hw _ _ _ _
theorem r_4 (hk : k < s.th.length) (p : t.pc = 4) : recvN (mkR s k hd sl rc fe el t lg) k = mkR s k hd (rlL sl t.re) rc fe el (gotT t (rdV sl t.re) 6) lg := by
  rw [recvN_4 (by rw [gth_mr hk]; exact p)]
  unfold readR
  rw [gth_mr hk]
  show (mkR s k hd (rlL sl t.re) rc fe el t lg).onTh k _ = _
  rw [on_mr hk]
  rfl
theorem r_5 (hk : k < s.th.length) (p : t.pc = 5) : recvN (mkR s k hd sl rc fe el t lg) k = mkR s k hd sl rc fe el (seenT t s.ee 7) lg := by
  rw [recvN_5 (by rw [gth_mr hk]; exact p), on_mr hk]
  rfl
theorem r_6 (hk : k < s.th.length) (p : t.pc = 6) (h : s.fl = []) : recvN (mkR s k hd sl rc fe el t lg) k = mkR s k hd sl rc (ntE fe []) el (pcT t 9) lg := by
  rw [recvN_6 (by rw [gth_mr hk]; exact p)]
  unfold notifyR
  have e1 : (mkR s k hd sl rc fe el t lg).fl = [] := h
  have e2 : hdB (ntT 1 (mkR s k hd sl rc fe el t lg).fe []) = false := by unfold ntT; split <;> rfl
  have e3 : ntL 1 (mkR s k hd sl rc fe el t lg).fe [] = [] := by unfold ntL; split <;> rfl
  rw [e1, e2, e3, if_neg (by decide)]
  have e4 : (mkR s k hd sl rc fe el t lg).toFull (ntE (mkR s k hd sl rc fe el t lg).fe []) [] = mkR s k hd sl rc (ntE fe []) el t lg := by unfold St.toFull mkR; rw [h]
  rw [e4, on_mr hk]
theorem r_7 (hk : k < s.th.length) (p : t.pc = 7) (hl : t.la = false) (h : tkR hd s.tl s.md sl.length = 4) : recvN (mkR s k hd sl rc fe el t lg) k = mkR s k hd sl rc fe el (pcT t 8) lg := by
  rw [recvN_7 (by rw [gth_mr hk]; exact p), gth_mr hk, if_pos ⟨h, hl⟩, on_mr hk]
theorem r_8 (hk : k < s.th.length) (p : t.pc = 8) (hl : t.la = false) (h : cmB s.ee el t.se k = true) : recvN (mkR s k hd sl rc fe el t lg) k = mkR s k hd sl rc fe (el ++ [(k : Int)]) (parkT t 2) lg := by
  rw [recvN_8 (by rw [gth_mr hk]; exact p)]
  unfold commitR
  rw [gth_mr hk, if_neg (by rw [hl]; decide), if_pos (show cmB (mkR s k hd sl rc fe el t lg).ee (mkR s k hd sl rc fe el t lg).el t.se k = true from h)]
  show (mkR s k hd sl rc fe (el ++ [(k : Int)]) t lg).onTh k _ = _
  rw [on_mr hk]
theorem r_9 (hk : k < s.th.length) (p : t.pc = 9) : recvN (mkR s k hd sl rc fe el t lg) k = mkR s k hd sl (lvL rc k) fe el (doneT t) lg := by
  rw [recvN_9 (by rw [gth_mr hk]; exact .inl p)]
  show (mkR s k hd sl (lvL rc k) fe el t lg).onTh k _ = _
  rw [on_mr hk]
end
/-- Some steps lead from one state to another one. -/
def GoesR (k : Nat) (a : St) (n : Nat) (u : St) : Prop := stB a = true → stB u = true ∧ ∀ m, recvK a k (m + n) = ((recvK u k m).1, (recvK u k m).2 + n)
theorem GoesR.trans {k n n' : Nat} {a b c : St} (h : GoesR k a n b) (h' : GoesR k b n' c) : GoesR k a (n + n') c := fun ha => by
  obtain ⟨hb, e⟩ := h ha
  obtain ⟨hc, e'⟩ := h' hb
  refine ⟨hc, fun m => ?_⟩
  rw [show m + (n + n') = m + n' + n by omega, e, e']
  simp only [Prod.mk.injEq, true_and]; omega
/-- One that receives: at which step; Reg, Seen, Tries, Result, Got. -/
abbrev tQ (ki v pc re se tr rs go : Int) : Th := ⟨1, ki, v, 0, pc, re, se, tr, false, rs, go⟩
abbrev tE (ki v rs go : Int) : Th := ⟨0, ki, v, 0, 0, 0, 0, 0, false, rs, go⟩
theorem tQ_tell {ki v pc re se tr rs go r g p : Int} (h : opSide ki = 2) : pcT (tellT (tQ ki v pc re se tr rs go) ki r g) p = tQ ki v p re se tr r g := by
  have h9 : ki ≠ 9 := by have := side_is ki; omega
  unfold tellT; rw [if_neg h9]; rfl
section
variable {s u : St} {k : Nat} {hd : Int} {sl : List Slo} {rc el : List Int} {fe : Int} {t : Th} {lg : List En}
theorem GoesR.one (hk : k < s.th.length) (h1 : t.st = 1) (h2 : opSide t.ki = 2) (hu : stB (mkR s k hd sl rc fe el t lg) = true → recvN (mkR s k hd sl rc fe el t lg) k = u) : GoesR k (mkR s k hd sl rc fe el t lg) 1 u := fun hB => by
  have e := is_mr hk hB h1 h2
  rw [hu hB] at e
  refine ⟨by rw [← e, recvS_stB]; exact hB, fun m => ?_⟩
  rw [recvK_on (runs_mr hk hB h1 h2), e]
end
section
variable {s : St} {k : Nat} {hd : Int} {sl : List Slo} {el : List Int} {fe : Int} {ki v re se tr rs go : Int} {lg : List En} (hk : k < s.th.length) (hki : opSide ki = 2) (h16 : k < 16)
include hk hki h16
theorem endR_go : GoesR k (mkR s k hd sl [(k : Int)] fe el (tQ ki v 9 re se tr rs go) lg) 1 (mkR s k hd sl [] fe el (tE ki v rs go) lg) :=
  GoesR.one hk rfl hki fun _ => by rw [r_9 hk rfl, lv_one h16]; rfl
/-- From the beginning to where it looks. -/
theorem headR_go : GoesR k (mkR s k hd sl [] fe el (tQ ki v 0 re se tr rs go) lg) 2 (mkR s k hd sl [(k : Int)] fe el (tQ ki v 2 re se tr rs go) lg) := by
  have g0 : GoesR k (mkR s k hd sl [] fe el (tQ ki v 0 re se tr rs go) lg) 1 (mkR s k hd sl [(k : Int)] fe el (tQ ki v 1 re se tr rs go) lg) := GoesR.one hk rfl hki fun _ => by rw [r_0 hk rfl, ent_one h16]; rfl
  exact g0.trans (GoesR.one hk rfl hki fun _ => r_1 hk rfl (pl_one h16))
/-- From where there is something, to the end. -/
theorem takeR_go (hfl : s.fl = []) (hs : tkR hd s.tl s.md sl.length = 1) (hd0 : 0 ≤ hd) : GoesR k (mkR s k hd sl [(k : Int)] fe el (tQ ki v 2 re se tr rs go) lg) 5
    (mkR s k (hd + 1) (rlL sl hd) [] (ntE fe []) el (tE ki v 1 (rdV sl hd)) (lg ++ [⟨k, ki, v, 1, (gs sl (plc sl hd)).vl⟩])) := by
  have g2 : GoesR k (mkR s k hd sl [(k : Int)] fe el (tQ ki v 2 re se tr rs go) lg) 1 (mkR s k hd sl [(k : Int)] fe el (tQ ki v 3 re se tr rs go) lg) := GoesR.one hk rfl hki fun _ => r_2 hk rfl hs
  have g3 : GoesR k (mkR s k hd sl [(k : Int)] fe el (tQ ki v 3 re se tr rs go) lg) 1 (mkR s k (hd + 1) sl [(k : Int)] fe el (tQ ki v 4 hd se tr 1 (gs sl (plc sl hd)).vl) (lg ++ [⟨k, ki, v, 1, (gs sl (plc sl hd)).vl⟩])) :=
    GoesR.one hk rfl hki fun hB => by
      have hv : valV (mkR s k hd sl [(k : Int)] fe el (tQ ki v 3 re se tr rs go) lg) hd = (gs sl (plc sl hd)).vl := by rw [atV_place hB hd0]; rfl
      rw [r_3 hk hB (show (1 : Int) ≠ 0 by decide) rfl hs, hv]
      show mkR s k (hd + 1) sl [(k : Int)] fe el (pcT (tellT (tQ ki v 4 hd se tr rs go) ki 1 _) 4) _ = _
      rw [tQ_tell hki]
  have g4 : GoesR k (mkR s k (hd + 1) sl [(k : Int)] fe el (tQ ki v 4 hd se tr 1 (gs sl (plc sl hd)).vl) (lg ++ [⟨k, ki, v, 1, (gs sl (plc sl hd)).vl⟩])) 1 (mkR s k (hd + 1) (rlL sl hd) [(k : Int)] fe el (tQ ki v 6 hd se tr 1 (rdV sl hd)) (lg ++ [⟨k, ki, v, 1, (gs sl (plc sl hd)).vl⟩])) := GoesR.one hk rfl hki fun _ => r_4 hk rfl
  have g6 : GoesR k (mkR s k (hd + 1) (rlL sl hd) [(k : Int)] fe el (tQ ki v 6 hd se tr 1 (rdV sl hd)) (lg ++ [⟨k, ki, v, 1, (gs sl (plc sl hd)).vl⟩])) 1 (mkR s k (hd + 1) (rlL sl hd) [(k : Int)] (ntE fe []) el (tQ ki v 9 hd se tr 1 (rdV sl hd)) (lg ++ [⟨k, ki, v, 1, (gs sl (plc sl hd)).vl⟩])) := GoesR.one hk rfl hki fun _ => r_6 hk rfl hfl
  exact (((g2.trans g3).trans g4).trans g6).trans (endR_go hk hki h16)
/-- It is told that there is nothing. -/
theorem none_go (hs : tkR hd s.tl s.md sl.length = 4) (h5 : ki = 5) : GoesR k (mkR s k hd sl [(k : Int)] fe el (tQ ki v 2 re se tr rs go) lg) 2 (mkR s k hd sl [] fe el (tE ki v 4 0) (lg ++ [⟨k, ki, v, 4, 0⟩])) := by
  have g2 : GoesR k (mkR s k hd sl [(k : Int)] fe el (tQ ki v 2 re se tr rs go) lg) 1 (mkR s k hd sl [(k : Int)] fe el (tQ ki v 9 re se tr 4 0) (lg ++ [⟨k, ki, v, 4, 0⟩])) :=
    GoesR.one hk rfl hki fun hB => by
      rw [r_2e hk rfl hB hs h5]
      show mkR s k hd sl [(k : Int)] fe el (pcT (tellT (tQ ki v 2 re se tr rs go) ki 4 0) 9) _ = _
      rw [tQ_tell hki]
  exact g2.trans (endR_go hk hki h16)
omit h16 in
/-- It tries on. -/
theorem tryR_go (hs : tkR hd s.tl s.md sl.length = 4) (h5 : ki ≠ 5) : ∀ (j : Nat) (tr : Int), tr + j ≤ 1099511627776 → (∀ i : Nat, i < j → waySt s (tr + i) ≠ 2) →
    GoesR k (mkR s k hd sl [(k : Int)] fe el (tQ ki v 2 re se tr rs go) lg) j (mkR s k hd sl [(k : Int)] fe el (tQ ki v 2 re se (tr + j) rs go) lg)
  | 0, tr, _, _ => fun hB => ⟨by simpa using hB, fun m => by simp⟩
  | j + 1, tr, hm, hw => by
    have g : GoesR k (mkR s k hd sl [(k : Int)] fe el (tQ ki v 2 re se tr rs go) lg) 1 (mkR s k hd sl [(k : Int)] fe el (tQ ki v 2 re se (tr + 1) rs go) lg) := GoesR.one hk rfl hki fun _ => by
      rw [r_2o hk rfl hs h5 rfl (by simpa using hw 0 (by omega))]
      unfold onT; rw [if_pos (show tr < 1099511627776 by omega)]
    have ih := tryR_go hs h5 j (tr + 1) (by omega) (fun i hi => by have := hw (i + 1) (by omega); rwa [show tr + 1 + (i : Int) = tr + ((i + 1 : Nat) : Int) by omega])
    rw [show tr + 1 + (j : Int) = tr + ((j + 1 : Nat) : Int) by omega] at ih
    have := g.trans ih
    rwa [Nat.add_comm 1 j] at this
omit h16 in
/-- It waits. -/
theorem parkR_go (hs : tkR hd s.tl s.md sl.length = 4) (h5 : ki ≠ 5) (hw : waySt s tr = 2) (hc : cmB s.ee el s.ee k = true) :
    GoesR k (mkR s k hd sl [(k : Int)] fe el (tQ ki v 2 re se tr rs go) lg) 4 (mkR s k hd sl [(k : Int)] fe (el ++ [(k : Int)]) ⟨2, ki, v, 0, 2, re, s.ee, 0, false, rs, go⟩ lg) := by
  have g2 : GoesR k (mkR s k hd sl [(k : Int)] fe el (tQ ki v 2 re se tr rs go) lg) 1 (mkR s k hd sl [(k : Int)] fe el (tQ ki v 5 re se tr rs go) lg) := GoesR.one hk rfl hki fun _ => r_2p hk rfl hs h5 rfl hw
  have g5 : GoesR k (mkR s k hd sl [(k : Int)] fe el (tQ ki v 5 re se tr rs go) lg) 1 (mkR s k hd sl [(k : Int)] fe el (tQ ki v 7 re s.ee tr rs go) lg) := GoesR.one hk rfl hki fun _ => r_5 hk rfl
  have g7 : GoesR k (mkR s k hd sl [(k : Int)] fe el (tQ ki v 7 re s.ee tr rs go) lg) 1 (mkR s k hd sl [(k : Int)] fe el (tQ ki v 8 re s.ee tr rs go) lg) := GoesR.one hk rfl hki fun _ => r_7 hk rfl rfl hs
  exact ((g2.trans g5).trans g7).trans (GoesR.one hk rfl hki fun _ => r_8 hk rfl rfl hc)
end
/-- Who has ended makes no more steps. -/
theorem GoesR.ends {a u : St} {k n : Nat} (h : GoesR k a n u) (ha : stB a = true) (hu : ∀ m, recvK u k m = (u, 0)) {m : Nat} (hm : n ≤ m) : recvK a k m = (u, n) := by
  obtain ⟨-, e⟩ := h ha
  have := e (m - n)
  rw [show m - n + n = m by omega, hu] at this
  rw [this]; simp
end Go.Proofs.YtjbcfjfnobklkaaGreat

/- Layer 15, plain: what stays in its bounds, of who receives. -/
namespace Go.Proofs.YtjbcfjfnobklkaaGreat
set_option linter.unusedVariables false
set_option linter.unusedSimpArgs false
open Go.RowKit
/-! ### What stays in its bounds -/
theorem recvN_vk {s : St} {n : Nat} (h : Vk s) (hB : stB s = true) (hn : n < s.th.length) (h1 : (gth s.th n).st ≠ 0) : Vk (recvN s n) := by
  have same : ∀ {u : St}, u.cf = s.cf → u.sl = s.sl → u.th = s.th → Vk u := fun e1 e2 e3 => ⟨e1 ▸ h.cf, fun x hx => h.sl x (e2 ▸ hx), fun t ht => h.th t (e3 ▸ ht)⟩
  have h0 : (0 : Int) = 0 := rfl
  have z : In64 0 := by decide
  refine recvN_ind (P := fun u => Vk u) ?_ ?_ ?_ ?_ ?_ ?_ ?_ ?_ ?_ ?_
  · exact (same (u := s.toRc (entL s.rc n)) rfl rfl rfl).on hn fun _ => ⟨rfl, rfl⟩
  · unfold firstR; repeat' split
    · exact h.on hn fun _ => ⟨rfl, rfl⟩
    · exact h.told hB hn (.inr z)
    · exact h.on hn fun _ => ⟨rfl, rfl⟩
  · unfold lookR; repeat' split
    · exact h.on hn fun _ => ⟨rfl, rfl⟩
    · exact h.told hB hn (.inr z)
    · exact h.told hB hn (.inr z)
    · exact h.told hB hn (.inr z)
    · exact h.on hn fun _ => ⟨rfl, rfl⟩
    · exact h.on hn fun _ => ⟨rfl, rfl⟩
  · unfold takeR; repeat' split
    · exact h.on hn fun _ => ⟨rfl, rfl⟩
    · exact h.told hB hn (.inr z)
    · next h2 h3 =>
      have hs : seesR s = 1 := Classical.not_not.1 h3
      have hv : Vk ((s.toWord (s.hd + 1) s.tl s.md).onTh n (regT · s.hd 4)) := (same (u := s.toWord (s.hd + 1) s.tl s.md) rfl rfl rfl).on hn fun _ => ⟨rfl, rfl⟩
      refine hv.told (takeB_ok hB hn h1 hs) (by show n < (s.th.set n _).length; simpa using hn) (.inr ?_)
      have hg : ∀ q, In64 (gs s.sl q).vl := fun q => by
        unfold gs
        rw [List.getD_eq_getElem?_getD]
        cases hx : s.sl[q]? with
        | none => exact z
        | some x => exact h.sl x (List.mem_of_getElem? hx)
      unfold valV
      repeat' split
      all_goals first | exact z | exact hg _
  · unfold readR
    have hsl : ∀ x ∈ rlL s.sl (gth s.th n).re, In64 x.vl := fun x hx => by
      unfold rlL at hx
      split at hx
      · rcases List.mem_or_eq_of_mem_set hx with h2 | rfl
        · exact h.sl x h2
        · show In64 (gs s.sl _).vl
          unfold gs
          rw [List.getD_eq_getElem?_getD]
          cases hx : s.sl[plc s.sl (gth s.th n).re]? with
          | none => exact z
          | some x => exact h.sl x (List.mem_of_getElem? hx)
      · exact h.sl x hx
    have hv : Vk (s.toSl (rlL s.sl (gth s.th n).re)) := ⟨h.cf, hsl, h.th⟩
    refine hv.set ⟨(h.th _ (gth_mem hn)).1, ?_⟩
    show In64 (rdV s.sl (gth s.th n).re)
    unfold rdV
    split
    · unfold gs
      rw [List.getD_eq_getElem?_getD]
      cases hx : s.sl[plc s.sl (gth s.th n).re]? with
      | none => exact z
      | some x => exact h.sl x (List.mem_of_getElem? hx)
    · exact z
  · exact h.on hn fun _ => ⟨rfl, rfl⟩
  · have hv : Vk ((s.toFull (ntE s.fe s.fl) (ntL 1 s.fe s.fl)).onTh n (pcT · 9)) := (same (u := s.toFull (ntE s.fe s.fl) (ntL 1 s.fe s.fl)) rfl rfl rfl).on hn fun _ => ⟨rfl, rfl⟩
    unfold notifyR; split
    · exact hv.wake _
    · exact hv
  · split <;> exact h.on hn fun _ => ⟨rfl, rfl⟩
  · unfold commitR; repeat' split
    · exact h.on hn fun _ => ⟨rfl, rfl⟩
    · exact (same (u := s.toEmpty s.ee (s.el ++ [(n : Int)])) rfl rfl rfl).on hn fun _ => ⟨rfl, rfl⟩
    · exact h.on hn fun _ => ⟨rfl, rfl⟩
  · exact (same (u := s.toRc (lvL s.rc n)) rfl rfl rfl).on hn fun _ => ⟨rfl, rfl⟩
theorem recvS_is {s : St} {n : Nat} (h : runsB s n 2 = true) : recvS s n = recvN s n := by unfold recvS; rw [if_pos h, Int.toNat_natCast]
theorem recvS_all {s : St} (hB : stB s = true) (ho : s.ok) (hl : s.lg.length ≤ 900000) (i : Int) : (recvS s i).ok ∧ (recvS s i).lg.length ≤ s.lg.length + 1 := by
  have hlg : (recvS s i).lg.length ≤ s.lg.length + 1 := by
    rcases (recvS_lgOk s i).1 with h | ⟨x, h⟩ <;> rw [h] <;> simp
  refine ⟨?_, hlg⟩
  cases hr : runsB s i 2
  · have : recvS s i = s := by simp [recvS, hr]
    rw [this]; exact ho
  · obtain ⟨h1, h2, h3⟩ := runs_iff.1 hr
    obtain ⟨-, hi0, hi1⟩ := has_iff.1 h1
    obtain ⟨n, rfl⟩ : ∃ n : Nat, i = n := ⟨i.toNat, by omega⟩
    have hn : n < s.th.length := by omega
    rw [Int.toNat_natCast] at h2
    rw [recvS_is hr] at hlg ⊢
    exact ok_of (recvN_stB hB hn (by omega)) (recvN_vk (.of ho) hB hn (by omega)) (by omega)
theorem recvK_all {i : Int} (k : Nat) : ∀ {s : St}, stB s = true → s.ok → s.lg.length + k ≤ 800000 → (recvK s i k).1.ok ∧ (recvK s i k).1.fit ∧ (recvK s i k).1.lg.length ≤ s.lg.length + k := by
  induction k with
  | zero => intro s hB ho hl; exact ⟨ho, fit_of (s := s) hB (by omega), by show s.lg.length ≤ _; omega⟩
  | succ k ih =>
    intro s hB ho hl
    cases hr : runsB s i 2
    · rw [recvK_off hr]; exact ⟨ho, fit_of (s := s) hB (by omega), by show s.lg.length ≤ _; omega⟩
    · rw [recvK_on hr]
      obtain ⟨h1, h2⟩ := recvS_all hB ho (by omega) i
      obtain ⟨h3, h4, h5⟩ := ih (s := recvS s i) (by rw [recvS_stB]; exact hB) h1 (by omega)
      exact ⟨h3, h4, by show (recvK (recvS s i) i k).1.lg.length ≤ _; omega⟩
end Go.Proofs.YtjbcfjfnobklkaaGreat

/- Layer 14, plain: a fabric of which one thread sent some numbers, one by one, alone. -/
namespace Go.Proofs.YtjbcfjfnobklkaaGreat
set_option linter.unusedVariables false
set_option linter.unusedSimpArgs false
theorem plc_id {l : List Slo} {j : Nat} (h : j < l.length) : plc l j = j := by
  have : placeI (j : Int) l.length = j := by unfold placeI; rw [if_pos (lies_of (by omega) (by omega))]; exact Int.emod_eq_of_lt (by omega) (by omega)
  unfold plc; rw [this]; simp
/-- Thread 0 sent 0, 1, .., i - 1; all are idle. -/
structure AlI (c : Cf) (s : St) (i : Nat) : Prop where
  b : stB s = true
  ok : s.ok
  cf : s.cf = c
  hd : s.hd = 0
  tl : s.tl = i
  md : s.md = 0
  sn : s.sn = []
  el : s.el = []
  fl : s.fl = []
  sl : ∀ j, j < s.sl.length → gs s.sl j = ⟨j, if j < i then j else 0⟩
  id : ∀ j, j < s.th.length → (gth s.th j).st = 0
  lg : s.lg.length = i
section
variable {c : Cf} {s : St} {i : Nat}
theorem AlI.len (h : AlI c s i) : (s.sl.length : Int) = cfR c ∧ (s.th.length : Int) = c.th ∧ 1 ≤ s.th.length ∧ s.th.length ≤ 16 ∧ 2 ≤ s.sl.length ∧ s.sl.length ≤ 64 ∧ i ≤ s.sl.length := by
  have h1 := (word_ok h.b).2.2
  have h2 := th_len h.b
  have h3 := cf_room (st_iff.1 h.b).1
  have h4 := check_len (word_ok h.b).1
  rw [h.hd, h.tl] at h4
  rw [h.cf] at h1 h2 h3
  omega
theorem al_new (hc : cfB c = true) (ho : (newSt c).ok) : AlI c (newSt c) 0 := by
  refine ⟨new_stB hc, ho, rfl, rfl, rfl, rfl, rfl, rfl, rfl, fun j hj => ?_, fun j hj => ?_, rfl⟩
  · have hr := cf_room hc
    have hb : ringB (cfR c) = true := ring_iff.2 (by omega)
    have hs : (newSt c).sl = (List.range (cfR c).toNat).map fun (i : Nat) => (⟨(i : Int), 0⟩ : Slo) := by show newL (cfR c) = _; unfold newL; rw [if_pos hb]
    rw [hs] at hj ⊢
    rw [gs_eq hj]
    simp
  · have : (newSt c).th = List.replicate c.th.toNat th0 := rfl
    rw [this] at hj ⊢
    rw [gth_eq hj]; simp [th0]
theorem AlI.ac (h : AlI c s i) (hi : i < s.sl.length) : acR 0 (i : Int) s.md s.sl.length = 1 := by
  have hc := (word_ok h.b).1
  rw [h.hd, h.tl] at hc
  have := h.len
  exact ac1_iff.2 ⟨hc, h.md, by omega, by omega⟩
theorem AlI.full (h : AlI c s i) (hi : i = s.sl.length) : acR 0 (i : Int) s.md s.sl.length = 2 := by
  have hc := (word_ok h.b).1
  rw [h.hd, h.tl] at hc
  unfold acR haltB
  rw [hc, full_iff hc, h.md]
  simp [hi]
theorem AlI.wr (h : AlI c s i) (hi : i < s.sl.length) : wrE s.sl i = 0 ∧ rdyB s.sl i = true := by
  have hl : liesS s.sl i = true := lies_iff.2 ⟨by omega, (word_ok h.b).2.1⟩
  have hr : rdyB s.sl i = true := by unfold rdyB; rw [hl, plc_id hi, h.sl i hi]; simp
  exact ⟨by unfold wrE; rw [hl, hr]; rfl, hr⟩
theorem wr_gs {l : List Slo} {i j : Nat} {v : Int} (hi : i < l.length) (hr : rdyB l i = true) : gs (wrL l i v) j = if j = i then ⟨i, v⟩ else gs l j := by
  unfold wrL
  rw [if_pos hr, plc_id hi, gs_set hi]
  by_cases e : i = j
  · rw [if_pos e, if_pos e.symm]
  · rw [if_neg e, if_neg (fun h => e h.symm)]
/-- Of which it lets one more in. -/
def al1 (s : St) (k i : Nat) (ki v : Int) : St := mkS s k 0 ((i : Int) + 1) (wrL s.sl i v) [] [] (ntE s.ee []) (tD ki v 1) (s.lg ++ [⟨k, ki, v, 1, 0⟩])
theorem AlI.beg (h : AlI c s i) {k : Nat} (hk : k < s.th.length) {ki v : Int} (hki : 1 ≤ ki ∧ ki ≤ 3) : stBeg s k ki v 0 0 (s.setTh k (tS ki v 0 0 0 0 0)) := by
  have hl := h.len
  refine .inr (.inr ⟨h.b, ?_, k, tS ki v 0 0 0 0 0, rfl, hk, ?_, rfl⟩)
  · unfold opMay
    have hs := side_is ki
    rw [if_neg (by rw [h.cf]; omega), if_neg (by rw [opB_iff.2 (by omega)]; decide), if_neg (by omega)]
  · have h0 := h.id k hk
    by_cases h3 : ki = 3
    · exact .inr (.inr (.inr (.inr ⟨h0, opB_iff.2 (by omega), by simp [opTimed, h3], by omega, rfl, rfl⟩)))
    · exact .inr (.inr (.inl ⟨h0, opB_iff.2 (by omega), by simp [opTimed]; omega, rfl, rfl⟩))
theorem AlI.begB (h : AlI c s i) {k : Nat} {ki v : Int} (hki : 1 ≤ ki ∧ ki ≤ 3) : stB (s.setTh k (tS ki v 0 0 0 0 0)) = true := th_stB h.b (tS_ok hki)
theorem AlI.begO (h : AlI c s i) {k : Nat} {ki v : Int} (hki : 1 ≤ ki ∧ ki ≤ 3) (hv : In64 v) : (s.setTh k (tS ki v 0 0 0 0 0)).ok :=
  ok_of (h.begB hki) ((Vk.of h.ok).set ⟨hv, (by decide : In64 0)⟩) (by have := h.lg; have := h.len; show s.lg.length ≤ 1000000; omega)
theorem AlI.st0 (h : AlI c s i) (k : Nat) (t : Th) : s.setTh k t = mkS s k 0 i s.sl [] [] s.ee t s.lg := by
  rw [mk_self, h.hd, h.tl, h.sn, h.fl]
theorem AlI.run (h : AlI c s i) (hi : i < s.sl.length) {k : Nat} (hk : k < s.th.length) {ki v : Int} (hki : 1 ≤ ki ∧ ki ≤ 3) : sendK (s.setTh k (tS ki v 0 0 0 0 0)) k 100 = (al1 s k i ki v, 7) ∧ stB (al1 s k i ki v) = true := by
  have hl := h.len
  have hs : opSide ki = 1 := by have := side_is ki; omega
  have hB := h.begB (k := k) (v := v) hki
  rw [h.st0] at hB ⊢
  have g := (head_go (s := s) (hd := 0) (tl := i) (sl := s.sl) (fl := []) (ee := s.ee) (v := v) (re := 0) (se := 0) (tr := 0) (rs := 0) (lg := s.lg) hk hs (by omega)).trans (room_go hk hs (by omega) h.el (h.ac hi) (h.wr hi).1)
  exact ⟨g.ends hB (fun m => sendK_off (off_mk hk (show (0 : Int) ≠ 1 by decide)) m) (by omega), (g hB).1⟩
theorem AlI.runO (h : AlI c s i) (hi : i < s.sl.length) {k : Nat} (hk : k < s.th.length) {ki v : Int} (hki : 1 ≤ ki ∧ ki ≤ 3) (hv : In64 v) : (al1 s k i ki v).ok := by
  have hl := h.len
  have := (sendK_all (i := k) 100 (h.begB (k := k) (v := v) hki) (h.begO hki hv) (by have := h.lg; show s.lg.length + 100 ≤ 800000; omega)).1
  rw [(h.run hi hk hki).1] at this
  exact this
/-- One more. -/
theorem AlI.next (h : AlI c s i) (hi : i < s.sl.length) : AlI c (al1 s 0 i 1 i) (i + 1) := by
  have hl := h.len
  have hk : 0 < s.th.length := by omega
  refine ⟨(h.run hi hk (ki := 1) (by decide)).2, h.runO hi hk (by decide) ⟨by omega, by omega⟩, h.cf, rfl, by show (i : Int) + 1 = ((i + 1 : Nat) : Int); omega, h.md, rfl, h.el, rfl, fun j hj => ?_, fun j hj => ?_, by show (s.lg ++ _).length = _; simp [h.lg]⟩
  · have hj' : j < s.sl.length := by have : (al1 s 0 i 1 i).sl.length = s.sl.length := wr_len _ _ _; omega
    show gs (wrL s.sl i i) j = _
    rw [wr_gs hi (h.wr hi).2]
    by_cases e : j = i
    · subst e; rw [if_pos rfl, if_pos (by omega)]
    · rw [if_neg e, h.sl j hj']
      by_cases e2 : j < i
      · rw [if_pos e2, if_pos (by omega)]
      · rw [if_neg e2, if_neg (by omega)]
  · have hj' : j < s.th.length := by have : (al1 s 0 i 1 i).th.length = s.th.length := by simp [al1, mkS]
                                     omega
    show (gth (s.th.set 0 (tD 1 i 1)) j).st = 0
    rw [gth_set hk]
    split
    · rfl
    · exact h.id j hj'
end
end Go.Proofs.YtjbcfjfnobklkaaGreat

/- Layer 15, plain: a fabric into which some numbers were sent, one by one, and some were received. -/
namespace Go.Proofs.YtjbcfjfnobklkaaGreat
set_option linter.unusedVariables false
set_option linter.unusedSimpArgs false
open Go.RowKit
/-! ### Some sent, some received -/
/-- Thread 0 sent b, b + 1, .., of which there are n, and received i of them; all are idle. -/
structure FlI (c : Cf) (v0 : Int) (s : St) (n i : Nat) : Prop where
  b : stB s = true
  ok : s.ok
  cf : s.cf = c
  hd : s.hd = i
  tl : s.tl = n
  le : i ≤ n
  md : s.md = 0
  sn : s.sn = []
  rc : s.rc = []
  el : s.el = []
  fl : s.fl = []
  sl : ∀ j, i ≤ j → j < n → j < s.sl.length → gs s.sl j = ⟨j, v0 + j⟩
  sf : ∀ j, n ≤ j → j < s.sl.length → gs s.sl j = ⟨j, 0⟩
  id : ∀ j, j < s.th.length → (gth s.th j).st = 0
  lg : s.lg.length = n + i
  nl : n ≤ s.sl.length
section
variable {c : Cf} {b : Int} {s : St} {n i : Nat}
theorem FlI.len (h : FlI c b s n i) : (s.sl.length : Int) = cfR c ∧ (s.th.length : Int) = c.th ∧ 1 ≤ s.th.length ∧ s.th.length ≤ 16 ∧ 2 ≤ s.sl.length ∧ s.sl.length ≤ 64 := by
  have h1 := (word_ok h.b).2.2
  have h2 := th_len h.b
  have h3 := cf_room (st_iff.1 h.b).1
  rw [h.cf] at h1 h2 h3
  omega
theorem fl_new (hc : cfB c = true) (ho : (newSt c).ok) (b : Int) : FlI c b (newSt c) 0 0 := by
  have h := al_new hc ho
  exact ⟨h.b, h.ok, h.cf, h.hd, h.tl, Nat.le_refl _, h.md, h.sn, rfl, h.el, h.fl, fun j _ hj => by omega, fun j _ hj => by rw [h.sl j hj, if_neg (by omega)], h.id, h.lg, by omega⟩
theorem FlI.begB (h : FlI c b s n i) {ki v : Int} (hki : 1 ≤ ki ∧ ki ≤ 6) : stB (s.setTh 0 (tQ ki v 0 0 0 0 0 0)) = true := by
  refine th_stB h.b ?_
  rw [thB_iff]; have : bI false = 0 := rfl; omega
theorem FlI.begO (h : FlI c b s n i) {ki v : Int} (hki : 1 ≤ ki ∧ ki ≤ 6) (hv : In64 v) : (s.setTh 0 (tQ ki v 0 0 0 0 0 0)).ok :=
  ok_of (h.begB hki) ((Vk.of h.ok).set ⟨hv, (by decide : In64 0)⟩) (by have := h.lg; have := h.len; have := h.nl; have := h.le; show s.lg.length ≤ 1000000; omega)
theorem FlI.beg (h : FlI c b s n i) {ki v : Int} (hki : 1 ≤ ki ∧ ki ≤ 6) : stBeg s 0 ki v 0 0 (s.setTh 0 (tQ ki v 0 0 0 0 0 0)) := by
  have hl := h.len
  have h0 := h.id 0 (by omega)
  refine .inr (.inr ⟨h.b, ?_, 0, tQ ki v 0 0 0 0 0 0, rfl, by omega, ?_, rfl⟩)
  · unfold opMay
    rw [if_neg (by rw [h.cf]; omega), if_neg (by rw [opB_iff.2 (by omega)]; decide), if_neg (by omega)]
  · by_cases h3 : ki = 3 ∨ ki = 6
    · refine .inr (.inr (.inr (.inr ⟨h0, opB_iff.2 (by omega), ?_, by omega, rfl, rfl⟩)))
      rcases h3 with rfl | rfl <;> decide
    · exact .inr (.inr (.inl ⟨h0, opB_iff.2 (by omega), by simp [opTimed]; omega, rfl, rfl⟩))
/-- One more is let in. -/
def flS (s : St) (b : Int) (n : Nat) : St := mkS s 0 0 ((n : Int) + 1) (wrL s.sl n (b + n)) [] [] (ntE s.ee []) (tD 1 (b + n) 1) (s.lg ++ [⟨((0 : Nat) : Int), 1, b + n, 1, 0⟩])
theorem FlI.send (h : FlI c b s n 0) (hb : In64 (b + n)) (hn : n < s.sl.length) : sendK (s.setTh 0 (tQ 1 (b + n) 0 0 0 0 0 0)) ((0 : Nat) : Int) 100 = (flS s b n, 7) ∧ FlI c b (flS s b n) (n + 1) 0 := by
  have hl := h.len
  have hk : 0 < s.th.length := by omega
  have hc := (word_ok h.b).1
  have e0 : (((0 : Nat) : Int)) = 0 := rfl
  rw [h.hd, h.tl] at hc
  have hac : acR 0 (n : Int) s.md s.sl.length = 1 := ac1_iff.2 ⟨hc, h.md, by omega, by omega⟩
  have hli : liesS s.sl n = true := lies_iff.2 ⟨by omega, (word_ok h.b).2.1⟩
  have hrd : rdyB s.sl n = true := by unfold rdyB; rw [hli, plc_id hn, h.sf n (Nat.le_refl _) hn]; simp
  have hwr : wrE s.sl n = 0 := by unfold wrE; rw [hli, hrd]; rfl
  have hB := h.begB (ki := 1) (v := b + n) (by decide)
  have est : s.setTh 0 (tQ 1 (b + n) 0 0 0 0 0 0) = mkS s 0 0 n s.sl [] [] s.ee (tS 1 (b + n) 0 0 0 0 0) s.lg := by rw [mk_self, h.hd, h.tl, h.sn, h.fl]; rfl
  have g := (head_go (s := s) (hd := 0) (tl := n) (sl := s.sl) (fl := []) (ee := s.ee) (ki := 1) (v := b + n) (re := 0) (se := 0) (tr := 0) (rs := 0) (lg := s.lg) (k := 0) hk (by decide) (by omega)).trans (room_go hk (by decide) (by omega) h.el hac hwr)
  have hrun : sendK (s.setTh 0 (tQ 1 (b + n) 0 0 0 0 0 0)) ((0 : Nat) : Int) 100 = (flS s b n, 7) := by
    rw [est] at hB ⊢
    exact g.ends hB (fun m => sendK_off (off_mk hk (show (0 : Int) ≠ 1 by decide)) m) (by omega)
  have hB' : stB (flS s b n) = true := by rw [est] at hB; exact (g hB).1
  refine ⟨hrun, ⟨hB', ?_, h.cf, rfl, by show (n : Int) + 1 = ((n + 1 : Nat) : Int); omega, by omega, h.md, rfl, h.rc, h.el, rfl, fun j _ hj hj' => ?_, fun j hj hj' => ?_, fun j hj => ?_, by show (s.lg ++ _).length = _; simp [h.lg], by show n + 1 ≤ (wrL s.sl n (b + n)).length; rw [wr_len]; omega⟩⟩
  · have := (sendK_all (i := ((0 : Nat) : Int)) 100 (h.begB (ki := 1) (v := b + n) (by decide)) (h.begO (by decide) hb) (by have := h.lg; have := h.nl; show s.lg.length + 100 ≤ 800000; omega)).1
    rw [hrun] at this; exact this
  · show gs (wrL s.sl n (b + n)) j = _
    have hj2 : j < s.sl.length := by have : (flS s b n).sl.length = s.sl.length := wr_len _ _ _; omega
    rw [wr_gs hn hrd]
    by_cases e : j = n
    · subst e; rw [if_pos rfl]
    · rw [if_neg e]; exact h.sl j (by omega) (by omega) hj2
  · show gs (wrL s.sl n (b + n)) j = _
    have hj2 : j < s.sl.length := by have : (flS s b n).sl.length = s.sl.length := wr_len _ _ _; omega
    rw [wr_gs hn hrd, if_neg (by omega)]
    exact h.sf j (by omega) hj2
  · have hj' : j < s.th.length := by have : (flS s b n).th.length = s.th.length := len_mk; omega
    show (gth (s.th.set 0 _) j).st = 0
    rw [gth_set hk]
    split
    · rfl
    · exact h.id j hj'
theorem FlI.tk (h : FlI c b s n i) : tkR (i : Int) s.tl s.md s.sl.length = if i < n then 1 else 4 := by
  have hs := seesR_or h.b
  have hl := h.le
  unfold seesR at hs
  rw [h.hd] at hs
  have e1 := h.tl
  have e2 := h.md
  split
  · rcases hs with ⟨h1, -⟩ | ⟨-, -, h2⟩ | ⟨-, h2, -⟩ | ⟨-, h2⟩ <;> omega
  · rcases hs with ⟨-, -, h1⟩ | ⟨h1, -⟩ | ⟨-, h2, -⟩ | ⟨-, h2⟩ <;> omega
theorem FlI.est (h : FlI c b s n i) (t : Th) : s.setTh 0 t = mkR s 0 i s.sl [] s.fe [] t s.lg := by
  show mkR s 0 s.hd s.sl s.rc s.fe s.el t s.lg = _
  rw [h.hd, h.rc, h.el]
/-- One more is received. -/
def flR (s : St) (b : Int) (i : Nat) (ki : Int) : St := mkR s 0 ((i : Int) + 1) (rlL s.sl i) [] (ntE s.fe []) [] (tE ki 0 1 (b + i)) (s.lg ++ [⟨((0 : Nat) : Int), ki, 0, 1, b + i⟩])
theorem FlI.recv (h : FlI c b s n i) (hi : i < n) {ki : Int} (hki : 4 ≤ ki ∧ ki ≤ 6) : recvK (s.setTh 0 (tQ ki 0 0 0 0 0 0 0)) ((0 : Nat) : Int) 100 = (flR s b i ki, 7) ∧ FlI c b (flR s b i ki) n (i + 1) := by
  have hl := h.len
  have hnl := h.nl
  have hk : 0 < s.th.length := by omega
  have hs : opSide ki = 2 := by have := side_is ki; omega
  have htk := h.tk
  rw [if_pos hi] at htk
  have hg := h.sl i (Nat.le_refl _) hi (by omega)
  have hp := plc_id (l := s.sl) (j := i) (by omega)
  have hrd : rdyB s.sl i = true := by
    unfold rdyB; rw [show liesS s.sl i = true from lies_iff.2 ⟨by omega, (word_ok h.b).2.1⟩, hp, hg]; simp
  have hrdv : rdV s.sl i = b + i := by unfold rdV; rw [if_pos hrd, hp, hg]
  have hB := h.begB (ki := ki) (v := 0) (by omega)
  have est := h.est (tQ ki 0 0 0 0 0 0 0)
  have g := (headR_go (s := s) (hd := i) (sl := s.sl) (el := []) (fe := s.fe) (ki := ki) (v := 0) (re := 0) (se := 0) (tr := 0) (rs := 0) (go := 0) (lg := s.lg) (k := 0) hk hs (by omega)).trans (takeR_go hk hs (by omega) h.fl htk (by omega))
  have eu : mkR s 0 ((i : Int) + 1) (rlL s.sl i) [] (ntE s.fe []) [] (tE ki 0 1 (rdV s.sl i)) (s.lg ++ [⟨((0 : Nat) : Int), ki, 0, 1, (gs s.sl (plc s.sl i)).vl⟩]) = flR s b i ki := by
    rw [hrdv, hp, hg]; rfl
  rw [eu] at g
  have hrun : recvK (s.setTh 0 (tQ ki 0 0 0 0 0 0 0)) ((0 : Nat) : Int) 100 = (flR s b i ki, 7) := by
    rw [est] at hB ⊢
    exact g.ends hB (fun m => recvK_off (off_mr hk (show (0 : Int) ≠ 1 by decide)) m) (by omega)
  have hB' : stB (flR s b i ki) = true := by rw [est] at hB; exact (g hB).1
  have hrg : ∀ j, j ≠ i → gs (rlL s.sl i) j = gs s.sl j := fun j hj => by
    unfold rlL
    split
    · rw [hp, gs_set (by omega), if_neg (fun e => hj e.symm)]
    · rfl
  refine ⟨hrun, ⟨hB', ?_, h.cf, by show (i : Int) + 1 = ((i + 1 : Nat) : Int); omega, h.tl, by omega, h.md, h.sn, rfl, rfl, h.fl, fun j h1 h2 h3 => ?_, fun j h1 h2 => ?_, fun j hj => ?_, by show (s.lg ++ _).length = _; simp [h.lg]; omega, by show n ≤ (rlL s.sl i).length; rw [rl_len]; omega⟩⟩
  · have := (recvK_all (i := ((0 : Nat) : Int)) 100 (h.begB (ki := ki) (v := 0) (by omega)) (h.begO (by omega) (by decide)) (by have := h.lg; have := h.le; show s.lg.length + 100 ≤ 800000; omega)).1
    rw [hrun] at this; exact this
  · show gs (rlL s.sl i) j = _
    have h3' : j < s.sl.length := by have : (flR s b i ki).sl.length = s.sl.length := rl_len _ _; omega
    rw [hrg j (by omega)]; exact h.sl j (by omega) h2 h3'
  · show gs (rlL s.sl i) j = _
    have h3' : j < s.sl.length := by have : (flR s b i ki).sl.length = s.sl.length := rl_len _ _; omega
    rw [hrg j (by omega)]; exact h.sf j h1 h3'
  · have hj' : j < s.th.length := by have : (flR s b i ki).th.length = s.th.length := len_mr; omega
    show (gth (s.th.set 0 _) j).st = 0
    rw [gth_set hk]
    split
    · rfl
    · exact h.id j hj'
/-! ### And then there is nothing -/
theorem FlI.way (h : FlI c b s n i) (m : Int) : waySt s m = wayI c.wt c.sp c.yi m := by
  have hm : mayB c.lg c.th c.po c.wt c.sp c.yi = true := by have := (st_iff.1 h.b).1; rw [h.cf] at this; exact this
  unfold waySt; rw [h.cf]; exact if_pos hm
theorem FlI.cf_is (h : FlI c b s n i) : 1 ≤ c.lg ∧ c.lg ≤ 6 ∧ 1 ≤ c.th ∧ c.th ≤ 16 ∧ 0 ≤ c.po ∧ c.po ≤ 2 ∧ 0 ≤ c.wt ∧ c.wt ≤ 3 ∧ 0 ≤ c.sp ∧ c.sp ≤ 8 ∧ 0 ≤ c.yi ∧ c.yi ≤ 8 ∧ (c.wt = 2 ∨ c.sp = 0 ∧ c.yi = 0) := by
  have := (st_iff.1 h.b).1; rw [h.cf] at this; exact may_iff.1 (show mayB c.lg c.th c.po c.wt c.sp c.yi = true from this)
theorem FlI.tk4 (h : FlI c b s n n) : tkR (n : Int) s.tl s.md s.sl.length = 4 := by have := h.tk; rwa [if_neg (by omega)] at this
/-- It is told so. -/
theorem FlI.none (h : FlI c b s n n) : recvK (s.setTh 0 (tQ 5 0 0 0 0 0 0 0)) ((0 : Nat) : Int) 100 = (mkR s 0 n s.sl [] s.fe [] (tE 5 0 4 0) (s.lg ++ [⟨((0 : Nat) : Int), 5, 0, 4, 0⟩]), 4) := by
  have hl := h.len
  have hk : 0 < s.th.length := by omega
  have hB := h.begB (ki := 5) (v := 0) (by decide)
  rw [h.est] at hB ⊢
  have g := (headR_go (s := s) (hd := n) (sl := s.sl) (el := []) (fe := s.fe) (ki := 5) (v := 0) (re := 0) (se := 0) (tr := 0) (rs := 0) (go := 0) (lg := s.lg) (k := 0) hk (by decide) (by omega)).trans (none_go hk (by decide) (by omega) h.tk4 rfl)
  exact g.ends hB (fun m => recvK_off (off_mr hk (show (0 : Int) ≠ 1 by decide)) m) (by omega)
/-- It waits. -/
theorem FlI.parks (h : FlI c b s n n) {ki : Int} (hki : ki = 4 ∨ ki = 6) (hw : c.wt = 2 ∨ c.wt = 3) : ∃ m : Nat, m ≤ 100 ∧
    recvK (s.setTh 0 (tQ ki 0 0 0 0 0 0 0)) ((0 : Nat) : Int) 100 = (mkR s 0 n s.sl [((0 : Nat) : Int)] s.fe ([] ++ [((0 : Nat) : Int)]) ⟨2, ki, 0, 0, 2, 0, s.ee, 0, false, 0, 0⟩ s.lg, m) := by
  have hl := h.len
  have hs : opSide ki = 2 := by have := side_is ki; omega
  have hk : 0 < s.th.length := by omega
  have hcf := h.cf_is
  have hc : cmB s.ee [] s.ee ((0 : Nat) : Int) = true := by
    have := (full_lines h.b).2.2.2.2.2
    rw [h.el] at this
    unfold cmB; rw [this, show entE [] ((0 : Nat) : Int) = 0 by decide]; simp
  obtain ⟨q, hq⟩ : ∃ q : Nat, (q : Int) = c.sp + c.yi := ⟨(c.sp + c.yi).toNat, by omega⟩
  have g0 := headR_go (s := s) (hd := n) (sl := s.sl) (el := []) (fe := s.fe) (ki := ki) (v := 0) (re := 0) (se := 0) (tr := 0) (rs := 0) (go := 0) (lg := s.lg) (k := 0) hk hs (by omega)
  have hg := tryR_go (s := s) (k := 0) (hd := n) (sl := s.sl) (el := []) (fe := s.fe) (ki := ki) (v := 0) (re := 0) (se := 0) (rs := 0) (go := 0) (lg := s.lg) hk hs h.tk4 (by omega) q 0 (by omega) (fun j hj => by
    rw [h.way, Int.zero_add]; unfold wayI
    rcases hw with hw | hw
    · rw [if_neg (by omega), if_neg (by omega), if_pos hw]
      split
      · omega
      · rw [if_pos (by omega)]; omega
    · omega)
  have hg2 := parkR_go (s := s) (k := 0) (hd := n) (sl := s.sl) (el := []) (fe := s.fe) (ki := ki) (v := 0) (re := 0) (se := 0) (tr := 0 + (q : Int)) (rs := 0) (go := 0) (lg := s.lg) hk hs h.tk4 (by omega) (by
    rw [h.way, Int.zero_add, hq]; unfold wayI
    rcases hw with hw | hw
    · rw [if_neg (by omega), if_neg (by omega), if_pos hw, if_neg (by omega), if_neg (by omega)]
    · rw [if_neg (by omega), if_neg (by omega), if_neg (by omega)]) hc
  have hB := h.begB (ki := ki) (v := 0) (by omega)
  rw [h.est] at hB ⊢
  exact ⟨2 + q + 4, by omega, ((g0.trans hg).trans hg2).ends hB (fun m => recvK_off (off_mr hk (show (2 : Int) ≠ 1 by decide)) m) (by omega)⟩
/-- It goes on without end. -/
theorem FlI.busy (h : FlI c b s n n) {ki : Int} (hki : ki = 4 ∨ ki = 6) (hw : c.wt ≠ 2 ∧ c.wt ≠ 3) :
    recvK (s.setTh 0 (tQ ki 0 0 0 0 0 0 0)) ((0 : Nat) : Int) 100 = (mkR s 0 n s.sl [((0 : Nat) : Int)] s.fe [] (tQ ki 0 2 0 0 98 0 0) s.lg, 100) := by
  have hl := h.len
  have hs : opSide ki = 2 := by have := side_is ki; omega
  have hk : 0 < s.th.length := by omega
  have hcf := h.cf_is
  have g0 := headR_go (s := s) (hd := n) (sl := s.sl) (el := []) (fe := s.fe) (ki := ki) (v := 0) (re := 0) (se := 0) (tr := 0) (rs := 0) (go := 0) (lg := s.lg) (k := 0) hk hs (by omega)
  have hg := tryR_go (s := s) (k := 0) (hd := n) (sl := s.sl) (el := []) (fe := s.fe) (ki := ki) (v := 0) (re := 0) (se := 0) (rs := 0) (go := 0) (lg := s.lg) hk hs h.tk4 (by omega) 98 0 (by omega) (fun j hj => by
    rw [h.way]; unfold wayI
    split
    · omega
    · split
      · omega
      · omega)
  have hB := h.begB (ki := ki) (v := 0) (by omega)
  rw [h.est] at hB ⊢
  exact ((g0.trans hg) hB).2 0
end
end Go.Proofs.YtjbcfjfnobklkaaGreat

/- A new fabric, into which some were sent, one by one: what the program's call hands back. -/
namespace Go.Proofs.YtjbcfjfnobklkaaGreat
set_option linter.unusedVariables false
set_option linter.unusedSimpArgs false
open Go.RowKit
/-- 10, 11, .. were sent, of which there are n. -/
def flN (c : Cf) : Nat → St
  | 0 => newSt c
  | n + 1 => flS (flN c n) 10 n
theorem flN_is {c : Cf} (hc : cfB c = true) (ho : (newSt c).ok) : ∀ n : Nat, (n : Int) ≤ cfR c → FlI c 10 (flN c n) n 0
  | 0, _ => fl_new hc ho 10
  | n + 1, h => by
    have ih := flN_is hc ho n (by omega)
    have := ih.len
    have hr := cf_room hc
    exact (ih.send ⟨by omega, by omega⟩ (by omega)).2

def bSq (s : St) : Option Blk := some ⟨true, false, 20, 1, [stT s]⟩
def tFi (n i : Nat) : List (Nat × Value) := [(1, .int .i64 n), (4, pt 0), (5, vD false), (6, pt 1), (8, .int .i64 i)]
def hdFi (s : St) (n i : Nat) : Sg := ⟨mkT 40 (tFi n i), [bZ, bSq s]⟩
theorem min100' : (min (100 : Int) 1000).toNat = 100 := by decide
section
variable {c : Cf} {n : Nat}
theorem FlI.inv {v0 : Int} {s : St} {n i : Nat} (h : FlI c v0 s n i) {ki v : Int} (hki : 1 ≤ ki ∧ ki ≤ 6) : AC Tryz.prog 23 [stT s, .int .i64 0, .int .i64 ki, .int .i64 v, .int .i64 0] (.tuple #[stT (s.setTh 0 (tQ ki v 0 0 0 0 0 0)), .int .i64 0]) :=
  ac_pinvoke (h.beg hki) h.ok (fit_of h.b (by have := h.lg; have := h.len; have := h.nl; have := h.le; omega))
theorem FlI.sst {v0 : Int} {s : St} {n : Nat} (h : FlI c v0 s n 0) (hv : In64 (v0 + n)) (hn : n < s.sl.length) : AC Tryz.prog 58 [stT (s.setTh 0 (tQ 1 (v0 + n) 0 0 0 0 0 0)), .int .i64 0, .int .i64 100] (.tuple #[stT (flS s v0 n), .int .i64 7]) := by
  have hl := h.len
  have hg : (s.setTh 0 (tQ 1 (v0 + n) 0 0 0 0 0 0)).lg.length = n + 0 := h.lg
  have := ac_pst (i := ((0 : Nat) : Int)) (m := 100) (h.begO (by decide) hv) (fit_of (h.begB (ki := 1) (v := v0 + n) (by decide)) (by omega)) (by omega)
  rw [min100', (h.send hv hn).1] at this
  exact this
set_option maxRecDepth 100000 in
theorem fi_lp (hc : cfB c = true) (ho : (newSt c).ok) (hn : (n : Int) ≤ cfR c) : ∀ (k i : Nat), n - i = k → i ≤ n → LoopP Tryz.prog (loopOf Tryz.prog 22 0) (hdFi (flN c i) n i) (.exit 0) (hdFi (flN c n) n n)
  | 0, i, hk, hi => by
    have : i = n := by omega
    subst this
    exact loop_end mixed (ext := []) (fuel := 9) (n := 3) (im := [0, 1]) (keep := [1, 4, 5, 6, 8]) (orc := [.bool false]) (an (show decide ((i : Int) < i) = false by simp) trivial) (by intro e; cases e) (by kernel_rfl)
  | k + 1, i, hk, hi => by
    have h := flN_is hc ho i (by omega)
    have hl := h.len
    have hr := cf_room hc
    have ih := fi_lp hc ho hn k (i + 1) (by omega) (by omega)
    rw [show flN c (i + 1) = flS (flN c i) 10 i from rfl] at ih
    have cast : ((i + 1 : Nat) : Int) = (i : Int) + 1 := by omega
    unfold hdFi tFi at ih ⊢
    rw [cast] at ih
    exact loop_more mixed (ext := [23, 58]) (fuel := 9) (n := 3) (im := [0, 1]) (keep := [1, 4, 5, 6, 8]) (orc := [.bool true, .tuple #[stT ((flN c i).setTh 0 (tQ 1 (10 + (i : Int)) 0 0 0 0 0 0)), .int .i64 0], .tuple #[stT (flS (flN c i) 10 i), .int .i64 7]])
      (an (show decide ((i : Int) < n) = true by simp; omega) <| an (show In64 (10 + (i : Int)) by constructor <;> omega) <| an (h.inv (ki := 1) (v := 10 + i) (by decide)) <| an (h.sst ⟨by omega, by omega⟩ (by omega)) <| an (show In64 ((i : Int) + 1) by constructor <;> omega) trivial) (by kernel_rfl) ih
set_option maxRecDepth 100000 in
theorem ac_filled (hc : cfB c = true) (ho : (newSt c).ok) (hn : (n : Int) ≤ cfR c) : AC Tryz.prog 22 [cfT c, .int .i64 n] (.tuple #[stT (flN c n), .bool true]) :=
  ac_path mixed (ext := [57, 23, 58]) (fuel := 9) (n := 5) (orc := [.tuple #[stT (newSt c), .int .i64 0], .nilFunc, oL [1, 2] [1, 4, 5, 6, 8] 0 (tFi n n) [bZ, bSq (flN c n)]])
    (an (ac_pnew hc) <| an (fi_lp hc ho hn n 0 (by omega) (by omega)) trivial) (by kernel_rfl)
set_option maxRecDepth 100000 in
theorem ac_filled_no (hc : cfB c = false) (n : Int) : AC Tryz.prog 22 [cfT c, .int .i64 n] (.tuple #[stT st0, .bool false]) :=
  ac_path mixed (ext := [57, 23, 58]) (fuel := 9) (n := 5) (orc := [.tuple #[stT st0, .int .i64 20], .nilFunc]) (an (ac_pnew_no hc) trivial) (by kernel_rfl)
end
end Go.Proofs.YtjbcfjfnobklkaaGreat

/- The states that the head of layer 15's laws goes through. -/
namespace Go.Proofs.YtjbcfjfnobklkaaGreat
set_option linter.unusedVariables false
set_option linter.unusedSimpArgs false
open Go.RowKit
def e0R : En := ⟨0, 1, 10, 1, 0⟩
def e1R : En := ⟨1, 4, 0, 1, 10⟩
def t0R : Th := ⟨0, 1, 10, 0, 0, 0, 0, 0, false, 1, 0⟩
def vR : St := ⟨cW, 0, 1, 0, [⟨0, 10⟩, ⟨1, 0⟩], [], [], 0, [], 1, [], 0, [t0R, th0], [e0R]⟩
def xR : St := vR.setTh 1 ⟨1, 4, 0, 0, 0, 0, 0, 0, false, 0, 0⟩
def aR : St := ⟨cW, 1, 1, 0, [⟨2, 10⟩, ⟨1, 0⟩], [], [], 1, [], 1, [], 0, [t0R, ⟨0, 4, 0, 0, 0, 0, 0, 0, false, 1, 10⟩], [e0R, e1R]⟩
def bR : St := ⟨cW, 1, 1, 0, [⟨0, 10⟩, ⟨1, 0⟩], [], [1], 0, [], 1, [], 0, [t0R, ⟨1, 4, 0, 0, 4, 0, 0, 0, false, 1, 10⟩], [e0R, e1R]⟩
def yR : St := aR.setTh 0 ⟨1, 5, 0, 0, 0, 0, 0, 0, false, 0, 0⟩
def zR : St := ⟨cW, 1, 1, 0, [⟨2, 10⟩, ⟨1, 0⟩], [], [], 1, [], 1, [], 0, [⟨0, 5, 0, 0, 0, 0, 0, 0, false, 4, 0⟩, ⟨0, 4, 0, 0, 0, 0, 0, 0, false, 1, 10⟩], [e0R, e1R, ⟨0, 5, 0, 4, 0⟩]⟩
theorem w_ar : recvK xR 1 100 = (aR, 7) := by rfl
theorem w_br : recvK xR 1 4 = (bR, 4) := by rfl
theorem w_zr : recvK yR 0 100 = (zR, 4) := by rfl
theorem vR_b : stB vR = true := by decide
theorem xR_b : stB xR = true := by decide
theorem aR_b : stB aR = true := by decide
theorem yR_b : stB yR = true := by decide
theorem in_small {s : St} (hB : stB s = true) (hc : s.cf = cW) (hs : ∀ x ∈ s.sl, 0 ≤ x.vl ∧ x.vl ≤ 100) (ht : ∀ t ∈ s.th, (0 ≤ t.va ∧ t.va ≤ 100) ∧ 0 ≤ t.go ∧ t.go ≤ 100) (hl : s.lg.length ≤ 1000000) : s.ok :=
  ok_of hB ⟨hc ▸ cW_in, fun x hx => by have := hs x hx; constructor <;> omega, fun t h => by have := ht t h; exact ⟨⟨by omega, by omega⟩, ⟨by omega, by omega⟩⟩⟩ hl
theorem vR_in : vR.ok := in_small vR_b rfl (by decide) (by decide) (by decide)
theorem xR_in : xR.ok := in_small xR_b rfl (by decide) (by decide) (by decide)
theorem aR_in : aR.ok := in_small aR_b rfl (by decide) (by decide) (by decide)
theorem yR_in : yR.ok := in_small yR_b rfl (by decide) (by decide) (by decide)
theorem w_ix : stBeg vR 1 4 0 0 0 xR := .inr (.inr ⟨vR_b, by decide, 1, ⟨1, 4, 0, 0, 0, 0, 0, 0, false, 0, 0⟩, rfl, by decide, beg_ok_u (t := gth vR.th 1) (v := 0) (u := 0) (by decide) (by decide) (by decide), rfl⟩)
theorem w_iy : stBeg aR 0 5 0 0 0 yR := .inr (.inr ⟨aR_b, by decide, 0, ⟨1, 5, 0, 0, 0, 0, 0, 0, false, 0, 0⟩, rfl, by decide, beg_ok_u (t := gth aR.th 0) (v := 0) (u := 0) (by decide) (by decide) (by decide), rfl⟩)
end Go.Proofs.YtjbcfjfnobklkaaGreat

/- The program's receive: what is known at the head of its loop. -/
namespace Go.Proofs.YtjbcfjfnobklkaaGreat
set_option linter.unusedVariables false
set_option linter.unusedSimpArgs false
open Go.RowKit
/-- What the map of steps holds: a closure on to one step, and a method value. -/
def vClo (x : Nat) (b : Value) (g : Nat) (k : Int) : Value := .func (.func 72) #[] #[vFz [.func (.func g) #[pt x] #[]], b, vFz [.int .i64 k]]
def vMet (x : Nat) (g : Nat) : Value := .func (.func g) #[pt x] #[]
def vEn (k : Int) (v : Value) : Value := .agg #[.int .i64 k, v]
def els9 (x : Nat) (b : Value) : List Value := [vEn 0 (vClo x b 74 1), vEn 1 (vMet x 75), vEn 2 (vMet x 76), vEn 3 (vMet x 77), vEn 4 (vClo x b 78 6), vEn 5 (vClo x b 79 7), vEn 6 (vClo x b 80 9), vEn 7 (vMet x 81), vEn 8 (vMet x 82)]
def bMp (x : Nat) (b : Value) : Option Blk := some ⟨true, false, 0, 0, els9 x b ++ [vEn 9 (vMet x 83), vEn 10 (vMet x 83), vEn 11 (vMet x 83)]⟩
def bBx (x : Nat) : Option Blk := some ⟨true, false, 1, 1, [pt x]⟩
/-- At the head of the loop: many m, often o. -/
def hdV (s : St) (i m o : Int) (N : Nat) : Sg := ⟨mkT 41 [(2, .int .i64 m), (6, pt 2), (8, pt 0), (9, .map (some 4)), (10, .int .i64 o)], [bX s i N, bT s.th N, bZ, bBx 0, bMp 0 (pt 3)]⟩
theorem ac_pread (l : List Slo) (q : Int) (hm : l.length ≤ 1000) (hq : In64 q) : AC Tryz.prog 156 [rowS l, .int .i64 q] (.tuple #[.int .i64 (rdV l q), .int .i64 (rdE l q)]) := by
  intro O W vs hl hat ; obtain ⟨ys, rfl, _, _, rfl, h0, _, _, rfl, h1, rfl⟩ := args_of hat
  obtain ⟨p, k, rfl, hs⟩ := rp_rowS.1 h0
  rw [rp_int] at h1
  subst h1
  refine (sread_any l q p k W hs.s hm hq).mono ?_
  rintro e W' ⟨rfl, hk⟩
  exact ⟨_, rfl, tup2 (rp_int.2 rfl) (rp_int.2 rfl), hk⟩
/-- One more round: thread n, at step c, receives. -/
structure Rv (s : St) (n : Nat) (t : Th) (c m o : Int) : Prop where
  lt : decide (o < min m 1000) = true
  ck : stB s = true
  ok : s.ok
  hn : n < s.th.length
  ht : gth s.th n = pcT t c
  rs : thRuns t.st = 0
  sd : opSide t.ki = 2
  fit : s.fit
  o1 : In64 (o + 1)
section
variable {s : St} {n : Nat} {t : Th} {c m o : Int}
theorem Rv.ge (_h : Rv s n t c m o) : decide ((n : Int) < 0) = false := by simp
theorem Rv.le (h : Rv s n t c m o) : decide ((s.th.length : Int) ≤ n) = false := by have := h.hn; simp; omega
theorem Rv.el (h : Rv s n t c m o) : ElP (s.th.map thT) (0 + (n : Int).toNat) (thT (pcT t c)) := h.ht ▸ elT h.hn
theorem Rv.ru (h : Rv s n t c m o) : AC Tryz.prog 84 [thT (pcT t c)] (.int .i64 0) := ac_pruns (t := pcT t c) h.rs
theorem Rv.si (h : Rv s n t c m o) : AC Tryz.prog 85 [.int .i64 (pcT t c).ki] (.int .i64 2) := by have := ac_pside (pcT t c).ki; exact h.sd ▸ this
theorem Rv.id (h : Rv s n t c m o) : 0 ≤ (n : Int) ∧ (n : Int).toNat < s.th.length := idT h.hn
theorem Rv.ln (_h : Rv s n t c m o) : LenP s.th.length s.th.length (s.th.map thT) := len_map s.th
theorem Rv.ln1 (_h : Rv s n t c m o) (u : Th) : LenP s.th.length (s.th.set n u).length ((s.th.set n u).map thT) := ⟨by simp, by simp⟩
theorem Rv.has (h : Rv s n t c m o) : hasB s n = true := has_iff.2 ⟨h.ck, by omega, by have := h.hn; omega⟩
theorem Rv.nk (h : Rv s n t c m o) : (t.ki != 9) = true := by
  have := h.sd
  by_cases e : t.ki = 9
  · rw [e] at this; exact absurd this (by decide)
  · simp [e]
theorem Rv.tell {r : Int} (h : Rv s n t c m o) : AO Tryz.prog 200 [stT s, .int .i64 n, .int .i64 t.ki, .int .i64 r, .int .i64 0] (stL ((s.setTh n (rgT (pcT t c) r 0)).addLg (tlE s n t.ki r 0))) 18 11 := tell_c h.has h.ht h.nk h.ok h.fit
theorem Rv.ids (h : Rv s n t c m o) (u : Th) : 0 ≤ (n : Int) ∧ (n : Int).toNat < (s.th.set n u).length := idT (by rw [List.length_set]; exact h.hn)
theorem Rv.idw (h : Rv s n t c m o) (q : Nat) (u : Th) : 0 ≤ (n : Int) ∧ (n : Int).toNat < (s.th.set q u).length := idT (by rw [List.length_set]; exact h.hn)
theorem Rv.ids2 (h : Rv s n t c m o) (u v : Th) : 0 ≤ (n : Int) ∧ (n : Int).toNat < ((s.th.set n u).set n v).length := idT (by rw [List.length_set, List.length_set]; exact h.hn)
theorem Rv.el22 (h : Rv s n t c m o) (u v : Th) : ElP (((s.th.set n u).set n v).map thT) (0 + (n : Int).toNat) (thT v) := el2 (by rw [List.length_set]; exact h.hn) v
theorem Rv.el23 (h : Rv s n t c m o) (u v w : Th) : ElP ((((s.th.set n u).set n v).set n w).map thT) (0 + (n : Int).toNat) (thT w) := el2 (by rw [List.length_set, List.length_set]; exact h.hn) w
theorem Rv.len (h : Rv s n t c m o) : In64 (s.sl.length : Int) := by have := h.fit.sl; constructor <;> omega
theorem Rv.sees {r : Int} (h : Rv s n t c m o) (hs : seesR s = r) : AC Tryz.prog 201 [wdT s.hd s.tl s.md, .int .i64 s.sl.length] (.tuple #[.int .i64 (seesS s), .int .i64 r]) := hs ▸ ac_psees s.hd s.tl s.md s.sl.length h.ok.hd h.ok.tl h.ok.md h.len
theorem Rv.take {r v p : Int} (h : Rv s n t c m o) (hs : seesR s = r) (hH : tkH s.hd s.tl s.md s.sl.length = v) (hP : tkP s.hd s.tl s.md s.sl.length = p) : AC Tryz.prog 154 [wdT s.hd s.tl s.md, .int .i64 s.sl.length] (.tuple #[wdT v s.tl s.md, .int .i64 p, .int .i64 r]) := hs ▸ hH ▸ hP ▸ ew_take h.ok.hd h.ok.tl h.ok.md h.len
theorem Rv.tell3 {g : Int} (h : Rv s n t c m o) (hA : hasB ((s.toWord (s.hd + 1) s.tl s.md).setTh n (regT t s.hd 3)) n = true) (ho : ((s.toWord (s.hd + 1) s.tl s.md).setTh n (regT t s.hd 3)).ok) (hf : ((s.toWord (s.hd + 1) s.tl s.md).setTh n (regT t s.hd 3)).fit) :
    AO Tryz.prog 200 [stT ((s.toWord (s.hd + 1) s.tl s.md).setTh n (regT t s.hd 3)), .int .i64 n, .int .i64 t.ki, .int .i64 1, .int .i64 g] (stL ((((s.toWord (s.hd + 1) s.tl s.md).setTh n (regT t s.hd 3)).setTh n (rgT (regT t s.hd 3) 1 g)).addLg (tlE ((s.toWord (s.hd + 1) s.tl s.md).setTh n (regT t s.hd 3)) n t.ki 1 g))) 18 11 := by
  have := ao_tell (k := t.ki) (r := 1) (g := g) hA h.nk ho hf
  rw [show gth ((s.toWord (s.hd + 1) s.tl s.md).setTh n (regT t s.hd 3)).th n = regT t s.hd 3 from by show gth (s.th.set n _) n = _; rw [gth_set h.hn, if_pos rfl]] at this
  exact this
end
end Go.Proofs.YtjbcfjfnobklkaaGreat

/- The program's receive, round by round: what each does, told by plain states. -/
namespace Go.Proofs.YtjbcfjfnobklkaaGreat
set_option linter.unusedVariables false
set_option linter.unusedSimpArgs false
open Go.RowKit
section
variable {s : St} {n : Nat} {t : Th} {m o : Int} {x : Exit} {S : Sg}
set_option maxRecDepth 100000 in
theorem lv_enter (h : Rv s n t 0 m o) (hm : s.rc.length ≤ 999999) (hL : LoopP Tryz.prog (loopOf Tryz.prog 12 0) (hdV ((s.toRc (entL s.rc n)).setTh n (pcT t 1)) n m (o + 1) (s.th.length)) x S) : LoopP Tryz.prog (loopOf Tryz.prog 12 0) (hdV s n m o s.th.length) x S :=
  loop_more mixed (fuel := 9) (n := 12) (im := [0, 1, 2, 3, 4]) (keep := [2, 6, 8, 9, 10]) (ext := [21, 84, 85, 148]) (orc := [.bool true, vD true, .bool false, .bool false, thT (pcT t 0), .int .i64 0, .nilFunc, thT (pcT t 0), .int .i64 2, .nilFunc, thT (pcT t 0), .tuple #[rowI (entL s.rc n), .int .i64 (entE s.rc n)], thT (pcT t 0), vRow s.th.length ((s.th.set n (pcT t 1)).map thT)])
    (an h.lt <| an h.ln <| an (ac_pcheck h.ck h.ok) <| an h.ge <| an h.le <| an h.id <| an h.el <| an h.ru <| an h.id <| an h.el <| an h.si <| an h.id <| an h.el <| an (ac_penter s.rc n hm) <| an (h.id) <| an (h.el) <| an (setT s.th n (pcT t 1)) <|  an h.o1 trivial) (by kernel_rfl) hL
set_option maxRecDepth 100000 in
theorem lv_first (h : Rv s n t 1 m o) (hp : (plI s.rc n == 0) = true) (hL : LoopP Tryz.prog (loopOf Tryz.prog 12 0) (hdV (s.setTh n (pcT t 2)) n m (o + 1) (s.th.length)) x S) : LoopP Tryz.prog (loopOf Tryz.prog 12 0) (hdV s n m o s.th.length) x S :=
  loop_more mixed (fuel := 9) (n := 12) (im := [0, 1, 2, 3, 4]) (keep := [2, 6, 8, 9, 10]) (ext := [21, 84, 85, 149]) (orc := [.bool true, vD true, .bool false, .bool false, thT (pcT t 1), .int .i64 0, .nilFunc, thT (pcT t 1), .int .i64 2, .nilFunc, thT (pcT t 1), vD true, thT (pcT t 1), vRow s.th.length ((s.th.set n (pcT t 2)).map thT)])
    (an h.lt <| an h.ln <| an (ac_pcheck h.ck h.ok) <| an h.ge <| an h.le <| an h.id <| an h.el <| an h.ru <| an h.id <| an h.el <| an h.si <| an h.id <| an h.el <| an (ac_pfirst hp) <| an (h.id) <| an (h.el) <| an (setT s.th n (pcT t 2)) <|  an h.o1 trivial) (by kernel_rfl) hL
set_option maxRecDepth 100000 in
theorem lv_firstL (h : Rv s n t 1 m o) (hp : (plI s.rc n == 0) = false) (hl : t.la = true) (hL : LoopP Tryz.prog (loopOf Tryz.prog 12 0) (hdV (((s.setTh n (rgT (pcT t 1) 5 0)).addLg (tlE s n t.ki 5 0)).setTh n (pcT (rgT t 5 0) 9)) n m (o + 1) ((s.th.set n (rgT (pcT t 1) 5 0)).length)) x S) : LoopP Tryz.prog (loopOf Tryz.prog 12 0) (hdV s n m o s.th.length) x S :=
  loop_more mixed (fuel := 9) (n := 12) (im := [0, 5, 2, 3, 4]) (keep := [2, 6, 8, 9, 10]) (ext := [21, 84, 85, 149, 200]) (orc := [.bool true, vD true, .bool false, .bool false, thT (pcT t 1), .int .i64 0, .nilFunc, thT (pcT t 1), .int .i64 2, .nilFunc, thT (pcT t 1), vD false, thT (pcT t 1), .bool true, thT (pcT t 1), .iface 1000004 (.func (.yield 18) #[.agg (stL ((s.setTh n (rgT (pcT t 1) 5 0)).addLg (tlE s n t.ki 5 0))), .int .i64 11] #[]), thT (rgT (pcT t 1) 5 0), vRow (s.th.set n (rgT (pcT t 1) 5 0)).length (((s.th.set n (rgT (pcT t 1) 5 0)).set n (pcT (rgT t 5 0) 9)).map thT)])
    (an h.lt <| an h.ln <| an (ac_pcheck h.ck h.ok) <| an h.ge <| an h.le <| an h.id <| an h.el <| an h.ru <| an h.id <| an h.el <| an h.si <| an h.id <| an h.el <| an (ac_pfirst hp) <| an (h.id) <| an (h.el) <| an (hl) <| an (h.id) <| an (h.el) <| an (h.ln) <| an (h.tell (r := 5)) <| an (h.ids (rgT (pcT t 1) 5 0)) <| an (el2 h.hn (rgT (pcT t 1) 5 0)) <| an (setT (s.th.set n (rgT (pcT t 1) 5 0)) n (pcT (rgT t 5 0) 9)) <|  an h.o1 trivial) (by kernel_rfl) hL
set_option maxRecDepth 100000 in
theorem lv_firstT (h : Rv s n t 1 m o) (hp : (plI s.rc n == 0) = false) (hl : t.la = false) (hr : In64 (t.tr + 1)) (hL : LoopP Tryz.prog (loopOf Tryz.prog 12 0) (hdV (s.setTh n (tryT (pcT t 1))) n m (o + 1) (s.th.length)) x S) : LoopP Tryz.prog (loopOf Tryz.prog 12 0) (hdV s n m o s.th.length) x S :=
  loop_more mixed (fuel := 9) (n := 12) (im := [0, 1, 2, 3, 4]) (keep := [2, 6, 8, 9, 10]) (ext := [21, 84, 85, 149]) (orc := [.bool true, vD true, .bool false, .bool false, thT (pcT t 1), .int .i64 0, .nilFunc, thT (pcT t 1), .int .i64 2, .nilFunc, thT (pcT t 1), vD false, thT (pcT t 1), .bool false, thT (pcT t 1), thT (pcT t 1), vRow s.th.length ((s.th.set n (tryT (pcT t 1))).map thT)])
    (an h.lt <| an h.ln <| an (ac_pcheck h.ck h.ok) <| an h.ge <| an h.le <| an h.id <| an h.el <| an h.ru <| an h.id <| an h.el <| an h.si <| an h.id <| an h.el <| an (ac_pfirst hp) <| an (h.id) <| an (h.el) <| an (hl) <| an (h.id) <| an (h.el) <| an (hr) <| an (h.el) <| an (setT s.th n (tryT (pcT t 1))) <|  an h.o1 trivial) (by kernel_rfl) hL
set_option maxRecDepth 100000 in
theorem lv_lookR (h : Rv s n t 2 m o) (hs : seesR s = 1) (hL : LoopP Tryz.prog (loopOf Tryz.prog 12 0) (hdV (s.setTh n (pcT t 3)) n m (o + 1) (s.th.length)) x S) : LoopP Tryz.prog (loopOf Tryz.prog 12 0) (hdV s n m o s.th.length) x S :=
  loop_more mixed (fuel := 9) (n := 12) (im := [0, 1, 2, 3, 4]) (keep := [2, 6, 8, 9, 10]) (ext := [21, 84, 85, 201]) (orc := [.bool true, vD true, .bool false, .bool false, thT (pcT t 2), .int .i64 0, .nilFunc, thT (pcT t 2), .int .i64 2, .nilFunc, thT (pcT t 2), .tuple #[.int .i64 (seesS s), .int .i64 1], .nilFunc, thT (pcT t 2), vRow s.th.length ((s.th.set n (pcT t 3)).map thT)])
    (an h.lt <| an h.ln <| an (ac_pcheck h.ck h.ok) <| an h.ge <| an h.le <| an h.id <| an h.el <| an h.ru <| an h.id <| an h.el <| an h.si <| an h.id <| an h.el <| an (h.sees hs) <| an (h.id) <| an (h.el) <| an (setT s.th n (pcT t 3)) <|  an h.o1 trivial) (by kernel_rfl) hL
set_option maxRecDepth 100000 in
theorem lv_lookB (h : Rv s n t 2 m o) (hs : seesR s = 4) (hk : opOnce t.ki = true) (hL : LoopP Tryz.prog (loopOf Tryz.prog 12 0) (hdV (((s.setTh n (rgT (pcT t 2) 4 0)).addLg (tlE s n t.ki 4 0)).setTh n (pcT (rgT t 4 0) 9)) n m (o + 1) ((s.th.set n (rgT (pcT t 2) 4 0)).length)) x S) : LoopP Tryz.prog (loopOf Tryz.prog 12 0) (hdV s n m o s.th.length) x S :=
  loop_more mixed (fuel := 9) (n := 12) (im := [0, 5, 2, 3, 4]) (keep := [2, 6, 8, 9, 10]) (ext := [21, 84, 85, 201, 200, 202]) (orc := [.bool true, vD true, .bool false, .bool false, thT (pcT t 2), .int .i64 0, .nilFunc, thT (pcT t 2), .int .i64 2, .nilFunc, thT (pcT t 2), .tuple #[.int .i64 (seesS s), .int .i64 4], .nilFunc, .nilFunc, thT (pcT t 2), vD true, thT (pcT t 2), .iface 1000004 (.func (.yield 18) #[.agg (stL ((s.setTh n (rgT (pcT t 2) 4 0)).addLg (tlE s n t.ki 4 0))), .int .i64 11] #[]), thT (rgT (pcT t 2) 4 0), vRow (s.th.set n (rgT (pcT t 2) 4 0)).length (((s.th.set n (rgT (pcT t 2) 4 0)).set n (pcT (rgT t 4 0) 9)).map thT)])
    (an h.lt <| an h.ln <| an (ac_pcheck h.ck h.ok) <| an h.ge <| an h.le <| an h.id <| an h.el <| an h.ru <| an h.id <| an h.el <| an h.si <| an h.id <| an h.el <| an (h.sees hs) <| an (h.id) <| an (h.el) <| an (ac_ponce hk) <| an (h.id) <| an (h.el) <| an (h.ln) <| an (h.tell (r := 4)) <| an (h.ids (rgT (pcT t 2) 4 0)) <| an (el2 h.hn (rgT (pcT t 2) 4 0)) <| an (setT (s.th.set n (rgT (pcT t 2) 4 0)) n (pcT (rgT t 4 0) 9)) <|  an h.o1 trivial) (by kernel_rfl) hL
set_option maxRecDepth 100000 in
theorem lv_lookL (h : Rv s n t 2 m o) (hs : seesR s = 4) (hk : opOnce t.ki = false) (hl : t.la = true) (hL : LoopP Tryz.prog (loopOf Tryz.prog 12 0) (hdV (((s.setTh n (rgT (pcT t 2) 5 0)).addLg (tlE s n t.ki 5 0)).setTh n (pcT (rgT t 5 0) 9)) n m (o + 1) ((s.th.set n (rgT (pcT t 2) 5 0)).length)) x S) : LoopP Tryz.prog (loopOf Tryz.prog 12 0) (hdV s n m o s.th.length) x S :=
  loop_more mixed (fuel := 9) (n := 12) (im := [0, 5, 2, 3, 4]) (keep := [2, 6, 8, 9, 10]) (ext := [21, 84, 85, 201, 200, 202]) (orc := [.bool true, vD true, .bool false, .bool false, thT (pcT t 2), .int .i64 0, .nilFunc, thT (pcT t 2), .int .i64 2, .nilFunc, thT (pcT t 2), .tuple #[.int .i64 (seesS s), .int .i64 4], .nilFunc, .nilFunc, thT (pcT t 2), vD false, thT (pcT t 2), .bool true, thT (pcT t 2), .iface 1000004 (.func (.yield 18) #[.agg (stL ((s.setTh n (rgT (pcT t 2) 5 0)).addLg (tlE s n t.ki 5 0))), .int .i64 11] #[]), thT (rgT (pcT t 2) 5 0), vRow (s.th.set n (rgT (pcT t 2) 5 0)).length (((s.th.set n (rgT (pcT t 2) 5 0)).set n (pcT (rgT t 5 0) 9)).map thT)])
    (an h.lt <| an h.ln <| an (ac_pcheck h.ck h.ok) <| an h.ge <| an h.le <| an h.id <| an h.el <| an h.ru <| an h.id <| an h.el <| an h.si <| an h.id <| an h.el <| an (h.sees hs) <| an (h.id) <| an (h.el) <| an (ac_ponce hk) <| an (h.el) <| an (hl) <| an (h.id) <| an (h.el) <| an (h.ln) <| an (h.tell (r := 5)) <| an (h.ids (rgT (pcT t 2) 5 0)) <| an (el2 h.hn (rgT (pcT t 2) 5 0)) <| an (setT (s.th.set n (rgT (pcT t 2) 5 0)) n (pcT (rgT t 5 0) 9)) <|  an h.o1 trivial) (by kernel_rfl) hL
set_option maxRecDepth 100000 in
theorem lv_lookP (h : Rv s n t 2 m o) (hs : seesR s = 4) (hk : opOnce t.ki = false) (hl : t.la = false) (hn : waySt s (max t.tr 0) = 2) (hL : LoopP Tryz.prog (loopOf Tryz.prog 12 0) (hdV (s.setTh n (pcT t 5)) n m (o + 1) (s.th.length)) x S) : LoopP Tryz.prog (loopOf Tryz.prog 12 0) (hdV s n m o s.th.length) x S :=
  loop_more mixed (fuel := 9) (n := 12) (im := [0, 1, 2, 3, 4]) (keep := [2, 6, 8, 9, 10]) (ext := [21, 84, 85, 201, 202, 203]) (orc := [.bool true, vD true, .bool false, .bool false, thT (pcT t 2), .int .i64 0, .nilFunc, thT (pcT t 2), .int .i64 2, .nilFunc, thT (pcT t 2), .tuple #[.int .i64 (seesS s), .int .i64 4], .nilFunc, .nilFunc, thT (pcT t 2), vD false, thT (pcT t 2), .bool false, thT (pcT t 2), .int .i64 2, .nilFunc, thT (pcT t 2), vRow s.th.length ((s.th.set n (pcT t 5)).map thT)])
    (an h.lt <| an h.ln <| an (ac_pcheck h.ck h.ok) <| an h.ge <| an h.le <| an h.id <| an h.el <| an h.ru <| an h.id <| an h.el <| an h.si <| an h.id <| an h.el <| an (h.sees hs) <| an (h.id) <| an (h.el) <| an (ac_ponce hk) <| an (h.el) <| an (hl) <| an (h.el) <| an (ac_pnext' hn) <| an (h.id) <| an (h.el) <| an (setT s.th n (pcT t 5)) <|  an h.o1 trivial) (by kernel_rfl) hL
set_option maxRecDepth 100000 in
theorem lv_lookT (h : Rv s n t 2 m o) (hs : seesR s = 4) (hk : opOnce t.ki = false) (hl : t.la = false) {r : Int} (hn : waySt s (max t.tr 0) = r) (hr2 : (r == 2) = false) (hr : In64 (t.tr + 1)) (hL : LoopP Tryz.prog (loopOf Tryz.prog 12 0) (hdV (s.setTh n (tryT (pcT t 2))) n m (o + 1) (s.th.length)) x S) : LoopP Tryz.prog (loopOf Tryz.prog 12 0) (hdV s n m o s.th.length) x S :=
  loop_more mixed (fuel := 9) (n := 12) (im := [0, 1, 2, 3, 4]) (keep := [2, 6, 8, 9, 10]) (ext := [21, 84, 85, 201, 202, 203]) (orc := [.bool true, vD true, .bool false, .bool false, thT (pcT t 2), .int .i64 0, .nilFunc, thT (pcT t 2), .int .i64 2, .nilFunc, thT (pcT t 2), .tuple #[.int .i64 (seesS s), .int .i64 4], .nilFunc, .nilFunc, thT (pcT t 2), vD false, thT (pcT t 2), .bool false, thT (pcT t 2), .int .i64 r, .bool false, thT (pcT t 2), thT (pcT t 2), vRow s.th.length ((s.th.set n (tryT (pcT t 2))).map thT)])
    (an h.lt <| an h.ln <| an (ac_pcheck h.ck h.ok) <| an h.ge <| an h.le <| an h.id <| an h.el <| an h.ru <| an h.id <| an h.el <| an h.si <| an h.id <| an h.el <| an (h.sees hs) <| an (h.id) <| an (h.el) <| an (ac_ponce hk) <| an (h.el) <| an (hl) <| an (h.el) <| an (ac_pnext' hn) <| an (hr2) <| an (h.id) <| an (h.el) <| an (hr) <| an (h.el) <| an (setT s.th n (tryT (pcT t 2))) <|  an h.o1 trivial) (by kernel_rfl) hL
set_option maxRecDepth 100000 in
theorem lv_lookE (h : Rv s n t 2 m o) {r : Int} (hs : seesR s = r) (h1 : (r == 1) = false) (h2 : (r == 4) = false) (hL : LoopP Tryz.prog (loopOf Tryz.prog 12 0) (hdV (((s.setTh n (rgT (pcT t 2) r 0)).addLg (tlE s n t.ki r 0)).setTh n (pcT (rgT t r 0) 9)) n m (o + 1) ((s.th.set n (rgT (pcT t 2) r 0)).length)) x S) : LoopP Tryz.prog (loopOf Tryz.prog 12 0) (hdV s n m o s.th.length) x S :=
  loop_more mixed (fuel := 9) (n := 12) (im := [0, 5, 2, 3, 4]) (keep := [2, 6, 8, 9, 10]) (ext := [21, 84, 85, 201, 200]) (orc := [.bool true, vD true, .bool false, .bool false, thT (pcT t 2), .int .i64 0, .nilFunc, thT (pcT t 2), .int .i64 2, .nilFunc, thT (pcT t 2), .tuple #[.int .i64 (seesS s), .int .i64 r], .bool false, .bool false, thT (pcT t 2), .iface 1000004 (.func (.yield 18) #[.agg (stL ((s.setTh n (rgT (pcT t 2) r 0)).addLg (tlE s n t.ki r 0))), .int .i64 11] #[]), thT (rgT (pcT t 2) r 0), vRow (s.th.set n (rgT (pcT t 2) r 0)).length (((s.th.set n (rgT (pcT t 2) r 0)).set n (pcT (rgT t r 0) 9)).map thT)])
    (an h.lt <| an h.ln <| an (ac_pcheck h.ck h.ok) <| an h.ge <| an h.le <| an h.id <| an h.el <| an h.ru <| an h.id <| an h.el <| an h.si <| an h.id <| an h.el <| an (h.sees hs) <| an (h1) <| an (h2) <| an (h.id) <| an (h.el) <| an (h.ln) <| an (h.tell (r := r)) <| an (h.ids (rgT (pcT t 2) r 0)) <| an (el2 h.hn (rgT (pcT t 2) r 0)) <| an (setT (s.th.set n (rgT (pcT t 2) r 0)) n (pcT (rgT t r 0) 9)) <|  an h.o1 trivial) (by kernel_rfl) hL
set_option maxRecDepth 100000 in
theorem lv_takeR (h : Rv s n t 3 m o) (hs : seesR s = 1) (hH : tkH s.hd s.tl s.md s.sl.length = s.hd + 1) (hP : tkP s.hd s.tl s.md s.sl.length = s.hd) {g : Int} (hv : valV ((s.toWord (s.hd + 1) s.tl s.md).setTh n (regT t s.hd 3)) s.hd = g) (hA : hasB ((s.toWord (s.hd + 1) s.tl s.md).setTh n (regT t s.hd 3)) n = true) (ho : ((s.toWord (s.hd + 1) s.tl s.md).setTh n (regT t s.hd 3)).ok) (hf : ((s.toWord (s.hd + 1) s.tl s.md).setTh n (regT t s.hd 3)).fit) (hL : LoopP Tryz.prog (loopOf Tryz.prog 12 0) (hdV (((((s.toWord (s.hd + 1) s.tl s.md).setTh n (regT t s.hd 3)).setTh n (rgT (regT t s.hd 3) 1 g)).addLg (tlE ((s.toWord (s.hd + 1) s.tl s.md).setTh n (regT t s.hd 3)) n t.ki 1 g)).setTh n (pcT (rgT (regT t s.hd 3) 1 g) 4)) n m (o + 1) (((s.th.set n (regT t s.hd 3)).set n (rgT (regT t s.hd 3) 1 g)).length)) x S) : LoopP Tryz.prog (loopOf Tryz.prog 12 0) (hdV s n m o s.th.length) x S :=
  loop_more mixed (fuel := 9) (n := 12) (im := [0, 6, 2, 3, 4]) (keep := [2, 6, 8, 9, 10]) (ext := [21, 84, 85, 154, 155, 200]) (orc := [.bool true, vD true, .bool false, .bool false, thT (pcT t 3), .int .i64 0, .nilFunc, thT (pcT t 3), .int .i64 2, .nilFunc, thT (pcT t 3), .tuple #[wdT (s.hd + 1) s.tl s.md, .int .i64 s.hd, .int .i64 1], .nilFunc, thT (pcT t 3), vRow (s.th.set n (regT t s.hd 3)).length ((s.th.set n (regT t s.hd 3)).map thT), .int .i64 g, thT (regT t s.hd 3), .iface 1000004 (.func (.yield 18) #[.agg (stL ((((s.toWord (s.hd + 1) s.tl s.md).setTh n (regT t s.hd 3)).setTh n (rgT (regT t s.hd 3) 1 g)).addLg (tlE ((s.toWord (s.hd + 1) s.tl s.md).setTh n (regT t s.hd 3)) n t.ki 1 g))), .int .i64 11] #[]), thT (rgT (regT t s.hd 3) 1 g), vRow ((s.th.set n (regT t s.hd 3)).set n (rgT (regT t s.hd 3) 1 g)).length ((((s.th.set n (regT t s.hd 3)).set n (rgT (regT t s.hd 3) 1 g)).set n (pcT (rgT (regT t s.hd 3) 1 g) 9)).map thT), thT (pcT (rgT (regT t s.hd 3) 1 g) 9), vRow ((s.th.set n (regT t s.hd 3)).set n (rgT (regT t s.hd 3) 1 g)).length ((((s.th.set n (regT t s.hd 3)).set n (rgT (regT t s.hd 3) 1 g)).set n (pcT (rgT (regT t s.hd 3) 1 g) 4)).map thT)])
    (an h.lt <| an h.ln <| an (ac_pcheck h.ck h.ok) <| an h.ge <| an h.le <| an h.id <| an h.el <| an h.ru <| an h.id <| an h.el <| an h.si <| an h.id <| an h.el <| an (h.take hs hH hP) <| an (h.id) <| an (h.el) <| an (setT s.th n (regT t s.hd 3)) <| an (h.ln1 (regT t s.hd 3)) <| an (hv ▸ ac_pvalue ((s.toWord (s.hd + 1) s.tl s.md).setTh n (regT t s.hd 3)) s.hd ho h.ok.hd) <| an (h.id) <| an (el2 h.hn (regT t s.hd 3)) <| an (h.ln1 (regT t s.hd 3)) <| an (h.tell3 (g := g) hA ho hf) <| an (h.ids2 (regT t s.hd 3) (rgT (regT t s.hd 3) 1 g)) <| an (h.el22 (regT t s.hd 3) (rgT (regT t s.hd 3) 1 g)) <| an (setT ((s.th.set n (regT t s.hd 3)).set n (rgT (regT t s.hd 3) 1 g)) n (pcT (rgT (regT t s.hd 3) 1 g) 9)) <| an (h.ids2 (regT t s.hd 3) (rgT (regT t s.hd 3) 1 g)) <| an (h.el23 (regT t s.hd 3) (rgT (regT t s.hd 3) 1 g) (pcT (rgT (regT t s.hd 3) 1 g) 9)) <| an (set2 ((s.th.set n (regT t s.hd 3)).set n (rgT (regT t s.hd 3) 1 g)) n (pcT (rgT (regT t s.hd 3) 1 g) 9) (pcT (rgT (regT t s.hd 3) 1 g) 4)) <|  an h.o1 trivial) (by kernel_rfl) hL
set_option maxRecDepth 100000 in
theorem lv_takeF (h : Rv s n t 3 m o) (hs : seesR s = 4) (hL : LoopP Tryz.prog (loopOf Tryz.prog 12 0) (hdV (s.setTh n (pcT t 2)) n m (o + 1) (s.th.length)) x S) : LoopP Tryz.prog (loopOf Tryz.prog 12 0) (hdV s n m o s.th.length) x S :=
  loop_more mixed (fuel := 9) (n := 12) (im := [0, 1, 2, 3, 4]) (keep := [2, 6, 8, 9, 10]) (ext := [21, 84, 85, 154]) (orc := [.bool true, vD true, .bool false, .bool false, thT (pcT t 3), .int .i64 0, .nilFunc, thT (pcT t 3), .int .i64 2, .nilFunc, thT (pcT t 3), .tuple #[wdT (tkH s.hd s.tl s.md s.sl.length) s.tl s.md, .int .i64 (tkP s.hd s.tl s.md s.sl.length), .int .i64 4], .nilFunc, .nilFunc, thT (pcT t 3), vRow s.th.length ((s.th.set n (pcT t 2)).map thT)])
    (an h.lt <| an h.ln <| an (ac_pcheck h.ck h.ok) <| an h.ge <| an h.le <| an h.id <| an h.el <| an h.ru <| an h.id <| an h.el <| an h.si <| an h.id <| an h.el <| an (h.take hs rfl rfl) <| an (h.id) <| an (h.el) <| an (setT s.th n (pcT t 2)) <|  an h.o1 trivial) (by kernel_rfl) hL
set_option maxRecDepth 100000 in
theorem lv_takeE (h : Rv s n t 3 m o) {r : Int} (hs : seesR s = r) (h1 : (r == 1) = false) (h2 : (r == 4) = false) (hL : LoopP Tryz.prog (loopOf Tryz.prog 12 0) (hdV (((s.setTh n (rgT (pcT t 3) r 0)).addLg (tlE s n t.ki r 0)).setTh n (pcT (rgT t r 0) 9)) n m (o + 1) ((s.th.set n (rgT (pcT t 3) r 0)).length)) x S) : LoopP Tryz.prog (loopOf Tryz.prog 12 0) (hdV s n m o s.th.length) x S :=
  loop_more mixed (fuel := 9) (n := 12) (im := [0, 6, 2, 3, 4]) (keep := [2, 6, 8, 9, 10]) (ext := [21, 84, 85, 154, 200]) (orc := [.bool true, vD true, .bool false, .bool false, thT (pcT t 3), .int .i64 0, .nilFunc, thT (pcT t 3), .int .i64 2, .nilFunc, thT (pcT t 3), .tuple #[wdT (tkH s.hd s.tl s.md s.sl.length) s.tl s.md, .int .i64 (tkP s.hd s.tl s.md s.sl.length), .int .i64 r], .bool false, .bool false, thT (pcT t 3), .iface 1000004 (.func (.yield 18) #[.agg (stL ((s.setTh n (rgT (pcT t 3) r 0)).addLg (tlE s n t.ki r 0))), .int .i64 11] #[]), thT (rgT (pcT t 3) r 0), vRow (s.th.set n (rgT (pcT t 3) r 0)).length (((s.th.set n (rgT (pcT t 3) r 0)).set n (pcT (rgT t r 0) 9)).map thT)])
    (an h.lt <| an h.ln <| an (ac_pcheck h.ck h.ok) <| an h.ge <| an h.le <| an h.id <| an h.el <| an h.ru <| an h.id <| an h.el <| an h.si <| an h.id <| an h.el <| an (h.take hs rfl rfl) <| an (h1) <| an (h2) <| an (h.id) <| an (h.el) <| an (h.ln) <| an (h.tell (r := r)) <| an (h.ids (rgT (pcT t 3) r 0)) <| an (el2 h.hn (rgT (pcT t 3) r 0)) <| an (setT (s.th.set n (rgT (pcT t 3) r 0)) n (pcT (rgT t r 0) 9)) <|  an h.o1 trivial) (by kernel_rfl) hL
set_option maxRecDepth 100000 in
theorem lv_read (h : Rv s n t 4 m o) (hm : s.sl.length ≤ 1000) (hr : In64 t.re) (hL : LoopP Tryz.prog (loopOf Tryz.prog 12 0) (hdV ((s.toSl (rlL s.sl t.re)).setTh n (gotT t (rdV s.sl t.re) 6)) n m (o + 1) (s.th.length)) x S) : LoopP Tryz.prog (loopOf Tryz.prog 12 0) (hdV s n m o s.th.length) x S :=
  loop_more mixed (fuel := 9) (n := 12) (im := [0, 1, 2, 3, 4]) (keep := [2, 6, 8, 9, 10]) (ext := [21, 84, 85, 156, 157]) (orc := [.bool true, vD true, .bool false, .bool false, thT (pcT t 4), .int .i64 0, .nilFunc, thT (pcT t 4), .int .i64 2, .nilFunc, thT (pcT t 4), thT (pcT t 4), .tuple #[.int .i64 (rdV s.sl t.re), .int .i64 (rdE s.sl t.re)], thT (pcT t 4), vRow s.th.length ((s.th.set n (gotT t (rdV s.sl t.re) 4)).map thT), thT (gotT t (rdV s.sl t.re) 4), .tuple #[rowS (rlL s.sl t.re), .int .i64 (rlE s.sl t.re)], thT (gotT t (rdV s.sl t.re) 4), vRow s.th.length ((s.th.set n (gotT t (rdV s.sl t.re) 6)).map thT)])
    (an h.lt <| an h.ln <| an (ac_pcheck h.ck h.ok) <| an h.ge <| an h.le <| an h.id <| an h.el <| an h.ru <| an h.id <| an h.el <| an h.si <| an h.id <| an h.el <| an (h.id) <| an (h.el) <| an (ac_pread s.sl t.re hm hr) <| an (h.el) <| an (setT s.th n (gotT t (rdV s.sl t.re) 4)) <| an (el2 h.hn (gotT t (rdV s.sl t.re) 4)) <| an (ac_prelease s.sl t.re hm hr) <| an (h.id) <| an (el2 h.hn (gotT t (rdV s.sl t.re) 4)) <| an (set2 s.th n (gotT t (rdV s.sl t.re) 4) (gotT t (rdV s.sl t.re) 6)) <|  an h.o1 trivial) (by kernel_rfl) hL
set_option maxRecDepth 100000 in
theorem lv_prep (h : Rv s n t 5 m o) (he : prE s.ee s.el = s.ee) (hL : LoopP Tryz.prog (loopOf Tryz.prog 12 0) (hdV (s.setTh n (seenT t s.ee 7)) n m (o + 1) (s.th.length)) x S) : LoopP Tryz.prog (loopOf Tryz.prog 12 0) (hdV s n m o s.th.length) x S :=
  loop_more mixed (fuel := 9) (n := 12) (im := [0, 1, 2, 3, 4]) (keep := [2, 6, 8, 9, 10]) (ext := [21, 84, 85, 158]) (orc := [.bool true, vD true, .bool false, .bool false, thT (pcT t 5), .int .i64 0, .nilFunc, thT (pcT t 5), .int .i64 2, .nilFunc, thT (pcT t 5), .int .i64 s.ee, thT (pcT t 5), vRow s.th.length ((s.th.set n (seenT t s.ee 5)).map thT), thT (seenT t s.ee 5), vRow s.th.length ((s.th.set n (seenT t s.ee 7)).map thT)])
    (an h.lt <| an h.ln <| an (ac_pcheck h.ck h.ok) <| an h.ge <| an h.le <| an h.id <| an h.el <| an h.ru <| an h.id <| an h.el <| an h.si <| an h.id <| an h.el <| an (h.id) <| an (ac_pprep' he) <| an (h.el) <| an (setT s.th n (seenT t s.ee 5)) <| an (h.id) <| an (el2 h.hn (seenT t s.ee 5)) <| an (set2 s.th n (seenT t s.ee 5) (seenT t s.ee 7)) <|  an h.o1 trivial) (by kernel_rfl) hL
set_option maxRecDepth 100000 in
theorem lv_notifyN (h : Rv s n t 6 m o) (hm : s.fl.length ≤ 999999) (hb : hdB (ntT 1 s.fe s.fl) = false) (hL : LoopP Tryz.prog (loopOf Tryz.prog 12 0) (hdV ((s.toFull (ntE s.fe s.fl) (ntL 1 s.fe s.fl)).setTh n (pcT t 9)) n m (o + 1) (s.th.length)) x S) : LoopP Tryz.prog (loopOf Tryz.prog 12 0) (hdV s n m o s.th.length) x S :=
  loop_more mixed (fuel := 9) (n := 12) (im := [0, 1, 2, 3, 4]) (keep := [2, 6, 8, 9, 10]) (ext := [21, 84, 85, 159]) (orc := [.bool true, vD true, .bool false, .bool false, thT (pcT t 6), .int .i64 0, .nilFunc, thT (pcT t 6), .int .i64 2, .nilFunc, thT (pcT t 6), .tuple #[evT (ntE s.fe s.fl) (ntL 1 s.fe s.fl), .int .i64 (hdI (ntT 1 s.fe s.fl)), vD false], thT (pcT t 6), vRow s.th.length ((s.th.set n (pcT t 9)).map thT)])
    (an h.lt <| an h.ln <| an (ac_pcheck h.ck h.ok) <| an h.ge <| an h.le <| an h.id <| an h.el <| an h.ru <| an h.id <| an h.el <| an h.si <| an h.id <| an h.el <| an (ac_pnotify hb hm) <| an (h.id) <| an (h.el) <| an (setT s.th n (pcT t 9)) <|  an h.o1 trivial) (by kernel_rfl) hL
set_option maxRecDepth 100000 in
theorem lv_notifyW (h : Rv s n t 6 m o) (hm : s.fl.length ≤ 999999) (hb : hdB (ntT 1 s.fe s.fl) = true) {q : Nat} (hq : hdI (ntT 1 s.fe s.fl) = q) (hA : hasB (s.toFull (ntE s.fe s.fl) (ntL 1 s.fe s.fl)) q = true) (ho : (s.toFull (ntE s.fe s.fl) (ntL 1 s.fe s.fl)).ok) (hf : (s.toFull (ntE s.fe s.fl) (ntL 1 s.fe s.fl)).fit) (hg : gth (s.th.set q (wakeT (gth s.th q))) n = pcT t 6) (hL : LoopP Tryz.prog (loopOf Tryz.prog 12 0) (hdV (((s.toFull (ntE s.fe s.fl) (ntL 1 s.fe s.fl)).onTh q wakeT).setTh n (pcT t 9)) n m (o + 1) ((s.th.set q (wakeT (gth s.th q))).length)) x S) : LoopP Tryz.prog (loopOf Tryz.prog 12 0) (hdV s n m o s.th.length) x S :=
  loop_more mixed (fuel := 9) (n := 12) (im := [0, 6, 2, 3, 4]) (keep := [2, 6, 8, 9, 10]) (ext := [21, 84, 85, 159, 70]) (orc := [.bool true, vD true, .bool false, .bool false, thT (pcT t 6), .int .i64 0, .nilFunc, thT (pcT t 6), .int .i64 2, .nilFunc, thT (pcT t 6), .tuple #[evT (ntE s.fe s.fl) (ntL 1 s.fe s.fl), .int .i64 q, vD true], .iface 1000004 (.func (.yield 18) #[.agg (stL ((s.toFull (ntE s.fe s.fl) (ntL 1 s.fe s.fl)).onTh q wakeT)), .int .i64 11] #[]), thT (pcT t 6), vRow (s.th.set q (wakeT (gth s.th q))).length (((s.th.set q (wakeT (gth s.th q))).set n (pcT t 9)).map thT)])
    (an h.lt <| an h.ln <| an (ac_pcheck h.ck h.ok) <| an h.ge <| an h.le <| an h.id <| an h.el <| an h.ru <| an h.id <| an h.el <| an h.si <| an h.id <| an h.el <| an (hq ▸ ac_pnotify hb hm) <| an (h.ln) <| an (ao_wake hA ho hf) <| an (h.idw q (wakeT (gth s.th q))) <| an (hg ▸ elT (l := (s.th.set q (wakeT (gth s.th q)))) (by rw [List.length_set]; exact h.hn)) <| an (setT (s.th.set q (wakeT (gth s.th q))) n (pcT t 9)) <|  an h.o1 trivial) (by kernel_rfl) hL
set_option maxRecDepth 100000 in
theorem lv_againY (h : Rv s n t 7 m o) (hs : seesR s = 4) (hl : (!t.la) = true) (hL : LoopP Tryz.prog (loopOf Tryz.prog 12 0) (hdV (s.setTh n (pcT t 8)) n m (o + 1) (s.th.length)) x S) : LoopP Tryz.prog (loopOf Tryz.prog 12 0) (hdV s n m o s.th.length) x S :=
  loop_more mixed (fuel := 9) (n := 12) (im := [0, 1, 2, 3, 4]) (keep := [2, 6, 8, 9, 10]) (ext := [21, 84, 85, 201]) (orc := [.bool true, vD true, .bool false, .bool false, thT (pcT t 7), .int .i64 0, .nilFunc, thT (pcT t 7), .int .i64 2, .nilFunc, thT (pcT t 7), .tuple #[.int .i64 (seesS s), .int .i64 4], .nilFunc, thT (pcT t 7), .bool true, thT (pcT t 7), vRow s.th.length ((s.th.set n (pcT t 8)).map thT)])
    (an h.lt <| an h.ln <| an (ac_pcheck h.ck h.ok) <| an h.ge <| an h.le <| an h.id <| an h.el <| an h.ru <| an h.id <| an h.el <| an h.si <| an h.id <| an h.el <| an (h.sees hs) <| an (h.id) <| an (h.el) <| an (hl) <| an (h.id) <| an (h.el) <| an (setT s.th n (pcT t 8)) <|  an h.o1 trivial) (by kernel_rfl) hL
set_option maxRecDepth 100000 in
theorem lv_againL (h : Rv s n t 7 m o) (hs : seesR s = 4) (hl : (!t.la) = false) (hL : LoopP Tryz.prog (loopOf Tryz.prog 12 0) (hdV (s.setTh n (pcT t 2)) n m (o + 1) (s.th.length)) x S) : LoopP Tryz.prog (loopOf Tryz.prog 12 0) (hdV s n m o s.th.length) x S :=
  loop_more mixed (fuel := 9) (n := 12) (im := [0, 1, 2, 3, 4]) (keep := [2, 6, 8, 9, 10]) (ext := [21, 84, 85, 201]) (orc := [.bool true, vD true, .bool false, .bool false, thT (pcT t 7), .int .i64 0, .nilFunc, thT (pcT t 7), .int .i64 2, .nilFunc, thT (pcT t 7), .tuple #[.int .i64 (seesS s), .int .i64 4], .nilFunc, thT (pcT t 7), .bool false, thT (pcT t 7), vRow s.th.length ((s.th.set n (pcT t 2)).map thT)])
    (an h.lt <| an h.ln <| an (ac_pcheck h.ck h.ok) <| an h.ge <| an h.le <| an h.id <| an h.el <| an h.ru <| an h.id <| an h.el <| an h.si <| an h.id <| an h.el <| an (h.sees hs) <| an (h.id) <| an (h.el) <| an (hl) <| an (h.id) <| an (h.el) <| an (setT s.th n (pcT t 2)) <|  an h.o1 trivial) (by kernel_rfl) hL
set_option maxRecDepth 100000 in
theorem lv_againN (h : Rv s n t 7 m o) {r : Int} (hs : seesR s = r) (h2 : (r == 4) = false) (hL : LoopP Tryz.prog (loopOf Tryz.prog 12 0) (hdV (s.setTh n (pcT t 2)) n m (o + 1) (s.th.length)) x S) : LoopP Tryz.prog (loopOf Tryz.prog 12 0) (hdV s n m o s.th.length) x S :=
  loop_more mixed (fuel := 9) (n := 12) (im := [0, 1, 2, 3, 4]) (keep := [2, 6, 8, 9, 10]) (ext := [21, 84, 85, 201]) (orc := [.bool true, vD true, .bool false, .bool false, thT (pcT t 7), .int .i64 0, .nilFunc, thT (pcT t 7), .int .i64 2, .nilFunc, thT (pcT t 7), .tuple #[.int .i64 (seesS s), .int .i64 r], .bool false, thT (pcT t 7), vRow s.th.length ((s.th.set n (pcT t 2)).map thT)])
    (an h.lt <| an h.ln <| an (ac_pcheck h.ck h.ok) <| an h.ge <| an h.le <| an h.id <| an h.el <| an h.ru <| an h.id <| an h.el <| an h.si <| an h.id <| an h.el <| an (h.sees hs) <| an (h2) <| an (h.id) <| an (h.el) <| an (setT s.th n (pcT t 2)) <|  an h.o1 trivial) (by kernel_rfl) hL
set_option maxRecDepth 100000 in
theorem lv_commitL (h : Rv s n t 8 m o) (hl : t.la = true) (hL : LoopP Tryz.prog (loopOf Tryz.prog 12 0) (hdV (s.setTh n (pcT t 2)) n m (o + 1) (s.th.length)) x S) : LoopP Tryz.prog (loopOf Tryz.prog 12 0) (hdV s n m o s.th.length) x S :=
  loop_more mixed (fuel := 9) (n := 12) (im := [0, 1, 2, 3, 4]) (keep := [2, 6, 8, 9, 10]) (ext := [21, 84, 85]) (orc := [.bool true, vD true, .bool false, .bool false, thT (pcT t 8), .int .i64 0, .nilFunc, thT (pcT t 8), .int .i64 2, .nilFunc, thT (pcT t 8), thT (pcT t 8), vRow s.th.length ((s.th.set n (pcT t 2)).map thT), thT (pcT t 2), .bool true])
    (an h.lt <| an h.ln <| an (ac_pcheck h.ck h.ok) <| an h.ge <| an h.le <| an h.id <| an h.el <| an h.ru <| an h.id <| an h.el <| an h.si <| an h.id <| an h.el <| an (h.id) <| an (h.el) <| an (setT s.th n (pcT t 2)) <| an (h.id) <| an (el2 h.hn (pcT t 2)) <| an (hl) <|  an h.o1 trivial) (by kernel_rfl) hL
set_option maxRecDepth 100000 in
theorem lv_commitW (h : Rv s n t 8 m o) (hl : t.la = false) (hm : s.el.length ≤ 999999) (hb : cmB s.ee s.el t.se n = true) (hL : LoopP Tryz.prog (loopOf Tryz.prog 12 0) (hdV ((s.toEmpty s.ee (cmL s.ee s.el t.se n)).setTh n (parkT t 2)) n m (o + 1) (s.th.length)) x S) : LoopP Tryz.prog (loopOf Tryz.prog 12 0) (hdV s n m o s.th.length) x S :=
  loop_more mixed (fuel := 9) (n := 12) (im := [0, 1, 2, 3, 4]) (keep := [2, 6, 8, 9, 10]) (ext := [21, 84, 85, 160, 161]) (orc := [.bool true, vD true, .bool false, .bool false, thT (pcT t 8), .int .i64 0, .nilFunc, thT (pcT t 8), .int .i64 2, .nilFunc, thT (pcT t 8), thT (pcT t 8), vRow s.th.length ((s.th.set n (pcT t 2)).map thT), thT (pcT t 2), .bool false, thT (pcT t 2), .tuple #[evT s.ee (cmL s.ee s.el t.se n), vD true, .int .i64 (cmC s.ee s.el n)], thT (pcT t 2), .tuple #[thT (parkT t 2), .int .i64 0], thT (pcT t 2), vRow s.th.length ((s.th.set n (parkT t 2)).map thT)])
    (an h.lt <| an h.ln <| an (ac_pcheck h.ck h.ok) <| an h.ge <| an h.le <| an h.id <| an h.el <| an h.ru <| an h.id <| an h.el <| an h.si <| an h.id <| an h.el <| an (h.id) <| an (h.el) <| an (setT s.th n (pcT t 2)) <| an (h.id) <| an (el2 h.hn (pcT t 2)) <| an (hl) <| an (h.id) <| an (el2 h.hn (pcT t 2)) <| an (ac_pcommit hb hm) <| an (h.id) <| an (h.id) <| an (el2 h.hn (pcT t 2)) <| an (ac_ppark (park_of (c := 2) h.rs)) <| an (el2 h.hn (pcT t 2)) <| an (set2 s.th n (pcT t 2) (parkT t 2)) <|  an h.o1 trivial) (by kernel_rfl) hL
set_option maxRecDepth 100000 in
theorem lv_commitN (h : Rv s n t 8 m o) (hl : t.la = false) (hm : s.el.length ≤ 999999) (hb : cmB s.ee s.el t.se n = false) (hL : LoopP Tryz.prog (loopOf Tryz.prog 12 0) (hdV (s.setTh n (pcT t 2)) n m (o + 1) (s.th.length)) x S) : LoopP Tryz.prog (loopOf Tryz.prog 12 0) (hdV s n m o s.th.length) x S :=
  loop_more mixed (fuel := 9) (n := 12) (im := [0, 1, 2, 3, 4]) (keep := [2, 6, 8, 9, 10]) (ext := [21, 84, 85, 160]) (orc := [.bool true, vD true, .bool false, .bool false, thT (pcT t 8), .int .i64 0, .nilFunc, thT (pcT t 8), .int .i64 2, .nilFunc, thT (pcT t 8), thT (pcT t 8), vRow s.th.length ((s.th.set n (pcT t 2)).map thT), thT (pcT t 2), .bool false, thT (pcT t 2), .tuple #[evT s.ee (cmL s.ee s.el t.se n), vD false, .int .i64 (cmC s.ee s.el n)]])
    (an h.lt <| an h.ln <| an (ac_pcheck h.ck h.ok) <| an h.ge <| an h.le <| an h.id <| an h.el <| an h.ru <| an h.id <| an h.el <| an h.si <| an h.id <| an h.el <| an (h.id) <| an (h.el) <| an (setT s.th n (pcT t 2)) <| an (h.id) <| an (el2 h.hn (pcT t 2)) <| an (hl) <| an (h.id) <| an (el2 h.hn (pcT t 2)) <| an (ac_pcommit hb hm) <|  an h.o1 trivial) (by kernel_rfl) hL
set_option maxRecDepth 100000 in
theorem lv_leave9 (h : Rv s n t 9 m o) (hm : s.rc.length ≤ 999999) (hL : LoopP Tryz.prog (loopOf Tryz.prog 12 0) (hdV ((s.toRc (lvL s.rc n)).setTh n (doneT t)) n m (o + 1) (s.th.length)) x S) : LoopP Tryz.prog (loopOf Tryz.prog 12 0) (hdV s n m o s.th.length) x S :=
  loop_more mixed (fuel := 9) (n := 12) (im := [0, 1, 2, 3, 4]) (keep := [2, 6, 8, 9, 10]) (ext := [21, 84, 85, 162, 163]) (orc := [.bool true, vD true, .bool false, .bool false, thT (pcT t 9), .int .i64 0, .nilFunc, thT (pcT t 9), .int .i64 2, .nilFunc, thT (pcT t 9), .tuple #[rowI (lvL s.rc n), .int .i64 (lvE s.rc n)], thT (pcT t 9), .tuple #[thT (doneT t), .int .i64 0], thT (pcT t 9), vRow s.th.length ((s.th.set n (doneT t)).map thT)])
    (an h.lt <| an h.ln <| an (ac_pcheck h.ck h.ok) <| an h.ge <| an h.le <| an h.id <| an h.el <| an h.ru <| an h.id <| an h.el <| an h.si <| an h.id <| an h.el <| an (ac_pleave s.rc n hm) <| an (h.id) <| an (h.id) <| an (h.el) <| an (ac_pdone (done_of (c := 9) h.rs)) <| an (h.el) <| an (setT s.th n (doneT t)) <|  an h.o1 trivial) (by kernel_rfl) hL
set_option maxRecDepth 100000 in
theorem lv_leave10 (h : Rv s n t 10 m o) (hm : s.rc.length ≤ 999999) (hL : LoopP Tryz.prog (loopOf Tryz.prog 12 0) (hdV ((s.toRc (lvL s.rc n)).setTh n (doneT t)) n m (o + 1) (s.th.length)) x S) : LoopP Tryz.prog (loopOf Tryz.prog 12 0) (hdV s n m o s.th.length) x S :=
  loop_more mixed (fuel := 9) (n := 12) (im := [0, 1, 2, 3, 4]) (keep := [2, 6, 8, 9, 10]) (ext := [21, 84, 85, 162, 163]) (orc := [.bool true, vD true, .bool false, .bool false, thT (pcT t 10), .int .i64 0, .nilFunc, thT (pcT t 10), .int .i64 2, .nilFunc, thT (pcT t 10), .tuple #[rowI (lvL s.rc n), .int .i64 (lvE s.rc n)], thT (pcT t 10), .tuple #[thT (doneT t), .int .i64 0], thT (pcT t 10), vRow s.th.length ((s.th.set n (doneT t)).map thT)])
    (an h.lt <| an h.ln <| an (ac_pcheck h.ck h.ok) <| an h.ge <| an h.le <| an h.id <| an h.el <| an h.ru <| an h.id <| an h.el <| an h.si <| an h.id <| an h.el <| an (ac_pleave s.rc n hm) <| an (h.id) <| an (h.id) <| an (h.el) <| an (ac_pdone (done_of (c := 10) h.rs)) <| an (h.el) <| an (setT s.th n (doneT t)) <|  an h.o1 trivial) (by kernel_rfl) hL
set_option maxRecDepth 100000 in
theorem lv_leave11 (h : Rv s n t 11 m o) (hm : s.rc.length ≤ 999999) (hL : LoopP Tryz.prog (loopOf Tryz.prog 12 0) (hdV ((s.toRc (lvL s.rc n)).setTh n (doneT t)) n m (o + 1) (s.th.length)) x S) : LoopP Tryz.prog (loopOf Tryz.prog 12 0) (hdV s n m o s.th.length) x S :=
  loop_more mixed (fuel := 9) (n := 12) (im := [0, 1, 2, 3, 4]) (keep := [2, 6, 8, 9, 10]) (ext := [21, 84, 85, 162, 163]) (orc := [.bool true, vD true, .bool false, .bool false, thT (pcT t 11), .int .i64 0, .nilFunc, thT (pcT t 11), .int .i64 2, .nilFunc, thT (pcT t 11), .tuple #[rowI (lvL s.rc n), .int .i64 (lvE s.rc n)], thT (pcT t 11), .tuple #[thT (doneT t), .int .i64 0], thT (pcT t 11), vRow s.th.length ((s.th.set n (doneT t)).map thT)])
    (an h.lt <| an h.ln <| an (ac_pcheck h.ck h.ok) <| an h.ge <| an h.le <| an h.id <| an h.el <| an h.ru <| an h.id <| an h.el <| an h.si <| an h.id <| an h.el <| an (ac_pleave s.rc n hm) <| an (h.id) <| an (h.id) <| an (h.el) <| an (ac_pdone (done_of (c := 11) h.rs)) <| an (h.el) <| an (setT s.th n (doneT t)) <|  an h.o1 trivial) (by kernel_rfl) hL
end
end Go.Proofs.YtjbcfjfnobklkaaGreat

/- A step of the program's receive is the step of plain states. -/
namespace Go.Proofs.YtjbcfjfnobklkaaGreat
set_option linter.unusedVariables false
set_option linter.unusedSimpArgs false
open Go.RowKit
/-- What is true of a state that a step is done in. -/
structure Sv (s : St) (n : Nat) (m o : Int) : Prop where
  lt : decide (o < min m 1000) = true
  ck : stB s = true
  ok : s.ok
  hn : n < s.th.length
  st : (gth s.th n).st = 1
  sd : opSide (gth s.th n).ki = 2
  lg : s.lg.length ≤ 999999
  o1 : In64 (o + 1)
section
variable {s : St} {n : Nat} {m o : Int} {x : Exit} {S : Sg}
theorem Sv.rv (h : Sv s n m o) {c : Int} (hc : (gth s.th n).pc = c) : Rv s n (gth s.th n) c m o :=
  ⟨h.lt, h.ck, h.ok, h.hn, by rw [← hc]; rfl, by rw [h.st]; rfl, h.sd, fit_of h.ck (by have := h.lg; omega), h.o1⟩
/-- Whatever numbers tell how many threads there are. -/
def NxV (s : St) (n : Nat) (m o : Int) (x : Exit) (S : Sg) : Prop := ∀ N, N = s.th.length → LoopP Tryz.prog (loopOf Tryz.prog 12 0) (hdV s n m o N) x S
theorem NxV.to {s s' : St} (h : NxV s n m o x S) (e : s = s') {N : Nat} (hN : N = s'.th.length) : LoopP Tryz.prog (loopOf Tryz.prog 12 0) (hdV s' n m o N) x S := by subst e; exact h N hN
theorem Sv.ki (h : Sv s n m o) : (gth s.th n).ki ≠ 9 := fun e => by have := h.sd; rw [e] at this; exact absurd this (by decide)
theorem Sv.tb (h : Sv s n m o) : thB (gth s.th n) = true := gth_ok h.ck h.hn
theorem Sv.tr (h : Sv s n m o) : In64 ((gth s.th n).tr + 1) ∧ In64 (gth s.th n).re ∧ max (gth s.th n).tr 0 = (gth s.th n).tr := by
  have := h.tb
  generalize gth s.th n = t at this
  obtain ⟨st, ki, va, un, pc, re, se, tr, la, rs, go⟩ := t
  rw [thB_iff] at this
  simp only [In64]
  omega
theorem Sv.few (h : Sv s n m o) : s.rc.length ≤ 999999 ∧ s.fl.length ≤ 999999 ∧ s.el.length ≤ 999999 ∧ s.sl.length ≤ 1000 := by
  obtain ⟨a, b, c, d, -, -⟩ := full_lines h.ck
  have h2 := ok_len (stn_iff.1 b).1
  have h4 := ok_len (stn_iff.1 c).1
  have h5 := ok_len (stn_iff.1 d).1
  have h6 := (ok_iff.1 (word_ok h.ck).2.1).1
  omega
theorem first_lv (h : Sv s n m o) (hc : (gth s.th n).pc = 1) (hL : NxV (firstR s n) n m (o + 1) x S) : LoopP Tryz.prog (loopOf Tryz.prog 12 0) (hdV s n m o s.th.length) x S := by
  have hR := h.rv hc
  unfold firstR at hL
  split at hL
  · next hp => exact lv_first hR (by simp [hp]) (hL.to rfl len1)
  · next hp =>
    split at hL
    · next hl => exact lv_firstL hR (bne_of hp) hl (hL.to (told_is h.ck h.hn h.ki) len_set)
    · next hl => exact lv_firstT hR (bne_of hp) (by simpa using hl) h.tr.1 (hL.to (by unfold St.onTh; rw [try_on h.tb hc]) len1)
theorem look_lv (h : Sv s n m o) (hc : (gth s.th n).pc = 2) (hL : NxV (lookR s n) n m (o + 1) x S) : LoopP Tryz.prog (loopOf Tryz.prog 12 0) (hdV s n m o s.th.length) x S := by
  have hR := h.rv hc
  unfold lookR at hL
  split at hL
  · next hs => exact lv_lookR hR hs (hL.to rfl len1)
  · next h1 =>
    split at hL
    · next h2 => exact lv_lookE hR rfl (bne_of h1) (bne_of h2) (hL.to (told_is h.ck h.hn h.ki) len_set)
    · next h2 =>
      have hs : seesR s = 4 := Classical.not_not.1 h2
      split at hL
      · next hk => exact lv_lookB hR hs (by rw [hk]; rfl) (hL.to (told_is h.ck h.hn h.ki) len_set)
      · next hk =>
        have ho : opOnce (gth s.th n).ki = false := by
          have := h.sd
          generalize (gth s.th n).ki = k at this hk
          have h3 : k = 4 ∨ k = 6 := by rcases side_is k with h | h | h | h <;> omega
          rcases h3 with rfl | rfl <;> rfl
        split at hL
        · next hl => exact lv_lookL hR hs ho hl (hL.to (told_is h.ck h.hn h.ki) len_set)
        · next hl =>
          have hl' : (gth s.th n).la = false := by simpa using hl
          split at hL
          · next hw => exact lv_lookP hR hs ho hl' (by rw [h.tr.2.2]; exact hw) (hL.to rfl len1)
          · next hw => exact lv_lookT hR hs ho hl' (by rw [h.tr.2.2]) (bne_of hw) h.tr.1 (hL.to (by unfold St.onTh; rw [try_on h.tb hc]) len1)
theorem again_lv (h : Sv s n m o) (hc : (gth s.th n).pc = 7) (hL : NxV (recvN s n) n m (o + 1) x S) : LoopP Tryz.prog (loopOf Tryz.prog 12 0) (hdV s n m o s.th.length) x S := by
  have hR := h.rv hc
  rw [recvN_7 hc] at hL
  by_cases hs : seesR s = 4
  · cases hl : (gth s.th n).la
    · rw [if_pos ⟨hs, hl⟩] at hL
      exact lv_againY hR hs (by rw [hl]; rfl) (hL.to rfl len1)
    · rw [if_neg (by rw [hl]; simp)] at hL
      exact lv_againL hR hs (by rw [hl]; rfl) (hL.to rfl len1)
  · rw [if_neg (fun e => hs e.1)] at hL
    exact lv_againN hR rfl (bne_of hs) (hL.to rfl len1)
theorem commit_lv (h : Sv s n m o) (hc : (gth s.th n).pc = 8) (hL : NxV (commitR s n) n m (o + 1) x S) : LoopP Tryz.prog (loopOf Tryz.prog 12 0) (hdV s n m o s.th.length) x S := by
  have hR := h.rv hc
  unfold commitR at hL
  split at hL
  · next hl => exact lv_commitL hR hl (hL.to rfl len1)
  · next hl =>
    have hl' : (gth s.th n).la = false := by simpa using hl
    split at hL
    · next hb => exact lv_commitW hR hl' h.few.2.2.1 hb (hL.to (by unfold cmL; rw [if_pos hb]; rfl) len1)
    · next hb => exact lv_commitN hR hl' h.few.2.2.1 (by simpa using hb) (hL.to rfl len1)
theorem take_lv (h : Sv s n m o) (hc : (gth s.th n).pc = 3) (hL : NxV (takeR s n) n m (o + 1) x S) : LoopP Tryz.prog (loopOf Tryz.prog 12 0) (hdV s n m o s.th.length) x S := by
  have hR := h.rv hc
  unfold takeR at hL
  split at hL
  · next hs => exact lv_takeF hR hs (hL.to rfl len1)
  · next h4 =>
    split at hL
    · next h1 => exact lv_takeE hR rfl (bne_of h1) (bne_of h4) (hL.to (told_is h.ck h.hn h.ki) len_set)
    · next h1 =>
      have hs : seesR s = 1 := Classical.not_not.1 h1
      have hl := check_len (word_ok h.ck).1
      have hy := tk_y hs
      have h1' : (gth s.th n).st ≠ 0 := by have := h.st; omega
      have hW := takeW_ok h.ck hs
      have hB : stB ((s.toWord (s.hd + 1) s.tl s.md).setTh n (regT (gth s.th n) s.hd 3)) = true := onTh_stB (f := fun t => regT t s.hd 3) hW (regT_ok h.tb h1' (by omega) (by decide))
      have hB4 := takeB_ok h.ck h.hn h1' hs
      have hv0 := Vk.of h.ok
      have hv : Vk ((s.toWord (s.hd + 1) s.tl s.md).setTh n (regT (gth s.th n) s.hd 3)) := Vk.on (s := s.toWord (s.hd + 1) s.tl s.md) (f := fun t => regT t s.hd 3) ⟨hv0.cf, hv0.sl, hv0.th⟩ h.hn fun _ => ⟨rfl, rfl⟩
      have hlg : ((s.toWord (s.hd + 1) s.tl s.md).setTh n (regT (gth s.th n) s.hd 3)).lg.length ≤ 1000000 := by have := h.lg; show s.lg.length ≤ 1000000; omega
      have e1 : valV ((s.toWord (s.hd + 1) s.tl s.md).setTh n (regT (gth s.th n) s.hd 3)) s.hd = valV s s.hd := by unfold valV; rw [hB, h.ck]; rfl
      refine lv_takeR (g := valV s s.hd) hR hs hy.1 hy.2 e1 (has_of hB (by show n < (s.th.set n _).length; rw [List.length_set]; exact h.hn)) (ok_of hB hv (by omega)) (fit_of hB hlg) (hL.to ?_ (by show ((s.th.set n _).set n _).length = (((s.th.set n _).set n _).set n _).length; simp))
      have hn4 : n < ((s.toWord (s.hd + 1) s.tl s.md).onTh n (regT · s.hd 4)).th.length := by show n < (s.th.set n _).length; rw [List.length_set]; exact h.hn
      have g4 := gth_on (s := s.toWord (s.hd + 1) s.tl s.md) (n := n) h.hn (regT · s.hd 4)
      unfold toldS
      rw [tell_th hB4 hn4, g4]
      unfold St.onTh
      show St.mk _ _ _ _ _ _ _ _ _ _ _ _ (((s.th.set n _).set n _).set n (pcT (gth ((s.th.set n _).set n _) n) 4)) _ = St.mk _ _ _ _ _ _ _ _ _ _ _ _ (((s.th.set n _).set n _).set n _) _
      have hk : (regT (gth s.th n) s.hd 4).ki ≠ 9 := h.ki
      have e2 : tellT (regT (gth s.th n) s.hd 4) (gth s.th n).ki 1 (valV s s.hd) = rgT (regT (gth s.th n) s.hd 4) 1 (valV s s.hd) := by unfold tellT; rw [if_neg h.ki]; rfl
      have e3 : gth ((s.th.set n (regT (gth s.th n) s.hd 4)).set n (rgT (regT (gth s.th n) s.hd 4) 1 (valV s s.hd))) n = rgT (regT (gth s.th n) s.hd 4) 1 (valV s s.hd) := by rw [gth_set (by rw [List.length_set]; exact h.hn), if_pos rfl]
      have e5 : gth (s.th.set n (regT (gth s.th n) s.hd 3)) n = regT (gth s.th n) s.hd 3 := by rw [gth_set h.hn, if_pos rfl]
      have e6 : gth ((s.toWord (s.hd + 1) s.tl s.md).setTh n (regT (gth s.th n) s.hd 3)).th n = regT (gth s.th n) s.hd 3 := e5
      have e7 : gth (s.toWord (s.hd + 1) s.tl s.md).th n = gth s.th n := rfl
      rw [e7, e2, e3, List.set_set, List.set_set, List.set_set, List.set_set]
      unfold tlE
      rw [e6]
      rfl
theorem fullR_ok (h : Sv s n m o) : stB (s.toFull (ntE s.fe s.fl) (ntL 1 s.fe s.fl)) = true ∧ (s.toFull (ntE s.fe s.fl) (ntL 1 s.fe s.fl)).ok := by
  obtain ⟨-, -, d, -, e, -⟩ := full_lines h.ck
  have h1 : okE (ntE s.fe s.fl) (ntL 1 s.fe s.fl) = true := by simp only [ntE, ntL, e, if_true]; exact okE_nx e (ok_drop (okE_ln e) 1)
  have h2 : stnB s.cf.th (ntL 1 s.fe s.fl) = true := by simp only [ntL, e, if_true]; exact stn_sub d (ok_drop (okE_ln e) 1) (fun x hx => List.mem_of_mem_drop hx)
  have h3 := (okE_iff.1 h1).1
  have hb := h.ok.fl
  refine ⟨full_stB h.ck h1 h2, ⟨h.ok.cf, h.ok.hd, h.ok.tl, h.ok.md, (show In64 (ntE s.fe s.fl) by constructor <;> omega), h.ok.ee, h.ok.nw, h.ok.sl, h.ok.sn, h.ok.rc, ?_, h.ok.el, h.ok.th, h.ok.lg⟩⟩
  show (∀ x ∈ ntL 1 s.fe s.fl, In64 x) ∧ (ntL 1 s.fe s.fl).length ≤ maxLen
  simp only [ntL, e, if_true]
  exact ⟨fun x hx => hb.1 x (List.mem_of_mem_drop hx), by rw [List.length_drop]; omega⟩
theorem notify_lv (h : Sv s n m o) (hc : (gth s.th n).pc = 6) (hL : NxV (notifyR s n) n m (o + 1) x S) : LoopP Tryz.prog (loopOf Tryz.prog 12 0) (hdV s n m o s.th.length) x S := by
  have hR := h.rv hc
  obtain ⟨h1, h2⟩ := fullR_ok h
  unfold notifyR at hL
  split at hL
  · next hb =>
    obtain ⟨-, -, d, -, e, -⟩ := full_lines h.ck
    have hth := th_len h.ck
    have hq : ∃ q : Nat, hdI (ntT 1 s.fe s.fl) = q ∧ q < s.th.length := by
      have hb' := hb
      simp only [ntT, e, if_true] at hb' ⊢
      cases hl : s.fl with
      | nil => rw [hl] at hb'; cases hb'
      | cons y r =>
        have hy : y ∈ s.fl := by rw [hl]; exact List.mem_cons_self
        have h3 := (stn_iff.1 d).2 y hy
        have h4 := (okl_iff.1 (stn_iff.1 d).1).1 y hy
        exact ⟨y.toNat, by show y = _; omega, by omega⟩
    obtain ⟨q, hq, hql⟩ := hq
    have h9 : stB ((s.toFull (ntE s.fe s.fl) (ntL 1 s.fe s.fl)).onTh n (pcT · 9)) = true := onTh_stB h1 (pcT_ok h.tb (by have := h.st; omega) (by decide))
    have e6 : gth s.th n = pcT (gth s.th n) 6 := by conv => lhs; rw [show gth s.th n = pcT (gth s.th n) (gth s.th n).pc from rfl, hc]
    have hA : hasB ((s.toFull (ntE s.fe s.fl) (ntL 1 s.fe s.fl)).onTh n (pcT · 9)) q = true := has_of h9 (by show q < (s.th.set n _).length; rw [List.length_set]; exact hql)
    have hg : gth (s.th.set q (wakeT (gth s.th q))) n = pcT (gth s.th n) 6 := by
      rw [gth_set hql]
      split
      · next e => subst e; rw [wake_one h.st]; exact e6
      · exact e6
    refine lv_notifyW hR h.few.2.1 hb hq (has_of h1 hql) h2 (fit_of h1 (by have := h.lg; show s.lg.length ≤ 1000000; omega)) hg (hL.to ?_ len1)
    rw [hq]
    unfold wakeS
    rw [if_pos hA]
    unfold St.onTh
    show St.mk _ _ _ _ _ _ _ _ _ _ _ _ ((s.th.set n (pcT (gth s.th n) 9)).set (q : Int).toNat (wakeT (gth (s.th.set n (pcT (gth s.th n) 9)) (q : Int).toNat))) _ = St.mk _ _ _ _ _ _ _ _ _ _ _ _ ((s.th.set q (wakeT (gth s.th q))).set n (pcT (gth s.th n) 9)) _
    congr 1
    rw [Int.toNat_natCast, gth_set h.hn]
    by_cases hqn : n = q
    · subst hqn
      rw [if_pos rfl, List.set_set, List.set_set, wake_one (show (pcT (gth s.th n) 9).st = 1 from h.st)]
    · rw [if_neg hqn, List.set_comm _ _ hqn]
  · next hb => exact lv_notifyN hR h.few.2.1 (by simpa using hb) (hL.to rfl len1)
/-- A step. -/
theorem step_lv (h : Sv s n m o) (hL : NxV (recvN s n) n m (o + 1) x S) : LoopP Tryz.prog (loopOf Tryz.prog 12 0) (hdV s n m o s.th.length) x S := by
  obtain p | p | p | p | p | p | p | p | p | p | p | p := pc_or h.tb
  · rw [recvN_0 p] at hL; exact lv_enter (h.rv p) h.few.1 (hL.to rfl len1)
  · rw [recvN_1 p] at hL; exact first_lv h p hL
  · rw [recvN_2 p] at hL; exact look_lv h p hL
  · rw [recvN_3 p] at hL; exact take_lv h p hL
  · rw [recvN_4 p] at hL; exact lv_read (h.rv p) h.few.2.2.2 h.tr.2.1 (hL.to rfl len1)
  · rw [recvN_5 p] at hL
    obtain ⟨-, -, -, -, -, e⟩ := full_lines h.ck
    exact lv_prep (h.rv p) (by unfold prE; rw [if_pos e]) (hL.to rfl len1)
  · rw [recvN_6 p] at hL; exact notify_lv h p hL
  · exact again_lv h p hL
  · rw [recvN_8 p] at hL; exact commit_lv h p hL
  · rw [recvN_9 (.inl p)] at hL; exact lv_leave9 (h.rv p) h.few.1 (hL.to rfl len1)
  · rw [recvN_9 (.inr (.inl p))] at hL; exact lv_leave10 (h.rv p) h.few.1 (hL.to rfl len1)
  · rw [recvN_9 (.inr (.inr p))] at hL; exact lv_leave11 (h.rv p) h.few.1 (hL.to rfl len1)
end
end Go.Proofs.YtjbcfjfnobklkaaGreat

/- A region that draws its order and fills a map: its rows come in whatever order; a fact on each value that is handed back, kept. -/
namespace Go.Proofs.YtjbcfjfnobklkaaGreat
set_option linter.unusedVariables false
set_option linter.unusedSimpArgs false
open Go.RowKit
/-- All was there is kept below N; of what lies above, whatever is no map. -/
structure Rm (N : Nat) (W W' : World) : Prop where
  tape : W'.tape = W.tape
  os : W'.os = W.os
  output : W'.output = W.output
  size : W.heap.size ≤ W'.heap.size
  low : ∀ g : Nat, g < N → W'.heap[g]? = W.heap[g]?
  cels : ∀ (g : Nat) (arr : Array Value) (ty : TypeId) (fz : Nat × Nat), W.heap[g]? = some (.cells arr ty fz) → W'.heap[g]? = W.heap[g]?
theorem Rm.of {N : Nat} {W W' : World} (h : Below W.heap.size W W') (hN : N ≤ W.heap.size) : Rm N W W' :=
  ⟨h.tape, h.os, h.output, h.size, fun g hg => h.block g (by omega), fun g arr ty fz hg => h.block g (Array.getElem?_eq_some_iff.1 hg).1⟩
theorem Rm.trans {N : Nat} {A B C : World} (h : Rm N A B) (k : Rm N B C) : Rm N A C :=
  ⟨k.tape.trans h.tape, k.os.trans h.os, k.output.trans h.output, Nat.le_trans h.size k.size, fun g hg => (k.low g hg).trans (h.low g hg), fun g arr ty fz hg => (k.cels g arr ty fz ((h.cels g arr ty fz hg).trans hg)).trans (h.cels g arr ty fz hg)⟩
theorem Rm.kept {N : Nat} {W W' : World} (h : Rm N W W') (hN : W.heap.size = N) : Kept W W' := { tape := h.tape, os := h.os, output := h.output, size := h.size, block := fun g hg => h.low g (by omega) }
/-- What is known once some are done. -/
structure FactsM (N : Nat) (D : List (Option Nat)) (F : Nat → Value → World → Prop) (a : Act) (w : World) (done : Nat → Bool) (b : Act) (W : World) : Prop where
  kept : Rm N w W
  defers : b.defers = a.defers
  size : b.tmps.size = a.tmps.size
  rest : ∀ t, some t ∉ D → b.tmps[t]? = a.tmps[t]?
  fact : ∀ i d, D[i]? = some d → done i = true → ∃ v, (∀ t, d = some t → b.tmps[t]? = some v) ∧ F i v W
/-- The map, once some rows are laid: a row is the operation that lays it, its key, the operation that its element comes from. -/
structure MapM (N : Nat) (F : Nat → Value → World → Prop) (ins : List (Nat × Int × Nat)) (dm : Nat) (done : Nat → Bool) (b : Act) (W : World) (mb : Nat) (l : List (Int × Value)) : Prop where
  here : b.tmps[dm]? = some (.map (some mb))
  ge : N ≤ mb
  map : IMap W mb l
  nodup : (l.map (·.1)).Nodup
  from_ : ∀ d ∈ l, ∃ r ∈ ins, done r.1 = true ∧ d.1 = r.2.1 ∧ F r.2.2 d.2 W
  all : ∀ r ∈ ins, done r.1 = true → ∃ d ∈ l, d.1 = r.2.1
theorem getD_set_self' {listed : Array Bool} {i : Nat} (h : i < listed.size) : (listed.setIfInBounds i true).getD i false = true := by simp [Array.getD, h]
theorem getD_set_other' {listed : Array Bool} {i j : Nat} (h : j ≠ i) : (listed.setIfInBounds i true).getD j false = listed.getD j false := by
  by_cases hj : j < listed.size
  · simp [Array.getD, hj, Array.getElem_setIfInBounds, Ne.symm h]
  · simp [Array.getD, hj]
section
variable {P : Program} {Q : Exit → Act → World → Prop} {mty kt et : TypeId}
theorem wp_region_mp {id : Nat} {a : Act} {w : World} {l : List Oper} (N n : Nat) (D : List (Option Nat)) (F : Nat → Value → World → Prop) (dm : Nat) (ins : List (Nat × Int × Nat)) (hNw : w.heap.size = N)
    (hu : P.underlying mty = some (.map kt et)) (hd : P.underlying kt = some (.int .i64))
    (hm : P.follows .mixedOrders = true) (ha : acyc l = true) (htl : tailB l n = true) (hn : n ≤ l.length) (hD : (l.take n).map (·.dst) = D) (hN : onceB D = true) (hsz : ∀ d, some d ∈ D → d < a.tmps.size)
    (hg : (l.take n).all (fun o => o.guard.isNone) = true) (hmono : ∀ i v W W', F i v W → Rm N W W' → F i v W')
    (hmk : ∃ o, l[0]? = some o ∧ o.op = .makeMap mty none ∧ o.dst = some dm) (hF0 : ∀ v W, F 0 v W)
    (hins : ∀ r ∈ ins, r.1 < n ∧ r.1 ≠ 0 ∧ ∃ o d, l[r.1]? = some o ∧ o.dst = none ∧ o.op = .insert mty (.tmp dm) (.const (.int .i64 r.2.1)) (.tmp d) ∧ D[r.2.2]? = some (some d) ∧ r.2.2 < n ∧ waitB l r.1 0 = true ∧ waitB l r.1 r.2.2 = true ∧ ∀ v W, F r.1 v W)
    (hk1 : (ins.map (·.1)).Nodup) (hk2 : (ins.map (·.2.1)).Nodup)
    (hstep : ∀ i o, l[i]? = some o → i < n → i ≠ 0 → (∀ r ∈ ins, r.1 ≠ i) → ∀ b W, FactsM N D F a w (fun j => o.after.toList.any fun e => Region.binds .any e && e.on == j) b W →
      ∀ K : Act → World → Prop, (∀ v W', F i v W' → Below W.heap.size W W' → K (b.put o.dst v) W') → o.wp P b W K Q)
    (hend : ∀ b W mb m, FactsM N D F a w (fun _ => true) b W → MapM N F ins dm (fun _ => true) b W mb m → wpList P l.toArray Q (l.drop n) b W) (h0n : 0 < n) : (Code.region id l.toArray true).wp P Q a w := by
  have hln : (l.take n).length = n := by simp; omega
  have hlen : D.length = n := by rw [← hD, List.length_map, hln]
  have htk : ∀ {i : Nat}, i < n → (l.take n)[i]? = l[i]? := fun hi => List.getElem?_take_of_lt hi
  have hdst : ∀ (i : Nat) o, i < n → l[i]? = some o → D[i]? = some o.dst := fun i o hin hi => by
    rw [← hD, List.getElem?_map, htk hin, hi]; rfl
  have hinj : ∀ r ∈ ins, ∀ r' ∈ ins, r.1 = r'.1 → r = r' := fun r hr r' hr' e => by
    obtain ⟨i, hi⟩ := List.getElem?_of_mem hr
    obtain ⟨j, hj⟩ := List.getElem?_of_mem hr'
    have e1 : (ins.map (·.1))[i]? = some r.1 := by simp [hi]
    have e2 : (ins.map (·.1))[j]? = some r.1 := by simp [hj, e]
    have : i = j := (List.getElem?_inj (List.getElem?_eq_some_iff.1 e1).1 hk1).1 (e1.trans e2.symm)
    subst this
    rw [hi] at hj; exact Option.some.inj hj
  have hinj2 : ∀ r ∈ ins, ∀ r' ∈ ins, r.2.1 = r'.2.1 → r = r' := fun r hr r' hr' e => by
    obtain ⟨i, hi⟩ := List.getElem?_of_mem hr
    obtain ⟨j, hj⟩ := List.getElem?_of_mem hr'
    have e1 : (ins.map (·.2.1))[i]? = some r.2.1 := by simp [hi]
    have e2 : (ins.map (·.2.1))[j]? = some r.2.1 := by simp [hj, e]
    have : i = j := (List.getElem?_inj (List.getElem?_eq_some_iff.1 e1).1 hk2).1 (e1.trans e2.symm)
    subst this
    rw [hi] at hj; exact Option.some.inj hj
  refine wp_region_inv (fun listed b W => Closed l listed ∧ (((∀ i, n ≤ i → i < l.length → listed.getD i false = false) ∧ FactsM N D F a w (fun i => decide (i < n) && listed.getD i false) b W ∧
      (listed.getD 0 false = true → ∃ mb m, MapM N F ins dm (fun i => listed.getD i false) b W mb m) ∧ (listed.getD 0 false = false → ∀ r ∈ ins, listed.getD r.1 false = false)) ∨
      ∃ m, n < m ∧ (∀ i, i < l.length → listed.getD i false = decide (i < m)) ∧ wpList P l.toArray Q (l.drop m) b W)) hm ha ?_ ?_ ?_
  · refine ⟨fun k o hk hl => by
      have : k < l.length := (List.getElem?_eq_some_iff.1 hk).1
      simp [Array.getD, this] at hl, .inl ⟨fun i _ hi => ?_, ⟨⟨rfl, rfl, rfl, Nat.le_refl _, fun _ _ => rfl, fun _ _ _ _ _ => rfl⟩, rfl, rfl, fun _ _ => rfl, fun i d hi h => ?_⟩, fun h => ?_, fun _ r hr => ?_⟩⟩
    · simp [Array.getD, hi]
    · simp only [Bool.and_eq_true, decide_eq_true_eq] at h
      have : i < l.length := by omega
      simp [Array.getD, this] at h
    · have : 0 < l.length := by omega
      simp [Array.getD, this] at h
    · have : r.1 < l.length := by have := (hins r hr).1; omega
      simp [Array.getD, this]
  · intro listed b W i o hs hI hi hnl hw
    have hil : i < l.length := (List.getElem?_eq_some_iff.1 hi).1
    have hnl' : listed.getD i false = false := by
      have h1 : i < listed.size := by omega
      simpa [Array.getD, h1] using hnl
    obtain ⟨hC, hI⟩ := hI
    have hC' := hC.set hi hw
    have hset : ∀ j, j ≠ i → (listed.setIfInBounds i true).getD j false = listed.getD j false := fun j hj => getD_set_other' hj
    have hself : (listed.setIfInBounds i true).getD i false = true := getD_set_self' (by omega)
    rcases hI with ⟨hT, hF, hM, hM0⟩ | ⟨m, hnm, hL, hwp⟩
    · by_cases hin : i < n
      · have hdo := hdst i o hin hi
        have hgo : o.guard = none := by
          have := List.all_eq_true.1 hg o (List.mem_of_getElem? ((htk hin).trans hi))
          simpa using this
        have hTn : ∀ j, n ≤ j → j < l.length → (listed.setIfInBounds i true).getD j false = false := fun j hj1 hj2 => by
          rw [hset j (by omega)]; exact hT j hj1 hj2
        -- the facts behind one more
        have hnext : ∀ v W', F i v W' → Rm N W W' → FactsM N D F a w (fun i' => decide (i' < n) && (listed.setIfInBounds i true).getD i' false) (b.put o.dst v) W' := fun v W' hFv hB => by
          have hother : ∀ j dj, D[j]? = some dj → (decide (j < n) && (listed.setIfInBounds i true).getD j false) = true → j ≠ i → ∃ u, (∀ t, dj = some t → b.tmps[t]? = some u) ∧ F j u W' := fun j dj hj hdone hji => by
            simp only [Bool.and_eq_true, decide_eq_true_eq] at hdone
            have h4 : listed.getD j false = true := by rw [← hset j hji]; exact hdone.2
            obtain ⟨u, hu, hFu⟩ := hF.fact j dj hj (by simp [h4, hdone.1])
            exact ⟨u, hu, hmono _ _ _ _ hFu hB⟩
          cases hod : o.dst with
          | none =>
            rw [hod] at hdo
            refine ⟨hF.kept.trans hB, hF.defers, hF.size, hF.rest, fun j dj hj hdone => ?_⟩
            by_cases hji : j = i
            · subst hji
              rw [hdo] at hj; cases hj
              exact ⟨v, fun t ht => (by cases ht), hFv⟩
            · exact hother j dj hj hdone hji
          | some d =>
            rw [hod] at hdo
            have hdm : some d ∈ D := List.mem_of_getElem? hdo
            have hdb : d < b.tmps.size := by rw [hF.size]; exact hsz d hdm
            refine ⟨hF.kept.trans hB, hF.defers, by simpa [Act.put] using hF.size, fun t ht => ?_, fun j dj hj hdone => ?_⟩
            · have hne : t ≠ d := fun h => ht (h ▸ hdm)
              rw [← hF.rest t ht]
              simp [Act.put, Array.getElem?_setIfInBounds, Ne.symm hne]
            · by_cases hji : j = i
              · subst hji
                rw [hdo] at hj; cases hj
                exact ⟨v, fun t ht => (by cases ht; simp [Act.put, hdb]), hFv⟩
              · obtain ⟨u, hu, hFu⟩ := hother j dj hj hdone hji
                refine ⟨u, fun t ht => ?_, hFu⟩
                subst ht
                have hne : t ≠ d := fun h => hji (by subst h; exact once_spec hN hj hdo)
                simpa [Act.put, Array.getElem?_setIfInBounds, Ne.symm hne] using hu t rfl
        obtain ⟨om, hom, hopm, hdstm⟩ := hmk
        have hD0 : D[0]? = some (some dm) := by rw [← hdstm]; exact hdst 0 om h0n hom
        have hNW : N ≤ W.heap.size := by rw [← hNw]; exact hF.kept.size
        have hi' : l.toArray[i]? = some o := by simpa using hi
        have wpo : o.wp P b W (fun b' W' => Closed l (listed.setIfInBounds i true) ∧ (((∀ j, n ≤ j → j < l.length → (listed.setIfInBounds i true).getD j false = false) ∧ FactsM N D F a w (fun j => decide (j < n) && (listed.setIfInBounds i true).getD j false) b' W' ∧
            ((listed.setIfInBounds i true).getD 0 false = true → ∃ mb m, MapM N F ins dm (fun j => (listed.setIfInBounds i true).getD j false) b' W' mb m) ∧ ((listed.setIfInBounds i true).getD 0 false = false → ∀ r ∈ ins, (listed.setIfInBounds i true).getD r.1 false = false)) ∨
            ∃ m, n < m ∧ (∀ j, j < l.length → (listed.setIfInBounds i true).getD j false = decide (j < m)) ∧ wpList P l.toArray Q (l.drop m) b' W')) Q := by
          by_cases hi0 : i = 0
          · subst hi0
            obtain rfl : om = o := Option.some.inj (hom.symm.trans hi)
            have hrun : (execOp b.eval om).run P W = .ok (.value (.map (some W.heap.size))) (W.alloc (.map #[] 0)) := by simp [execOp, hopm, run_makeMap]
            unfold Oper.wp
            rw [hrun]
            have hB : Rm N W (W.alloc (.map #[] 0)) := Rm.of ((show Below W.heap.size W W from ⟨rfl, rfl, rfl, Nat.le_refl _, fun _ _ => rfl⟩).alloc (Nat.le_refl _) _) hNW
            have hnx := hnext (.map (some W.heap.size)) _ (hF0 _ _) hB
            refine ⟨hC', .inl ⟨hTn, hnx, fun _ => ⟨W.heap.size, [], ⟨?_, hNW, IMap.made W, by simp, fun d hd => (by cases hd), fun r hr hdone => ?_⟩⟩, fun h => ?_⟩⟩
            · obtain ⟨v, hv, -⟩ := hnx.fact 0 _ hD0 (by simp [h0n, hself])
              rw [hdstm]
              have hdb : dm < b.tmps.size := by rw [hF.size]; exact hsz dm (List.mem_of_getElem? hD0)
              simp [Act.put, hdb]
            · rw [hset r.1 (hins r hr).2.1, hM0 hnl' r hr] at hdone; cases hdone
            · rw [hself] at h; cases h
          · have h00 : (listed.setIfInBounds i true).getD 0 false = listed.getD 0 false := hset 0 (Ne.symm hi0)
            by_cases hr : ∃ r ∈ ins, r.1 = i
            · obtain ⟨r, hr, rfl⟩ := hr
              obtain ⟨-, -, o', d, ho', hdn, hop, hDs, hsn, hw0, hws, hFi⟩ := hins r hr
              obtain rfl : o' = o := Option.some.inj (ho'.symm.trans hi)
              obtain ⟨e0, he0, hb0, hon0⟩ := waitB_spec hw0 hi
              obtain ⟨e1, he1, hb1, hon1⟩ := waitB_spec hws hi
              have hd0 : listed.getD 0 false = true := hon0 ▸ hw e0 he0 hb0
              have hds : listed.getD r.2.2 false = true := hon1 ▸ hw e1 he1 hb1
              obtain ⟨mb, m, hMM⟩ := hM hd0
              obtain ⟨v, hv, hFv⟩ := hF.fact r.2.2 _ hDs (by simp [hsn, hds])
              have hv' := hv d rfl
              have hnk : ∀ d' ∈ m, d'.1 ≠ r.2.1 := fun d' hd' e => by
                obtain ⟨r', hr', hdone, hk, -⟩ := hMM.from_ d' hd'
                have := hinj2 r' hr' r hr (hk.symm.trans e)
                subst this
                rw [hnl'] at hdone; cases hdone
              obtain ⟨es, ck, hrun, hmap, hoth, -⟩ := imap_put2 (P := P) hu hd hMM.map r.2.1 v hnk
              have hrun' : (execOp b.eval o').run P W = .ok .skip { W with heap := W.heap.setIfInBounds mb (.map es ck) } := by
                have h1 : b.eval (.tmp dm) = .map (some mb) := by simp [Act.eval, hMM.here]
                have h2 : b.eval (.tmp d) = v := by simp [Act.eval, hv']
                have h3 : b.eval (.const (.int .i64 r.2.1)) = .int .i64 r.2.1 := rfl
                simp [execOp, hop, h1, h2, h3, hrun]
              have hmbl := hMM.map.lt
              have hB : Rm N W { W with heap := W.heap.setIfInBounds mb (.map es ck) } := ⟨rfl, rfl, rfl, by simp, fun g hg' => hoth g (by have := hMM.ge; omega), fun g arr ty fz hgc => by
                have hne : g ≠ mb := fun e => by
                  subst e
                  obtain ⟨es, ck, hm1⟩ := hMM.map
                  rw [hm1.obj] at hgc; cases hgc
                exact hoth g hne⟩
              unfold Oper.wp
              rw [hrun']
              have hnx := hnext undef _ (hFi _ _) hB
              refine ⟨hC', .inl ⟨hTn, hnx, fun _ => ⟨mb, m ++ [(r.2.1, v)], ⟨by show (b.put o'.dst undef).tmps[dm]? = _; rw [hdn]; exact hMM.here, hMM.ge, hmap, ?_, fun d' hd' => ?_, fun r' hr' hdone => ?_⟩⟩, fun h => ?_⟩⟩
              · rw [List.map_append]
                refine List.nodup_append.2 ⟨hMM.nodup, by simp, fun p hp q hq => ?_⟩
                simp only [List.map_cons, List.map_nil, List.mem_singleton] at hq
                subst hq
                obtain ⟨d', hd', rfl⟩ := List.mem_map.1 hp
                exact hnk d' hd'
              · rcases List.mem_append.1 hd' with hd' | hd'
                · obtain ⟨r', hr', hdone, hk, hFd⟩ := hMM.from_ d' hd'
                  refine ⟨r', hr', ?_, hk, hmono _ _ _ _ hFd hB⟩
                  by_cases e : r'.1 = r.1
                  · rw [e]; exact hself
                  · rw [hset r'.1 e]; exact hdone
                · simp only [List.mem_singleton] at hd'
                  subst hd'
                  exact ⟨r, hr, hself, rfl, hmono _ _ _ _ hFv hB⟩
              · by_cases e : r'.1 = r.1
                · have := hinj r' hr' r hr e
                  subst this
                  exact ⟨(r'.2.1, v), by simp, rfl⟩
                · rw [hset r'.1 e] at hdone
                  obtain ⟨d', hd', hk⟩ := hMM.all r' hr' hdone
                  exact ⟨d', List.mem_append_left _ hd', hk⟩
              · rw [h00, hd0] at h; cases h
            · have hno : ∀ r ∈ ins, r.1 ≠ i := fun r hr' e => hr ⟨r, hr', e⟩
              refine hstep i o hi hin hi0 hno b W ⟨hF.kept, hF.defers, hF.size, hF.rest, fun j dj hj hdone => by
                obtain ⟨e, he, h2⟩ := List.any_eq_true.1 hdone
                simp only [Bool.and_eq_true, beq_iff_eq] at h2
                have h3 := hw e (Array.mem_toList_iff.1 he) h2.1
                rw [h2.2] at h3
                have hjl : j < n := by rw [← hlen]; exact (List.getElem?_eq_some_iff.1 hj).1
                exact hF.fact j dj hj (by simp [h3, hjl])⟩ _ fun v W' hFv hBl => ?_
              have hB := Rm.of hBl hNW
              have hnx := hnext v W' hFv hB
              refine ⟨hC', .inl ⟨hTn, hnx, fun h => ?_, fun h r hr' => ?_⟩⟩
              · rw [h00] at h
                obtain ⟨mb, m, hMM⟩ := hM h
                refine ⟨mb, m, ?_, hMM.ge, hMM.map.kept hBl, hMM.nodup, fun d' hd' => ?_, fun r' hr' hdone => ?_⟩
                · cases hod : o.dst with
                  | none => exact hMM.here
                  | some d =>
                    have hne : d ≠ dm := fun e => by
                      subst e
                      rw [hod] at hdo
                      exact hi0 (once_spec hN hdo hD0)
                    simpa [Act.put, Array.getElem?_setIfInBounds, hne] using hMM.here
                · obtain ⟨r', hr', hdone, hk, hFd⟩ := hMM.from_ d' hd'
                  exact ⟨r', hr', by rw [hset r'.1 (hno r' hr')]; exact hdone, hk, hmono _ _ _ _ hFd hB⟩
                · rw [hset r'.1 (hno r' hr')] at hdone
                  exact hMM.all r' hr' hdone
              · rw [h00] at h
                rw [hset r.1 (hno r hr')]
                exact hM0 h r hr'
        unfold wpOp
        simp only [hi', Region.wanted, hgo, if_true]
        left
        exact wpo
      · have hall : ∀ j, j < i → listed.getD j false = true := fun j hj => tail_waits' htl hi (by omega) hj hC hw
        have hie : i = n := by
          rcases Nat.lt_or_ge n i with h | h
          · have h1 := hall n h
            rw [hT n (Nat.le_refl _) (by omega)] at h1
            cases h1
          · omega
        subst hie
        obtain ⟨mb, m, hMM⟩ := hM (hall 0 h0n)
        have h1 := hend b W mb m ⟨hF.kept, hF.defers, hF.size, hF.rest, fun j dj hj _ => hF.fact j dj hj (by
          have hjl : j < i := by rw [← hlen]; exact (List.getElem?_eq_some_iff.1 hj).1
          simp [hjl, hall j hjl])⟩ ⟨hMM.here, hMM.ge, hMM.map, hMM.nodup, fun d hd' => let ⟨r, hr, _, hk, hFd⟩ := hMM.from_ d hd'; ⟨r, hr, rfl, hk, hFd⟩, fun r hr _ => hMM.all r hr (hall r.1 (hins r hr).1)⟩
        have hdr : l.drop i = o :: l.drop (i + 1) := by
          rw [List.drop_eq_getElem_cons hil]
          congr 1
          exact (List.getElem?_eq_some_iff.1 hi).2
        rw [hdr] at h1
        refine wpOp_mono (fun a' w' h' => ⟨hC', .inr ⟨i + 1, by omega, fun j hj => ?_, h'⟩⟩) (wpOp_of_list hi h1)
        have hjs : j < listed.size := by omega
        by_cases hji : j = i
        · subst hji; simp [Array.getD, hjs]
        · by_cases hlt : j < i
          · have h4 := hall j hlt
            have : j < i + 1 := by omega
            simpa [Array.getD, hjs, Array.getElem_setIfInBounds, Ne.symm hji, this] using h4
          · have h4 := hT j (by omega) hj
            have : ¬ j < i + 1 := by omega
            simpa [Array.getD, hjs, Array.getElem_setIfInBounds, Ne.symm hji, this] using h4
    · have hin : m ≤ i := by
        have := hL i hil
        rw [hnl'] at this
        simpa using this.symm
      have hie : i = m := by
        rcases Nat.lt_or_ge m i with h | h
        · have h1 := tail_waits' htl hi (by omega) h hC hw
          rw [hL m (by omega)] at h1
          simp at h1
        · omega
      subst hie
      have hdr : l.drop i = o :: l.drop (i + 1) := by
        rw [List.drop_eq_getElem_cons hil]
        congr 1
        exact (List.getElem?_eq_some_iff.1 hi).2
      rw [hdr] at hwp
      refine wpOp_mono (fun a' w' h' => ⟨hC', .inr ⟨i + 1, by omega, fun j hj => ?_, h'⟩⟩) (wpOp_of_list hi hwp)
      have hjs : j < listed.size := by omega
      have h4 := hL j hj
      by_cases hji : j = i
      · subst hji; simp [Array.getD, hjs]
      · have h5 : decide (j < i + 1) = decide (j < i) := by
          by_cases h : j < i <;> simp [h] <;> omega
        rw [h5]
        simpa [Array.getD, hjs, Array.getElem_setIfInBounds, Ne.symm hji] using h4
  · intro b W hI
    rcases hI.2 with ⟨hT, hF, hM, -⟩ | ⟨m, hnm, hL, hwp⟩
    · have hnl : n = l.length := by
        rcases Nat.lt_or_ge n l.length with h | h
        · have := hT n (Nat.le_refl _) h
          simp [Array.getD, h] at this
        · omega
      have hall : ∀ j, j < l.length → (Array.replicate l.length true).getD j false = true := fun j hj => by simp [Array.getD, hj]
      obtain ⟨mb, m, hMM⟩ := hM (hall 0 (by omega))
      have h1 := hend b W mb m ⟨hF.kept, hF.defers, hF.size, hF.rest, fun j dj hj _ => hF.fact j dj hj (by
        have hjl : j < n := by rw [← hlen]; exact (List.getElem?_eq_some_iff.1 hj).1
        simp [hjl, hall j (by omega)])⟩ ⟨hMM.here, hMM.ge, hMM.map, hMM.nodup, fun d hd' => let ⟨r, hr, _, hk, hFd⟩ := hMM.from_ d hd'; ⟨r, hr, rfl, hk, hFd⟩, fun r hr _ => hMM.all r hr (hall r.1 (by have := (hins r hr).1; omega))⟩
      rw [hnl, List.drop_length] at h1
      exact h1
    · have hml : l.length ≤ m := by
        rcases Nat.lt_or_ge m l.length with h | h
        · have := hL m h
          simp [Array.getD, h] at this
        · exact h
      rw [List.drop_of_length_le hml] at hwp
      exact hwp
end
end Go.Proofs.YtjbcfjfnobklkaaGreat
