/- Texts merged: AcFQ, AcGQ, AcHQ, AcIQ, RslQ, AcJQ, ConfEQ, ThGQ, AcXQ, AcKQ, SdPQ, SdQQ, CloseFQ, CcAQ. -/
import Derived.Test.YtfhjllchbgclaaaGreatZb8
import Derived.Test.YtfhjllchbgclaaaGreatZb5
import Derived.Test.YtfhjllchbgclaaaGreatZb7
import Derived.Test.YtfhjllchbgclaaaGreatZb6
import Derived.Test.YtfhjllchbgclaaaGreatZb4
import Derived.LoopTactic
import Derived.Lib.Hide
/- The program's steps, round by round: what each does, told by plain states. -/
namespace Go.Proofs.YtfhjllchbgclaaaGreat
set_option linter.unusedVariables false
set_option linter.unusedSimpArgs false
open Go.RowKit

def tryT (t : Th) : Th := ⟨t.st, t.ki, t.va, t.un, t.pc, t.re, t.se, min (t.tr + 1) 1099511627776, t.la, t.rs, t.go⟩
theorem runs_not {t : Th} (h : thRuns t.st = 0) : t.st ≠ 0 ∧ t.st ≠ 2 := by
  unfold thRuns at h
  split at h
  · cases h
  · split at h
    · cases h
    · next h0 h2 => exact ⟨h0, h2⟩
theorem park_of {t : Th} {c : Int} (h : thRuns t.st = 0) : thPark (pcT t c) 2 0 (parkT t 2) := .inr (.inr ⟨(runs_not h).1, (runs_not h).2, rfl, rfl⟩)
theorem done_of {t : Th} {c : Int} (h : thRuns t.st = 0) : thDone (pcT t c) 0 (doneT t) := .inr (.inr ⟨(runs_not h).1, (runs_not h).2, rfl, rfl⟩)
theorem ac_pnext' {c : Cf} {n v : Int} (h : wtnI c.lg c.th c.po c.wt c.sp c.yi (max n 0) = v) : AC Tryz.prog 239 [cfT c, .int .i64 n] (.int .i64 v) := h ▸ ac_pnext c n
theorem el3 {n : Nat} {l : List Th} (h : n < l.length) (t : Th) : ElP ((l.set n t).map thT) (0 + (n : Int).toNat) (thT t) := el2 h t
theorem tell_c {s : St} {n : Nat} {t : Th} {c r : Int} (hA : hasB s n = true) (ht : gth s.th n = pcT t c) (hk : (t.ki != 9) = true) (ho : s.ok) (hf : s.fit) :
    AO Tryz.prog 208 [stT s, .int .i64 n, .int .i64 t.ki, .int .i64 r, .int .i64 0] (stL ((s.setTh n (rgT (pcT t c) r 0)).addLg (tlE s n t.ki r 0))) 18 11 := by
  have := ao_tell (k := t.ki) (r := r) (g := 0) hA hk ho hf
  rw [ht] at this
  exact this
section
variable {s : St} {n : Nat} {t : Th} {c m o : Int}
theorem Rn.has (h : Rn s n t c m o) : hasB s n = true := has_iff.2 ⟨h.ck, by omega, by have := h.hn; omega⟩
theorem Rn.nk (h : Rn s n t c m o) : (t.ki != 9) = true := by
  have := h.sd
  by_cases e : t.ki = 9
  · rw [e] at this; exact absurd this (by decide)
  · simp [e]
theorem Rn.tell {r : Int} (h : Rn s n t c m o) : AO Tryz.prog 208 [stT s, .int .i64 n, .int .i64 t.ki, .int .i64 r, .int .i64 0] (stL ((s.setTh n (rgT (pcT t c) r 0)).addLg (tlE s n t.ki r 0))) 18 11 := tell_c h.has h.ht h.nk h.ok h.fit
theorem Rn.ids (h : Rn s n t c m o) (u : Th) : 0 ≤ (n : Int) ∧ (n : Int).toNat < (s.th.set n u).length := idT (by rw [List.length_set]; exact h.hn)
theorem Rn.idw (h : Rn s n t c m o) (q : Nat) (u : Th) : 0 ≤ (n : Int) ∧ (n : Int).toNat < (s.th.set q u).length := idT (by rw [List.length_set]; exact h.hn)
theorem Rn.len (h : Rn s n t c m o) : In64 (s.sl.length : Int) := by have := h.fit.sl; constructor <;> omega
theorem Rn.sees {r : Int} (h : Rn s n t c m o) (hs : seesS s = r) : AC Tryz.prog 221 [wdT s.hd s.tl s.md, .int .i64 s.sl.length] (.tuple #[.int .i64 r, .int .i64 (tkR s.hd s.tl s.md s.sl.length)]) := hs ▸ ac_psees s.hd s.tl s.md s.sl.length h.ok.hd h.ok.tl h.ok.md h.len
theorem Rn.acc {r v : Int} (h : Rn s n t c m o) (hs : seesS s = r) (hT : acT s.hd s.tl s.md s.sl.length = v) : AC Tryz.prog 201 [wdT s.hd s.tl s.md, .int .i64 s.sl.length] (.tuple #[wdT s.hd v s.md, .int .i64 (acP s.hd s.tl s.md s.sl.length), .int .i64 r]) := hs ▸ hT ▸ ac_paccept s.hd s.tl s.md s.sl.length h.ok.hd h.ok.tl h.ok.md h.len
theorem Rn.evi {b : Bool} (h : Rn s n t c m o) {q : Int} (hq : In64 q) (hb : evwB s.hd s.tl s.md s.sl.length q = b) : AC Tryz.prog 207 [wdT s.hd s.tl s.md, .int .i64 s.sl.length, .int .i64 q] (.tuple #[wdT (evH s.hd s.tl s.md s.sl.length q) s.tl s.md, .bool b]) := ac_pevict hb h.ok.hd h.ok.tl h.ok.md h.len hq
variable {x : Exit} {S : Sg}
set_option maxRecDepth 100000
theorem lp_enter (h : Rn s n t 0 m o) (hm : s.sn.length ≤ 999999) (hL : LoopP Tryz.prog (loopOf Tryz.prog 142 0) (hdS ((s.toSn (entL s.sn n)).setTh n (pcT t 1)) n m (o + 1) (s.th.length)) x S) : LoopP Tryz.prog (loopOf Tryz.prog 142 0) (hdS s n m o s.th.length) x S :=
  loop_more mixed (fuel := 9) (n := 9) (im := [0, 1, 2]) (keep := [2, 6, 8, 9]) (ext := [22, 125, 93, 192]) (orc := sPO t 0 1 ++ [.tuple #[rowI (entL s.sn n), .int .i64 (entE s.sn n)], thT (pcT t 0), vRow s.th.length ((s.th.set n (pcT t 1)).map thT)])
    (h.pa <| an (ac_penter s.sn n hm) <| an (h.id) <| an (h.el) <| an (setT s.th n (pcT t 1)) <|  an h.o1 trivial) (by kernel_rfl) hL
theorem lp_first (h : Rn s n t 1 m o) (hp : (plI s.sn n == 0) = true) (hL : LoopP Tryz.prog (loopOf Tryz.prog 142 0) (hdS (s.setTh n (pcT t 2)) n m (o + 1) (s.th.length)) x S) : LoopP Tryz.prog (loopOf Tryz.prog 142 0) (hdS s n m o s.th.length) x S :=
  loop_more mixed (fuel := 9) (n := 9) (im := [0, 1, 2]) (keep := [2, 6, 8, 9]) (ext := [22, 125, 93, 194]) (orc := sPO t 1 1 ++ [vD true, thT (pcT t 1), vRow s.th.length ((s.th.set n (pcT t 2)).map thT)])
    (h.pa <| an (ac_pfirst hp) <| an (h.id) <| an (h.el) <| an (setT s.th n (pcT t 2)) <|  an h.o1 trivial) (by kernel_rfl) hL
theorem lp_firstL (h : Rn s n t 1 m o) (hp : (plI s.sn n == 0) = false) (hl : t.la = true) (hL : LoopP Tryz.prog (loopOf Tryz.prog 142 0) (hdS (((s.setTh n (rgT (pcT t 1) 5 0)).addLg (tlE s n t.ki 5 0)).setTh n (pcT (rgT t 5 0) 9)) n m (o + 1) ((s.th.set n (rgT (pcT t 1) 5 0)).length)) x S) : LoopP Tryz.prog (loopOf Tryz.prog 142 0) (hdS s n m o s.th.length) x S :=
  loop_more mixed (fuel := 9) (n := 9) (im := [0, 4, 2]) (keep := [2, 6, 8, 9]) (ext := [22, 125, 93, 194, 208]) (orc := sPO t 1 1 ++ [vD false, thT (pcT t 1), .bool true, thT (pcT t 1), .iface 1000004 (.func (.yield 18) #[.agg (stL ((s.setTh n (rgT (pcT t 1) 5 0)).addLg (tlE s n t.ki 5 0))), .int .i64 11] #[]), thT (rgT (pcT t 1) 5 0), vRow (s.th.set n (rgT (pcT t 1) 5 0)).length (((s.th.set n (rgT (pcT t 1) 5 0)).set n (pcT (rgT t 5 0) 9)).map thT)])
    (h.pa <| an (ac_pfirst hp) <| an (h.id) <| an (h.el) <| an (hl) <| an (h.id) <| an (h.el) <| an (h.ln) <| an (h.tell (r := 5)) <| an (h.ids (rgT (pcT t 1) 5 0)) <| an (el2 h.hn (rgT (pcT t 1) 5 0)) <| an (setT (s.th.set n (rgT (pcT t 1) 5 0)) n (pcT (rgT t 5 0) 9)) <|  an h.o1 trivial) (by kernel_rfl) hL
theorem lp_firstT (h : Rn s n t 1 m o) (hp : (plI s.sn n == 0) = false) (hl : t.la = false) (hr : In64 (t.tr + 1)) (hL : LoopP Tryz.prog (loopOf Tryz.prog 142 0) (hdS (s.setTh n (tryT (pcT t 1))) n m (o + 1) (s.th.length)) x S) : LoopP Tryz.prog (loopOf Tryz.prog 142 0) (hdS s n m o s.th.length) x S :=
  loop_more mixed (fuel := 9) (n := 9) (im := [0, 1, 2]) (keep := [2, 6, 8, 9]) (ext := [22, 125, 93, 194]) (orc := sPO t 1 1 ++ [vD false, thT (pcT t 1), .bool false, thT (pcT t 1), thT (pcT t 1), vRow s.th.length ((s.th.set n (tryT (pcT t 1))).map thT)])
    (h.pa <| an (ac_pfirst hp) <| an (h.id) <| an (h.el) <| an (hl) <| an (h.id) <| an (h.el) <| an (hr) <| an (h.el) <| an (setT s.th n (tryT (pcT t 1))) <|  an h.o1 trivial) (by kernel_rfl) hL
theorem lp_lookR (h : Rn s n t 2 m o) (hs : seesS s = 1) (hL : LoopP Tryz.prog (loopOf Tryz.prog 142 0) (hdS (s.setTh n (regT t s.tl 3)) n m (o + 1) (s.th.length)) x S) : LoopP Tryz.prog (loopOf Tryz.prog 142 0) (hdS s n m o s.th.length) x S :=
  loop_more mixed (fuel := 9) (n := 9) (im := [0, 1, 2]) (keep := [2, 6, 8, 9]) (ext := [22, 125, 93, 221]) (orc := sPO t 2 1 ++ [.tuple #[.int .i64 1, .int .i64 (tkR s.hd s.tl s.md s.sl.length)], .nilFunc, thT (pcT t 2), vRow s.th.length ((s.th.set n (regT t s.tl 2)).map thT), thT (regT t s.tl 2), vRow s.th.length ((s.th.set n (regT t s.tl 3)).map thT)])
    (h.pa <| an (h.sees hs) <| an (h.id) <| an (h.el) <| an (setT s.th n (regT t s.tl 2)) <| an (h.id) <| an (el2 h.hn (regT t s.tl 2)) <| an (set2 s.th n (regT t s.tl 2) (regT t s.tl 3)) <|  an h.o1 trivial) (by kernel_rfl) hL
theorem lp_lookN (h : Rn s n t 2 m o) (hs : seesS s = 2) (hp : (s.cf.po == 1) = true) (hL : LoopP Tryz.prog (loopOf Tryz.prog 142 0) (hdS (((s.setTh n (rgT (pcT t 2) 3 0)).addLg (tlE s n t.ki 3 0)).setTh n (pcT (rgT t 3 0) 9)) n m (o + 1) ((s.th.set n (rgT (pcT t 2) 3 0)).length)) x S) : LoopP Tryz.prog (loopOf Tryz.prog 142 0) (hdS s n m o s.th.length) x S :=
  loop_more mixed (fuel := 9) (n := 9) (im := [0, 4, 2]) (keep := [2, 6, 8, 9]) (ext := [22, 125, 93, 221, 208]) (orc := sPO t 2 1 ++ [.tuple #[.int .i64 2, .int .i64 (tkR s.hd s.tl s.md s.sl.length)], .nilFunc, .nilFunc, .bool true, thT (pcT t 2), .iface 1000004 (.func (.yield 18) #[.agg (stL ((s.setTh n (rgT (pcT t 2) 3 0)).addLg (tlE s n t.ki 3 0))), .int .i64 11] #[]), thT (rgT (pcT t 2) 3 0), vRow (s.th.set n (rgT (pcT t 2) 3 0)).length (((s.th.set n (rgT (pcT t 2) 3 0)).set n (pcT (rgT t 3 0) 9)).map thT)])
    (h.pa <| an (h.sees hs) <| an (hp) <| an (h.id) <| an (h.el) <| an (h.ln) <| an (h.tell (r := 3)) <| an (h.ids (rgT (pcT t 2) 3 0)) <| an (el2 h.hn (rgT (pcT t 2) 3 0)) <| an (setT (s.th.set n (rgT (pcT t 2) 3 0)) n (pcT (rgT t 3 0) 9)) <|  an h.o1 trivial) (by kernel_rfl) hL
theorem lp_lookO (h : Rn s n t 2 m o) (hs : seesS s = 2) (hp : (s.cf.po == 1) = false) (hq : (s.cf.po == 2) = true) (hL : LoopP Tryz.prog (loopOf Tryz.prog 142 0) (hdS (s.setTh n (regT t s.hd 10)) n m (o + 1) (s.th.length)) x S) : LoopP Tryz.prog (loopOf Tryz.prog 142 0) (hdS s n m o s.th.length) x S :=
  loop_more mixed (fuel := 9) (n := 9) (im := [0, 1, 2]) (keep := [2, 6, 8, 9]) (ext := [22, 125, 93, 221]) (orc := sPO t 2 1 ++ [.tuple #[.int .i64 2, .int .i64 (tkR s.hd s.tl s.md s.sl.length)], .nilFunc, .nilFunc, .bool false, .bool true, thT (pcT t 2), vRow s.th.length ((s.th.set n (regT t s.hd 2)).map thT), thT (regT t s.hd 2), vRow s.th.length ((s.th.set n (regT t s.hd 10)).map thT)])
    (h.pa <| an (h.sees hs) <| an (hp) <| an (hq) <| an (h.id) <| an (h.el) <| an (setT s.th n (regT t s.hd 2)) <| an (h.id) <| an (el2 h.hn (regT t s.hd 2)) <| an (set2 s.th n (regT t s.hd 2) (regT t s.hd 10)) <|  an h.o1 trivial) (by kernel_rfl) hL
theorem lp_lookB (h : Rn s n t 2 m o) (hs : seesS s = 2) (hp : (s.cf.po == 1) = false) (hq : (s.cf.po == 2) = false) (hk : opOnce t.ki = true) (hL : LoopP Tryz.prog (loopOf Tryz.prog 142 0) (hdS (((s.setTh n (rgT (pcT t 2) 2 0)).addLg (tlE s n t.ki 2 0)).setTh n (pcT (rgT t 2 0) 9)) n m (o + 1) ((s.th.set n (rgT (pcT t 2) 2 0)).length)) x S) : LoopP Tryz.prog (loopOf Tryz.prog 142 0) (hdS s n m o s.th.length) x S :=
  loop_more mixed (fuel := 9) (n := 9) (im := [0, 4, 2]) (keep := [2, 6, 8, 9]) (ext := [22, 125, 93, 221, 208, 238]) (orc := sPO t 2 1 ++ [.tuple #[.int .i64 2, .int .i64 (tkR s.hd s.tl s.md s.sl.length)], .nilFunc, .nilFunc, .bool false, .bool false, thT (pcT t 2), vD true, thT (pcT t 2), .iface 1000004 (.func (.yield 18) #[.agg (stL ((s.setTh n (rgT (pcT t 2) 2 0)).addLg (tlE s n t.ki 2 0))), .int .i64 11] #[]), thT (rgT (pcT t 2) 2 0), vRow (s.th.set n (rgT (pcT t 2) 2 0)).length (((s.th.set n (rgT (pcT t 2) 2 0)).set n (pcT (rgT t 2 0) 9)).map thT)])
    (h.pa <| an (h.sees hs) <| an (hp) <| an (hq) <| an (h.id) <| an (h.el) <| an (ac_ponce hk) <| an (h.id) <| an (h.el) <| an (h.ln) <| an (h.tell (r := 2)) <| an (h.ids (rgT (pcT t 2) 2 0)) <| an (el2 h.hn (rgT (pcT t 2) 2 0)) <| an (setT (s.th.set n (rgT (pcT t 2) 2 0)) n (pcT (rgT t 2 0) 9)) <|  an h.o1 trivial) (by kernel_rfl) hL
theorem lp_lookL (h : Rn s n t 2 m o) (hs : seesS s = 2) (hp : (s.cf.po == 1) = false) (hq : (s.cf.po == 2) = false) (hk : opOnce t.ki = false) (hl : t.la = true) (hL : LoopP Tryz.prog (loopOf Tryz.prog 142 0) (hdS (((s.setTh n (rgT (pcT t 2) 5 0)).addLg (tlE s n t.ki 5 0)).setTh n (pcT (rgT t 5 0) 9)) n m (o + 1) ((s.th.set n (rgT (pcT t 2) 5 0)).length)) x S) : LoopP Tryz.prog (loopOf Tryz.prog 142 0) (hdS s n m o s.th.length) x S :=
  loop_more mixed (fuel := 9) (n := 9) (im := [0, 4, 2]) (keep := [2, 6, 8, 9]) (ext := [22, 125, 93, 221, 208, 238]) (orc := sPO t 2 1 ++ [.tuple #[.int .i64 2, .int .i64 (tkR s.hd s.tl s.md s.sl.length)], .nilFunc, .nilFunc, .bool false, .bool false, thT (pcT t 2), vD false, thT (pcT t 2), .bool true, thT (pcT t 2), .iface 1000004 (.func (.yield 18) #[.agg (stL ((s.setTh n (rgT (pcT t 2) 5 0)).addLg (tlE s n t.ki 5 0))), .int .i64 11] #[]), thT (rgT (pcT t 2) 5 0), vRow (s.th.set n (rgT (pcT t 2) 5 0)).length (((s.th.set n (rgT (pcT t 2) 5 0)).set n (pcT (rgT t 5 0) 9)).map thT)])
    (h.pa <| an (h.sees hs) <| an (hp) <| an (hq) <| an (h.id) <| an (h.el) <| an (ac_ponce hk) <| an (h.el) <| an (hl) <| an (h.id) <| an (h.el) <| an (h.ln) <| an (h.tell (r := 5)) <| an (h.ids (rgT (pcT t 2) 5 0)) <| an (el2 h.hn (rgT (pcT t 2) 5 0)) <| an (setT (s.th.set n (rgT (pcT t 2) 5 0)) n (pcT (rgT t 5 0) 9)) <|  an h.o1 trivial) (by kernel_rfl) hL
theorem lp_lookP (h : Rn s n t 2 m o) (hs : seesS s = 2) (hp : (s.cf.po == 1) = false) (hq : (s.cf.po == 2) = false) (hk : opOnce t.ki = false) (hl : t.la = false) (hn : waySt s (max t.tr 0) = 2) (hL : LoopP Tryz.prog (loopOf Tryz.prog 142 0) (hdS (s.setTh n (pcT t 5)) n m (o + 1) (s.th.length)) x S) : LoopP Tryz.prog (loopOf Tryz.prog 142 0) (hdS s n m o s.th.length) x S :=
  loop_more mixed (fuel := 9) (n := 9) (im := [0, 1, 2]) (keep := [2, 6, 8, 9]) (ext := [22, 125, 93, 221, 238, 239]) (orc := sPO t 2 1 ++ [.tuple #[.int .i64 2, .int .i64 (tkR s.hd s.tl s.md s.sl.length)], .nilFunc, .nilFunc, .bool false, .bool false, thT (pcT t 2), vD false, thT (pcT t 2), .bool false, thT (pcT t 2), .int .i64 2, .nilFunc, thT (pcT t 2), vRow s.th.length ((s.th.set n (pcT t 5)).map thT)])
    (h.pa <| an (h.sees hs) <| an (hp) <| an (hq) <| an (h.id) <| an (h.el) <| an (ac_ponce hk) <| an (h.el) <| an (hl) <| an (h.el) <| an (ac_pnext' hn) <| an (h.id) <| an (h.el) <| an (setT s.th n (pcT t 5)) <|  an h.o1 trivial) (by kernel_rfl) hL
theorem lp_lookT (h : Rn s n t 2 m o) (hs : seesS s = 2) (hp : (s.cf.po == 1) = false) (hq : (s.cf.po == 2) = false) (hk : opOnce t.ki = false) (hl : t.la = false) {r : Int} (hn : waySt s (max t.tr 0) = r) (hr2 : (r == 2) = false) (hr : In64 (t.tr + 1)) (hL : LoopP Tryz.prog (loopOf Tryz.prog 142 0) (hdS (s.setTh n (tryT (pcT t 2))) n m (o + 1) (s.th.length)) x S) : LoopP Tryz.prog (loopOf Tryz.prog 142 0) (hdS s n m o s.th.length) x S :=
  loop_more mixed (fuel := 9) (n := 9) (im := [0, 1, 2]) (keep := [2, 6, 8, 9]) (ext := [22, 125, 93, 221, 238, 239]) (orc := sPO t 2 1 ++ [.tuple #[.int .i64 2, .int .i64 (tkR s.hd s.tl s.md s.sl.length)], .nilFunc, .nilFunc, .bool false, .bool false, thT (pcT t 2), vD false, thT (pcT t 2), .bool false, thT (pcT t 2), .int .i64 r, .bool false, thT (pcT t 2), thT (pcT t 2), vRow s.th.length ((s.th.set n (tryT (pcT t 2))).map thT)])
    (h.pa <| an (h.sees hs) <| an (hp) <| an (hq) <| an (h.id) <| an (h.el) <| an (ac_ponce hk) <| an (h.el) <| an (hl) <| an (h.el) <| an (ac_pnext' hn) <| an (hr2) <| an (h.id) <| an (h.el) <| an (hr) <| an (h.el) <| an (setT s.th n (tryT (pcT t 2))) <|  an h.o1 trivial) (by kernel_rfl) hL
theorem lp_lookE (h : Rn s n t 2 m o) {r : Int} (hs : seesS s = r) (h1 : (r == 1) = false) (h2 : (r == 2) = false) (hL : LoopP Tryz.prog (loopOf Tryz.prog 142 0) (hdS (((s.setTh n (rgT (pcT t 2) r 0)).addLg (tlE s n t.ki r 0)).setTh n (pcT (rgT t r 0) 9)) n m (o + 1) ((s.th.set n (rgT (pcT t 2) r 0)).length)) x S) : LoopP Tryz.prog (loopOf Tryz.prog 142 0) (hdS s n m o s.th.length) x S :=
  loop_more mixed (fuel := 9) (n := 9) (im := [0, 4, 2]) (keep := [2, 6, 8, 9]) (ext := [22, 125, 93, 221, 208]) (orc := sPO t 2 1 ++ [.tuple #[.int .i64 r, .int .i64 (tkR s.hd s.tl s.md s.sl.length)], .bool false, .bool false, thT (pcT t 2), .iface 1000004 (.func (.yield 18) #[.agg (stL ((s.setTh n (rgT (pcT t 2) r 0)).addLg (tlE s n t.ki r 0))), .int .i64 11] #[]), thT (rgT (pcT t 2) r 0), vRow (s.th.set n (rgT (pcT t 2) r 0)).length (((s.th.set n (rgT (pcT t 2) r 0)).set n (pcT (rgT t r 0) 9)).map thT)])
    (h.pa <| an (h.sees hs) <| an (h1) <| an (h2) <| an (h.id) <| an (h.el) <| an (h.ln) <| an (h.tell (r := r)) <| an (h.ids (rgT (pcT t 2) r 0)) <| an (el2 h.hn (rgT (pcT t 2) r 0)) <| an (setT (s.th.set n (rgT (pcT t 2) r 0)) n (pcT (rgT t r 0) 9)) <|  an h.o1 trivial) (by kernel_rfl) hL
theorem lp_write (h : Rn s n t 3 m o) (hm : s.sl.length ≤ 1000) (hr : In64 t.re) (hw : wrE s.sl t.re = 0) (hL : LoopP Tryz.prog (loopOf Tryz.prog 142 0) (hdS ((s.toSl (wrL s.sl t.re t.va)).setTh n (pcT t 4)) n m (o + 1) (s.th.length)) x S) : LoopP Tryz.prog (loopOf Tryz.prog 142 0) (hdS s n m o s.th.length) x S :=
  loop_more mixed (fuel := 9) (n := 9) (im := [0, 1, 2]) (keep := [2, 6, 8, 9]) (ext := [22, 125, 93, 200]) (orc := sPO t 3 1 ++ [thT (pcT t 3), thT (pcT t 3), .tuple #[rowS (wrL s.sl t.re t.va), .int .i64 0], .nilFunc, thT (pcT t 3), vRow s.th.length ((s.th.set n (pcT t 4)).map thT)])
    (h.pa <| an (h.id) <| an (h.el) <| an (h.id) <| an (h.el) <| an (hw ▸ ac_pwrite s.sl t.re t.va hm hr) <| an (h.id) <| an (h.el) <| an (setT s.th n (pcT t 4)) <|  an h.o1 trivial) (by kernel_rfl) hL
theorem lp_writeE (h : Rn s n t 3 m o) (hm : s.sl.length ≤ 1000) (hr : In64 t.re) (hw : (wrE s.sl t.re != 0) = true) (hL : LoopP Tryz.prog (loopOf Tryz.prog 142 0) (hdS (s) n m (o + 1) (s.th.length)) x S) : LoopP Tryz.prog (loopOf Tryz.prog 142 0) (hdS s n m o s.th.length) x S :=
  loop_more mixed (fuel := 9) (n := 9) (im := [0, 1, 2]) (keep := [2, 6, 8, 9]) (ext := [22, 125, 93, 200]) (orc := sPO t 3 1 ++ [thT (pcT t 3), thT (pcT t 3), .tuple #[rowS (wrL s.sl t.re t.va), .int .i64 (wrE s.sl t.re)], .bool true])
    (h.pa <| an (h.id) <| an (h.el) <| an (h.id) <| an (h.el) <| an (ac_pwrite s.sl t.re t.va hm hr) <| an (hw) <|  an h.o1 trivial) (by kernel_rfl) hL
theorem lp_acceptR (h : Rn s n t 4 m o) (hs : seesS s = 1) (hT : acT s.hd s.tl s.md s.sl.length = s.tl + 1) (hA : hasB (s.toWord s.hd (s.tl + 1) s.md) n = true) (ho : (s.toWord s.hd (s.tl + 1) s.md).ok) (hf : (s.toWord s.hd (s.tl + 1) s.md).fit) (hL : LoopP Tryz.prog (loopOf Tryz.prog 142 0) (hdS ((((s.toWord s.hd (s.tl + 1) s.md).setTh n (rgT (pcT t 4) 1 0)).addLg (tlE (s.toWord s.hd (s.tl + 1) s.md) n t.ki 1 0)).setTh n (pcT (rgT t 1 0) 6)) n m (o + 1) ((s.th.set n (rgT (pcT t 4) 1 0)).length)) x S) : LoopP Tryz.prog (loopOf Tryz.prog 142 0) (hdS s n m o s.th.length) x S :=
  loop_more mixed (fuel := 9) (n := 9) (im := [0, 5, 2]) (keep := [2, 6, 8, 9]) (ext := [22, 125, 93, 201, 208]) (orc := sPO t 4 1 ++ [.tuple #[wdT s.hd (s.tl + 1) s.md, .int .i64 (acP s.hd s.tl s.md s.sl.length), .int .i64 1], .nilFunc, thT (pcT t 4), .iface 1000004 (.func (.yield 18) #[.agg (stL (((s.toWord s.hd (s.tl + 1) s.md).setTh n (rgT (pcT t 4) 1 0)).addLg (tlE (s.toWord s.hd (s.tl + 1) s.md) n t.ki 1 0))), .int .i64 11] #[]), thT (rgT (pcT t 4) 1 0), vRow ((s.toWord s.hd (s.tl + 1) s.md).th.set n (rgT (pcT t 4) 1 0)).length ((((s.toWord s.hd (s.tl + 1) s.md).th.set n (rgT (pcT t 4) 1 0)).set n (pcT (rgT t 1 0) 9)).map thT), thT (pcT (rgT t 1 0) 9), vRow (s.th.set n (rgT (pcT t 4) 1 0)).length (((s.th.set n (rgT (pcT t 4) 1 0)).set n (pcT (rgT t 1 0) 6)).map thT)])
    (h.pa <| an (h.acc hs hT) <| an (h.id) <| an (h.el) <| an (h.ln) <| an (tell_c (r := 1) hA h.ht h.nk ho hf) <| an (h.ids (rgT (pcT t 4) 1 0)) <| an (el2 h.hn (rgT (pcT t 4) 1 0)) <| an (setT (s.th.set n (rgT (pcT t 4) 1 0)) n (pcT (rgT t 1 0) 9)) <| an (h.ids (rgT (pcT t 4) 1 0)) <| an (el3 (l := (s.th.set n (rgT (pcT t 4) 1 0))) (by rw [List.length_set]; exact h.hn) (pcT (rgT t 1 0) 9)) <| an (set2 (s.th.set n (rgT (pcT t 4) 1 0)) n (pcT (rgT t 1 0) 9) (pcT (rgT t 1 0) 6)) <|  an h.o1 trivial) (by kernel_rfl) hL
theorem lp_acceptF (h : Rn s n t 4 m o) (hs : seesS s = 2) (hL : LoopP Tryz.prog (loopOf Tryz.prog 142 0) (hdS (s.setTh n (pcT t 2)) n m (o + 1) (s.th.length)) x S) : LoopP Tryz.prog (loopOf Tryz.prog 142 0) (hdS s n m o s.th.length) x S :=
  loop_more mixed (fuel := 9) (n := 9) (im := [0, 1, 2]) (keep := [2, 6, 8, 9]) (ext := [22, 125, 93, 201]) (orc := sPO t 4 1 ++ [.tuple #[wdT s.hd (acT s.hd s.tl s.md s.sl.length) s.md, .int .i64 (acP s.hd s.tl s.md s.sl.length), .int .i64 2], .nilFunc, .nilFunc, thT (pcT t 4), vRow s.th.length ((s.th.set n (pcT t 2)).map thT)])
    (h.pa <| an (h.acc hs rfl) <| an (h.id) <| an (h.el) <| an (setT s.th n (pcT t 2)) <|  an h.o1 trivial) (by kernel_rfl) hL
theorem lp_acceptE (h : Rn s n t 4 m o) {r : Int} (hs : seesS s = r) (h1 : (r == 1) = false) (h2 : (r == 2) = false) (hL : LoopP Tryz.prog (loopOf Tryz.prog 142 0) (hdS (((s.setTh n (rgT (pcT t 4) r 0)).addLg (tlE s n t.ki r 0)).setTh n (pcT (rgT t r 0) 9)) n m (o + 1) ((s.th.set n (rgT (pcT t 4) r 0)).length)) x S) : LoopP Tryz.prog (loopOf Tryz.prog 142 0) (hdS s n m o s.th.length) x S :=
  loop_more mixed (fuel := 9) (n := 9) (im := [0, 5, 2]) (keep := [2, 6, 8, 9]) (ext := [22, 125, 93, 201, 208]) (orc := sPO t 4 1 ++ [.tuple #[wdT s.hd (acT s.hd s.tl s.md s.sl.length) s.md, .int .i64 (acP s.hd s.tl s.md s.sl.length), .int .i64 r], .bool false, .bool false, thT (pcT t 4), .iface 1000004 (.func (.yield 18) #[.agg (stL ((s.setTh n (rgT (pcT t 4) r 0)).addLg (tlE s n t.ki r 0))), .int .i64 11] #[]), thT (rgT (pcT t 4) r 0), vRow (s.th.set n (rgT (pcT t 4) r 0)).length (((s.th.set n (rgT (pcT t 4) r 0)).set n (pcT (rgT t r 0) 9)).map thT)])
    (h.pa <| an (h.acc hs rfl) <| an (h1) <| an (h2) <| an (h.id) <| an (h.el) <| an (h.ln) <| an (h.tell (r := r)) <| an (h.ids (rgT (pcT t 4) r 0)) <| an (el2 h.hn (rgT (pcT t 4) r 0)) <| an (setT (s.th.set n (rgT (pcT t 4) r 0)) n (pcT (rgT t r 0) 9)) <|  an h.o1 trivial) (by kernel_rfl) hL
theorem lp_notifyN (h : Rn s n t 6 m o) (hm : s.el.length ≤ 999999) (hb : hdB (ntT 1 s.ee s.el) = false) (hL : LoopP Tryz.prog (loopOf Tryz.prog 142 0) (hdS ((s.toEmpty (ntE s.ee s.el) (ntL 1 s.ee s.el)).setTh n (pcT t 9)) n m (o + 1) (s.th.length)) x S) : LoopP Tryz.prog (loopOf Tryz.prog 142 0) (hdS s n m o s.th.length) x S :=
  loop_more mixed (fuel := 9) (n := 9) (im := [0, 1, 2]) (keep := [2, 6, 8, 9]) (ext := [22, 125, 93, 203]) (orc := sPO t 6 1 ++ [.tuple #[evT (ntE s.ee s.el) (ntL 1 s.ee s.el), .int .i64 (hdI (ntT 1 s.ee s.el)), vD false], thT (pcT t 6), vRow s.th.length ((s.th.set n (pcT t 9)).map thT)])
    (h.pa <| an (ac_pnotify hb hm) <| an (h.id) <| an (h.el) <| an (setT s.th n (pcT t 9)) <|  an h.o1 trivial) (by kernel_rfl) hL
theorem lp_notifyW (h : Rn s n t 6 m o) (hm : s.el.length ≤ 999999) (hb : hdB (ntT 1 s.ee s.el) = true) {q : Nat} (hq : hdI (ntT 1 s.ee s.el) = q) (hA : hasB (s.toEmpty (ntE s.ee s.el) (ntL 1 s.ee s.el)) q = true) (ho : (s.toEmpty (ntE s.ee s.el) (ntL 1 s.ee s.el)).ok) (hf : (s.toEmpty (ntE s.ee s.el) (ntL 1 s.ee s.el)).fit) (hg : gth (s.th.set q (wakeT (gth s.th q))) n = pcT t 6) (hL : LoopP Tryz.prog (loopOf Tryz.prog 142 0) (hdS (((s.toEmpty (ntE s.ee s.el) (ntL 1 s.ee s.el)).onTh q wakeT).setTh n (pcT t 9)) n m (o + 1) ((s.th.set q (wakeT (gth s.th q))).length)) x S) : LoopP Tryz.prog (loopOf Tryz.prog 142 0) (hdS s n m o s.th.length) x S :=
  loop_more mixed (fuel := 9) (n := 9) (im := [0, 5, 2]) (keep := [2, 6, 8, 9]) (ext := [22, 125, 93, 203, 53]) (orc := sPO t 6 1 ++ [.tuple #[evT (ntE s.ee s.el) (ntL 1 s.ee s.el), .int .i64 q, vD true], .iface 1000004 (.func (.yield 18) #[.agg (stL ((s.toEmpty (ntE s.ee s.el) (ntL 1 s.ee s.el)).onTh q wakeT)), .int .i64 11] #[]), thT (pcT t 6), vRow (s.th.set q (wakeT (gth s.th q))).length (((s.th.set q (wakeT (gth s.th q))).set n (pcT t 9)).map thT)])
    (h.pa <| an (hq ▸ ac_pnotify hb hm) <| an (h.ln) <| an (ao_wake hA ho hf) <| an (h.idw q (wakeT (gth s.th q))) <| an (hg ▸ elT (l := (s.th.set q (wakeT (gth s.th q)))) (by rw [List.length_set]; exact h.hn)) <| an (setT (s.th.set q (wakeT (gth s.th q))) n (pcT t 9)) <|  an h.o1 trivial) (by kernel_rfl) hL
theorem lp_againY (h : Rn s n t 7 m o) (hs : seesS s = 2) (hl : (!t.la) = true) (hL : LoopP Tryz.prog (loopOf Tryz.prog 142 0) (hdS (s.setTh n (pcT t 8)) n m (o + 1) (s.th.length)) x S) : LoopP Tryz.prog (loopOf Tryz.prog 142 0) (hdS s n m o s.th.length) x S :=
  loop_more mixed (fuel := 9) (n := 9) (im := [0, 1, 2]) (keep := [2, 6, 8, 9]) (ext := [22, 125, 93, 221]) (orc := sPO t 7 1 ++ [.tuple #[.int .i64 2, .int .i64 (tkR s.hd s.tl s.md s.sl.length)], .nilFunc, thT (pcT t 7), .bool true, thT (pcT t 7), vRow s.th.length ((s.th.set n (pcT t 8)).map thT)])
    (h.pa <| an (h.sees hs) <| an (h.id) <| an (h.el) <| an (hl) <| an (h.id) <| an (h.el) <| an (setT s.th n (pcT t 8)) <|  an h.o1 trivial) (by kernel_rfl) hL
theorem lp_againL (h : Rn s n t 7 m o) (hs : seesS s = 2) (hl : (!t.la) = false) (hL : LoopP Tryz.prog (loopOf Tryz.prog 142 0) (hdS (s.setTh n (pcT t 2)) n m (o + 1) (s.th.length)) x S) : LoopP Tryz.prog (loopOf Tryz.prog 142 0) (hdS s n m o s.th.length) x S :=
  loop_more mixed (fuel := 9) (n := 9) (im := [0, 1, 2]) (keep := [2, 6, 8, 9]) (ext := [22, 125, 93, 221]) (orc := sPO t 7 1 ++ [.tuple #[.int .i64 2, .int .i64 (tkR s.hd s.tl s.md s.sl.length)], .nilFunc, thT (pcT t 7), .bool false, thT (pcT t 7), vRow s.th.length ((s.th.set n (pcT t 2)).map thT)])
    (h.pa <| an (h.sees hs) <| an (h.id) <| an (h.el) <| an (hl) <| an (h.id) <| an (h.el) <| an (setT s.th n (pcT t 2)) <|  an h.o1 trivial) (by kernel_rfl) hL
theorem lp_againN (h : Rn s n t 7 m o) {r : Int} (hs : seesS s = r) (h2 : (r == 2) = false) (hL : LoopP Tryz.prog (loopOf Tryz.prog 142 0) (hdS (s.setTh n (pcT t 2)) n m (o + 1) (s.th.length)) x S) : LoopP Tryz.prog (loopOf Tryz.prog 142 0) (hdS s n m o s.th.length) x S :=
  loop_more mixed (fuel := 9) (n := 9) (im := [0, 1, 2]) (keep := [2, 6, 8, 9]) (ext := [22, 125, 93, 221]) (orc := sPO t 7 1 ++ [.tuple #[.int .i64 r, .int .i64 (tkR s.hd s.tl s.md s.sl.length)], .bool false, thT (pcT t 7), vRow s.th.length ((s.th.set n (pcT t 2)).map thT)])
    (h.pa <| an (h.sees hs) <| an (h2) <| an (h.id) <| an (h.el) <| an (setT s.th n (pcT t 2)) <|  an h.o1 trivial) (by kernel_rfl) hL
theorem lp_commitL (h : Rn s n t 8 m o) (hl : t.la = true) (hL : LoopP Tryz.prog (loopOf Tryz.prog 142 0) (hdS (s.setTh n (pcT t 2)) n m (o + 1) (s.th.length)) x S) : LoopP Tryz.prog (loopOf Tryz.prog 142 0) (hdS s n m o s.th.length) x S :=
  loop_more mixed (fuel := 9) (n := 9) (im := [0, 1, 2]) (keep := [2, 6, 8, 9]) (ext := [22, 125, 93]) (orc := sPO t 8 1 ++ [thT (pcT t 8), vRow s.th.length ((s.th.set n (pcT t 2)).map thT), thT (pcT t 2), .bool true])
    (h.pa <| an (h.id) <| an (h.el) <| an (setT s.th n (pcT t 2)) <| an (h.id) <| an (el2 h.hn (pcT t 2)) <| an (hl) <|  an h.o1 trivial) (by kernel_rfl) hL
theorem lp_commitW (h : Rn s n t 8 m o) (hl : t.la = false) (hm : s.fl.length ≤ 999999) (hb : cmB s.fe s.fl t.se n = true) (hL : LoopP Tryz.prog (loopOf Tryz.prog 142 0) (hdS ((s.toFull s.fe (cmL s.fe s.fl t.se n)).setTh n (parkT t 2)) n m (o + 1) (s.th.length)) x S) : LoopP Tryz.prog (loopOf Tryz.prog 142 0) (hdS s n m o s.th.length) x S :=
  loop_more mixed (fuel := 9) (n := 9) (im := [0, 1, 2]) (keep := [2, 6, 8, 9]) (ext := [22, 125, 93, 204, 205]) (orc := sPO t 8 1 ++ [thT (pcT t 8), vRow s.th.length ((s.th.set n (pcT t 2)).map thT), thT (pcT t 2), .bool false, thT (pcT t 2), .tuple #[evT s.fe (cmL s.fe s.fl t.se n), vD true, .int .i64 (cmC s.fe s.fl n)], thT (pcT t 2), .tuple #[thT (parkT t 2), .int .i64 0], thT (pcT t 2), vRow s.th.length ((s.th.set n (parkT t 2)).map thT)])
    (h.pa <| an (h.id) <| an (h.el) <| an (setT s.th n (pcT t 2)) <| an (h.id) <| an (el2 h.hn (pcT t 2)) <| an (hl) <| an (h.id) <| an (el2 h.hn (pcT t 2)) <| an (ac_pcommit hb hm) <| an (h.id) <| an (h.id) <| an (el2 h.hn (pcT t 2)) <| an (ac_ppark (park_of (c := 2) h.rs)) <| an (el2 h.hn (pcT t 2)) <| an (set2 s.th n (pcT t 2) (parkT t 2)) <|  an h.o1 trivial) (by kernel_rfl) hL
theorem lp_commitN (h : Rn s n t 8 m o) (hl : t.la = false) (hm : s.fl.length ≤ 999999) (hb : cmB s.fe s.fl t.se n = false) (hL : LoopP Tryz.prog (loopOf Tryz.prog 142 0) (hdS (s.setTh n (pcT t 2)) n m (o + 1) (s.th.length)) x S) : LoopP Tryz.prog (loopOf Tryz.prog 142 0) (hdS s n m o s.th.length) x S :=
  loop_more mixed (fuel := 9) (n := 9) (im := [0, 1, 2]) (keep := [2, 6, 8, 9]) (ext := [22, 125, 93, 204]) (orc := sPO t 8 1 ++ [thT (pcT t 8), vRow s.th.length ((s.th.set n (pcT t 2)).map thT), thT (pcT t 2), .bool false, thT (pcT t 2), .tuple #[evT s.fe (cmL s.fe s.fl t.se n), vD false, .int .i64 (cmC s.fe s.fl n)]])
    (h.pa <| an (h.id) <| an (h.el) <| an (setT s.th n (pcT t 2)) <| an (h.id) <| an (el2 h.hn (pcT t 2)) <| an (hl) <| an (h.id) <| an (el2 h.hn (pcT t 2)) <| an (ac_pcommit hb hm) <|  an h.o1 trivial) (by kernel_rfl) hL
theorem lp_leave (h : Rn s n t 9 m o) (hm : s.sn.length ≤ 999999) (hL : LoopP Tryz.prog (loopOf Tryz.prog 142 0) (hdS ((s.toSn (lvL s.sn n)).setTh n (doneT t)) n m (o + 1) (s.th.length)) x S) : LoopP Tryz.prog (loopOf Tryz.prog 142 0) (hdS s n m o s.th.length) x S :=
  loop_more mixed (fuel := 9) (n := 9) (im := [0, 1, 2]) (keep := [2, 6, 8, 9]) (ext := [22, 125, 93, 130, 206]) (orc := sPO t 9 1 ++ [.tuple #[rowI (lvL s.sn n), .int .i64 (lvE s.sn n)], thT (pcT t 9), .tuple #[thT (doneT t), .int .i64 0], thT (pcT t 9), vRow s.th.length ((s.th.set n (doneT t)).map thT)])
    (h.pa <| an (ac_pleave s.sn n hm) <| an (h.id) <| an (h.id) <| an (h.el) <| an (ac_pdone (done_of (c := 9) h.rs)) <| an (h.el) <| an (setT s.th n (doneT t)) <|  an h.o1 trivial) (by kernel_rfl) hL
theorem lp_evictN (h : Rn s n t 10 m o) (hr : In64 t.re) (hb : evwB s.hd s.tl s.md s.sl.length t.re = false) (hL : LoopP Tryz.prog (loopOf Tryz.prog 142 0) (hdS (s.setTh n (pcT t 2)) n m (o + 1) (s.th.length)) x S) : LoopP Tryz.prog (loopOf Tryz.prog 142 0) (hdS s n m o s.th.length) x S :=
  loop_more mixed (fuel := 9) (n := 9) (im := [0, 1, 2]) (keep := [2, 6, 8, 9]) (ext := [22, 125, 93, 207]) (orc := sPO t 10 1 ++ [thT (pcT t 10), .tuple #[wdT (evH s.hd s.tl s.md s.sl.length t.re) s.tl s.md, vD false], thT (pcT t 10), vRow s.th.length ((s.th.set n (pcT t 2)).map thT)])
    (h.pa <| an (h.id) <| an (h.el) <| an (h.evi hr hb) <| an (h.id) <| an (h.el) <| an (setT s.th n (pcT t 2)) <|  an h.o1 trivial) (by kernel_rfl) hL
theorem lp_evictY (h : Rn s n t 10 m o) (hr : In64 t.re) (hb : evwB s.hd s.tl s.md s.sl.length t.re = true) (hH : evH s.hd s.tl s.md s.sl.length t.re = s.hd + 1) {g : Int} (hv : valV (s.toWord (s.hd + 1) s.tl s.md) t.re = g) (hA : hasB (s.toWord (s.hd + 1) s.tl s.md) n = true) (ho : (s.toWord (s.hd + 1) s.tl s.md).ok) (hf : (s.toWord (s.hd + 1) s.tl s.md).fit) (hL : LoopP Tryz.prog (loopOf Tryz.prog 142 0) (hdS (((s.toWord (s.hd + 1) s.tl s.md).addLg (tlE (s.toWord (s.hd + 1) s.tl s.md) n 9 1 g)).setTh n (pcT t 11)) n m (o + 1) (s.th.length)) x S) : LoopP Tryz.prog (loopOf Tryz.prog 142 0) (hdS s n m o s.th.length) x S :=
  loop_more mixed (fuel := 9) (n := 9) (im := [0, 5, 2]) (keep := [2, 6, 8, 9]) (ext := [22, 125, 93, 207, 209, 208]) (orc := sPO t 10 1 ++ [thT (pcT t 10), .tuple #[wdT (s.hd + 1) s.tl s.md, vD true], thT (pcT t 10), .int .i64 g, .iface 1000004 (.func (.yield 18) #[.agg (stL ((s.toWord (s.hd + 1) s.tl s.md).addLg (tlE (s.toWord (s.hd + 1) s.tl s.md) n 9 1 g))), .int .i64 11] #[]), thT (pcT t 10), vRow s.th.length ((s.th.set n (pcT t 11)).map thT)])
    (h.pa <| an (h.id) <| an (h.el) <| an (hH ▸ h.evi hr hb) <| an (h.id) <| an (h.el) <| an (h.ln) <| an (hv ▸ ac_pvalue (s.toWord (s.hd + 1) s.tl s.md) t.re ho hr) <| an (h.ln) <| an (ao_tell9 (r := 1) (g := g) hA ho hf) <| an (h.id) <| an (h.el) <| an (setT s.th n (pcT t 11)) <|  an h.o1 trivial) (by kernel_rfl) hL
theorem lp_release (h : Rn s n t 11 m o) (hm : s.sl.length ≤ 1000) (hr : In64 t.re) (hL : LoopP Tryz.prog (loopOf Tryz.prog 142 0) (hdS ((s.toSl (rlL s.sl t.re)).setTh n (pcT t 2)) n m (o + 1) (s.th.length)) x S) : LoopP Tryz.prog (loopOf Tryz.prog 142 0) (hdS s n m o s.th.length) x S :=
  loop_more mixed (fuel := 9) (n := 9) (im := [0, 1, 2]) (keep := [2, 6, 8, 9]) (ext := [22, 125, 93, 210]) (orc := sPO t 11 1 ++ [thT (pcT t 11), .tuple #[rowS (rlL s.sl t.re), .int .i64 (rlE s.sl t.re)], thT (pcT t 11), vRow s.th.length ((s.th.set n (pcT t 2)).map thT)])
    (h.pa <| an (h.id) <| an (h.el) <| an (ac_prelease s.sl t.re hm hr) <| an (h.id) <| an (h.el) <| an (setT s.th n (pcT t 2)) <|  an h.o1 trivial) (by kernel_rfl) hL
end
end Go.Proofs.YtfhjllchbgclaaaGreat

/- A step of the program is the step of plain states. -/
namespace Go.Proofs.YtfhjllchbgclaaaGreat
set_option linter.unusedVariables false
set_option linter.unusedSimpArgs false
open Go.RowKit
/-- What is true of a state that a step is done in. -/
structure Sp (s : St) (n : Nat) (m o : Int) : Prop where
  lt : decide (o < min m 1000) = true
  ck : stB s = true
  ok : s.ok
  hn : n < s.th.length
  st : (gth s.th n).st = 1
  sd : opSide (gth s.th n).ki = 1
  lg : s.lg.length ≤ 999999
  o1 : In64 (o + 1)
theorem fit_of {s : St} (h : stB s = true) (hl : s.lg.length ≤ 1000000) : s.fit := by
  obtain ⟨a, b, c, d, -, -⟩ := full_lines h
  have h1 := th_len h
  have h2 := ok_len (stn_iff.1 a).1
  have h3 := ok_len (stn_iff.1 b).1
  have h4 := ok_len (stn_iff.1 c).1
  have h5 := ok_len (stn_iff.1 d).1
  have h6 := (ok_iff.1 (word_ok h).2.1).1
  exact ⟨by omega, by omega, by omega, by omega, by omega, by omega, hl⟩
section
variable {s : St} {n : Nat} {m o : Int} {x : Exit} {S : Sg}
theorem Sp.rn (h : Sp s n m o) {c : Int} (hc : (gth s.th n).pc = c) : Rn s n (gth s.th n) c m o :=
  ⟨h.lt, h.ck, h.ok, h.hn, by rw [← hc]; rfl, by rw [h.st]; rfl, h.sd, fit_of h.ck (by have := h.lg; omega), h.o1⟩
/-- Whatever numbers tell how many threads there are. -/
def Nxt (s : St) (n : Nat) (m o : Int) (x : Exit) (S : Sg) : Prop := ∀ N, N = s.th.length → LoopP Tryz.prog (loopOf Tryz.prog 142 0) (hdS s n m o N) x S
theorem Nxt.to {s s' : St} (h : Nxt s n m o x S) (e : s = s') {N : Nat} (hN : N = s'.th.length) : LoopP Tryz.prog (loopOf Tryz.prog 142 0) (hdS s' n m o N) x S := by subst e; exact h N hN
theorem try_on {t : Th} (h : thB t = true) {c : Int} (hc : t.pc = c) : tryT (pcT t c) = onT t := by
  obtain ⟨st, ki, va, un, pc, re, se, tr, la, rs, go⟩ := t
  simp only at hc
  subst hc
  rw [thB_iff] at h
  simp only [tryT, pcT, onT]
  congr 1
  split <;> omega
theorem told_is {s : St} (h : stB s = true) {n : Nat} (hn : n < s.th.length) {c r p : Int} (hk : (gth s.th n).ki ≠ 9) :
    toldS s n (gth s.th n).ki r 0 p = ((s.setTh n (rgT (pcT (gth s.th n) c) r 0)).addLg (tlE s n (gth s.th n).ki r 0)).setTh n (pcT (rgT (gth s.th n) r 0) p) := by
  unfold toldS
  rw [tell_th h hn]
  unfold St.onTh
  have e : gth (s.th.set n (tellT (gth s.th n) (gth s.th n).ki r 0)) n = tellT (gth s.th n) (gth s.th n).ki r 0 := by rw [gth_set hn, if_pos rfl]
  have e2 : tellT (gth s.th n) (gth s.th n).ki r 0 = rgT (gth s.th n) r 0 := by unfold tellT; rw [if_neg hk]; rfl
  show St.mk _ _ _ _ _ _ _ _ _ _ _ _ ((s.th.set n _).set n (pcT (gth (s.th.set n _) n) p)) _ = St.mk _ _ _ _ _ _ _ _ _ _ _ _ ((s.th.set n _).set n _) _
  rw [e, e2, List.set_set, List.set_set]
  rfl
theorem len_set {l : List Th} {n : Nat} {t u : Th} : (l.set n t).length = ((l.set n t).set n u).length := by simp
theorem len1 {l : List Th} {n : Nat} {t : Th} : l.length = (l.set n t).length := by simp
theorem Sp.ki (h : Sp s n m o) : (gth s.th n).ki ≠ 9 := fun e => by have := h.sd; rw [e] at this; exact absurd this (by decide)
theorem Sp.tb (h : Sp s n m o) : thB (gth s.th n) = true := gth_ok h.ck h.hn
theorem Sp.tr (h : Sp s n m o) : In64 ((gth s.th n).tr + 1) ∧ In64 (gth s.th n).re ∧ max (gth s.th n).tr 0 = (gth s.th n).tr := by
  have := h.tb
  generalize gth s.th n = t at this
  obtain ⟨st, ki, va, un, pc, re, se, tr, la, rs, go⟩ := t
  rw [thB_iff] at this
  simp only [In64]
  omega
theorem Sp.few (h : Sp s n m o) : s.sn.length ≤ 999999 ∧ s.fl.length ≤ 999999 ∧ s.el.length ≤ 999999 ∧ s.sl.length ≤ 1000 := by
  obtain ⟨a, b, c, d, -, -⟩ := full_lines h.ck
  have h2 := ok_len (stn_iff.1 a).1
  have h4 := ok_len (stn_iff.1 c).1
  have h5 := ok_len (stn_iff.1 d).1
  have h6 := (ok_iff.1 (word_ok h.ck).2.1).1
  omega
theorem bne_of {a b : Int} (h : a ≠ b) : (a == b) = false := by simp [h]
theorem first_lp (h : Sp s n m o) (hc : (gth s.th n).pc = 1) (hL : Nxt (firstS s n) n m (o + 1) x S) : LoopP Tryz.prog (loopOf Tryz.prog 142 0) (hdS s n m o s.th.length) x S := by
  have hR := h.rn hc
  unfold firstS at hL
  split at hL
  · next hp => exact lp_first hR (by simp [hp]) (hL.to rfl len1)
  · next hp =>
    split at hL
    · next hl => exact lp_firstL hR (bne_of hp) hl (hL.to (told_is h.ck h.hn h.ki) len_set)
    · next hl => exact lp_firstT hR (bne_of hp) (by simpa using hl) h.tr.1 (hL.to (by unfold St.onTh; rw [try_on h.tb hc]) len1)
theorem look_lp (h : Sp s n m o) (hc : (gth s.th n).pc = 2) (hL : Nxt (lookS s n) n m (o + 1) x S) : LoopP Tryz.prog (loopOf Tryz.prog 142 0) (hdS s n m o s.th.length) x S := by
  have hR := h.rn hc
  unfold lookS at hL
  split at hL
  · next hs => exact lp_lookR hR hs (hL.to rfl len1)
  · next h1 =>
    split at hL
    · next hs =>
      unfold fullS at hL
      split at hL
      · next hp => exact lp_lookN hR hs (by simp [hp]) (hL.to (told_is h.ck h.hn h.ki) len_set)
      · next hp =>
        split at hL
        · next hq => exact lp_lookO hR hs (bne_of hp) (by simp [hq]) (hL.to rfl len1)
        · next hq =>
          split at hL
          · next hk => exact lp_lookB hR hs (bne_of hp) (bne_of hq) (by rw [hk]; rfl) (hL.to (told_is h.ck h.hn h.ki) len_set)
          · next hk =>
            have ho : opOnce (gth s.th n).ki = false := by
              have := h.sd
              generalize (gth s.th n).ki = k at this hk
              have h3 : k = 1 ∨ k = 3 := by rcases side_is k with h | h | h | h <;> omega
              rcases h3 with rfl | rfl <;> rfl
            split at hL
            · next hl => exact lp_lookL hR hs (bne_of hp) (bne_of hq) ho hl (hL.to (told_is h.ck h.hn h.ki) len_set)
            · next hl =>
              have hl' : (gth s.th n).la = false := by simpa using hl
              split at hL
              · next hw => exact lp_lookP hR hs (bne_of hp) (bne_of hq) ho hl' (by rw [h.tr.2.2]; exact hw) (hL.to rfl len1)
              · next hw => exact lp_lookT hR hs (bne_of hp) (bne_of hq) ho hl' (by rw [h.tr.2.2]) (bne_of hw) h.tr.1 (hL.to (by unfold St.onTh; rw [try_on h.tb hc]) len1)
    · next h2 => exact lp_lookE hR rfl (bne_of h1) (bne_of h2) (hL.to (told_is h.ck h.hn h.ki) len_set)
theorem write_lp (h : Sp s n m o) (hc : (gth s.th n).pc = 3) (hL : Nxt (sendN s n) n m (o + 1) x S) : LoopP Tryz.prog (loopOf Tryz.prog 142 0) (hdS s n m o s.th.length) x S := by
  have hR := h.rn hc
  rw [sendN_3 hc] at hL
  split at hL
  · next hw => exact lp_write hR h.few.2.2.2 h.tr.2.1 hw (hL.to rfl len1)
  · next hw => exact lp_writeE hR h.few.2.2.2 h.tr.2.1 (by simp [hw]) (hL.to rfl rfl)
theorem again_lp (h : Sp s n m o) (hc : (gth s.th n).pc = 7) (hL : Nxt (sendN s n) n m (o + 1) x S) : LoopP Tryz.prog (loopOf Tryz.prog 142 0) (hdS s n m o s.th.length) x S := by
  have hR := h.rn hc
  rw [sendN_7 hc] at hL
  by_cases hs : seesS s = 2
  · cases hl : (gth s.th n).la
    · rw [if_pos ⟨hs, hl⟩] at hL
      exact lp_againY hR hs (by rw [hl]; rfl) (hL.to rfl len1)
    · rw [if_neg (by rw [hl]; simp)] at hL
      exact lp_againL hR hs (by rw [hl]; rfl) (hL.to rfl len1)
  · rw [if_neg (fun e => hs e.1)] at hL
    exact lp_againN hR rfl (bne_of hs) (hL.to rfl len1)
theorem commit_lp (h : Sp s n m o) (hc : (gth s.th n).pc = 8) (hL : Nxt (commitS s n) n m (o + 1) x S) : LoopP Tryz.prog (loopOf Tryz.prog 142 0) (hdS s n m o s.th.length) x S := by
  have hR := h.rn hc
  unfold commitS at hL
  split at hL
  · next hl => exact lp_commitL hR hl (hL.to rfl len1)
  · next hl =>
    have hl' : (gth s.th n).la = false := by simpa using hl
    split at hL
    · next hb => exact lp_commitW hR hl' h.few.2.1 hb (hL.to (by unfold cmL; rw [if_pos hb]; rfl) len1)
    · next hb => exact lp_commitN hR hl' h.few.2.1 (by simpa using hb) (hL.to rfl len1)
/-- What the word becomes, may be. -/
theorem acc_ok (h : Sp s n m o) (hs : seesS s = 1) : stB (s.toWord s.hd (s.tl + 1) s.md) = true ∧ (s.toWord s.hd (s.tl + 1) s.md).ok := by
  have h2 := ac_check (word_ok h.ck).1
  rw [(ac_y hs).1] at h2
  have h3 := check_iff.1 h2
  exact ⟨word_stB h.ck h2, ⟨h.ok.cf, h.ok.hd, (show In64 (s.tl + 1) by constructor <;> omega), h.ok.md, h.ok.fe, h.ok.ee, h.ok.nw, h.ok.sl, h.ok.sn, h.ok.rc, h.ok.fl, h.ok.el, h.ok.th, h.ok.lg⟩⟩
theorem ev_ok (h : Sp s n m o) {p : Int} (hb : evwB s.hd s.tl s.md s.sl.length p = true) : stB (s.toWord (s.hd + 1) s.tl s.md) = true ∧ (s.toWord (s.hd + 1) s.tl s.md).ok := by
  have h2 := ev_check (x := p) (word_ok h.ck).1
  rw [show evH s.hd s.tl s.md s.sl.length p = s.hd + 1 by unfold evH; rw [if_pos hb]] at h2
  have h3 := check_iff.1 h2
  exact ⟨word_stB h.ck h2, ⟨h.ok.cf, (show In64 (s.hd + 1) by constructor <;> omega), h.ok.tl, h.ok.md, h.ok.fe, h.ok.ee, h.ok.nw, h.ok.sl, h.ok.sn, h.ok.rc, h.ok.fl, h.ok.el, h.ok.th, h.ok.lg⟩⟩
theorem accept_lp (h : Sp s n m o) (hc : (gth s.th n).pc = 4) (hL : Nxt (acceptS s n) n m (o + 1) x S) : LoopP Tryz.prog (loopOf Tryz.prog 142 0) (hdS s n m o s.th.length) x S := by
  have hR := h.rn hc
  unfold acceptS at hL
  split at hL
  · next hs =>
    obtain ⟨h1, h2⟩ := acc_ok h hs
    refine lp_acceptR hR hs (ac_y hs).1 (has_of h1 h.hn) h2 (fit_of h1 (by have := h.lg; show s.lg.length ≤ 1000000; omega)) (hL.to ?_ len_set)
    exact told_is (c := 4) h1 h.hn h.ki |>.trans (by show St.mk _ _ _ _ _ _ _ _ _ _ _ _ ((s.th.set n _).set n _) _ = St.mk _ _ _ _ _ _ _ _ _ _ _ _ ((s.th.set n _).set n _) _; rfl)
  · next h1 =>
    split at hL
    · next hs => exact lp_acceptF hR hs (hL.to rfl len1)
    · next h2 => exact lp_acceptE hR rfl (bne_of h1) (bne_of h2) (hL.to (told_is h.ck h.hn h.ki) len_set)
theorem evict_lp (h : Sp s n m o) (hc : (gth s.th n).pc = 10) (hL : Nxt (evictS s n) n m (o + 1) x S) : LoopP Tryz.prog (loopOf Tryz.prog 142 0) (hdS s n m o s.th.length) x S := by
  have hR := h.rn hc
  unfold evictS at hL
  split at hL
  · next hb =>
    obtain ⟨h1, h2⟩ := ev_ok h hb
    have hv : valV (s.toWord (s.hd + 1) s.tl s.md) (gth s.th n).re = valV s (gth s.th n).re := by
      unfold valV; rw [h1, h.ck]; rfl
    refine lp_evictY hR h.tr.2.1 hb (by unfold evH; rw [if_pos hb]) hv (has_of h1 h.hn) h2 (fit_of h1 (by have := h.lg; show s.lg.length ≤ 1000000; omega)) (hL.to ?_ len1)
    unfold toldS
    rw [tell_th h1 h.hn]
    unfold St.onTh
    show St.mk _ _ _ _ _ _ _ _ _ _ _ _ ((s.th.set n (gth s.th n)).set n (pcT (gth (s.th.set n (gth s.th n)) n) 11)) _ = St.mk _ _ _ _ _ _ _ _ _ _ _ _ (s.th.set n _) _
    rw [List.set_set, gth_set h.hn, if_pos rfl]
    rfl
  · next hb => exact lp_evictN hR h.tr.2.1 (by simpa using hb) (hL.to rfl len1)
theorem empty_ok (h : Sp s n m o) : stB (s.toEmpty (ntE s.ee s.el) (ntL 1 s.ee s.el)) = true ∧ (s.toEmpty (ntE s.ee s.el) (ntL 1 s.ee s.el)).ok := by
  obtain ⟨-, -, -, d, -, e⟩ := full_lines h.ck
  have h1 : okE (ntE s.ee s.el) (ntL 1 s.ee s.el) = true := by simp only [ntE, ntL, e, if_true]; exact okE_nx e (ok_drop (okE_ln e) 1)
  have h2 : stnB s.cf.th (ntL 1 s.ee s.el) = true := by simp only [ntL, e, if_true]; exact stn_sub d (ok_drop (okE_ln e) 1) (fun x hx => List.mem_of_mem_drop hx)
  have h3 := (okE_iff.1 h1).1
  have hb := h.ok.el
  refine ⟨empty_stB h.ck h1 h2, ⟨h.ok.cf, h.ok.hd, h.ok.tl, h.ok.md, h.ok.fe, (show In64 (ntE s.ee s.el) by constructor <;> omega), h.ok.nw, h.ok.sl, h.ok.sn, h.ok.rc, h.ok.fl, ?_, h.ok.th, h.ok.lg⟩⟩
  show (∀ x ∈ ntL 1 s.ee s.el, In64 x) ∧ (ntL 1 s.ee s.el).length ≤ maxLen
  simp only [ntL, e, if_true]
  exact ⟨fun x hx => hb.1 x (List.mem_of_mem_drop hx), by rw [List.length_drop]; omega⟩
theorem wake_one {t : Th} (h : t.st = 1) : wakeT t = t := by unfold wakeT; rw [if_neg (by omega)]
theorem notify_lp (h : Sp s n m o) (hc : (gth s.th n).pc = 6) (hL : Nxt (notifyS s n) n m (o + 1) x S) : LoopP Tryz.prog (loopOf Tryz.prog 142 0) (hdS s n m o s.th.length) x S := by
  have hR := h.rn hc
  obtain ⟨h1, h2⟩ := empty_ok h
  unfold notifyS at hL
  split at hL
  · next hb =>
    obtain ⟨-, -, -, d, -, e⟩ := full_lines h.ck
    have hth := th_len h.ck
    have hq : ∃ q : Nat, hdI (ntT 1 s.ee s.el) = q ∧ q < s.th.length := by
      have hb' := hb
      simp only [ntT, e, if_true] at hb' ⊢
      cases hl : s.el with
      | nil => rw [hl] at hb'; cases hb'
      | cons y r =>
        have hy : y ∈ s.el := by rw [hl]; exact List.mem_cons_self
        have h3 := (stn_iff.1 d).2 y hy
        have h4 := (okl_iff.1 (stn_iff.1 d).1).1 y hy
        exact ⟨y.toNat, by show y = _; omega, by omega⟩
    obtain ⟨q, hq, hql⟩ := hq
    have h9 : stB ((s.toEmpty (ntE s.ee s.el) (ntL 1 s.ee s.el)).onTh n (pcT · 9)) = true := onTh_stB h1 (pcT_ok h.tb (by have := h.st; omega) (by decide))
    have e6 : gth s.th n = pcT (gth s.th n) 6 := by conv => lhs; rw [show gth s.th n = pcT (gth s.th n) (gth s.th n).pc from rfl, hc]
    have hA : hasB ((s.toEmpty (ntE s.ee s.el) (ntL 1 s.ee s.el)).onTh n (pcT · 9)) q = true := has_of h9 (by show q < (s.th.set n _).length; rw [List.length_set]; exact hql)
    have hg : gth (s.th.set q (wakeT (gth s.th q))) n = pcT (gth s.th n) 6 := by
      rw [gth_set hql]
      split
      · next e => subst e; rw [wake_one h.st]; exact e6
      · exact e6
    refine lp_notifyW hR h.few.2.2.1 hb hq (has_of h1 hql) h2 (fit_of h1 (by have := h.lg; show s.lg.length ≤ 1000000; omega)) hg (hL.to ?_ len1)
    rw [hq]
    unfold wakeS
    rw [if_pos hA]
    unfold St.onTh
    show St.mk _ _ _ _ _ _ _ _ _ _ _ _ ((s.th.set n (pcT (gth s.th n) 9)).set (q : Int).toNat (wakeT (gth (s.th.set n (pcT (gth s.th n) 9)) (q : Int).toNat))) _ = St.mk _ _ _ _ _ _ _ _ _ _ _ _ ((s.th.set q (wakeT (gth s.th q))).set n (pcT (gth s.th n) 9)) _
    congr 1
    rw [Int.toNat_natCast, gth_set h.hn]
    by_cases hqn : n = q
    · subst hqn
      rw [if_pos rfl, List.set_set, List.set_set, wake_one (show (pcT (gth s.th n) 9).st = 1 from h.st)]
    · rw [if_neg hqn, List.set_comm _ _ hqn]
  · next hb => exact lp_notifyN hR h.few.2.2.1 (by simpa using hb) (hL.to rfl len1)
/-- A step. -/
theorem step_lp (h : Sp s n m o) (hL : Nxt (sendN s n) n m (o + 1) x S) : LoopP Tryz.prog (loopOf Tryz.prog 142 0) (hdS s n m o s.th.length) x S := by
  obtain p | p | p | p | p | p | p | p | p | p | p | p := pc_or h.tb
  · rw [sendN_0 p] at hL; exact lp_enter (h.rn p) h.few.1 (hL.to rfl len1)
  · rw [sendN_1 p] at hL; exact first_lp h p hL
  · rw [sendN_2 p] at hL; exact look_lp h p hL
  · exact write_lp h p hL
  · rw [sendN_4 p] at hL; exact accept_lp h p hL
  · rw [sendN_5 p] at hL
    obtain ⟨-, -, -, -, e, -⟩ := full_lines h.ck
    exact lp_prep (h.rn p) (by unfold prE; rw [if_pos e]) (hL.to rfl len1)
  · rw [sendN_6 p] at hL; exact notify_lp h p hL
  · exact again_lp h p hL
  · rw [sendN_8 p] at hL; exact commit_lp h p hL
  · rw [sendN_9 p] at hL; exact lp_leave (h.rn p) h.few.1 (hL.to rfl len1)
  · rw [sendN_10 p] at hL; exact evict_lp h p hL
  · rw [sendN_11 p] at hL; exact lp_release (h.rn p) h.few.2.2.2 h.tr.2.1 (hL.to rfl len1)
end
end Go.Proofs.YtfhjllchbgclaaaGreat

/- Values stay those of an int, step by step; a log grows by one at most. -/
namespace Go.Proofs.YtfhjllchbgclaaaGreat
set_option linter.unusedVariables false
set_option linter.unusedSimpArgs false
open Go.RowKit
/-- The values that a state's parts hold are those of an int. -/
structure Vk (s : St) : Prop where
  cf : s.cf.ok
  sl : ∀ x ∈ s.sl, In64 x.vl
  th : ∀ t ∈ s.th, In64 t.va ∧ In64 t.go
theorem Vk.of {s : St} (h : s.ok) : Vk s := ⟨h.cf, fun x hx => (h.sl.1 x hx).2, fun t ht => ⟨(h.th.1 t ht).2.2.1, (h.th.1 t ht).2.2.2.2.2.2.2.2.2⟩⟩
theorem ln_in {m : Int} {l : List Int} (h : stnB m l = true) : (∀ x ∈ l, In64 x) ∧ l.length ≤ maxLen := by
  have h1 := (stn_iff.1 h).1
  refine ⟨fun x hx => ?_, by have := ok_len h1; simp only [maxLen]; omega⟩
  have := (okl_iff.1 h1).1 x hx
  constructor <;> omega
theorem ok_of {s : St} (h : stB s = true) (hv : Vk s) (hl : s.lg.length ≤ 1000000) : s.ok := by
  obtain ⟨h1, h2, h3, h4, h5, h6, h7, h8⟩ := st_iff.1 h
  obtain ⟨a, b, c, d⟩ := lns_iff.1 h3
  have hw := check_iff.1 (word_ok h).1
  have hsl := ok_iff.1 (word_ok h).2.1
  have e4 := (okE_iff.1 h4).1
  have e5 := (okE_iff.1 h5).1
  have hth := th_len h
  refine ⟨hv.cf, by constructor <;> omega, by constructor <;> omega, by constructor <;> omega, by constructor <;> omega, by constructor <;> omega, by constructor <;> omega, ⟨fun x hx => ⟨?_, hv.sl x hx⟩, by simp only [maxLen]; omega⟩, ln_in a, ln_in b, ln_in c, ln_in d, ⟨fun t ht => ?_, by simp only [maxLen]; omega⟩, by simp only [maxLen]; omega⟩
  · obtain ⟨i, hi, rfl⟩ := List.getElem_of_mem hx
    have := slot_iff.1 (hsl.2 i hi)
    rw [gs_eq hi] at this
    constructor <;> omega
  · have hvt := hv.th t ht
    obtain ⟨i, hi, rfl⟩ := List.getElem_of_mem ht
    have := gth_ok h hi
    rw [gth_eq hi] at this
    generalize s.th[i] = t at this hvt
    obtain ⟨st, ki, va, un, pc, re, se, tr, la, rs, go⟩ := t
    rw [thB_iff] at this
    simp only [In64, Th.ok] at hvt ⊢
    omega
section
variable {s : St} {n : Nat}
theorem Vk.set (h : Vk s) {t : Th} (ht : In64 t.va ∧ In64 t.go) : Vk (s.setTh n t) := ⟨h.cf, h.sl, fun u hu => by
  rcases List.mem_or_eq_of_mem_set hu with h1 | rfl
  · exact h.th u h1
  · exact ht⟩
theorem gth_mem {l : List Th} {n : Nat} (hn : n < l.length) : gth l n ∈ l := by rw [gth_eq hn]; exact List.getElem_mem hn
theorem Vk.on (h : Vk s) (hn : n < s.th.length) {f : Th → Th} (hf : ∀ t, (f t).va = t.va ∧ (f t).go = t.go) : Vk (s.onTh n f) := h.set (by have := h.th _ (gth_mem hn); rw [(hf _).1, (hf _).2]; exact this)
theorem Vk.told (h : Vk s) (hB : stB s = true) (hn : n < s.th.length) {k r g p : Int} (hg : k = 9 ∨ In64 g) : Vk (toldS s n k r g p) := by
  unfold toldS
  have h1 : Vk (tellS s n k r g) := by
    rw [tell_th hB hn]
    have := h.th _ (gth_mem hn)
    refine ⟨h.cf, h.sl, (h.set (n := n) ?_).th⟩
    unfold tellT
    split
    · exact this
    · exact ⟨this.1, by rcases hg with h | h; contradiction; exact h⟩
  exact h1.on (by rw [tell_th hB hn]; show n < (s.th.set n _).length; rw [List.length_set]; exact hn) (fun _ => ⟨rfl, rfl⟩)
theorem Vk.wake (h : Vk s) (i : Int) : Vk (wakeS s i) := by
  unfold wakeS
  split
  · next hh =>
    refine h.on (by have := has_iff.1 hh; omega) fun t => ?_
    unfold wakeT
    split <;> exact ⟨rfl, rfl⟩
  · exact h
theorem sendN_vk (h : Vk s) (hB : stB s = true) (hn : n < s.th.length) (h1 : (gth s.th n).st ≠ 0) : Vk (sendN s n) := by
  have i0 : In64 0 := by constructor <;> omega
  obtain p | p | p | p | p | p | p | p | p | p | p | p := pc_or (gth_ok hB hn)
  · rw [sendN_0 p]; exact Vk.on (s := s.toSn (entL s.sn n)) (f := (pcT · 1)) ⟨h.cf, h.sl, h.th⟩ hn fun _ => ⟨rfl, rfl⟩
  · rw [sendN_1 p]
    unfold firstS
    repeat' split
    · exact h.on hn fun _ => ⟨rfl, rfl⟩
    · exact h.told hB hn (.inr i0)
    · exact h.on hn fun _ => ⟨rfl, rfl⟩
  · rw [sendN_2 p]
    unfold lookS fullS
    repeat' split
    · exact h.on hn fun _ => ⟨rfl, rfl⟩
    · exact h.told hB hn (.inr i0)
    · exact h.on hn fun _ => ⟨rfl, rfl⟩
    · exact h.told hB hn (.inr i0)
    · exact h.told hB hn (.inr i0)
    · exact h.on hn fun _ => ⟨rfl, rfl⟩
    · exact h.on hn fun _ => ⟨rfl, rfl⟩
    · exact h.told hB hn (.inr i0)
  · rw [sendN_3 p]
    split
    · refine Vk.on (s := s.toSl (wrL s.sl (gth s.th n).re (gth s.th n).va)) (f := (pcT · 4)) ⟨h.cf, fun x hx => ?_, h.th⟩ hn fun _ => ⟨rfl, rfl⟩
      have hx' : x ∈ wrL s.sl (gth s.th n).re (gth s.th n).va := hx
      unfold wrL at hx'
      split at hx'
      · rcases List.mem_or_eq_of_mem_set hx' with h2 | rfl
        · exact h.sl x h2
        · exact (h.th _ (gth_mem hn)).1
      · exact h.sl x hx'
    · exact h
  · rw [sendN_4 p]
    unfold acceptS
    repeat' split
    · next hs =>
      have h2 := ac_check (word_ok hB).1
      rw [(ac_y hs).1] at h2
      exact Vk.told (s := s.toWord s.hd (s.tl + 1) s.md) ⟨h.cf, h.sl, h.th⟩ (word_stB hB h2) hn (.inr i0)
    · exact h.on hn fun _ => ⟨rfl, rfl⟩
    · exact h.told hB hn (.inr i0)
  · rw [sendN_5 p]; exact h.on hn fun _ => ⟨rfl, rfl⟩
  · rw [sendN_6 p]
    have h2 : Vk ((s.toEmpty (ntE s.ee s.el) (ntL 1 s.ee s.el)).onTh n (pcT · 9)) := Vk.on (s := s.toEmpty (ntE s.ee s.el) (ntL 1 s.ee s.el)) (f := (pcT · 9)) ⟨h.cf, h.sl, h.th⟩ hn fun _ => ⟨rfl, rfl⟩
    unfold notifyS
    split
    · exact h2.wake _
    · exact h2
  · rw [sendN_7 p]
    split
    · exact h.on hn fun _ => ⟨rfl, rfl⟩
    · exact h.on hn fun _ => ⟨rfl, rfl⟩
  · rw [sendN_8 p]
    unfold commitS
    repeat' split
    · exact h.on hn fun _ => ⟨rfl, rfl⟩
    · exact Vk.on (s := s.toFull s.fe (s.fl ++ [(n : Int)])) (f := (parkT · 2)) ⟨h.cf, h.sl, h.th⟩ hn fun _ => ⟨rfl, rfl⟩
    · exact h.on hn fun _ => ⟨rfl, rfl⟩
  · rw [sendN_9 p]; exact Vk.on (s := s.toSn (lvL s.sn n)) (f := doneT) ⟨h.cf, h.sl, h.th⟩ hn fun _ => ⟨rfl, rfl⟩
  · rw [sendN_10 p]
    unfold evictS
    split
    · next hb =>
      have h2 := ev_check (x := (gth s.th n).re) (word_ok hB).1
      rw [show evH s.hd s.tl s.md s.sl.length (gth s.th n).re = s.hd + 1 by unfold evH; rw [if_pos hb]] at h2
      exact Vk.told (s := s.toWord (s.hd + 1) s.tl s.md) ⟨h.cf, h.sl, h.th⟩ (word_stB hB h2) hn (.inl rfl)
    · exact h.on hn fun _ => ⟨rfl, rfl⟩
  · rw [sendN_11 p]
    refine Vk.on (s := s.toSl (rlL s.sl (gth s.th n).re)) (f := (pcT · 2)) ⟨h.cf, fun x hx => ?_, h.th⟩ hn fun _ => ⟨rfl, rfl⟩
    have hx' : x ∈ rlL s.sl (gth s.th n).re := hx
    unfold rlL at hx'
    split at hx'
    · next hb =>
      rcases List.mem_or_eq_of_mem_set hx' with h2 | rfl
      · exact h.sl x h2
      · simp only [rlB, rdyB, Bool.and_eq_true] at hb
        have hp := (plc_lt hb.1.1).1
        show In64 (gs s.sl (plc s.sl (gth s.th n).re)).vl
        rw [gs_eq hp]
        exact h.sl _ (List.getElem_mem hp)
    · exact h.sl x hx'
theorem told_lg (hB : stB s = true) (hn : n < s.th.length) {k r g p : Int} : (toldS s n k r g p).lg.length = s.lg.length + 1 := by
  unfold toldS
  rw [tell_th hB hn]
  show (s.lg ++ [_]).length = _
  simp
theorem sendN_lg (hB : stB s = true) (hn : n < s.th.length) : (sendN s n).lg.length ≤ s.lg.length + 1 := by
  have e : ∀ f, (s.onTh n f).lg = s.lg := fun _ => rfl
  obtain p | p | p | p | p | p | p | p | p | p | p | p := pc_or (gth_ok hB hn)
  · rw [sendN_0 p]; exact Nat.le_succ _
  · rw [sendN_1 p]
    unfold firstS
    repeat' split
    · exact Nat.le_succ _
    · rw [told_lg hB hn]; exact Nat.le_refl _
    · exact Nat.le_succ _
  · rw [sendN_2 p]
    unfold lookS fullS
    repeat' split
    all_goals first | exact Nat.le_succ _ | (rw [told_lg hB hn]; exact Nat.le_refl _)
  · rw [sendN_3 p]
    split <;> exact Nat.le_succ _
  · rw [sendN_4 p]
    unfold acceptS
    repeat' split
    · next hs =>
      have h2 := ac_check (word_ok hB).1
      rw [(ac_y hs).1] at h2
      rw [told_lg (s := s.toWord s.hd (s.tl + 1) s.md) (word_stB hB h2) hn]; exact Nat.le_refl _
    · exact Nat.le_succ _
    · rw [told_lg hB hn]; exact Nat.le_refl _
  · rw [sendN_5 p]; exact Nat.le_succ _
  · rw [sendN_6 p]
    unfold notifyS wakeS
    repeat' split
    all_goals exact Nat.le_succ _
  · rw [sendN_7 p]
    split <;> exact Nat.le_succ _
  · rw [sendN_8 p]
    unfold commitS
    repeat' split
    all_goals exact Nat.le_succ _
  · rw [sendN_9 p]; exact Nat.le_succ _
  · rw [sendN_10 p]
    unfold evictS
    split
    · next hb =>
      have h2 := ev_check (x := (gth s.th n).re) (word_ok hB).1
      rw [show evH s.hd s.tl s.md s.sl.length (gth s.th n).re = s.hd + 1 by unfold evH; rw [if_pos hb]] at h2
      rw [told_lg (s := s.toWord (s.hd + 1) s.tl s.md) (word_stB hB h2) hn]; exact Nat.le_refl _
    · exact Nat.le_succ _
  · rw [sendN_11 p]; exact Nat.le_succ _
end
end Go.Proofs.YtfhjllchbgclaaaGreat

/- The program's Steps: as many steps as there are, told by plain states. -/
namespace Go.Proofs.YtfhjllchbgclaaaGreat
set_option linter.unusedVariables false
set_option linter.unusedSimpArgs false
open Go.RowKit
section
variable {s : St} {i m o : Int}
set_option maxRecDepth 100000 in
theorem le_many (h : decide (o < min m 1000) = false) : LoopP Tryz.prog (loopOf Tryz.prog 142 0) (hdS s i m o s.th.length) (.exit 0) (hdS s i m o s.th.length) := loop_end mixed (fuel := 9) (n := 9) (im := [0, 1, 2]) (keep := [2, 6, 8, 9]) (ext := [22, 125, 93]) (orc := [.bool false]) (an h trivial) (by intro e; cases e) (by kernel_rfl)
set_option maxRecDepth 100000 in
theorem le_check (h : decide (o < min m 1000) = true) (hB : stB s = false) (ho : s.ok) : LoopP Tryz.prog (loopOf Tryz.prog 142 0) (hdS s i m o s.th.length) (.exit 0) (hdS s i m o s.th.length) := loop_end mixed (fuel := 9) (n := 9) (im := [0, 1, 2]) (keep := [2, 6, 8, 9]) (ext := [22, 125, 93]) (orc := [.bool true, vD false]) (an h <| an (len_map (f := thT) s.th) <| an (ac_pcheck hB ho) trivial) (by intro e; cases e) (by kernel_rfl)
set_option maxRecDepth 100000 in
theorem le_low (h : decide (o < min m 1000) = true) (hB : stB s = true) (ho : s.ok) (hi : decide (i < 0) = true) : LoopP Tryz.prog (loopOf Tryz.prog 142 0) (hdS s i m o s.th.length) (.exit 0) (hdS s i m o s.th.length) := loop_end mixed (fuel := 9) (n := 9) (im := [0, 1, 2]) (keep := [2, 6, 8, 9]) (ext := [22, 125, 93]) (orc := [.bool true, vD true, .bool true]) (an h <| an (len_map (f := thT) s.th) <| an (ac_pcheck hB ho) <| an hi trivial) (by intro e; cases e) (by kernel_rfl)
set_option maxRecDepth 100000 in
theorem le_high (h : decide (o < min m 1000) = true) (hB : stB s = true) (ho : s.ok) (hi : decide (i < 0) = false) (hj : decide ((s.th.length : Int) ≤ i) = true) : LoopP Tryz.prog (loopOf Tryz.prog 142 0) (hdS s i m o s.th.length) (.exit 0) (hdS s i m o s.th.length) := loop_end mixed (fuel := 9) (n := 9) (im := [0, 1, 2]) (keep := [2, 6, 8, 9]) (ext := [22, 125, 93]) (orc := [.bool true, vD true, .bool false, .bool true]) (an h <| an (len_map (f := thT) s.th) <| an (ac_pcheck hB ho) <| an hi <| an hj trivial) (by intro e; cases e) (by kernel_rfl)
variable {n : Nat}
set_option maxRecDepth 100000 in
theorem le_runs (h : decide (o < min m 1000) = true) (hB : stB s = true) (ho : s.ok) (hn : n < s.th.length) (hr : (thRuns (gth s.th n).st == 0) = false) : LoopP Tryz.prog (loopOf Tryz.prog 142 0) (hdS s n m o s.th.length) (.exit 0) (hdS s n m o s.th.length) := loop_end mixed (fuel := 9) (n := 9) (im := [0, 1, 2]) (keep := [2, 6, 8, 9]) (ext := [22, 125, 93]) (orc := [.bool true, vD true, .bool false, .bool false, thT (gth s.th n), .int .i64 (thRuns (gth s.th n).st), .bool false])
  (an h <| an (len_map (f := thT) s.th) <| an (ac_pcheck hB ho) <| an (show decide ((n : Int) < 0) = false by simp) <| an (show decide ((s.th.length : Int) ≤ n) = false by simp; omega) <| an (idT hn) <| an (elT hn) <| an (ac_pruns (t := gth s.th n) rfl) <| an hr trivial) (by intro e; cases e) (by kernel_rfl)
set_option maxRecDepth 100000 in
theorem le_side (h : decide (o < min m 1000) = true) (hB : stB s = true) (ho : s.ok) (hn : n < s.th.length) (hr : thRuns (gth s.th n).st = 0) (hs : (opSide (gth s.th n).ki == 1) = false) : LoopP Tryz.prog (loopOf Tryz.prog 142 0) (hdS s n m o s.th.length) (.exit 0) (hdS s n m o s.th.length) := loop_end mixed (fuel := 9) (n := 9) (im := [0, 1, 2]) (keep := [2, 6, 8, 9]) (ext := [22, 125, 93]) (orc := [.bool true, vD true, .bool false, .bool false, thT (gth s.th n), .int .i64 0, .nilFunc, thT (gth s.th n), .int .i64 (opSide (gth s.th n).ki), .bool false])
  (an h <| an (len_map (f := thT) s.th) <| an (ac_pcheck hB ho) <| an (show decide ((n : Int) < 0) = false by simp) <| an (show decide ((s.th.length : Int) ≤ n) = false by simp; omega) <| an (idT hn) <| an (elT hn) <| an (ac_pruns (t := gth s.th n) hr) <| an (idT hn) <| an (elT hn) <| an (ac_pside (gth s.th n).ki) <| an hs trivial) (by intro e; cases e) (by kernel_rfl)
/-- Who does not send, makes no step. -/
theorem le_not (ho : s.ok) (hr : runsB s i 1 = false) : LoopP Tryz.prog (loopOf Tryz.prog 142 0) (hdS s i m o s.th.length) (.exit 0) (hdS s i m o s.th.length) := by
  cases h : decide (o < min m 1000)
  · exact le_many h
  · cases hB : stB s
    · exact le_check h hB ho
    · by_cases h0 : i < 0
      · exact le_low h hB ho (by simp [h0])
      · by_cases h1 : (s.th.length : Int) ≤ i
        · exact le_high h hB ho (by simp; omega) (by simp [h1])
        · obtain ⟨n, rfl⟩ : ∃ n : Nat, i = n := ⟨i.toNat, by omega⟩
          have hn : n < s.th.length := by omega
          have hr' : ¬ ((gth s.th n).st = 1 ∧ opSide (gth s.th n).ki = 1) := fun e => by
            have : runsB s n 1 = true := runs_iff.2 ⟨has_of hB hn, by simpa using e⟩
            rw [hr] at this; cases this
          by_cases hs : thRuns (gth s.th n).st = 0
          · refine le_side h hB ho hn hs (bne_of fun e => hr' ⟨?_, e⟩)
            have h2 := runs_not hs
            have h3 := gth_ok hB hn
            generalize gth s.th n = t at h2 h3
            obtain ⟨st, ki, va, un, pc, re, se, tr, la, rs, go⟩ := t
            rw [thB_iff] at h3
            simp only at h2 ⊢
            omega
          · exact le_runs h hB ho hn (bne_of hs)
theorem sendS_is {s : St} {n : Nat} (h : runsB s n 1 = true) : sendS s n = sendN s n := by unfold sendS; rw [if_pos h]; rfl
/-- The whole loop. -/
theorem steps_lp (k : Nat) : ∀ {s : St} {o : Int}, Vk s → 0 ≤ o → (min m 1000 - o).toNat = k → s.lg.length + k ≤ 900000 → s.ok → LoopP Tryz.prog (loopOf Tryz.prog 142 0) (hdS s i m o s.th.length) (.exit 0) (hdS (sendK s i k).1 i m (o + (sendK s i k).2) (sendK s i k).1.th.length) := by
  induction k with
  | zero =>
    intro s o _ _ hk _ _
    simp only [sendK]
    rw [show o + ((0 : Nat) : Int) = o by omega]
    exact le_many (by simp; omega)
  | succ k ih =>
    intro s o hv h0 hk hl ho
    cases hr : runsB s i 1
    · have : sendK s i (k + 1) = (s, 0) := by simp [sendK, hr]
      rw [this]
      show LoopP Tryz.prog (loopOf Tryz.prog 142 0) (hdS s i m o s.th.length) (.exit 0) (hdS s i m (o + ((0 : Nat) : Int)) s.th.length)
      rw [show o + ((0 : Nat) : Int) = o by omega]
      exact le_not ho hr
    · obtain ⟨h1, h2, h3⟩ := runs_iff.1 hr
      obtain ⟨hB, hi0, hi1⟩ := has_iff.1 h1
      obtain ⟨n, rfl⟩ : ∃ n : Nat, i = n := ⟨i.toNat, by omega⟩
      have hn : n < s.th.length := by omega
      rw [Int.toNat_natCast] at h2 h3
      have hs1 : (gth s.th n).st ≠ 0 := by omega
      have e : sendK s n (k + 1) = ((sendK (sendN s n) n k).1, (sendK (sendN s n) n k).2 + 1) := by simp only [sendK, hr, if_true, sendS_is hr]
      rw [e]
      have hB' := sendN_stB hB hn hs1
      have hv' := sendN_vk hv hB hn hs1
      have hl' := sendN_lg hB hn
      refine step_lp (s := s) (n := n) ⟨by simp; omega, hB, ho, hn, h2, h3, by omega, by constructor <;> omega⟩ fun N hN => ?_
      have := ih (s := sendN s n) (o := o + 1) hv' (by omega) (by omega) (by omega) (ok_of hB' hv' (by omega))
      rw [hN]
      rw [show o + (((sendK (sendN s n) n k).2 + 1 : Nat) : Int) = o + 1 + ((sendK (sendN s n) n k).2 : Int) by omega]
      exact this
end
theorem neg_no (s : St) : hasB s (-1) = false := by simp [hasB]
set_option maxRecDepth 100000 in
theorem ac_psteps0 {s u : St} {i m o : Int} (hL : LoopP Tryz.prog (loopOf Tryz.prog 142 0) (hdS s i m 0 s.th.length) (.exit 0) (hdS u i m o u.th.length)) (ho : s.ok) (hf : s.fit) (ht : s.th ≠ []) : AC Tryz.prog 142 [stT s, .int .i64 i, .int .i64 m] (.tuple #[stT u, .int .i64 o]) :=
  ac_path mixed (ext := [53]) (fuel := 9) (n := 5) (orc := [.iface 1000004 (.func (.yield 18) #[.agg (stL s), .int .i64 11] #[]), oL [5, 4, 1] [2, 6, 8, 9] 0 [(2, .int .i64 m), (6, pt 2), (8, pt 0), (9, .int .i64 o)] [bX u i u.th.length, bT u.th u.th.length, bZ]])
    (an (ao_keep (neg_no s) ho hf ht) <| an hL <| an (len_map (f := thT) u.th) trivial) (by kernel_rfl)
/-- Some steps. -/
theorem ac_psteps {s : St} {i m : Int} (ho : s.ok) (hf : s.fit) (ht : s.th ≠ []) (hl : s.lg.length ≤ 800000) : AC Tryz.prog 142 [stT s, .int .i64 i, .int .i64 m] (.tuple #[stT (sendK s i (min m 1000).toNat).1, .int .i64 (sendK s i (min m 1000).toNat).2]) := by
  have h := steps_lp (i := i) (m := m) (min m 1000 - 0).toNat (s := s) (o := 0) (.of ho) (Int.le_refl _) rfl (by omega) ho
  rw [show min m 1000 - 0 = min m 1000 by omega, Int.zero_add] at h
  exact ac_psteps0 h ho hf ht
end Go.Proofs.YtfhjllchbgclaaaGreat

/- Contracts told by abstract values: the document's slots: Check, Ready, Read, by the engine (in place of walks of XSlotH). -/
namespace Go.Proofs.YtfhjllchbgclaaaGreat
set_option linter.unusedVariables false
set_option linter.unusedSimpArgs false
open Go.RowKit
section
variable {l : List Slo}
end
end Go.Proofs.YtfhjllchbgclaaaGreat

/- Contracts told by abstract values: what a step of the document's calls. -/
namespace Go.Proofs.YtfhjllchbgclaaaGreat
set_option linter.unusedVariables false
set_option linter.unusedSimpArgs false
open Go.RowKit
/-! ### Lists -/
theorem app_is {α : Type} {f : α → Value} {l m r : List α} (h : r = l ++ m) (hm : l.length + m.length ≤ 1048576) : AppP r.length (r.map f) l.length (l.map f) m.length (m.map f) := ⟨by rw [h]; simp, by rw [h]; simp, hm⟩
theorem lenIs (l : List Int) : l.length = (l.map (Value.int .i64 ·)).length := by simp
end Go.Proofs.YtfhjllchbgclaaaGreat

/- Contracts of layer 2's functions over lists, and the document's room. -/
namespace Go.Proofs.YtfhjllchbgclaaaGreat
set_option linter.unusedVariables false
set_option linter.unusedSimpArgs false
open Go.ChangeShapes Go.WideShapes Go.ChangeAt Go.RowKit

def Cf.may (c : Cf) : Bool := mayB c.lg c.th c.po c.wt c.sp c.yi
def Cf.room (c : Cf) : Int := roomI c.lg c.th c.po c.wt c.sp c.yi
def p2 (k : Nat) : Int := if k = 0 then 1 else pw k
end Go.Proofs.YtfhjllchbgclaaaGreat

/- Layer 12: whether a thread may be: the document's. -/
namespace Go.Proofs.YtfhjllchbgclaaaGreat
set_option linter.unusedVariables false
set_option linter.unusedSimpArgs false
open Go.ChangeShapes Go.WideShapes Go.ChangeAt Go.RowKit
end Go.Proofs.YtfhjllchbgclaaaGreat

/- Contracts told by abstract values: the document's Check of a state, by the engine (in place of the walk of XFabQ). -/
namespace Go.Proofs.YtfhjllchbgclaaaGreat
set_option linter.unusedVariables false
set_option linter.unusedSimpArgs false
open Go.RowKit
/-! ### Lines -/
section
variable {l : List Int} {m : Int}
end
/-! ### Threads -/
section
variable {s : St} {R : Int}
end
section
variable {s : St} {R : Int} (hR : cfR s.cf = R)
include hR
variable (h0 : (R == 0) = false)
include h0
variable (h1 : ((s.sl.length : Int) != R) = false)
include h1
variable (h2 : ((s.th.length : Int) != s.cf.th) = false)
include h2
variable (h3 : decide (s.nw < 0) = false)
include h3
variable (h4 : decide (1099511627776 < s.nw) = false) (hm : s.th.length ≤ 1000000)
include h4 hm
end
end Go.Proofs.YtfhjllchbgclaaaGreat

/- Contracts told by abstract values: the document's slots, Is, Tell, Wake, Value, Runs. -/
namespace Go.Proofs.YtfhjllchbgclaaaGreat
set_option linter.unusedVariables false
set_option linter.unusedSimpArgs false
open Go.RowKit
/-! ### States -/
end Go.Proofs.YtfhjllchbgclaaaGreat

/- Layer 14, plain: what some steps of who sends are, and what they change. -/
namespace Go.Proofs.YtfhjllchbgclaaaGreat
set_option linter.unusedVariables false
set_option linter.unusedSimpArgs false
/-! ### What threads share -/
/-- The word, the slots, Sends, Recvs, Full, Empty. -/
def shr (s : St) : (Int × Int × Int) × List Slo × List Int × List Int × (Int × List Int) × (Int × List Int) := ((s.hd, s.tl, s.md), s.sl, s.sn, s.rc, (s.fe, s.fl), (s.ee, s.el))
theorem shr_on (s : St) (n : Nat) (f : Th → Th) : shr (s.onTh n f) = shr s := rfl
theorem shr_tell (s : St) (i k r g : Int) : shr (tellS s i k r g) = shr s := by unfold tellS; split <;> rfl
theorem shr_told (s : St) (n : Nat) (k r g p : Int) : shr (toldS s n k r g p) = shr s := by unfold toldS; rw [shr_on, shr_tell]
theorem shr_wake (s : St) (i : Int) : shr (wakeS s i) = shr s := by unfold wakeS; split <;> rfl
/-! ### What becomes of the other threads -/
/-- Of two lists of threads, all but one are as they were, but for one who is woken. -/
structure Oth (l m : List Th) (i : Int) : Prop where
  len : m.length = l.length
  one : ∃ w : Nat, ∀ j : Nat, j < l.length → (j : Int) ≠ i → gth m j = gth l j ∨ (j = w ∧ (gth l j).st = 2 ∧ gth m j = wakeT (gth l j))
theorem Oth.refl (l : List Th) (i : Int) : Oth l l i := ⟨rfl, 0, fun _ _ _ => .inl rfl⟩
theorem Oth.set {l : List Th} {n : Nat} (t : Th) : Oth l (l.set n t) n := ⟨by simp, 0, fun j hj hne => .inl (by
  by_cases hn : n < l.length
  · rw [gth_set hn, if_neg (by omega)]
  · rw [List.set_eq_of_length_le (by omega)])⟩
theorem Oth.wake {l : List Th} {n w : Nat} (t : Th) (hw : w < l.length) : Oth l ((l.set n t).set w (wakeT (gth (l.set n t) w))) n := ⟨by simp, w, fun j hj hne => by
  have e1 : gth (l.set n t) j = gth l j := by
    by_cases hn : n < l.length
    · rw [gth_set hn, if_neg (by omega)]
    · rw [List.set_eq_of_length_le (by omega)]
  rw [gth_set (by simpa using hw)]
  split
  · next e =>
    subst e
    rw [e1]
    by_cases h2 : (gth l w).st = 2
    · exact .inr ⟨rfl, h2, rfl⟩
    · left; unfold wakeT; rw [if_neg h2]
  · exact .inl e1⟩
theorem th_tell (s : St) (n : Nat) (k r g : Int) : ∃ t, (tellS s n k r g).th = s.th.set n t := by
  unfold tellS; split
  · exact ⟨_, by simp [St.setTh, St.addLg]; rfl⟩
  · exact ⟨gth s.th n, gth_set_self.symm⟩
theorem th_told (s : St) (n : Nat) (k r g p : Int) : ∃ t, (toldS s n k r g p).th = s.th.set n t := by
  obtain ⟨t, ht⟩ := th_tell s n k r g
  exact ⟨pcT (gth (tellS s n k r g).th n) p, by show (tellS s n k r g).th.set n _ = _; rw [ht, List.set_set]⟩
/-! ### What is told, and what stays -/
/-- What is told is told behind all that was, at most once. -/
def LgOk (a b : List En) : Prop := b = a ∨ ∃ x, b = a ++ [x]
theorem lg_tell (s : St) (i k r g : Int) : LgOk s.lg (tellS s i k r g).lg := by
  unfold tellS; split
  · exact .inr ⟨_, rfl⟩
  · exact .inl rfl
theorem lg_told (s : St) (n : Nat) (k r g p : Int) : LgOk s.lg (toldS s n k r g p).lg := lg_tell s n k r g
theorem cf_tell (s : St) (i k r g : Int) : (tellS s i k r g).cf = s.cf ∧ (tellS s i k r g).nw = s.nw := by unfold tellS; split <;> exact ⟨rfl, rfl⟩
end Go.Proofs.YtfhjllchbgclaaaGreat

/- Layer 14, plain: what a step of who sends tells is what the queue may be told of. -/
namespace Go.Proofs.YtfhjllchbgclaaaGreat
set_option linter.unusedVariables false
set_option linter.unusedSimpArgs false
theorem lg_is {s : St} (h : stB s = true) {n : Nat} (hn : n < s.th.length) (k r g p : Int) : (toldS s n k r g p).lg = s.lg ++ [⟨n, k, (gth s.th n).va, r, g⟩] := by
  show (tellS s n k r g).lg = _; rw [tell_th h hn]; rfl
end Go.Proofs.YtfhjllchbgclaaaGreat

/- Layer 16: a step of who closes, as a plain function; what may be stays so; what it changes; what it tells. -/
namespace Go.Proofs.YtfhjllchbgclaaaGreat
set_option linter.unusedVariables false
set_option linter.unusedSimpArgs false
def modeI (k : Int) : Int := if k = 7 then 1 else if k = 8 then 2 else 0
/-- Some are woken, in order. -/
def wakesS : List Int → St → St
  | [], s => s
  | i :: l, s => wakesS l (wakeS s i)
def shutC (s : St) (n : Nat) : St := toldS (s.toWord s.hd s.tl (clM s.md (modeI (gth s.th n).ki))) n (gth s.th n).ki 1 0 1
def fullC (s : St) (n : Nat) : St := wakesS (ntT s.fl.length s.fe s.fl) ((s.toFull (ntE s.fe s.fl) (ntL s.fl.length s.fe s.fl)).onTh n (pcT · 2))
def emptyC (s : St) (n : Nat) : St := wakesS (ntT s.el.length s.ee s.el) ((s.toEmpty (ntE s.ee s.el) (ntL s.el.length s.ee s.el)).onTh n doneT)
/-- A step of thread n, which closes. -/
def closeN (s : St) (n : Nat) : St := if (gth s.th n).pc = 0 then shutC s n else if (gth s.th n).pc = 1 then fullC s n else emptyC s n
def closeS (s : St) (i : Int) : St := if runsB s i 3 = true then closeN s i.toNat else s
/-- Some steps of who closes, and how many there were. -/
def closeK (s : St) (i : Int) : Nat → St × Nat
  | 0 => (s, 0)
  | k + 1 => if runsB s i 3 = true then ((closeK (closeS s i) i k).1, (closeK (closeS s i) i k).2 + 1) else (s, 0)
theorem closeN_ind {P : St → Prop} {s : St} {n : Nat} (h0 : P (shutC s n)) (h1 : P (fullC s n)) (h2 : P (emptyC s n)) : P (closeN s n) := by
  unfold closeN; split
  · exact h0
  · split
    · exact h1
    · exact h2

/-! ### Who are woken -/
theorem wake_wake (t : Th) : wakeT (wakeT t) = wakeT t := by unfold wakeT; split <;> simp_all
theorem shr_wakes : ∀ (l : List Int) (s : St), shr (wakesS l s) = shr s
  | [], s => rfl
  | i :: l, s => by show shr (wakesS l (wakeS s i)) = _; rw [shr_wakes l, shr_wake]
theorem wake_rest (s : St) (i : Int) : (wakeS s i).lg = s.lg ∧ (wakeS s i).cf = s.cf ∧ (wakeS s i).nw = s.nw ∧ (wakeS s i).th.length = s.th.length := by
  unfold wakeS; split
  · exact ⟨rfl, rfl, rfl, by simp [St.onTh, St.setTh]⟩
  · exact ⟨rfl, rfl, rfl, rfl⟩
theorem wakes_rest : ∀ (l : List Int) (s : St), (wakesS l s).lg = s.lg ∧ (wakesS l s).cf = s.cf ∧ (wakesS l s).nw = s.nw ∧ (wakesS l s).th.length = s.th.length
  | [], s => ⟨rfl, rfl, rfl, rfl⟩
  | i :: l, s => by
    obtain ⟨a, b, c, d⟩ := wakes_rest l (wakeS s i)
    obtain ⟨a', b', c', d'⟩ := wake_rest s i
    exact ⟨a.trans a', b.trans b', c.trans c', d.trans d'⟩
theorem wakes_stB : ∀ (l : List Int) {s : St}, stB s = true → stB (wakesS l s) = true
  | [], _, h => h
  | i :: l, _, h => wakes_stB l (wake_stB h i)
theorem wake_th {s : St} (h : stB s = true) (i : Int) {j : Nat} (hj : j < s.th.length) : gth (wakeS s i).th j = if (j : Int) = i then wakeT (gth s.th j) else gth s.th j := by
  unfold wakeS
  split
  · next hh =>
    have hi := has_iff.1 hh
    show gth (s.th.set i.toNat (wakeT (gth s.th i.toNat))) j = _
    rw [gth_set (by omega)]
    by_cases e : i.toNat = j
    · rw [if_pos e, if_pos (by omega), e]
    · rw [if_neg e, if_neg (by omega)]
  · next hh =>
    rw [if_neg]
    rintro rfl
    exact hh (has_of h hj)
theorem wakes_th : ∀ (l : List Int) {s : St}, stB s = true → ∀ {j : Nat}, j < s.th.length → gth (wakesS l s).th j = if (j : Int) ∈ l then wakeT (gth s.th j) else gth s.th j
  | [], s, h, j, hj => by simp [wakesS]
  | i :: l, s, h, j, hj => by
    show gth (wakesS l (wakeS s i)).th j = _
    rw [wakes_th l (wake_stB h i) (by rw [(wake_rest s i).2.2.2]; exact hj), wake_th h i hj]
    by_cases e : (j : Int) = i
    · subst e
      simp [wake_wake]
    · simp [e]

/-! ### What may be stays so -/
theorem mode_is (k : Int) : modeI k = 0 ∨ modeI k = 1 ∨ modeI k = 2 := by unfold modeI; (repeat' split) <;> simp
theorem clM_bd {m d : Int} (h : 0 ≤ m ∧ m ≤ 2) : 0 ≤ clM m d ∧ clM m d ≤ 2 := by unfold clM; split <;> omega
theorem shut_word {s : St} (h : stB s = true) (d : Int) : stB (s.toWord s.hd s.tl (clM s.md d)) = true := by
  have c := check_iff.1 (word_ok h).1
  have := clM_bd (m := s.md) (d := d) (by omega)
  exact word_stB h (check_iff.2 (by omega))
theorem nt_all {ep : Int} {l : List Int} (h : okE ep l = true) : ntE ep l = nxE ep ∧ ntL l.length ep l = [] ∧ ntT l.length ep l = l := by simp [ntE, ntL, ntT, h]
theorem nil_stn (m : Int) : stnB m [] = true := rfl
theorem full_off {s : St} (h : stB s = true) : stB (s.toFull (ntE s.fe s.fl) (ntL s.fl.length s.fe s.fl)) = true := by
  obtain ⟨-, -, -, -, e, -⟩ := full_lines h
  obtain ⟨e1, e2, -⟩ := nt_all e
  rw [e1, e2]
  exact full_stB h (okE_nx e rfl) (nil_stn _)
theorem empty_off {s : St} (h : stB s = true) : stB (s.toEmpty (ntE s.ee s.el) (ntL s.el.length s.ee s.el)) = true := by
  obtain ⟨-, -, -, -, -, e⟩ := full_lines h
  obtain ⟨e1, e2, -⟩ := nt_all e
  rw [e1, e2]
  exact empty_stB h (okE_nx e rfl) (nil_stn _)
theorem full_on {s : St} (h : stB s = true) {n : Nat} (hn : n < s.th.length) (h1 : (gth s.th n).st ≠ 0) : stB ((s.toFull (ntE s.fe s.fl) (ntL s.fl.length s.fe s.fl)).onTh n (pcT · 2)) = true :=
  onTh_stB (full_off h) (pcT_ok (gth_ok h hn) h1 (by decide))
theorem empty_on {s : St} (h : stB s = true) {n : Nat} (hn : n < s.th.length) (h1 : (gth s.th n).st ≠ 0) : stB ((s.toEmpty (ntE s.ee s.el) (ntL s.el.length s.ee s.el)).onTh n doneT) = true :=
  onTh_stB (empty_off h) (doneT_ok (gth_ok h hn) h1)
theorem closeN_stB {s : St} (h : stB s = true) {n : Nat} (hn : n < s.th.length) (h1 : (gth s.th n).st ≠ 0) : stB (closeN s n) = true :=
  closeN_ind (P := fun u => stB u = true) (told_stB (shut_word h _) hn h1 (by decide) (by decide)) (wakes_stB _ (full_on h hn h1)) (wakes_stB _ (empty_on h hn h1))
/-! ### Some steps -/
theorem closeK_off {s : St} {i : Int} (h : runsB s i 3 = false) (k : Nat) : closeK s i k = (s, 0) := by
  cases k with
  | zero => rfl
  | succ k => simp [closeK, h]
theorem closeK_on {s : St} {i : Int} (h : runsB s i 3 = true) (k : Nat) : closeK s i (k + 1) = ((closeK (closeS s i) i k).1, (closeK (closeS s i) i k).2 + 1) := by simp [closeK, h]
/-! ### What changes -/
/-- Of two lists of threads, all but one are as they were, but for those who are woken. -/
structure OthM (l m : List Th) (i : Int) : Prop where
  len : m.length = l.length
  one : ∀ j : Nat, j < l.length → (j : Int) ≠ i → gth m j = gth l j ∨ ((gth l j).st = 2 ∧ gth m j = wakeT (gth l j))
theorem OthM.refl (l : List Th) (i : Int) : OthM l l i := ⟨rfl, fun _ _ _ => .inl rfl⟩
theorem OthM.set {l : List Th} {n : Nat} (t : Th) : OthM l (l.set n t) n := ⟨by simp, fun j hj hne => .inl (by
  by_cases hn : n < l.length
  · rw [gth_set hn, if_neg (by omega)]
  · rw [List.set_eq_of_length_le (by omega)])⟩
theorem OthM.wakes {l : List Th} {i : Int} {s : St} (h : OthM l s.th i) (hs : stB s = true) (k : List Int) : OthM l (wakesS k s).th i := ⟨(wakes_rest k s).2.2.2.trans h.len, fun j hj hne => by
  rw [wakes_th k hs (by rw [h.len]; exact hj)]
  have key : ∀ t : Th, wakeT t = t ∨ (t.st = 2 ∧ wakeT t = wakeT t) := fun t => by
    by_cases h2 : t.st = 2
    · exact .inr ⟨h2, rfl⟩
    · left; unfold wakeT; rw [if_neg h2]
  split
  · rcases h.one j hj hne with e | ⟨e1, e2⟩
    · rw [e]; exact key _
    · rw [e2, wake_wake]; exact .inr ⟨e1, rfl⟩
  · exact h.one j hj hne⟩
theorem closeN_oth {s : St} (h : stB s = true) {n : Nat} (hn : n < s.th.length) (h1 : (gth s.th n).st ≠ 0) : OthM s.th (closeN s n).th n := by
  refine closeN_ind (P := fun u => OthM s.th u.th n) ?_ ?_ ?_
  · unfold shutC
    obtain ⟨t, ht⟩ := th_told (s.toWord s.hd s.tl (clM s.md (modeI (gth s.th n).ki))) n (gth s.th n).ki 1 0 1
    rw [ht]; exact OthM.set t
  · exact OthM.wakes (s := (s.toFull (ntE s.fe s.fl) (ntL s.fl.length s.fe s.fl)).onTh n (pcT · 2)) (OthM.set _) (full_on h hn h1) _
  · exact OthM.wakes (s := (s.toEmpty (ntE s.ee s.el) (ntL s.el.length s.ee s.el)).onTh n doneT) (OthM.set _) (empty_on h hn h1) _
theorem closeN_lgOk {s : St} {n : Nat} : LgOk s.lg (closeN s n).lg ∧ (closeN s n).cf = s.cf ∧ (closeN s n).nw = s.nw := by
  refine closeN_ind (P := fun u => LgOk s.lg u.lg ∧ u.cf = s.cf ∧ u.nw = s.nw) ?_ ?_ ?_
  · unfold shutC
    exact ⟨lg_told _ n _ _ _ _, cf_tell _ n _ _ _⟩
  · unfold fullC
    obtain ⟨a, b, c, -⟩ := wakes_rest (ntT s.fl.length s.fe s.fl) ((s.toFull (ntE s.fe s.fl) (ntL s.fl.length s.fe s.fl)).onTh n (pcT · 2))
    exact ⟨.inl a, b, c⟩
  · unfold emptyC
    obtain ⟨a, b, c, -⟩ := wakes_rest (ntT s.el.length s.ee s.el) ((s.toEmpty (ntE s.ee s.el) (ntL s.el.length s.ee s.el)).onTh n doneT)
    exact ⟨.inl a, b, c⟩
/-! ### What is told -/
end Go.Proofs.YtfhjllchbgclaaaGreat

/- Layer 16, by the engine: modes, the word closed, both; how far it is to a notice; all who wait are told. -/
namespace Go.Proofs.YtfhjllchbgclaaaGreat
set_option linter.unusedVariables false
set_option linter.unusedSimpArgs false
open Go.RowKit
section
variable {k h t m d : Int}
set_option maxRecDepth 100000 in
theorem ac_pmode (k : Int) : AC Tryz.prog 218 [.int .i64 k] (.int .i64 (modeI k)) := by
  by_cases h7 : k = 7
  · subst h7; exact ac_path mixed (ext := []) (fuel := 9) (n := 3) (orc := [.nilFunc]) trivial (by kernel_rfl)
  · by_cases h8 : k = 8
    · subst h8; exact ac_path mixed (ext := []) (fuel := 9) (n := 3) (orc := [.nilFunc, .nilFunc]) trivial (by kernel_rfl)
    · rw [show modeI k = 0 by simp [modeI, h7, h8]]
      exact ac_path mixed (ext := []) (fuel := 9) (n := 3) (orc := [.bool false, .bool false]) (an (show (k == 7) = false by simp [h7]) <| an (show (k == 8) = false by simp [h8]) trivial) (by kernel_rfl)
theorem cl_of (h : m < d) (hd : d = 1 ∨ d = 2) : clM m d = d := by unfold clM; rw [if_pos ⟨hd, h⟩]
theorem cl_no (h : ¬ m < d) : clM m d = m := by unfold clM; rw [if_neg (fun e => h e.2)]
set_option maxRecDepth 100000 in
theorem ac_pclose (hd : d = 0 ∨ d = 1 ∨ d = 2) : AC Tryz.prog 217 [wdT h t m, .int .i64 d] (wdT h t (clM m d)) := by
  rcases hd with rfl | rfl | rfl
  · rw [show clM m 0 = m by simp [clM]]
    exact ac_path mixed (ext := []) (fuel := 9) (n := 3) (orc := [.nilFunc, .nilFunc]) trivial (by kernel_rfl)
  · by_cases hm : m < 1
    · rw [cl_of hm (.inl rfl)]
      exact ac_path mixed (ext := []) (fuel := 9) (n := 3) (orc := [.nilFunc, .bool false]) (an (show decide ((1 : Int) ≤ m) = false by simp; omega) trivial) (by kernel_rfl)
    · rw [cl_no hm]
      exact ac_path mixed (ext := []) (fuel := 9) (n := 3) (orc := [.nilFunc, .bool true]) (an (show decide ((1 : Int) ≤ m) = true by simp; omega) trivial) (by kernel_rfl)
  · by_cases hm : m < 2
    · rw [cl_of hm (.inr rfl)]
      exact ac_path mixed (ext := []) (fuel := 9) (n := 3) (orc := [.nilFunc, .nilFunc, .bool false]) (an (show decide ((2 : Int) ≤ m) = false by simp; omega) trivial) (by kernel_rfl)
    · rw [cl_no hm]
      exact ac_path mixed (ext := []) (fuel := 9) (n := 3) (orc := [.nilFunc, .nilFunc, .bool true]) (an (show decide ((2 : Int) ≤ m) = true by simp; omega) trivial) (by kernel_rfl)
end
end Go.Proofs.YtfhjllchbgclaaaGreat
